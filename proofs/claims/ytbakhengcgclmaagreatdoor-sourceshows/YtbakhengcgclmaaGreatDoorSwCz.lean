/-
  Writing: small pieces: commas, tabs, what has a type.
-/
import Derived.Test.YtbakhengcgclmaaGreatDoorSwAz
import Derived.Test.YtbakhengcgclmaaGreatDoorRegz
import Derived.MapKept
import Derived.Laws.Rows
import Derived.Test.YtbakhengcgclmaaGreatDoorShelf
import Derived.Lib.AppendIntMem
import Derived.Lib.ItoaMem
import Derived.Laws.IdiomStrings
namespace Go.Proofs.YtbakhengcgclmaaGreatDoor
open Go.RowKit
set_option linter.unusedSimpArgs false
set_option linter.unusedVariables false

set_option maxRecDepth 100000 in
theorem wcomma_any (B b n : Nat) (mv : Value) (t : List UInt8) (i : Nat) (w : World) (h : Wz w B b mv n t) (hlen : t.length + 2 ≤ 1099511627776) (hBw : B ≤ w.heap.size) : Calls Tryz.prog 29 #[.pointer (some ⟨b, 0, none⟩), .int .i64 (i : Int)] w fun e w' => e = .returned (.tuple #[]) ∧ Wz w' B b mv n (t ++ if i = 0 then [] else [44, 32]) ∧ Wd B b w w' := by
  by_cases hi : i = 0
  · subst hi
    rw [if_pos rfl, List.append_nil]
    have H := hideI h
    clear h
    go_enter Tryz.func29, Tryz.ntmps29
    go_wp2_with fail
    go_end0
    exact ⟨rfl, unhideI H, Wd.refl _ _ _⟩
  · rw [if_neg hi]
    have hI : (0 : Int) < (i : Int) := by omega
    have hN : 0 < i := by omega
    have WS := hideI (zstr_any B b n mv t ⟨#[44, 32]⟩ w h (show t.length + 2 ≤ _ from hlen) hBw)
    have hlt := h.lt
    clear h
    go_enter Tryz.func29, Tryz.ntmps29
    go_wp2_with fail
    refine (unhideI WS).mono ?_
    rintro e w1 ⟨⟨v, rfl⟩, z1, k1⟩
    have Z1 := hideI z1
    have K1 := hideI k1
    clear WS z1 k1
    go_wp2_with fail
    go_end0
    exact ⟨rfl, unhideI Z1, unhideI K1⟩
set_option maxRecDepth 100000 in
set_option maxHeartbeats 1000000 in
theorem wtabs_any (B b n : Nat) (mv : Value) (t : List UInt8) (w : World) (h : Wz w B b mv n t) (hlen : t.length + n ≤ 1099511627776) (hBw : B ≤ w.heap.size) : Calls Tryz.prog 49 #[.pointer (some ⟨b, 0, none⟩)] w fun e w' => e = .returned (.tuple #[]) ∧ Wz w' B b mv n (t ++ List.replicate n 9) ∧ Wd B b w w' := by
  obtain ⟨c2, c3⟩ := h.cells
  have hlt := h.lt
  have H := hideI h
  clear h
  go_enter Tryz.func49, Tryz.ntmps49
  go_wp2_with fail
  go_loopg [6] n (fun g x wr => ∃ (i : Nat), i ≤ n ∧ g = n - i ∧ x = .int .i64 (i : Int) ∧ Hid (Wz wr B b mv n (t ++ List.replicate i 9)) ∧ Hid (Wd B b w wr))
  case atStart => exact ⟨0, Nat.zero_le _, rfl, rfl, by simpa using H, Wd.refl _ _ _⟩
  case round =>
    obtain ⟨i, hi, hg, rfl, HZ, HD⟩ := hrel
    generalize wr = W0 at *
    clear c2 c3
    have hsz := (unhideI HD).wf.size
    by_cases hlt2 : i < n
    · have hiI : (i : Int) < (n : Int) := by omega
      have hltW := (unhideI HZ).lt
      have WB := hideI (zbyte_any B b n mv (t ++ List.replicate i 9) 9 W0 (unhideI HZ) (by simp; omega) (by omega))
      go_wp2_with fail
      refine (unhideI WB).mono ?_
      rintro e w1 ⟨⟨v, rfl⟩, z1, k1⟩
      have Z1 := hideI z1
      have K1 := hideI ((unhideI HD).trans k1)
      clear WB z1 k1
      go_wp2_with fail
      go_roundg (n - (i + 1))
      case measure => omega
      case rel =>
        refine ⟨i + 1, by omega, rfl, by go_num, ?_, K1⟩
        have z := unhideI Z1
        rw [List.append_assoc, ← List.replicate_succ'] at z
        exact z
    · have hiI : ¬ (i : Int) < (n : Int) := by omega
      have HE := hideI (show i = n by omega)
      go_wp2_with fail
      go_end0
      have z := unhideI HZ
      rw [unhideI HE] at z
      exact ⟨rfl, z, unhideI HD⟩
theorem tname_any (b : Int) (s : Bool) (w : World) : Calls Tryz.prog 44 #[.agg #[.int .i64 b, .bool s]] w fun e w' => e = .returned (.string (tyN b s)) ∧ Below w.heap.size w w' := by
  unfold tyN
  cases h : isWB b
  · simp only [Bool.false_eq_true, if_false]
    exact name_no b s w (noW_of h)
  · simp only [if_true]
    exact name_yes b s w (isW_of h)
theorem tyN_len (b : Int) (s : Bool) : (tyN b s).size ≤ 10 := by
  unfold tyN
  cases h : isWB b
  · simp only [Bool.false_eq_true, if_false]
    split <;> decide
  · simp only [if_true]
    rcases isW_of h with rfl | rfl | rfl | rfl <;> cases s <;> decide
theorem cat_list (a b : ByteArray) : (a ++ b).data.toList = a.data.toList ++ b.data.toList := by simp
set_option maxRecDepth 100000 in
set_option maxHeartbeats 1000000 in
theorem wtyped_any (B b n : Nat) (mv : Value) (t : List UInt8) (yb : Int) (ys : Bool) (nm : ByteArray) (w : World) (h : Wz w B b mv n t) (hlen : t.length + nm.size + 11 ≤ 1099511627776) (hBw : B ≤ w.heap.size) : Calls Tryz.prog 24 #[.pointer (some ⟨b, 0, none⟩), .agg #[.int .i64 yb, .bool ys], .string nm] w fun e w' => e = .returned (.tuple #[]) ∧ Wz w' B b mv n (t ++ ((tyN yb ys).data.toList ++ [32] ++ nm.data.toList)) ∧ Wd B b w w' := by
  have ka := below_a w (.cells #[.int .i64 yb, .bool ys] 40)
  have hlt := h.lt
  have NA := hideI (fun W => tname_any yb ys W)
  have hyl := tyN_len yb ys
  have H := hideI (h.step ka)
  have KA := hideI (show Wd B b w (w.alloc (.cells #[.int .i64 yb, .bool ys] 40)) from Wd.of ka hBw)
  have BX := (BoxT.new w #[.int .i64 yb, .bool ys] 40 (by decide))
  clear h ka
  generalize tyN yb ys = ty at *
  go_enter Tryz.func24, Tryz.ntmps24
  go_wp2_with fail
  have hsz : (w.alloc (.cells #[.int .i64 yb, .bool ys] 40)).heap.size = w.heap.size + 1 := by simp
  have HS := hideI hsz
  clear hsz
  generalize w.alloc (.cells #[.int .i64 yb, .bool ys] 40) = w1 at *
  refine reg_start (fun W => W.cell? ⟨w.heap.size, 0, none⟩ = some (.int .i64 yb) ∧ W.cell? ⟨w.heap.size, 1, none⟩ = some (.bool ys)) (by kernel_rfl) ?_
  have HBX := hideI (show BoxT w1.drew w.heap.size #[.int .i64 yb, .bool ys] 40 from BX)
  have H1 := hideI ((unhideI H).step (Below.drew (Below.refl _ _)))
  have K1 := hideI ((unhideI KA).drew)
  have hs1 : w1.drew.heap.size = w.heap.size + 1 := unhideI HS
  clear BX H KA HS
  generalize w1.drew = w2 at *
  have CC := fun W (q : BoxT W w.heap.size #[.int .i64 yb, .bool ys] 40) => q.box.at2
  refine reg_seg 0 4 5 (by kernel_rfl) (by decide) (by kernel_rfl) (by kernel_rfl) (fun _ _ _ _ _ h => h) ?_
  simp only [List.take_succ_cons, List.take_zero, List.drop_succ_cons, List.drop_zero]
  repeat (refine wpSteady_step (fun K hK => ?_); go_simp; first | (refine steady_of ?_ (fun W hW => ?_) (hK _ ?_); rotate_left; (obtain ⟨y0, y1⟩ := hW; go_simp; first | done | rfl); clear hK K) | (refine hK _ ?_; clear hK K))
  refine wpSteady_nil ?_
  refine reg_seg 6 1 4 (by kernel_rfl) (by decide) (by kernel_rfl) (by kernel_rfl) (fun _ _ _ _ _ h => h) ?_
  simp only [List.take_succ_cons, List.take_zero, List.drop_succ_cons, List.drop_zero]
  repeat (refine wpSteady_step (fun K hK => ?_); go_simp; first | (refine steady_of ?_ (fun W hW => ?_) (hK _ ?_); rotate_left; (obtain ⟨y0, y1⟩ := hW; go_simp; first | done | rfl); clear hK K) | (refine hK _ ?_; clear hK K))
  refine wpSteady_nil ?_
  refine reg_one 4 3 (by kernel_rfl) (by kernel_rfl) (CC _ (unhideI HBX)) ?_
  simp only [List.take_succ_cons, List.take_zero, List.drop_succ_cons, List.drop_zero]
  go_wp2_with fail
  refine (unhideI NA _).mono ?_
  rintro e w3 ⟨rfl, k3⟩
  have H3 := hideI ((unhideI H1).step k3)
  have K3 := hideI ((unhideI K1).trans (Wd.of k3 (by omega)))
  have HB3 := hideI ((unhideI HBX).step k3)
  have hs3 : w.heap.size < w3.heap.size := (unhideI HB3).lt
  have WS := hideI (zstr_any B b n mv t ((ty ++ ⟨#[32]⟩) ++ nm) w3 (unhideI H3) (by rw [ByteArray.size_append, ByteArray.size_append]; have : (⟨#[32]⟩ : ByteArray).size = 1 := rfl; omega) (by omega))
  have hz1 : ¬ 9223372036854775807 < ty.size + 1 := by omega
  have hz3 : ¬ 9223372036854775807 < ty.size + 1 + nm.size := by omega
  have hz2 : ¬ 9223372036854775807 < (ty ++ ⟨#[32]⟩).size + nm.size := by rw [ByteArray.size_append]; have : (⟨#[32]⟩ : ByteArray).size = 1 := rfl; omega
  clear k3 NA H1 K1 HBX H3
  go_wp2_with fail
  first | refine next_nil ?_ | refine next_go ?_
  refine reg_seg 5 1 2 (by kernel_rfl) (by decide) (by kernel_rfl) (by kernel_rfl) (fun _ _ _ _ _ h => h) ?_
  simp only [List.take_succ_cons, List.take_zero, List.drop_succ_cons, List.drop_zero]
  repeat (refine wpSteady_step (fun K hK => ?_); go_simp; first | (refine steady_of ?_ (fun W hW => ?_) (hK _ ?_); rotate_left; (obtain ⟨y0, y1⟩ := hW; go_simp; first | done | rfl); clear hK K) | (refine hK _ ?_; clear hK K))
  refine wpSteady_nil ?_
  refine reg_seg 7 1 1 (by kernel_rfl) (by decide) (by kernel_rfl) (by kernel_rfl) (fun _ _ _ _ _ h => h) ?_
  simp only [List.take_succ_cons, List.take_zero, List.drop_succ_cons, List.drop_zero]
  repeat (refine wpSteady_step (fun K hK => ?_); go_simp; first | (refine steady_of ?_ (fun W hW => ?_) (hK _ ?_); rotate_left; (obtain ⟨y0, y1⟩ := hW; go_simp; first | done | rfl); clear hK K) | (refine hK _ ?_; clear hK K))
  refine wpSteady_nil ?_
  refine reg_one 8 0 (by kernel_rfl) (by kernel_rfl) (CC _ (unhideI HB3)) ?_
  simp only [List.take_succ_cons, List.take_zero, List.drop_succ_cons, List.drop_zero]
  go_wp2_with fail
  refine (unhideI WS).mono ?_
  rintro e w4 ⟨⟨v, rfl⟩, z4, k4⟩
  have Z4 := hideI z4
  have K4 := hideI ((unhideI K3).trans k4)
  have HB4 := hideI ((unhideI HB3).wf k4.wf (by omega))
  clear WS z4 k4 K3 HB3
  go_wp2_with fail
  first | refine next_nil ?_ | refine next_go ?_
  refine reg_end (by kernel_rfl) (CC _ (unhideI HB4)) ?_
  go_wp2_with fail
  go_end0
  have z := unhideI Z4
  rw [cat_list, cat_list] at z
  exact ⟨rfl, z, unhideI K4⟩
end Go.Proofs.YtbakhengcgclmaaGreatDoor

/-
  Writing: operators by their kinds.
-/
namespace Go.Proofs.YtbakhengcgclmaaGreatDoor
open Go.RowKit
set_option linter.unusedSimpArgs false
set_option linter.unusedVariables false
open Go.ChangeMaps (setBlock)

def opR : List (List UInt8 × Int × Int) := [([124, 124], 26, 1), ([38, 38], 25, 2), ([124], 24, 3), ([94], 23, 4), ([38], 22, 5), ([61, 61], 20, 6), ([33, 61], 21, 6), ([60], 16, 7), ([60, 61], 17, 7), ([62], 18, 7), ([62, 61], 19, 7), ([60, 60], 14, 8), ([62, 62], 15, 8), ([43], 12, 9), ([45], 13, 9), ([42], 9, 10), ([47], 10, 10), ([37], 11, 10)]
def opAt (i : Nat) : List UInt8 × Int × Int := opR.getD i ([], 0, 0)
def opV (r : List UInt8 × Int × Int) : Value := .agg #[.string ⟨r.1.toArray⟩, .int .i64 r.2.1, .int .i64 r.2.2]
def opA : Array Value := (opR.flatMap fun r => [.string ⟨r.1.toArray⟩, .int .i64 r.2.1, .int .i64 r.2.2]).toArray
def opE (n : Nat) : Array MapEntry := ((opR.take n).zipIdx.map fun p => (⟨.int .i64 p.1.2.1, opV p.1, p.2⟩ : MapEntry)).toArray
theorem opA_size : opA.size = 54 := rfl
theorem op_push : ∀ i, i < 18 → opE (i + 1) = (opE i).push ⟨.int .i64 (opAt i).2.1, opV (opAt i), i⟩
  | 0, _ => by kernel_rfl
  | 1, _ => by kernel_rfl
  | 2, _ => by kernel_rfl
  | 3, _ => by kernel_rfl
  | 4, _ => by kernel_rfl
  | 5, _ => by kernel_rfl
  | 6, _ => by kernel_rfl
  | 7, _ => by kernel_rfl
  | 8, _ => by kernel_rfl
  | 9, _ => by kernel_rfl
  | 10, _ => by kernel_rfl
  | 11, _ => by kernel_rfl
  | 12, _ => by kernel_rfl
  | 13, _ => by kernel_rfl
  | 14, _ => by kernel_rfl
  | 15, _ => by kernel_rfl
  | 16, _ => by kernel_rfl
  | 17, _ => by kernel_rfl
  | n + 18, h => absurd h (by omega)
theorem op_find : ∀ i, i < 18 → Instr.findNow (.int .i64) (.int .i64 (opAt i).2.1) (opE i).toList 0 = some none
  | 0, _ => by kernel_rfl
  | 1, _ => by kernel_rfl
  | 2, _ => by kernel_rfl
  | 3, _ => by kernel_rfl
  | 4, _ => by kernel_rfl
  | 5, _ => by kernel_rfl
  | 6, _ => by kernel_rfl
  | 7, _ => by kernel_rfl
  | 8, _ => by kernel_rfl
  | 9, _ => by kernel_rfl
  | 10, _ => by kernel_rfl
  | 11, _ => by kernel_rfl
  | 12, _ => by kernel_rfl
  | 13, _ => by kernel_rfl
  | 14, _ => by kernel_rfl
  | 15, _ => by kernel_rfl
  | 16, _ => by kernel_rfl
  | 17, _ => by kernel_rfl
  | n + 18, h => absurd h (by omega)
theorem op_index : ∀ (i : Nat), i < 18 → ∀ w : World, (Instr.index 74 (.agg opA) (.int .i64 (i : Int))).run Tryz.prog w = .ok (opV (opAt i)) w
  | 0, _ => fun w => by kernel_rfl
  | 1, _ => fun w => by kernel_rfl
  | 2, _ => fun w => by kernel_rfl
  | 3, _ => fun w => by kernel_rfl
  | 4, _ => fun w => by kernel_rfl
  | 5, _ => fun w => by kernel_rfl
  | 6, _ => fun w => by kernel_rfl
  | 7, _ => fun w => by kernel_rfl
  | 8, _ => fun w => by kernel_rfl
  | 9, _ => fun w => by kernel_rfl
  | 10, _ => fun w => by kernel_rfl
  | 11, _ => fun w => by kernel_rfl
  | 12, _ => fun w => by kernel_rfl
  | 13, _ => fun w => by kernel_rfl
  | 14, _ => fun w => by kernel_rfl
  | 15, _ => fun w => by kernel_rfl
  | 16, _ => fun w => by kernel_rfl
  | 17, _ => fun w => by kernel_rfl
  | n + 18, h => absurd h (by omega)
theorem op_put (w : World) (b n : Nat) (hn : n < 18) (hb : w.heap[b]? = some (.map (opE n) n)) : (Instr.mapUpdate 31 (.map (some b)) (.int .i64 (opAt n).2.1) (opV (opAt n))).run Tryz.prog w = .ok () (setBlock w b (.map (opE (n + 1)) (n + 1))) := by
  unfold Instr.mapUpdate
  simp only [Sem.run_bind, run_underlying Tryz.underlying31, Result.andThen, Go.MapKept.run_getObj_map hb, Go.MapKept.run_checkKey Tryz.underlying3 (show Go.MapKept.IsKey (.int .i64) (.int .i64 (opAt n).2.1) from rfl), Go.MapKept.run_findKey Tryz.underlying3 (op_find n hn), Go.MapKept.run_setObj_map _ hb]
  rw [op_push n hn]
  rfl
/-- What is looked up: an operator's sign and weight, if a kind is one's. -/
def opL (k : Int) : Value × Bool := if 9 ≤ k ∧ k ≤ 26 then (.agg #[.string ⟨(opS k).toArray⟩, .int .i64 k, .int .i64 (opW k : Int)], true) else (.agg #[.string ⟨#[]⟩, .int .i64 0, .int .i64 0], false)
theorem op_some (k : Int) (h : 9 ≤ k ∧ k ≤ 26) : ∃ j, Instr.findNow (.int .i64) (.int .i64 k) (opE 18).toList 0 = some (some (j, .agg #[.string ⟨(opS k).toArray⟩, .int .i64 k, .int .i64 (opW k : Int)])) := by
  have hk : k = 9 ∨ k = 10 ∨ k = 11 ∨ k = 12 ∨ k = 13 ∨ k = 14 ∨ k = 15 ∨ k = 16 ∨ k = 17 ∨ k = 18 ∨ k = 19 ∨ k = 20 ∨ k = 21 ∨ k = 22 ∨ k = 23 ∨ k = 24 ∨ k = 25 ∨ k = 26 := by omega
  rcases hk with rfl | rfl | rfl | rfl | rfl | rfl | rfl | rfl | rfl | rfl | rfl | rfl | rfl | rfl | rfl | rfl | rfl | rfl
  · exact ⟨15, by kernel_rfl⟩
  · exact ⟨16, by kernel_rfl⟩
  · exact ⟨17, by kernel_rfl⟩
  · exact ⟨13, by kernel_rfl⟩
  · exact ⟨14, by kernel_rfl⟩
  · exact ⟨11, by kernel_rfl⟩
  · exact ⟨12, by kernel_rfl⟩
  · exact ⟨7, by kernel_rfl⟩
  · exact ⟨8, by kernel_rfl⟩
  · exact ⟨9, by kernel_rfl⟩
  · exact ⟨10, by kernel_rfl⟩
  · exact ⟨5, by kernel_rfl⟩
  · exact ⟨6, by kernel_rfl⟩
  · exact ⟨4, by kernel_rfl⟩
  · exact ⟨3, by kernel_rfl⟩
  · exact ⟨2, by kernel_rfl⟩
  · exact ⟨1, by kernel_rfl⟩
  · exact ⟨0, by kernel_rfl⟩
theorem find_no (k : Int) : ∀ (l : List (List UInt8 × Int × Int)) (i j : Nat), (∀ r ∈ l, r.2.1 ≠ k) → Instr.findNow (.int .i64) (.int .i64 k) ((l.zipIdx i).map fun p => (⟨.int .i64 p.1.2.1, opV p.1, p.2⟩ : MapEntry)) j = some none
  | [], i, j, _ => by simp [Instr.findNow]
  | r :: l, i, j, h => by
    rw [List.zipIdx_cons, List.map_cons]
    unfold Instr.findNow
    have h1 : (k == r.2.1) = false := beq_eq_false_iff_ne.2 (fun e => h r List.mem_cons_self e.symm)
    simp only [Instr.sameNow]
    have ih := find_no k l (i + 1) (j + 1) (fun x hx => h x (List.mem_cons_of_mem _ hx))
    simp [h1, ih]
theorem op_none (k : Int) (h : ¬ (9 ≤ k ∧ k ≤ 26)) : Instr.findNow (.int .i64) (.int .i64 k) (opE 18).toList 0 = some none := by
  have : (opE 18).toList = (opR.zipIdx 0).map fun p => (⟨.int .i64 p.1.2.1, opV p.1, p.2⟩ : MapEntry) := rfl
  rw [this]
  apply find_no
  intro r hr e
  have hall : ∀ r ∈ opR, 9 ≤ r.2.1 ∧ r.2.1 ≤ 26 := by decide
  have := hall r hr
  omega
theorem op_look (w : World) (b : Nat) (k : Int) (h : w.heap[b]? = some (.map (opE 18) 18)) : (Instr.lookup 31 (.map (some b)) (.int .i64 k) true).run Tryz.prog w = .ok (.tuple #[(opL k).1, .bool (opL k).2]) w := by
  unfold opL
  by_cases hk : 9 ≤ k ∧ k ≤ 26
  · obtain ⟨j, hf⟩ := op_some k hk
    rw [if_pos hk]
    unfold Instr.lookup
    simp only [Sem.run_bind, run_underlying Tryz.underlying31, Result.andThen, Go.MapKept.run_getObj_map h, Sem.run_pure, Go.MapKept.run_checkKey Tryz.underlying3 (show Go.MapKept.IsKey (.int .i64) (.int .i64 k) from rfl), Go.MapKept.run_findKey Tryz.underlying3 hf]
    rfl
  · rw [if_neg hk]
    have zr : ∀ w : World, (zeroValue 73).run Tryz.prog w = .ok (.agg #[.string ⟨#[]⟩, .int .i64 0, .int .i64 0]) w := fun w => by kernel_rfl
    unfold Instr.lookup
    simp only [Sem.run_bind, run_underlying Tryz.underlying31, Result.andThen, Go.MapKept.run_getObj_map h, Sem.run_pure, Go.MapKept.run_checkKey Tryz.underlying3 (show Go.MapKept.IsKey (.int .i64) (.int .i64 k) from rfl), Go.MapKept.run_findKey Tryz.underlying3 (op_none k hk), zr]
    rfl
end Go.Proofs.YtbakhengcgclmaaGreatDoor

/-
  Writing: operators by their kinds, walked.
-/
namespace Go.Proofs.YtbakhengcgclmaaGreatDoor
open Go.RowKit
set_option linter.unusedSimpArgs false
set_option linter.unusedVariables false
open Go.ChangeMaps (setBlock)

/-- What must lie in package variables. -/
def Gop (w : World) : Prop := ∃ t fr, w.heap[0]? = some (.cells opA t fr)
theorem Gop.step {w w' : World} (h : Gop w) (k : Below w.heap.size w w') : Gop w' := by
  obtain ⟨t, fr, h⟩ := h
  exact ⟨t, fr, (k.block _ (Array.getElem?_eq_some_iff.1 h).1).trans h⟩
theorem Tryz.sizeOps : (Tryz.prog.info? 74).map (·.size) = some 54 := by kernel_rfl
theorem kb_setBlock (w : World) (b : Nat) (o : Obj) : Kb b w (setBlock w b o) := ⟨rfl, rfl, rfl, by simp [setBlock], fun k _ hn => by simp [setBlock, Array.getElem?_setIfInBounds, Ne.symm hn]⟩
theorem at_setB (w : World) (b : Nat) (o : Obj) (h : b < w.heap.size) : (setBlock w b o).heap[b]? = some o := by simp [setBlock, Array.getElem?_setIfInBounds, h]
set_option maxRecDepth 100000 in
set_option maxHeartbeats 2000000 in
theorem byKind_any (w : World) (G : Gop w) : Calls Tryz.prog 8 #[] w fun e w' => e = .returned (.map (some w.heap.size)) ∧ w'.heap[w.heap.size]? = some (.map (opE 18) 18) ∧ Below w.heap.size w w' := by
  have hmm : ∀ w : World, (Instr.makeMap 31 (some (.int .i64 18))).run Tryz.prog w = .ok (.map (some w.heap.size)) (w.alloc (.map (opE 0) 0)) := fun w => by kernel_rfl
  have ka := below_a w (.map (opE 0) 0)
  have hm0 : (w.alloc (.map (opE 0) 0)).heap[w.heap.size]? = some (.map (opE 0) 0) := by show (w.heap.push _)[w.heap.size]? = _; simp
  have HM0 := hideI hm0
  have KA := hideI ka
  obtain ⟨gt, gf, hg⟩ := G.step ka
  have HG := hideI hg
  have hs1 : (w.alloc (.map (opE 0) 0)).heap.size = w.heap.size + 1 := by simp
  have HS := hideI hs1
  have IX := hideI op_index
  have PU := hideI op_put
  clear G ka hm0 hg hs1
  have OS := hideI opA_size
  generalize opA = A at *
  generalize HE0 : opE 0 = e0 at *
  generalize hW : w.alloc (.map e0 0) = w1 at *
  go_enter Tryz.func8, Tryz.ntmps8
  go_wp2_with (refine wpList_load_row rfl 74 (.global 0) rfl 0 rfl _ A _ _ (unhideI HG) Tryz.underlying74 rfl (by rw [unhideI OS]; exact Tryz.sizeOps) ?_)
  go_loopg [6] 18 (fun g t wr => ∃ (i : Nat), i ≤ 18 ∧ g = 18 - i ∧ t = .int .i64 (i : Int) ∧ Hid (wr.heap[w.heap.size]? = some (.map (opE i) i)) ∧ Hid (Kb w.heap.size w1 wr))
  case atStart => exact ⟨0, Nat.zero_le _, rfl, rfl, by rw [HE0]; exact HM0, Kb.refl _ _⟩
  case round =>
    obtain ⟨i, hi, hgi, rfl, HM, HK⟩ := hrel
    generalize wr = W0 at *
    have hw1 := unhideI HS
    have hsz := (unhideI HK).size
    by_cases hlt : i < 18
    · have hiI : (i : Int) < 18 := by omega
      have hi0 : (0 : Int) ≤ (i : Int) := by omega
      have IXk := fun W => unhideI IX i hlt W
      have kb := below_a W0 (.cells #[.string ⟨(opAt i).1.toArray⟩, .int .i64 (opAt i).2.1, .int .i64 (opAt i).2.2] 73)
      have hmb : (W0.alloc (.cells #[.string ⟨(opAt i).1.toArray⟩, .int .i64 (opAt i).2.1, .int .i64 (opAt i).2.2] 73)).heap[w.heap.size]? = some (.map (opE i) i) := by rw [kb.block _ (by omega)]; exact unhideI HM
      have PUk := unhideI PU _ _ i hlt hmb
      have M2 := hideI (at_setB (W0.alloc (.cells #[.string ⟨(opAt i).1.toArray⟩, .int .i64 (opAt i).2.1, .int .i64 (opAt i).2.2] 73)) w.heap.size (.map (opE (i + 1)) (i + 1)) (by have := kb.size; omega))
      have K2 := hideI (((unhideI HK).trans (Kb.of kb)).trans (kb_setBlock (W0.alloc (.cells #[.string ⟨(opAt i).1.toArray⟩, .int .i64 (opAt i).2.1, .int .i64 (opAt i).2.2] 73)) w.heap.size (.map (opE (i + 1)) (i + 1))))
      unfold opV at IXk PUk
      clear kb hmb HM HK
      generalize opAt i = r at *
      obtain ⟨rs, rk, rw'⟩ := r
      dsimp only at *
      generalize (⟨rs.toArray⟩ : ByteArray) = sg at *
      generalize hSB : setBlock (W0.alloc (.cells #[.string sg, .int .i64 rk, .int .i64 rw'] 73)) w.heap.size (.map (opE (i + 1)) (i + 1)) = W2 at *
      go_wp2_with fail
      go_roundg (18 - (i + 1))
      case measure => omega
      case rel => exact ⟨i + 1, by omega, rfl, by go_num, M2, K2⟩
    · have hiI : ¬ (i : Int) < 18 := by omega
      have HE := hideI (show i = 18 by omega)
      go_wp2_with fail
      go_ret
      have m := unhideI HM
      rw [unhideI HE] at m
      exact ⟨rfl, m, (unhideI KA).trans ((unhideI HK).below (by omega) (Nat.le_refl _))⟩
end Go.Proofs.YtbakhengcgclmaaGreatDoor

/-
  Writing: a number's digits: strconv.FormatUint at ten.
-/
namespace Go.Proofs.YtbakhengcgclmaaGreatDoor
open Go.RowKit Go.Sort Go.Lib
set_option linter.unusedSimpArgs false
set_option linter.unusedVariables false

theorem grow_belowS (w : World) (k : Nat) (os : Array Obj) : Below w.heap.size w (grow (w.drewN k) os) := ⟨rfl, rfl, rfl, by simp [grow, World.drewN], fun i hi => by simp [grow, World.drewN, Array.getElem?_append_left hi]⟩
set_option maxRecDepth 100000 in
set_option maxHeartbeats 2000000 in
theorem ifmtUint_any (u : Nat) (hu : u < 18446744073709551616) (w : World) (htab : Lib.TabIs Tryz.prog w "internal/strconv.uint64pow10" .u64 Lib.pow10Tab) : Calls Tryz.prog 128 #[.int .u64 (u : Int), .int .i64 10] w fun e w' => e = .returned (.string ⟨(Lib.decDigits u).toArray⟩) ∧ Below w.heap.size w w' := by
  by_cases hs : u < 100
  · have hsI : (u : Int) < 100 := by omega
    have SM := hideI (Tryz.internal_strconv_small u hs w)
    have hwr : IntKind.i64.wrap (u : Int) = (u : Int) := by rw [IntKind.wrap_i64]; omega
    go_enter Tryz.func128, Tryz.ntmps128
    go_wp2_with fail
    refine (unhideI SM).mono ?_
    rintro e w1 ⟨rfl, hw⟩
    subst w1
    go_wp2_with fail
    go_ret
    exact ⟨rfl, Below.refl _ _⟩
  · have hsI : ¬ (u : Int) < 100 := by omega
    have hu1 : 1 ≤ u := by omega
    have hnd20 : Lib.nDigits u ≤ 20 := by have := Lib.numDigits_eq u hu1 hu; split at this <;> omega
    have ND := hideI (Tryz.internal_strconv_numDigits u hu1 hu (w.alloc (.cells Lib.zeros24 130)) (Lib.tabIs_alloc htab _))
    have hal : Tryz.prog.arrayLen 130 = 24 := by kernel_rfl
    have hsl : ∀ W, (Instr.sliceAt 130 (.pointer (some ⟨w.heap.size, 0, none⟩)) none (some (.int .i64 (Lib.nDigits u : Int))) none).run Tryz.prog W = .ok (.slice (some ⟨w.heap.size, 0, none⟩) (Lib.nDigits u) 24) W := fun W => by
      rw [run_sliceAt_array_h W 130 ⟨w.heap.size, 0, none⟩ (by simp [Program.arrayLen, Program.elem, Tryz.underlying130]) .i64 (Lib.nDigits u : Int) (by omega) (by rw [hal]; omega)]
      rw [hal]
      have hsz : (sizeOf (Tryz.prog.elem 130)).run Tryz.prog W = .ok 1 W := by kernel_rfl
      rw [hsz]
      simp [Result.andThen, slicedAt, Addr.add]
    have hH0 := Lib.holds_zero0 w 130 (Lib.nDigits u) (by omega)
    have hfmt := Tryz.internal_strconv_formatBase10 w.heap.size 0 24 u (Array.replicate (Lib.nDigits u) 0) (w.alloc (.cells Lib.zeros24 130)) hH0 (by rw [Array.size_replicate]; exact Lib.lt_pow_nDigits u) hu (by rw [Array.size_replicate]; omega)
    rw [Array.size_replicate] at hfmt
    have FM := hideI hfmt
    have HH0 := hideI hH0
    clear hfmt hH0 hal
    unfold Lib.zeros24 at *
    go_enter Tryz.func128, Tryz.ntmps128
    go_wp2_with fail
    refine (unhideI ND).mono ?_
    rintro e w1 ⟨rfl, hw1⟩
    subst w1
    clear ND
    go_wp2_with fail
    refine (unhideI FM).mono ?_
    rintro e w2 ⟨rfl, k, v', dk, rfl, hF⟩
    have CV : (convert 34 9 (.slice (some ⟨w.heap.size, 0, none⟩) (Lib.nDigits u) 24)).run Tryz.prog ((putRow (fun (b : UInt8) => Value.int .u8 (b.toNat : Int)) (w.alloc (.cells Lib.zeros24 130)) w.heap.size 0 dk).drewN k) = .ok (.string ⟨(Lib.decDigits u).toArray⟩) ((putRow (fun (b : UInt8) => Value.int .u8 (b.toNat : Int)) (w.alloc (.cells Lib.zeros24 130)) w.heap.size 0 dk).drewN k) := by
      have h := run_convert_bytes_back (P := Tryz.prog) ((putRow (fun (b : UInt8) => Value.int .u8 (b.toNat : Int)) (w.alloc (.cells Lib.zeros24 130)) w.heap.size 0 dk).drewN k) 34 9 5 ⟨w.heap.size, 0, none⟩ 24 (Lib.decDigits u) Tryz.underlying34 Tryz.underlying5 Tryz.underlying9 (fun j hj => by
        rw [Lib.row_is_numeral hF j hj, Lib.add_plain, World.cell?_drewN]
        exact cell?_putRow (fun (b : UInt8) => Value.int .u8 (b.toNat : Int)) _ w.heap.size 0 _ dk (unhideI HH0) (by rw [hF.size, Array.size_replicate]) j (by rw [hF.size]; rw [Lib.decDigits_length] at hj; exact hj))
      rw [Lib.decDigits_length] at h
      exact h
    unfold Lib.zeros24 at CV
    have KB : Hid (Below w.heap.size w ((putRow (fun (b : UInt8) => Value.int .u8 (b.toNat : Int)) (w.alloc (.cells Lib.zeros24 130)) w.heap.size 0 dk).drewN k)) := by
      obtain ⟨os, eo⟩ := Lib.fin_at w (.cells Lib.zeros24 130) dk k 0
      show Below _ _ _
      rw [eo]
      exact grow_belowS w k os
    unfold Lib.zeros24 at KB
    clear FM HH0 hF htab
    generalize (putRow (fun (b : UInt8) => Value.int .u8 (b.toNat : Int)) (w.alloc (.cells #[Value.int .u8 0, Value.int .u8 0, Value.int .u8 0, Value.int .u8 0, Value.int .u8 0, Value.int .u8 0, Value.int .u8 0, Value.int .u8 0, Value.int .u8 0, Value.int .u8 0, Value.int .u8 0, Value.int .u8 0, Value.int .u8 0, Value.int .u8 0, Value.int .u8 0, Value.int .u8 0, Value.int .u8 0, Value.int .u8 0, Value.int .u8 0, Value.int .u8 0, Value.int .u8 0, Value.int .u8 0, Value.int .u8 0, Value.int .u8 0] 130)) w.heap.size 0 dk).drewN k = w3 at *
    go_wp2_with fail
    go_ret
    exact ⟨rfl, unhideI KB⟩
theorem fmtUint_any (u : Nat) (hu : u < 18446744073709551616) (w : World) (htab : Lib.TabIs Tryz.prog w "internal/strconv.uint64pow10" .u64 Lib.pow10Tab) : Calls Tryz.prog 122 #[.int .u64 (u : Int), .int .i64 10] w fun e w' => e = .returned (.string ⟨(Lib.decDigits u).toArray⟩) ∧ Below w.heap.size w w' := by
  have FA := hideI (ifmtUint_any u hu w htab)
  go_enter Tryz.func122, Tryz.ntmps122
  go_wp2_with fail
  refine (unhideI FA).mono ?_
  rintro e w1 ⟨rfl, k1⟩
  have K1 := hideI k1
  clear FA k1
  go_wp2_with fail
  go_ret
  exact ⟨rfl, unhideI K1⟩
end Go.Proofs.YtbakhengcgclmaaGreatDoor
