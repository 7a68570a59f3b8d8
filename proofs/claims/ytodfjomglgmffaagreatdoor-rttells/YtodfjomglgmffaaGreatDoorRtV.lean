/-
  Routines: a row that is written.
-/
import Derived.Test.YtodfjomglgmffaaGreatDoorRtWz
import Derived.Test.YtodfjomglgmffaaGreatDoorShelf
import Derived.Test.YtodfjomglgmffaaGreatDoorReg
namespace Go.Proofs.YtodfjomglgmffaaGreatDoor
open Go.RowKit
set_option linter.unusedSimpArgs false
set_option linter.unusedVariables false

/-- A list of bytes as a string. -/
def sb (l : List UInt8) : ByteArray := ⟨l.toArray⟩
theorem sb_list (l : List UInt8) : (sb l).data.toList = l := by simp [sb]
theorem sb_size (l : List UInt8) : (sb l).size = l.length := rfl
theorem sb_cat (a b : List UInt8) : sb a ++ sb b = sb (a ++ b) := by
  have h : ∀ a b : ByteArray, a.data = b.data → a = b := fun a b h => by cases a; cases b; exact congrArg _ h
  apply h
  rw [ByteArray.data_append]
  simp [sb]
theorem dgs_str {n : Nat} (h : n < 100) : Value.string ⟨(Lib.decDigits n).toArray⟩ = .string (sb (dgs n)) := by rw [dgs_eq h]; rfl
set_option maxRecDepth 100000 in
theorem digits_any (i : Nat) (hi : i < 100) (w : World) : Calls Tryz.prog 65 #[.int .i64 (i : Int)] w fun e w' => e = .returned (.string (sb (dgs i))) ∧ w' = w := by
  have IT := Tryz.strconv_Itoa_small i hi w
  rw [dgs_str hi] at IT
  go_enter Tryz.func65, Tryz.ntmps65
  go_wp2_with fail
  refine IT.mono ?_
  rintro e w1 ⟨rfl, rfl⟩
  go_wp2_with fail
  go_ret
  exact ⟨rfl, rfl⟩
set_option maxRecDepth 100000 in
theorem held_any (k : Nat) (hk : k ≤ 9) (w : World) : Calls Tryz.prog 64 #[.int .i64 (k : Int)] w fun e w' => e = .returned (.string (sb (hld k))) ∧ w' = w := by
  have IT := digits_any (2 + k) (by omega) w
  have e1 : (((2 + k : Nat) : Int)) = 2 + (k : Int) := by omega
  rw [e1] at IT
  have hs : ¬ 9223372036854775807 < 1 + (sb (dgs (2 + k))).size := by have := dgs_len (2 + k); rw [sb_size]; omega
  have hc : (⟨#[114]⟩ ++ sb (dgs (2 + k)) : ByteArray) = sb (hld k) := sb_cat [114] _
  have HC := hideI hc
  clear hc e1
  go_enter Tryz.func64, Tryz.ntmps64
  go_wp2_with fail
  refine IT.mono ?_
  rintro e w1 ⟨rfl, rfl⟩
  go_wp2_with fail
  go_ret
  exact ⟨by rw [unhideI HC]; rfl, rfl⟩
set_option maxRecDepth 100000 in
theorem rnamed_any (kd : List UInt8) (n : Nat) (hn : n < 100) (hk : kd.length ≤ 1000) (w : World) : Calls Tryz.prog 12 #[.string (sb kd), .int .i64 (n : Int)] w fun e w' => e = .returned (.string (sb (kd ++ dgs n))) ∧ w' = w := by
  have IT := Tryz.strconv_Itoa_small n hn w
  rw [dgs_str hn] at IT
  have hs : ¬ 9223372036854775807 < (sb kd).size + (sb (dgs n)).size := by have := dgs_len n; rw [sb_size, sb_size]; omega
  have HC := hideI (sb_cat kd (dgs n))
  go_enter Tryz.func12, Tryz.ntmps12
  go_wp2_with fail
  refine IT.mono ?_
  rintro e w1 ⟨rfl, rfl⟩
  go_wp2_with fail
  go_ret
  exact ⟨by rw [unhideI HC]; rfl, rfl⟩
set_option maxRecDepth 100000 in
theorem chained_any (k : Nat) (a b : List UInt8) (w : World) : Calls Tryz.prog 100 #[.int .i64 (k : Int), .string (sb a), .string (sb b)] w fun e w' => e = .returned (.string (sb (chd k a b))) ∧ w' = w := by
  unfold chd
  by_cases h : k = 0
  · subst h
    rw [if_pos rfl]
    go_enter Tryz.func100, Tryz.ntmps100
    go_wp2_with fail
    go_ret
    exact ⟨rfl, rfl⟩
  · rw [if_neg h]
    have hb : ((k : Int) == 0) = false := by simp; omega
    go_enter Tryz.func100, Tryz.ntmps100
    go_wp2_with fail
    go_ret
    exact ⟨rfl, rfl⟩
set_option maxRecDepth 100000 in
theorem label_any (B b n : Nat) (t : List UInt8) (g : Option Nat) (s : List UInt8) (w : World) (h : Wr w B b n t g) (hl : t.length + s.length + 2 ≤ 1048576) (hBw : B ≤ w.heap.size) : Calls Tryz.prog 15 #[.pointer (some ⟨b, 0, none⟩), .string (sb s)] w fun e w' => e = .returned (.tuple #[]) ∧ (∃ g', Wr w' B b n (t ++ labT s) g') ∧ Below B w w' := by
  have hc : (sb s ++ ⟨#[58, 10]⟩ : ByteArray) = sb (labT s) := sb_cat s [58, 10]
  have hs : ¬ 9223372036854775807 < (sb s).size + 2 := by rw [sb_size]; omega
  have WS := writeString_any B b n t g (sb (labT s)) w h (by rw [sb_size]; simp [labT]; omega) hBw
  rw [← hc] at WS
  have HC := hideI (sb_list (labT s))
  rw [← hc] at HC
  clear hc
  go_enter Tryz.func15, Tryz.ntmps15
  go_wp2_with fail
  refine WS.mono ?_
  rintro e w1 ⟨⟨v, rfl⟩, h1, k1, _⟩
  rw [unhideI HC] at h1
  go_wp2_with fail
  go_end0
  exact ⟨rfl, h1, k1⟩
set_option maxRecDepth 100000 in
set_option maxHeartbeats 2000000 in
theorem do_none (B b n : Nat) (t : List UInt8) (g : Option Nat) (kd : List UInt8) (w : World) (h : Wr w B b n t g) (hl : t.length + kd.length + 100 ≤ 1048576) (hBw : B ≤ w.heap.size) : Calls Tryz.prog 57 #[.pointer (some ⟨b, 0, none⟩), .string (sb kd), .slice none 0 0] w fun e w' => e = .returned (.tuple #[]) ∧ (∃ g', Wr w' B b n (t ++ insT kd []) g') ∧ Below B w w' := by
  have hc : (⟨#[9]⟩ ++ sb kd : ByteArray) = sb (9 :: kd) := sb_cat [9] kd
  have hs : ¬ 9223372036854775807 < 1 + (sb kd).size := by rw [sb_size]; omega
  have WS := writeString_any B b n t g (sb (9 :: kd)) w h (by rw [sb_size]; simp; omega) hBw
  rw [← hc] at WS
  have HC := hideI (sb_list (9 :: kd))
  rw [← hc] at HC
  clear hc
  go_enter Tryz.func57, Tryz.ntmps57
  go_wp2_with fail
  refine WS.mono ?_
  rintro e w1 ⟨⟨v, rfl⟩, ⟨g1, h1⟩, k1, _⟩
  rw [unhideI HC] at h1
  have WB := writeByte_any B b n (t ++ 9 :: kd) g1 10 w1 h1 (by simp; omega) (Nat.le_trans hBw k1.size)
  have K1 := hideI k1
  clear WS HC h k1
  go_wp2_with fail
  refine WB.mono ?_
  rintro e w2 ⟨⟨v, rfl⟩, h2, k2⟩
  go_wp2_with fail
  go_end0
  refine ⟨rfl, ?_, (unhideI K1).trans k2⟩
  have e : t ++ insT kd [] = t ++ 9 :: kd ++ [10] := by simp [insT]
  rw [e]; exact h2
theorem join_len {fs : List (List UInt8)} (h : fs.length ≤ 4) (hf : ∀ f ∈ fs, f.length ≤ 20) : (Lib.join fs [44, 32]).length ≤ 100 := by
  unfold Lib.join
  match fs, h, hf with
  | [], _, _ => simp
  | [a], _, hf => have := hf a (by simp); simp [List.intercalate]; omega
  | [a, b], _, hf => have := hf a (by simp); have := hf b (by simp); simp [List.intercalate]; omega
  | [a, b, c], _, hf => have := hf a (by simp); have := hf b (by simp); have := hf c (by simp); simp [List.intercalate]; omega
  | [a, b, c, d], _, hf => have := hf a (by simp); have := hf b (by simp); have := hf c (by simp); have := hf d (by simp); simp [List.intercalate]; omega
  | _ :: _ :: _ :: _ :: _ :: _, h, _ => simp at h
set_option maxRecDepth 100000 in
set_option maxHeartbeats 4000000 in
theorem do_some (B b n : Nat) (t : List UInt8) (g : Option Nat) (kd : List UInt8) (fs : List (List UInt8)) (bk c : Nat) (w : World) (h : Wr w B b n t g) (hne : fs ≠ []) (hf4 : fs.length ≤ 4) (hfl : ∀ f ∈ fs, f.length ≤ 20) (hcc : fs.length ≤ c) (hbk : bk < w.heap.size) (hcells : ∀ j x, fs[j]? = some x → w.cell? ⟨bk, j, none⟩ = some (.string (sb x))) (hb : bk ≠ b) (hg : g ≠ some bk) (hl : t.length + kd.length + 200 ≤ 1048576) (hBw : B ≤ w.heap.size) : Calls Tryz.prog 57 #[.pointer (some ⟨b, 0, none⟩), .string (sb kd), .slice (some ⟨bk, 0, none⟩) fs.length c] w fun e w' => e = .returned (.tuple #[]) ∧ (∃ g', Wr w' B b n (t ++ insT kd fs) g') ∧ Below B w w' := by
  have hc : (⟨#[9]⟩ ++ sb kd : ByteArray) = sb (9 :: kd) := sb_cat [9] kd
  have hs : ¬ 9223372036854775807 < 1 + (sb kd).size := by rw [sb_size]; omega
  have WS := writeString_any B b n t g (sb (9 :: kd)) w h (by rw [sb_size]; simp; omega) hBw
  rw [← hc] at WS
  have HC := hideI (sb_list (9 :: kd))
  rw [← hc] at HC
  have hf0 : (0 : Int) < (fs.length : Int) := by
    have : fs.length ≠ 0 := fun e => hne (List.eq_nil_of_length_eq_zero e)
    omega
  have hJ := join_len hf4 hfl
  have HJ := hideI hJ
  have HF := hideI hcells
  clear hc hcells hJ hfl
  go_enter Tryz.func57, Tryz.ntmps57
  go_wp2_with fail
  refine WS.mono ?_
  rintro e w1 ⟨⟨v, rfl⟩, ⟨g1, h1⟩, k1, q1⟩
  rw [unhideI HC] at h1
  have hcells1 : ∀ j x, fs[j]? = some x → w1.cell? ⟨bk, j, none⟩ = some (.string (sb x)) := fun j x hx => by
    rw [q1.cell hbk (fun e => e.elim hb hg)]; exact unhideI HF j x hx
  have kd1 : Below w1.heap.size w1 w1.drew := Below.drew (Below.refl _ w1)
  have hcd : ∀ j x, fs[j]? = some x → w1.drew.cell? ⟨bk, j, none⟩ = some (.string (sb x)) := hcells1
  have hbd : bk < w1.drew.heap.size := Nat.lt_of_lt_of_le hbk k1.size
  have em : (fs.map sb).map (fun x => x.data.toList) = fs := by rw [List.map_map]; exact (List.map_congr_left (fun a _ => sb_list a)).trans (List.map_id _)
  have JN : Calls Tryz.prog 101 #[.slice (some ⟨bk, 0, none⟩) fs.length c, .string ⟨#[44, 32]⟩] w1.drew fun e w' => e = .returned (.string (sb (Lib.join fs [44, 32]))) ∧ Below w1.drew.heap.size w1.drew w' := by
    have J0 := Tryz.strings_Join bk 0 c (fs.map sb) ⟨#[44, 32]⟩ w1.drew (fun j y hy => by
      rw [List.getElem?_map, Option.map_eq_some_iff] at hy
      obtain ⟨x, hx, rfl⟩ := hy
      rw [Nat.zero_add]; exact hcd j x hx) hbd (by rw [List.length_map]; omega) (by rw [List.length_map]; exact hcc) (by rw [em]; have := unhideI HJ; show (Lib.join fs [44, 32]).length ≤ _; omega)
    rw [em, List.length_map] at J0
    exact J0
  have HJN := hideI JN
  have H1 := hideI (h1.step kd1)
  have K1 := hideI (k1.trans (kd1.mono (Nat.le_trans hBw k1.size)))
  have hjs : (sb (Lib.join fs [44, 32])).size ≤ 100 := by rw [sb_size]; exact unhideI HJ
  have hjs2 : ¬ 9223372036854775807 < 1 + (sb (Lib.join fs [44, 32])).size := by omega
  have hB1 : B ≤ w1.drew.heap.size := Nat.le_trans hBw k1.size
  clear JN em hcd hbd kd1 hcells1 h1 k1 q1 WS HC HF h hbk hg hb
  go_wp2_with fail
  refine reg_start (fun _ => True) (by kernel_rfl) ?_
  generalize w1.drew = w2 at *
  refine reg_seg 0 4 3 (by kernel_rfl) (by decide) (by kernel_rfl) (by kernel_rfl) (fun _ _ _ _ _ h => h) ?_
  simp only [List.take_succ_cons, List.take_zero, List.drop_succ_cons, List.drop_zero]
  repeat (refine wpSteady_step (fun K hK => ?_); go_simp; first | (refine steady_of ?_ (fun W hW => ?_) (hK _ ?_); rotate_left; (obtain _ := hW; go_simp; first | done | rfl); clear hK K) | (refine hK _ ?_; clear hK K))
  refine wpSteady_nil ?_
  refine reg_one 4 2 (by kernel_rfl) (by kernel_rfl) trivial ?_
  simp only [List.take_succ_cons, List.take_zero, List.drop_succ_cons, List.drop_zero]
  go_wp2_with fail
  refine (unhideI HJN).mono ?_
  rintro e w3 ⟨rfl, k3⟩
  have H3 := hideI ((unhideI H1).step k3)
  have K3 := hideI ((unhideI K1).trans (k3.mono hB1))
  have hB3 : B ≤ w3.heap.size := Nat.le_trans hB1 k3.size
  have hc3 : (⟨#[32]⟩ ++ sb (Lib.join fs [44, 32]) : ByteArray) = sb (32 :: Lib.join fs [44, 32]) := sb_cat [32] _
  have WS := writeString_any B b n (t ++ 9 :: kd) g1 (sb (32 :: Lib.join fs [44, 32])) w3 (unhideI H3) (by rw [sb_size]; have := unhideI HJ; simp; omega) hB3
  rw [sb_list, ← hc3] at WS
  have HWS := hideI WS
  clear k3 HJN H1 K1 WS hc3 H3
  generalize hjt : Lib.join fs [44, 32] = jt at *
  have HT := hideI hjt
  clear hjt
  go_wp2_with fail
  first | refine next_nil ?_ | refine next_go ?_
  refine reg_seg 5 1 1 (by kernel_rfl) (by decide) (by kernel_rfl) (by kernel_rfl) (fun _ _ _ _ _ h => h) ?_
  simp only [List.take_succ_cons, List.take_zero, List.drop_succ_cons, List.drop_zero]
  repeat (refine wpSteady_step (fun K hK => ?_); go_simp; first | (refine steady_of ?_ (fun W hW => ?_) (hK _ ?_); rotate_left; (obtain _ := hW; go_simp; first | done | rfl); clear hK K) | (refine hK _ ?_; clear hK K))
  refine wpSteady_nil ?_
  refine reg_one 6 0 (by kernel_rfl) (by kernel_rfl) trivial ?_
  simp only [List.take_succ_cons, List.take_zero, List.drop_succ_cons, List.drop_zero]
  go_wp2_with fail
  refine (unhideI HWS).mono ?_
  rintro e w4 ⟨⟨v, rfl⟩, ⟨g4, h4⟩, k4, _⟩
  have WB := hideI (writeByte_any B b n _ g4 10 w4 h4 (by have := unhideI HJ; simp; omega) (Nat.le_trans hB3 k4.size))
  have K4 := hideI ((unhideI K3).trans k4)
  clear HWS k4 h4 K3
  go_wp2_with fail
  first | refine next_nil ?_ | refine next_go ?_
  refine reg_end (by kernel_rfl) trivial ?_
  go_wp2_with fail
  refine (unhideI WB).mono ?_
  rintro e w5 ⟨⟨v, rfl⟩, h5, k5⟩
  go_wp2_with fail
  go_end0
  refine ⟨rfl, ?_, (unhideI K4).trans k5⟩
  have e : t ++ insT kd fs = t ++ 9 :: kd ++ 32 :: jt ++ [10] := by unfold insT; rw [if_neg hne, unhideI HT]; simp
  rw [e]; exact h5
end Go.Proofs.YtodfjomglgmffaaGreatDoor
