/-
  Routines: the writer in memory; the builder's functions at a writer.
-/
import Derived.Test.YtodfjomglgmffaaGreatDoorChecked
import Derived.Test.YtodfjomglgmffaaGreatDoorMem
import Derived.Test.YtodfjomglgmffaaGreatDoorInsM
import Derived.Test.YtodfjomglgmffaaGreatDoorAsR0
import Derived.Test.YtodfjomglgmffaaGreatDoorRtX
import Derived.Lib.Builder
import Derived.Lib.AppendStr
import Derived.Lib.UnsafeStr
import Derived.Laws.Externs
import Derived.WalkKit
import Derived.Laws.IdiomStrings
import Derived.Deep.LoopGhost
import Derived.Shelf.RegionOpenPlain
namespace Go.Proofs.YtodfjomglgmffaaGreatDoor
open Go.RowKit
set_option linter.unusedSimpArgs false
set_option linter.unusedVariables false

theorem btR {u v x : World} (k1 : Below u.heap.size u v) (k2 : Below v.heap.size v x) : Below u.heap.size u x := k1.trans (k2.mono k1.size)
theorem Tryz.infoBt : (Tryz.prog.info? 5).map (fun i => (i.zero, i.size, i.bytes)) = some (some (.int .u8 0), 1, 1) := by kernel_rfl
theorem Tryz.infoBld : (Tryz.prog.info? 61).map (·.size) = some 2 := by kernel_rfl
theorem Tryz.liesBld : liesAt Tryz.prog Tryz.prog.depth 63 (3 / Tryz.prog.cellsOf 63) 0 61 1 = true := by kernel_rfl
theorem Tryz.cellsBt : Tryz.prog.cellsOf 5 = 1 := by kernel_rfl
/-- A writer: where it lies, how many words its numbers have, what it has written, where that lies. -/
def Wr (w : World) (B b n : Nat) (t : List UInt8) (g : Option Nat) : Prop := ∃ p v, B ≤ b ∧ w.heap[b]? = some (.cells #[p, v, .int .i64 (n : Int)] 63 (0, 0)) ∧ (p = .pointer none ∨ p = .pointer (some ⟨b, 0, none⟩)) ∧ w.ownsRow B 5 1 v t.length (Lib.byteCells t) ∧ v.ownBlock = g ∧ g ≠ some b
theorem own_stepR {w w' : World} {B e s n : Nat} {v : Value} {cs : List Value} (h : w.ownsRow B e s v n cs) (k : Below w.heap.size w w') : w'.ownsRow B e s v n cs := own_step h k
theorem Wr.lt {w : World} {B b n : Nat} {t : List UInt8} {g : Option Nat} (h : Wr w B b n t g) : b < w.heap.size := by
  obtain ⟨p, v, _, h2, _⟩ := h
  exact (Array.getElem?_eq_some_iff.1 h2).1
theorem Wr.step {w w' : World} {B b n : Nat} {t : List UInt8} {g : Option Nat} (h : Wr w B b n t g) (k : Below w.heap.size w w') : Wr w' B b n t g := by
  have hl := h.lt
  obtain ⟨p, v, h1, h2, h3, h4, h5⟩ := h
  exact ⟨p, v, h1, by rw [k.block b hl]; exact h2, h3, own_step h4 k, h5⟩
theorem Wr.glt {w : World} {B b n : Nat} {t : List UInt8} {g : Option Nat} (h : Wr w B b n t g) : ∀ k, g = some k → k < w.heap.size := by
  obtain ⟨p, v, h1, h2, h3, h4, h5, h6⟩ := h
  intro k hk
  exact (h4.lt k (h5.trans hk)).2
theorem Wr.words {w : World} {B b n : Nat} {t : List UInt8} {g : Option Nat} (h : Wr w B b n t g) : w.cell? ⟨b, 2, none⟩ = some (.int .i64 (n : Int)) := by
  obtain ⟨p, v, _, h2, _⟩ := h
  rw [Lib.cell_of_heap h2]; rfl
theorem heap_setCell {w : World} {b j : Nat} {cs : Array Value} {T : TypeId} {fr : Nat × Nat} {x : Value} (h : w.heap[b]? = some (.cells cs T fr)) : (w.setCell ⟨b, j, none⟩ x).heap[b]? = some (.cells (cs.setIfInBounds j x) T fr) := by
  unfold World.setCell
  simp [Array.getElem?_modify, h]
theorem own_setR {w : World} {B e s n b j : Nat} {v x : Value} {cs : List Value} (h : w.ownsRow B e s v n cs) (hne : v.ownBlock ≠ some b) : (w.setCell ⟨b, j, none⟩ x).ownsRow B e s v n cs := by
  refine ⟨h.1, ?_⟩
  rcases h.2 with hn | ⟨g, cap, cur, rfl, hb, hg, rest⟩
  · exact .inl hn
  · refine .inr ⟨g, cap, cur, rfl, hb, ?_, rest⟩
    have hgb : b ≠ g := fun e => hne (by simp [Value.ownBlock, e])
    unfold World.setCell
    simp [Array.getElem?_modify, hgb, hg]
set_option maxHeartbeats 1000000 in
set_option maxRecDepth 100000 in
theorem copyCheck_any (B b n : Nat) (t : List UInt8) (g : Option Nat) (w : World) (h : Wr w B b n t g) : Calls Tryz.prog 81 #[.pointer (some ⟨b, 0, none⟩)] w fun e w' => e = .returned (.tuple #[]) ∧ Wr w' B b n t g ∧ Below B w w' ∧ Kpt (fun k => k = b) w w' ∧ w'.heap.size = w.heap.size ∧ w'.cell? ⟨b, 0, none⟩ = some (.pointer (some ⟨b, 0, none⟩)) := by
  obtain ⟨j, hj, hjs⟩ := Option.map_eq_some_iff.1 Tryz.infoBld
  obtain ⟨p, v, hB, hbk, hp, hown, hg, hne⟩ := h
  subst hg
  have h0 : w.cell? ⟨b, 0, none⟩ = some p := by rw [Lib.cell_of_heap hbk]; rfl
  have hf : w.frozen? ⟨b, 0, none⟩ = false := Lib.frozen_of_heap hbk 0
  have hsh : w.shape? b = some (63, 3) := by simp [World.shape?, hbk]
  have HO := hideI hown
  have HK := hideI hbk
  rcases hp with rfl | rfl
  · have hk := heap_setCell (j := 0) (x := .pointer (some ⟨b, 0, none⟩)) hbk
    have hown2 : (w.setCell ⟨b, 0, none⟩ (.pointer (some ⟨b, 0, none⟩))).ownsRow B 5 1 v t.length (Lib.byteCells t) := own_setR hown hne
    have W2 : Hid (Wr (w.setCell ⟨b, 0, none⟩ (.pointer (some ⟨b, 0, none⟩))) B b n t v.ownBlock) := ⟨_, v, hB, hk, .inr rfl, hown2, rfl, hne⟩
    have C2 : Hid ((w.setCell ⟨b, 0, none⟩ (.pointer (some ⟨b, 0, none⟩))).cell? ⟨b, 0, none⟩ = some (.pointer (some ⟨b, 0, none⟩))) := by show _ = _; rw [Lib.cell_of_heap hk]; rfl
    clear hown hbk hown2 hk
    go_enter Tryz.func81, Tryz.ntmps81
    go_wp2_with fail
    rw [Lib.run_to_unsafe w ⟨b, 0, none⟩ Tryz.underlying58 Tryz.underlying157 hj (by rw [hjs]; decide) hsh (Nat.zero_lt_succ 2)]
    simp only [Result.andThen]
    rw [Oper.upon_value]
    go_wp2_with fail
    rw [run_callFunc_extern Tryz.func114 (by kernel_rfl) (by kernel_rfl) (by kernel_rfl) (e := Extern.AbiNoEscape.same) (by kernel_rfl)]
    rw [Lib.run_noEscape]
    simp only [Result.andThen]
    rw [Oper.upon_value]
    go_wp2_with fail
    rw [Lib.run_from_unsafe w ⟨b, 0, none⟩ Tryz.underlying157 Tryz.underlying58 hj hsh Tryz.liesBld]
    simp only [Result.andThen]
    rw [Oper.upon_value]
    go_wp2_with fail
    go_end0
    exact ⟨rfl, unhideI W2, (Below.refl B w).setCell (p := ⟨b, 0, none⟩) hB _, Kpt.setCell _ _ rfl, by simp, unhideI C2⟩
  · clear hown hbk
    go_enter Tryz.func81, Tryz.ntmps81
    go_wp2_with fail
    rw [Lib.run_neq_ptr_same w _ Tryz.underlying58 hj]
    go_wp2_with fail
    go_end0
    exact ⟨rfl, ⟨_, v, hB, unhideI HK, .inr rfl, unhideI HO, rfl, hne⟩, Below.refl B _, Kpt.refl _ _, rfl, h0⟩
theorem Wr.buf {w : World} {B b n : Nat} {t : List UInt8} {g : Option Nat} (h : Wr w B b n t g) : ∃ v, w.cell? ⟨b, 1, none⟩ = some v ∧ w.frozen? ⟨b, 1, none⟩ = false ∧ w.ownsRow B 5 1 v t.length (Lib.byteCells t) ∧ v.ownBlock = g ∧ v.ownBlock ≠ some b ∧ B ≤ b ∧ ∃ p, w.heap[b]? = some (.cells #[p, v, .int .i64 (n : Int)] 63 (0, 0)) ∧ (p = .pointer none ∨ p = .pointer (some ⟨b, 0, none⟩)) := by
  obtain ⟨p, v, h1, h2, h3, h4, h5, h6⟩ := h
  exact ⟨v, by rw [Lib.cell_of_heap h2]; rfl, Lib.frozen_of_heap h2 1, h4, h5, by rw [h5]; exact h6, h1, p, h2, h3⟩
set_option maxHeartbeats 2000000 in
set_option maxRecDepth 100000 in
theorem writeString_any (B b n : Nat) (t : List UInt8) (g : Option Nat) (s : ByteArray) (w : World) (h : Wr w B b n t g) (hlen : t.length + s.size ≤ 1048576) (hBw : B ≤ w.heap.size) : Calls Tryz.prog 37 #[.pointer (some ⟨b, 0, none⟩), .string s] w fun e w' => (∃ v, e = .returned v) ∧ (∃ g', Wr w' B b n (t ++ s.data.toList) g') ∧ Below B w w' ∧ Kpt (fun k => k = b ∨ g = some k) w w' := by
  obtain ⟨i0, hi, hz0, hz1, hz2⟩ := info_parts Tryz.infoBt
  have CC := hideI (copyCheck_any B b n t g w h)
  go_enter Tryz.func37, Tryz.ntmps37
  go_wp2_with fail
  refine (unhideI CC).mono ?_
  rintro e w1 ⟨rfl, h1, k1, q1, s1, c0⟩
  have hBw1 : B ≤ w1.heap.size := by omega
  have HK1 := hideI k1
  have HQ1 := hideI q1
  have hlt := h1.lt
  obtain ⟨v, c1, f1, hown, hvg, hne, hB, p, hbk, hp⟩ := h1.buf
  subst hvg
  have HO := hideI hown
  have HKB := hideI hbk
  have hbl : (Lib.byteCells t).length = t.length := by simp [Lib.byteCells]
  clear CC k1 q1 h1 hown hbk h s1
  go_wp2_with (at_builtin; refine Lib.wpList_append_own_string _ rfl _ _ 59 9 rfl B 5 i0 Tryz.underlying59 Tryz.underlying9 hi hz0 hz1 hz2 _ _ _ rfl (unhideI HO) s rfl (by unfold maxLen; omega) (by omega) (by omega) ?_; intro v' w2 hown' hgrow _; have O2 := hideI hown'; have G2 := hideI hgrow; have hb2 : w2.heap[b]? = some (.cells #[p, v, .int .i64 (n : Int)] 63 (0, 0)) := (by rw [hgrow.block b hlt (fun e => hne e.symm)]; exact unhideI HKB); have d1 : w2.cell? ⟨b, 1, none⟩ = some v := (by rw [Lib.cell_of_heap hb2]; rfl); have f1 : w2.frozen? ⟨b, 1, none⟩ = false := Lib.frozen_of_heap hb2 1; have HB2 := hideI hb2; obtain ⟨ao, n', cap, rfl⟩ : ∃ ao n' cap, v' = .slice ao n' cap := (by rcases hown'.2 with ⟨hv, _⟩ | ⟨g, cap, cur, hv, _⟩; exact ⟨_, _, _, hv⟩; exact ⟨_, _, _, hv⟩); clear hown' hgrow hb2)
  go_ret2
  have hk := heap_setCell (j := 1) (x := Value.slice ao n' cap) (unhideI HB2)
  have hx := unhideI O2
  have hnb : (Value.slice ao n' cap).ownBlock ≠ some b := fun e => by
    rcases hx.2 with ⟨hv, _⟩ | ⟨g, cap', cur, hv, _, hg, _⟩
    · rw [hv] at e; simp [Value.ownBlock] at e
    · rw [hv] at e; simp [Value.ownBlock] at e; subst e
      rw [unhideI HB2] at hg
      injection hg with hg
      injection hg with _ hg _
      exact absurd hg (by decide)
  refine ⟨⟨_, rfl⟩, ⟨_, p, _, hB, hk, hp, ?_, rfl, hnb⟩, ?_, ?_⟩
  · have := own_setR (j := 1) (x := Value.slice ao n' cap) hx hnb
    have e1 : Lib.byteCells (t ++ s.data.toList) = Lib.byteCells t ++ Lib.strCells s := by simp [Lib.byteCells, Lib.strCells]
    have e2 : (t ++ s.data.toList).length = t.length + s.size := by simp
    rw [e1, e2]
    exact this
  · exact ((unhideI HK1).grown (unhideI G2) (by omega) (fun k hk => ((unhideI HO).lt k hk).1)).setCell (p := ⟨b, 1, none⟩) hB _
  · exact ((unhideI HQ1).trans (Kpt.grown (X := fun k => v.ownBlock = some k) (unhideI G2) (fun _ h => h)) (Z := fun k => k = b ∨ v.ownBlock = some k) (fun _ h => .inl h) (fun _ h _ => .inr h)).trans (Kpt.setCell (X := fun k => k = b) _ _ rfl) (fun _ h => h) (fun _ h _ => .inl h)
end Go.Proofs.YtodfjomglgmffaaGreatDoor

/-
  Routines: WriteByte and String at a writer.
-/
namespace Go.Proofs.YtodfjomglgmffaaGreatDoor
open Go.RowKit
set_option linter.unusedSimpArgs false
set_option linter.unusedVariables false

theorem bt_c1 (u : World) (x : Value) (T : TypeId) : ∀ (j : Nat) y, [x][j]? = some y → (u.alloc (.cells #[x] T)).cell? ((⟨u.heap.size, 0, none⟩ : Addr).add j) = some y := by
  intro j y hj
  match j, hj with
  | 0, hj => simp at hj; subst hj; simp [Addr.add]
theorem bt_c2 (x : Int) : ∀ u ∈ [Value.int .u8 x], u.oneCell' = true := by intro u hu; simp at hu; subst hu; rfl
set_option maxHeartbeats 2000000 in
set_option maxRecDepth 100000 in
theorem writeByte_any (B b n : Nat) (t : List UInt8) (g : Option Nat) (c : UInt8) (w : World) (h : Wr w B b n t g) (hlen : t.length + 1 ≤ 1048576) (hBw : B ≤ w.heap.size) : Calls Tryz.prog 102 #[.pointer (some ⟨b, 0, none⟩), .int .u8 ((c.toNat : Nat) : Int)] w fun e w' => (∃ v, e = .returned v) ∧ (∃ g', Wr w' B b n (t ++ [c]) g') ∧ Below B w w' := by
  obtain ⟨i0, hi, hz0, hz1, hz2⟩ := info_parts Tryz.infoBt
  have CC := hideI (copyCheck_any B b n t g w h)
  go_enter Tryz.func102, Tryz.ntmps102
  go_wp2_with fail
  refine (unhideI CC).mono ?_
  rintro e w1 ⟨rfl, h1, k1, q1, s1, c0⟩
  have hBw1 : B ≤ w1.heap.size := by omega
  clear s1
  have HK1 := hideI k1
  have hlt := h1.lt
  obtain ⟨v, c1, f1, hown, hvg, hne, hB, p, hbk, hp⟩ := h1.buf
  subst hvg
  have HO := hideI hown
  have HKB := hideI hbk
  have hbl : (Lib.byteCells t).length = t.length := by simp [Lib.byteCells]
  clear CC k1 q1 h1 hown hbk h
  go_wp2_with (at_builtin; refine wpList_append_own _ rfl _ _ 59 rfl B 5 i0 (.int .u8 0) 1 1 Tryz.underlying59 hi hz0 hz1 hz2 rfl (by decide) _ _ _ rfl ((unhideI HO).alloc _) ⟨w1.heap.size, 0, none⟩ 1 1 [.int .u8 ((c.toNat : Nat) : Int)] rfl rfl (bt_c1 _ _ _) (bt_c2 _) (by unfold maxLen; omega) (by omega) (by simp; omega) ?_; intro v' w2 hown' hgrow _; have O2 := hideI hown'; have G2 := hideI hgrow; have hb2 : w2.heap[b]? = some (.cells #[p, v, .int .i64 (n : Int)] 63 (0, 0)) := (by rw [hgrow.block b (by simp; omega) (fun e => hne e.symm), Lib.alloc_old w1 _ b hlt]; exact unhideI HKB); have d1 : w2.cell? ⟨b, 1, none⟩ = some v := (by rw [Lib.cell_of_heap hb2]; rfl); have f1 : w2.frozen? ⟨b, 1, none⟩ = false := Lib.frozen_of_heap hb2 1; have HB2 := hideI hb2; obtain ⟨ao, n', cap, rfl⟩ : ∃ ao n' cap, v' = .slice ao n' cap := (by rcases hown'.2 with ⟨hv, _⟩ | ⟨g, cap, cur, hv, _⟩; exact ⟨_, _, _, hv⟩; exact ⟨_, _, _, hv⟩); clear hown' hgrow hb2)
  go_ret
  have hk := heap_setCell (j := 1) (x := Value.slice ao n' cap) (unhideI HB2)
  have hx := unhideI O2
  have hnb : (Value.slice ao n' cap).ownBlock ≠ some b := fun e => by
    rcases hx.2 with ⟨hv, _⟩ | ⟨g, cap', cur, hv, _, hg, _⟩
    · rw [hv] at e; simp [Value.ownBlock] at e
    · rw [hv] at e; simp [Value.ownBlock] at e; subst e
      rw [unhideI HB2] at hg
      injection hg with hg
      injection hg with _ hg _
      exact absurd hg (by decide)
  refine ⟨⟨_, rfl⟩, ⟨_, p, _, hB, hk, hp, ?_, rfl, hnb⟩, ?_⟩
  · have := own_setR (j := 1) (x := Value.slice ao n' cap) hx hnb
    have e1 : Lib.byteCells (t ++ [c]) = Lib.byteCells t ++ [.int .u8 ((c.toNat : Nat) : Int)] := by simp [Lib.byteCells]
    have e2 : (t ++ [c]).length = t.length + 1 := by simp
    rw [e1, e2]
    exact this
  · exact (((unhideI HK1).alloc (by omega) _).grown (unhideI G2) (by simp; omega) (fun k hk => ((unhideI HO).lt k hk).1)).setCell (p := ⟨b, 1, none⟩) hB _
set_option maxHeartbeats 2000000 in
set_option maxRecDepth 100000 in
theorem string_any (B b n : Nat) (t : List UInt8) (g : Option Nat) (w : World) (h : Wr w B b n t g) (ht : t ≠ []) (hl : t.length ≤ 1048576) : Calls Tryz.prog 16 #[.pointer (some ⟨b, 0, none⟩)] w fun e w' => e = .returned (.string ⟨t.toArray⟩) ∧ Below B w w' := by
  obtain ⟨v, _, _, hown, _, hne, hB, p, hbk, hp⟩ := h.buf
  have hl0 : t.length ≠ 0 := by simpa using ht
  obtain ⟨g, cap, cur, rfl, hbg, hg, hnc, hcm, hcs, htake⟩ : ∃ g cap cur, v = .slice (some ⟨g, 0, none⟩) t.length cap ∧ B ≤ g ∧ w.heap[g]? = some (.cells cur 5 (0, 0)) ∧ t.length ≤ cap ∧ cap ≤ maxLen ∧ cur.size = cap * 1 ∧ cur.toList.take (t.length * 1) = Lib.byteCells t := by
    rcases hown.2 with ⟨_, hz⟩ | ⟨g, cap, cur, hv, r⟩
    · exact absurd hz hl0
    · exact ⟨g, cap, cur, hv, r⟩
  have c1 : w.drew.cell? ⟨b, 1, none⟩ = some (.slice (some ⟨g, 0, none⟩) t.length cap) := by
    have : w.drew.heap[b]? = some (.cells #[p, .slice (some ⟨g, 0, none⟩) t.length cap, .int .i64 (n : Int)] 63 (0, 0)) := hbk
    rw [Lib.cell_of_heap this]; rfl
  have hSD : (Builtin.unsafeSliceData_ #[59] 94 #[.slice (some ⟨g, 0, none⟩) t.length cap]).run Tryz.prog w.drew = .ok (.pointer (some ⟨g, 0, none⟩)) w.drew :=
    Lib.run_unsafeSliceData_row _ _ _ _ _ _ (by omega)
  have hUS : (Builtin.unsafeString_ #[94, 3] 9 #[.pointer (some ⟨g, 0, none⟩), .int .i64 t.length]).run Tryz.prog w.drew = .ok (.string ⟨t.toArray⟩) (w.drew.freeze ⟨g, 0, none⟩ t.length) := by
    refine Lib.run_unsafeString_row w.drew 94 3 9 5 Tryz.underlying94 Tryz.cellsBt g cur.size (by have hg' : w.drew.heap[g]? = some (.cells cur 5 (0, 0)) := hg; simp [World.shape?, hg']) t ht (by omega) (by unfold maxLen at hcm; omega) ?_
    intro j x hx
    exact hown.cells (g := g) rfl j (.int .u8 x.toNat) (by simp [Lib.byteCells, hx])
  clear hown hbk hg htake
  have mixed : Tryz.prog.follows Departure.mixedOrders = true := by kernel_rfl
  go_enter Tryz.func16, Tryz.ntmps16
  go_wp2_with fail
  go_region_o
  all_goals (go_wp2_with fail; go_ret; exact ⟨rfl, Lib.below_freeze (Below.drew (Below.refl B w)) (p := ⟨g, 0, none⟩) hbg _⟩)
end Go.Proofs.YtodfjomglgmffaaGreatDoor
