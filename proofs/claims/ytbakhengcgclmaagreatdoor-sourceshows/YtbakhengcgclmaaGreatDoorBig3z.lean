/-
  Whole numbers in memory: a block with a sign and a row; give, and what is made of a number of 64 bits.
-/
import Derived.Test.YtbakhengcgclmaaGreatDoorTyNz
import Derived.Deep.OwnRows
import Derived.Test.YtbakhengcgclmaaGreatDoorMemz
import Derived.Laws.AppendOwnNone
import Derived.OwnWalk
namespace Go.Proofs.YtbakhengcgclmaaGreatDoor
open Go.RowKit
set_option linter.unusedSimpArgs false
set_option linter.unusedVariables false

/-- Of what was there one block alone may have turned. -/
structure Tn (p : Nat) (w w' : World) : Prop where
  os : w'.os = w.os
  tape : w'.tape = w.tape
  output : w'.output = w.output
  size : w.heap.size ≤ w'.heap.size
  block : ∀ k, k < w.heap.size → k ≠ p → w'.heap[k]? = w.heap[k]?
theorem Tn.refl (p : Nat) (w : World) : Tn p w w := ⟨rfl, rfl, rfl, Nat.le_refl _, fun _ _ _ => rfl⟩
theorem Tn.trans {p : Nat} {a b c : World} (h : Tn p a b) (k : Tn p b c) : Tn p a c :=
  ⟨k.os.trans h.os, k.tape.trans h.tape, k.output.trans h.output, Nat.le_trans h.size k.size, fun i hi hn => (k.block i (Nat.lt_of_lt_of_le hi h.size) hn).trans (h.block i hi hn)⟩
theorem Tn.of {p : Nat} {w w' : World} (h : Below w.heap.size w w') : Tn p w w' := ⟨h.os, h.tape, h.output, h.size, fun k hk _ => h.block k hk⟩
theorem Tn.below {p B : Nat} {w w' : World} (h : Tn p w w') (hp : B ≤ p) (hB : B ≤ w.heap.size) : Below B w w' := ⟨h.os, h.tape, h.output, h.size, fun k hk => h.block k (by omega) (by omega)⟩
/-- A number's block. -/
def IntAt (w : World) (p : Nat) : Prop := ∃ s v, w.heap[p]? = some (.cells #[.bool s, v] 127)
/-- A number in memory. -/
def Big (w : World) (p : Nat) (z : Int) : Prop := ∃ v, w.heap[p]? = some (.cells #[.bool (decide (z < 0)), v] 127) ∧ Dg w v z.natAbs
theorem Big.int {w : World} {p : Nat} {z : Int} (h : Big w p z) : IntAt w p := by
  obtain ⟨v, h1, _⟩ := h
  exact ⟨_, v, h1⟩
theorem IntAt.lt {w : World} {p : Nat} (h : IntAt w p) : p < w.heap.size := by
  obtain ⟨s, v, h1⟩ := h
  exact (Array.getElem?_eq_some_iff.1 h1).1
theorem Big.lt {w : World} {p : Nat} {z : Int} (h : Big w p z) : p < w.heap.size := h.int.lt
theorem Big.step {w w' : World} {p : Nat} {z : Int} (h : Big w p z) (k : Below w.heap.size w w') : Big w' p z := by
  have := h.lt
  obtain ⟨v, h1, h2⟩ := h
  exact ⟨v, by rw [k.block p this]; exact h1, h2.step k⟩
theorem IntAt.step {w w' : World} {p : Nat} (h : IntAt w p) (k : Below w.heap.size w w') : IntAt w' p := by
  have := h.lt
  obtain ⟨s, v, h1⟩ := h
  exact ⟨s, v, by rw [k.block p this]; exact h1⟩
theorem Row.tn {w w' : World} {p : Nat} {v : Value} {L : List Int} (h : Row w v L) (k : Tn p w w') (hp : IntAt w p) : Row w' v L := by
  rcases h with h | ⟨d, cap, cs, fz, h1, h2, h3, h4, h5⟩
  · exact .inl h
  · refine .inr ⟨d, cap, cs, fz, h1, h2, h3, ?_, h5⟩
    rw [k.block d (Array.getElem?_eq_some_iff.1 h4).1 ?_]; exact h4
    rintro rfl
    obtain ⟨s, u, e⟩ := hp
    rw [h4] at e
    simp at e
theorem Dg.tn {w w' : World} {p : Nat} {v : Value} {n : Int} (h : Dg w v n) (k : Tn p w w') (hp : IntAt w p) : Dg w' v n := by
  obtain ⟨L, h1, h2⟩ := h
  exact ⟨L, h1.tn k hp, h2⟩
theorem Big.tn {w w' : World} {p q : Nat} {z : Int} (h : Big w q z) (k : Tn p w w') (hp : IntAt w p) (hq : q ≠ p) : Big w' q z := by
  have := h.lt
  obtain ⟨v, h1, h2⟩ := h
  exact ⟨v, by rw [k.block q this hq]; exact h1, h2.tn k hp⟩
theorem IntAt.tn {w w' : World} {p q : Nat} (h : IntAt w q) (k : Tn p w w') (hq : q ≠ p) : IntAt w' q := by
  have := h.lt
  obtain ⟨s, v, h1⟩ := h
  exact ⟨s, v, by rw [k.block q this hq]; exact h1⟩
theorem Big.new (w : World) : Big (w.alloc (.cells #[.bool false, .slice none 0 0] 127)) w.heap.size 0 := by
  refine ⟨.slice none 0 0, ?_, Dg.nil _⟩
  show (w.heap.push _)[w.heap.size]? = _
  simp
theorem Big.cells {w : World} {p : Nat} {z : Int} (h : Big w p z) : ∃ v, w.cell? ⟨p, 0, none⟩ = some (.bool (decide (z < 0))) ∧ w.cell? ⟨p, 1, none⟩ = some v ∧ Dg w v z.natAbs ∧ p < w.heap.size := by
  have hl := h.lt
  obtain ⟨v, h1, h2⟩ := h
  exact ⟨v, by simp [World.cell?, h1], by simp [World.cell?, h1], h2, hl⟩
theorem IntAt.cells {w : World} {p : Nat} (h : IntAt w p) : ∃ s v, w.cell? ⟨p, 0, none⟩ = some (.bool s) ∧ w.cell? ⟨p, 1, none⟩ = some v ∧ w.frozen? ⟨p, 0, none⟩ = false ∧ w.frozen? ⟨p, 1, none⟩ = false := by
  obtain ⟨s, v, h1⟩ := h
  exact ⟨s, v, by simp [World.cell?, h1], by simp [World.cell?, h1], by simp [World.frozen?, h1], by simp [World.frozen?, h1]⟩
/-- What give leaves. -/
theorem given {w : World} {p : Nat} {v : Value} {n z : Int} {s : Bool} (hp : IntAt w p) (hd : Dg w v n) (hs : s = decide (z < 0)) (hn : n = z.natAbs) : Tn p w ((w.setCell ⟨p, 1, none⟩ v).setCell ⟨p, 0, none⟩ (.bool s)) ∧ Big ((w.setCell ⟨p, 1, none⟩ v).setCell ⟨p, 0, none⟩ (.bool s)) p z := by
  have k : Tn p w ((w.setCell ⟨p, 1, none⟩ v).setCell ⟨p, 0, none⟩ (.bool s)) :=
    ⟨rfl, rfl, rfl, by simp [World.setCell], fun k hk hn => by rw [Below.heap_setCell _ _ _ _ hn, Below.heap_setCell _ _ _ _ hn]⟩
  refine ⟨k, v, ?_, hn ▸ hd.tn k hp⟩
  obtain ⟨s0, v0, h1⟩ := hp
  subst hs
  simp [World.setCell, Array.getElem?_modify, h1]
theorem ret_eq3 {a b : Value} (h : a = b) : Ending.returned a = .returned b := by rw [h]
/-- With its sign. -/
def sg (b : Bool) (n : Int) : Int := if b then -n else n
theorem give_any (p : Nat) (b : Bool) (v : Value) (n : Int) (w : World) (hp : IntAt w p) (hd : Dg w v n) (hn : n < 4294967296 ^ 8) :
    Calls Tryz.prog 99 #[.pointer (some ⟨p, 0, none⟩), .bool b, v] w fun e w' => e = .returned (.pointer (some ⟨p, 0, none⟩)) ∧ Tn p w w' ∧ Big w' p (sg b n) := by
  obtain ⟨ao, cap, L, rfl, hI, hl8, hr, hc1, _, _⟩ := hd.at hn
  obtain ⟨s0, v0, c0, c1, f0, f1⟩ := hp.cells
  have n0 := hI.lo
  have nz := hI.zero
  cases b
  · have GV := hide (given (s := false) (z := n) hp hd (by simp; omega) (by omega))
    have hlt := hp.lt
    clear hr hI nz hp hd
    go_enter Tryz.func99, Tryz.ntmps99
    go_wp2_with fail
    go_ret
    exact ⟨rfl, (unhide GV).1, (unhide GV).2⟩
  · have hb : decide (0 < L.length) = decide (-n < 0) := by
      by_cases h : L.length = 0
      · have := nz.1 h; simp [h]; omega
      · have : n ≠ 0 := fun e => h (nz.2 e)
        have a1 : decide (0 < L.length) = true := by simp; omega
        have a2 : decide (-n < 0) = true := by simp; omega
        rw [a1, a2]
    have GV := hide (given (s := decide (0 < L.length)) (z := -n) hp hd hb (by omega))
    have hlt := hp.lt
    clear hr hI nz hp hd hb
    go_enter Tryz.func99, Tryz.ntmps99
    go_wp2_with fail
    go_ret
    exact ⟨rfl, (unhide GV).1, (unhide GV).2⟩
theorem setU_any (p : Nat) (x : Int) (w : World) (hp : IntAt w p) (hx : U x) :
    Calls Tryz.prog 94 #[.pointer (some ⟨p, 0, none⟩), .int .u64 x] w fun e w' => e = .returned (.pointer (some ⟨p, 0, none⟩)) ∧ Tn p w w' ∧ Big w' p x := by
  have HP := hide hp
  clear hp
  go_enter Tryz.func94, Tryz.ntmps94
  go_wp2_with fail
  refine (words_any x _ hx).mono ?_
  rintro e w1 ⟨k1, v1, rfl, D1⟩
  have K1 := hide k1
  have HD := hide D1
  clear k1 D1
  go_wp2_with fail
  refine (give_any p false v1 x _ ((unhide HP).step (unhide K1)) (unhide HD) (by unfold U at hx; omega)).mono ?_
  rintro e w2 ⟨rfl, k2, b2⟩
  have K2 := hide k2
  have B2 := hide b2
  clear k2 b2
  go_wp2_with fail
  go_ret
  exact ⟨rfl, (Tn.of (unhide K1)).trans (unhide K2), unhide B2⟩
theorem whole_any (x : Int) (w : World) (hx : U x) :
    Calls Tryz.prog 76 #[.int .u64 x] w fun e w' => e = .returned (.pointer (some ⟨w.heap.size, 0, none⟩)) ∧ Below w.heap.size w w' ∧ Big w' w.heap.size x := by
  have HB := hide (Big.new w)
  have KA := hide (below_a w (.cells #[.bool false, .slice none 0 0] 127))
  go_enter Tryz.func76, Tryz.ntmps76
  go_wp2_with fail
  refine (setU_any w.heap.size x _ (unhide HB).int hx).mono ?_
  rintro e w1 ⟨rfl, k1, b1⟩
  have K1 := hide k1
  have B1 := hide b1
  clear k1 b1
  go_wp2_with fail
  go_ret
  exact ⟨rfl, (unhide KA).trans ((unhide K1).below (Nat.le_refl _) (by simp)), unhide B1⟩
def I64 (x : Int) : Prop := -9223372036854775808 ≤ x ∧ x ≤ 9223372036854775807
theorem setI_any (p : Nat) (x : Int) (w : World) (hp : IntAt w p) (hx : I64 x) :
    Calls Tryz.prog 117 #[.pointer (some ⟨p, 0, none⟩), .int .i64 x] w fun e w' => e = .returned (.pointer (some ⟨p, 0, none⟩)) ∧ Tn p w w' ∧ Big w' p x := by
  have HP := hide hp
  obtain ⟨h0, h1⟩ := hx
  clear hp
  by_cases hneg : x < 0
  · have e1 : IntKind.u64.wrap (-IntKind.u64.wrap x) = -x := by rw [u64_wrap, u64_wrap]; omega
    have e2 : (-(x + 18446744073709551616)) % 18446744073709551616 = -x := by omega
    have hb : decide (x < 0) = true := by simp [hneg]
    go_enter Tryz.func117, Tryz.ntmps117
    go_wp2_with fail
    refine (words_any (-x) _ ⟨by omega, by omega⟩).mono ?_
    rintro e w1 ⟨k1, v1, rfl, D1⟩
    have K1 := hide k1
    have HD := hide D1
    clear k1 D1
    go_wp2_with fail
    refine (give_any p true v1 (-x) _ ((unhide HP).step (unhide K1)) (unhide HD) (by omega)).mono ?_
    rintro e w2 ⟨rfl, k2, b2⟩
    have hs : sg true (-x) = x := by simp [sg]
    rw [hs] at b2
    have K2 := hide k2
    have B2 := hide b2
    clear k2 b2
    go_wp2_with fail
    go_ret
    exact ⟨rfl, (Tn.of (unhide K1)).trans (unhide K2), unhide B2⟩
  · have e1 : IntKind.u64.wrap x = x := by rw [u64_wrap]; omega
    have hb : decide (x < 0) = false := by simp; omega
    go_enter Tryz.func117, Tryz.ntmps117
    go_wp2_with fail
    refine (words_any x _ ⟨by omega, by omega⟩).mono ?_
    rintro e w1 ⟨k1, v1, rfl, D1⟩
    have K1 := hide k1
    have HD := hide D1
    clear k1 D1
    go_wp2_with fail
    refine (give_any p false v1 x _ ((unhide HP).step (unhide K1)) (unhide HD) (by omega)).mono ?_
    rintro e w2 ⟨rfl, k2, b2⟩
    have K2 := hide k2
    have B2 := hide b2
    clear k2 b2
    go_wp2_with fail
    go_ret
    exact ⟨rfl, (Tn.of (unhide K1)).trans (unhide K2), unhide B2⟩
theorem newI_any (x : Int) (w : World) (hx : I64 x) :
    Calls Tryz.prog 98 #[.int .i64 x] w fun e w' => e = .returned (.pointer (some ⟨w.heap.size, 0, none⟩)) ∧ Below w.heap.size w w' ∧ Big w' w.heap.size x := by
  have HB := hide (Big.new w)
  have KA := hide (below_a w (.cells #[.bool false, .slice none 0 0] 127))
  go_enter Tryz.func98, Tryz.ntmps98
  go_wp2_with fail
  refine (setI_any w.heap.size x _ (unhide HB).int hx).mono ?_
  rintro e w1 ⟨rfl, k1, b1⟩
  have K1 := hide k1
  have B1 := hide b1
  clear k1 b1
  go_wp2_with fail
  go_ret
  exact ⟨rfl, (unhide KA).trans ((unhide K1).below (Nat.le_refl _) (by simp)), unhide B1⟩
/-- The low 64 bits, without the sign; here of numbers that fit. -/
theorem uint_any (p : Nat) (z : Int) (w : World) (h : Big w p z) (hz : z.natAbs < 18446744073709551616) :
    Calls Tryz.prog 96 #[.pointer (some ⟨p, 0, none⟩)] w fun e w' => w' = w ∧ e = .returned (.int .u64 z.natAbs) := by
  obtain ⟨v, cs, c1, hD, hlt⟩ := h.cells
  have hn : ((z.natAbs : Nat) : Int) < 18446744073709551616 := by omega
  generalize ((z.natAbs : Nat) : Int) = n at *
  obtain ⟨ao, cap, L, rfl, hI, hl8, hr, hc1, hd, hc⟩ := hD.at (by omega)
  obtain ⟨q1, q2, q3, q4⟩ := is_two hI hn
  have g0 := hI.1.get 0
  have g1 := hI.1.get 1
  have HC := hide hc
  have HQ := hide q1
  clear hr hI hc q1 h hD hz cs
  by_cases l0 : L.length = 0
  · have := q2 l0
    subst this
    rw [l0] at c1
    go_enter Tryz.func96, Tryz.ntmps96
    go_wp2_with fail
    go_ret
    exact ⟨rfl, rfl⟩
  · obtain ⟨d, rfl, hdl⟩ := hd l0
    have k0 := unhide HC d rfl 0 (by omega)
    by_cases l1 : L.length = 1
    · have := q3 l1
      rw [l1] at c1
      clear q3 q2 g1 hd
      generalize L.getD 0 0 = x at *
      subst this
      go_enter Tryz.func96, Tryz.ntmps96
      go_wp2_with fail
      go_ret
      exact ⟨rfl, rfl⟩
    · have l2 : L.length = 2 := by omega
      have k1 := unhide HC d rfl 1 (by omega)
      have ho := or_two _ _ g0 g1
      rw [← unhide HQ] at ho
      rw [l2] at c1
      generalize L.getD 0 0 = x at *
      generalize L.getD 1 0 = y at *
      go_enter Tryz.func96, Tryz.ntmps96
      go_wp2_with fail
      go_ret
      exact ⟨rfl, rfl⟩
end Go.Proofs.YtbakhengcgclmaaGreatDoor

/-
  add and sub.
-/
namespace Go.Proofs.YtbakhengcgclmaaGreatDoor
open Go.RowKit
set_option linter.unusedSimpArgs false
set_option linter.unusedVariables false

theorem Tryz.infoU32 : (Tryz.prog.info? 148).map (fun i => (i.zero, i.size, i.bytes)) = some (some (.int .u32 0), 1, 4) := by kernel_rfl
theorem make32 (n : Nat) (hn : n ≤ 1000) (w : World) : (Instr.makeSlice 125 (.int .i64 (n : Int)) (.int .i64 (n : Int))).run Tryz.prog w = .ok (.slice (some ⟨w.heap.size, 0, none⟩) n n) (w.alloc (.cells (madeCells #[.int .u32 0] n) 148)) :=
  run_make_row' 125 148 (.int .u32 0) 4 Tryz.underlying125 Tryz.infoU32 rfl .i64 .i64 n (by omega) (by omega) w

theorem make32s (n : Nat) (hn : n ≤ 900) (w : World) : (Instr.makeSlice 125 (.int .i64 ((n : Int) + 1)) (.int .i64 ((n : Int) + 1))).run Tryz.prog w = .ok (.slice (some ⟨w.heap.size, 0, none⟩) (n + 1) (n + 1)) (w.alloc (.cells (madeCells #[.int .u32 0] (n + 1)) 148)) :=
  make32 (n + 1) (by omega) w

structure AddInv (A B R : List Int) (i : Nat) (c : Int) : Prop where
  len : R.length = A.length + 1
  wds : Wds R
  zer : ∀ j, i ≤ j → R.getD j 0 = 0
  c0 : 0 ≤ c
  c1 : c ≤ 1
  val : vl R + 4294967296 ^ i * c = vl (A.take i) + vl (B.take i)
theorem AddInv.start (A B : List Int) : AddInv A B (List.replicate (A.length + 1) 0) 0 0 :=
  ⟨by simp, wds_rep _, fun j _ => getD_rep _ j, by decide, by decide, by rw [vl_rep]; simp [vl]⟩
theorem AddInv.next {A B R : List Int} {i : Nat} {c y : Int} (h : AddInv A B R i c) (hi : i < A.length) (hA : Wds A) (hB : Wds B) (hy : y = B.getD i 0) : AddInv A B (R.set i ((c + A.getD i 0 + y) % 4294967296)) (i + 1) ((c + A.getD i 0 + y) / 4294967296) := by
  obtain ⟨h1, h2, h3, h4, h5, h6⟩ := h
  have a := hA.get i
  have b := hB.get i
  rw [← hy] at b
  have t1 := vl_take A i
  have t2 := vl_take B i
  rw [← hy] at t2
  have s1 := vl_set R i ((c + A.getD i 0 + y) % 4294967296) (by omega)
  rw [h3 i (Nat.le_refl _)] at s1
  have dm : c + A.getD i 0 + y = (c + A.getD i 0 + y) % 4294967296 + 4294967296 * ((c + A.getD i 0 + y) / 4294967296) := by omega
  refine ⟨by rw [List.length_set]; exact h1, h2.set _ (by omega), fun j hj => by rw [getD_set_ne (by omega)]; exact h3 j (by omega), by omega, by omega, ?_⟩
  rw [t1, t2, s1, Int.pow_succ]
  generalize (c + A.getD i 0 + y) % 4294967296 = r at *
  generalize (c + A.getD i 0 + y) / 4294967296 = q at *
  generalize A.getD i 0 = x at *
  generalize (4294967296 : Int) ^ i = P at *
  grind
theorem AddInv.done {A B R : List Int} {c : Int} (h : AddInv A B R A.length c) (hl : B.length ≤ A.length) : Wds (R.set A.length c) ∧ vl (R.set A.length c) = vl A + vl B := by
  obtain ⟨h1, h2, h3, h4, h5, h6⟩ := h
  refine ⟨h2.set _ (by omega), ?_⟩
  rw [vl_set _ _ _ (by omega), h3 _ (Nat.le_refl _)]
  rw [List.take_of_length_le (Nat.le_refl _), List.take_of_length_le hl] at h6
  rw [Int.sub_zero]
  exact h6
set_option maxHeartbeats 1000000 in
theorem badd_any (v1 v2 : Value) (n1 n2 : Int) (w : World) (h1 : Dg w v1 n1) (h2 : Dg w v2 n2) (hn1 : n1 < 4294967296 ^ 8) (hn2 : n2 < 4294967296 ^ 8) :
    Calls Tryz.prog 118 #[v1, v2] w fun e w' => Below w.heap.size w w' ∧ ∃ v', e = .returned v' ∧ Dg w' v' (n1 + n2) := by
  obtain ⟨L1, r1, i1⟩ := h1
  obtain ⟨L2, r2, i2⟩ := h2
  by_cases hlen : L1.length < L2.length
  · obtain ⟨LA, hLA⟩ : ∃ LA, LA = L2 := ⟨_, rfl⟩
    obtain ⟨LB, hLB⟩ : ∃ LB, LB = L1 := ⟨_, rfl⟩
    rw [← hLA] at r2 i2 hlen
    rw [← hLB] at r1 i1 hlen
    have rA := r2
    have rB := r1
    have iA := i2
    have iB := i1
    have hA := hn2
    have hB := hn1
    clear r1 r2 i1 i2 hn1 hn2 hLA hLB L1 L2
    have lA := iA.len 8 hA
    have lB := iB.len 8 hB
    obtain ⟨aoA, capA, rfl, _, _, _, hA4, hA5, hA6⟩ := rA.at
    obtain ⟨aoB, capB, rfl, _, _, _, hB4, hB5, hB6⟩ := rB.at
    have HRA := hide (fun d (he : aoA = some ⟨d, 0, none⟩) => And.intro (hA4 d 0 none he).2.2 (hA6 d he))
    have HRB := hide (fun d (he : aoB = some ⟨d, 0, none⟩) => And.intro (hB4 d 0 none he).2.2 (hB6 d he))
    have HA5 := hide hA5
    have HB5 := hide hB5
    have IA := hide iA
    have IB := hide iB
    clear hA4 hA5 hA6 hB4 hB5 hB6 rA rB iA iB
    have hle : LB.length ≤ LA.length := by omega
    have hlb : decide ((LB.length : Int) < (LA.length : Int)) = true := by simp; omega
    go_enter Tryz.func118, Tryz.ntmps118
    have O0 := hide (Own32.new w (LA.length + 1))
    have K0 := hide (below_a w (.cells (madeCells #[.int .u32 0] (LA.length + 1)) 148))
    have hmk := make32s LA.length (by omega)
    go_wp2_with fail
    clear hmk
    go_loopg [6, 7] LA.length (fun g c t wr => ∃ (i : Nat) (cc : Int) (R : List Int), i ≤ LA.length ∧ g = LA.length - i ∧ c = .int .u64 cc ∧ t = .int .i64 i ∧ Hid (Own32 wr w.heap.size R) ∧ Hid (Below w.heap.size w wr) ∧ Hid (AddInv LA LB R i cc))
    case atStart => exact ⟨0, 0, _, Nat.zero_le _, by simp, rfl, rfl, O0, K0, AddInv.start LA LB⟩
    case round =>
      obtain ⟨i, cc, R, hi, hg, rfl, rfl, hO, hK, hI⟩ := hrel
      clear O0 K0
      have hz := (unhide hK).size
      have hlt := (unhide hO).lt
      have cc0 := (unhide hI).c0
      have cc1 := (unhide hI).c1
      have hRl := hide (unhide hI).len
      have hf := (unhide hO).frozen i
      by_cases hlt2 : i < LA.length
      · obtain ⟨dA, rfl⟩ := unhide HA5 (by omega)
        obtain ⟨hdA, hcA⟩ := unhide HRA dA rfl
        have cA := cell_keep (unhide hK) hdA (hcA i hlt2)
        have gA := (unhide IA).1.get i
        have cR := (unhide hO).cell i (by have := unhide hRl; omega)
        have hne : dA ≠ w.heap.size := by omega
        have hiA : (i : Int) < (LA.length : Int) := by omega
        have hiR : (i : Int) < (LA.length : Int) + 1 := by omega
        clear hcA
        by_cases hb : i < LB.length
        · obtain ⟨dB, rfl⟩ := unhide HB5 (by omega)
          obtain ⟨hdB, hcB⟩ := unhide HRB dB rfl
          have cB := cell_keep (unhide hK) hdB (hcB i hb)
          have gB := (unhide IB).1.get i
          have hiB : (i : Int) < (LB.length : Int) := by omega
          have NX := hide ((unhide hI).next hlt2 (unhide IA).1 (unhide IB).1 (y := LB.getD i 0) rfl)
          have OX := hide ((unhide hO).set i ((cc + LA.getD i 0 + LB.getD i 0) % 4294967296) (by have := unhide hRl; omega))
          have KX := hide ((unhide hK).setCell (p := ⟨w.heap.size, i, none⟩) (Nat.le_refl _) (.int .u32 ((cc + LA.getD i 0 + LB.getD i 0) % 4294967296)))
          clear hcB
          generalize LA.getD i 0 = x at *
          generalize LB.getD i 0 = y at *
          generalize R.getD i 0 = z at *
          go_wp2_with fail
          go_roundg (LA.length - (i + 1))
          case measure => omega
          case rel => exact ⟨i + 1, _, _, by omega, rfl, rfl, by go_num, OX, KX, NX⟩
        · have hib : decide ((i : Int) < (LB.length : Int)) = false := by simp; omega
          have NX := hide ((unhide hI).next hlt2 (unhide IA).1 (unhide IB).1 (y := 0) (by rw [List.getD_eq_getElem?_getD, List.getElem?_eq_none (by omega)]; rfl))
          rw [Int.add_zero] at NX
          have OX := hide ((unhide hO).set i ((cc + LA.getD i 0) % 4294967296) (by have := unhide hRl; omega))
          have KX := hide ((unhide hK).setCell (p := ⟨w.heap.size, i, none⟩) (Nat.le_refl _) (.int .u32 ((cc + LA.getD i 0) % 4294967296)))
          generalize LA.getD i 0 = x at *
          generalize R.getD i 0 = z at *
          go_wp2_with fail
          go_roundg (LA.length - (i + 1))
          case measure => omega
          case rel => exact ⟨i + 1, _, _, by omega, rfl, rfl, by go_num, OX, KX, NX⟩
      · have hiA : i = LA.length := by omega
        subst hiA
        have cR := (unhide hO).cell LA.length (by have := unhide hRl; omega)
        have DN := hide ((unhide hI).done hle)
        have OX := hide ((unhide hO).set LA.length cc (by have := unhide hRl; omega))
        have KX := hide ((unhide hK).setCell (p := ⟨w.heap.size, LA.length, none⟩) (Nat.le_refl _) (.int .u32 cc))
        have hRX : (R.set LA.length cc).length = LA.length + 1 := by rw [List.length_set]; exact unhide hRl
        have RW := (unhide OX).row (by rw [hRX]; unfold maxLen; omega)
        have TR := trim_any _ _ _ RW (unhide DN).1 (by rw [hRX]; omega)
        rw [hRX, (unhide DN).2, (unhide IA).2.2, (unhide IB).2.2] at TR
        have HT := hide TR
        clear TR RW hRX
        generalize R.getD LA.length 0 = z at *
        go_wp2_with fail
        refine (unhide HT).mono ?_
        rintro e w1 ⟨rfl, v1, rfl, D1⟩
        have HD := hide D1
        clear D1
        go_wp2_with fail
        go_ret
        exact ⟨unhide KX, _, rfl, by first | exact unhide HD | exact Int.add_comm n2 n1 ▸ unhide HD⟩
  · obtain ⟨LA, hLA⟩ : ∃ LA, LA = L1 := ⟨_, rfl⟩
    obtain ⟨LB, hLB⟩ : ∃ LB, LB = L2 := ⟨_, rfl⟩
    rw [← hLA] at r1 i1 hlen
    rw [← hLB] at r2 i2 hlen
    have rA := r1
    have rB := r2
    have iA := i1
    have iB := i2
    have hA := hn1
    have hB := hn2
    clear r1 r2 i1 i2 hn1 hn2 hLA hLB L1 L2
    have lA := iA.len 8 hA
    have lB := iB.len 8 hB
    obtain ⟨aoA, capA, rfl, _, _, _, hA4, hA5, hA6⟩ := rA.at
    obtain ⟨aoB, capB, rfl, _, _, _, hB4, hB5, hB6⟩ := rB.at
    have HRA := hide (fun d (he : aoA = some ⟨d, 0, none⟩) => And.intro (hA4 d 0 none he).2.2 (hA6 d he))
    have HRB := hide (fun d (he : aoB = some ⟨d, 0, none⟩) => And.intro (hB4 d 0 none he).2.2 (hB6 d he))
    have HA5 := hide hA5
    have HB5 := hide hB5
    have IA := hide iA
    have IB := hide iB
    clear hA4 hA5 hA6 hB4 hB5 hB6 rA rB iA iB
    have hle : LB.length ≤ LA.length := by omega
    have hlb : decide ((LA.length : Int) < (LB.length : Int)) = false := by simp; omega
    go_enter Tryz.func118, Tryz.ntmps118
    have O0 := hide (Own32.new w (LA.length + 1))
    have K0 := hide (below_a w (.cells (madeCells #[.int .u32 0] (LA.length + 1)) 148))
    have hmk := make32s LA.length (by omega)
    go_wp2_with fail
    clear hmk
    go_loopg [6, 7] LA.length (fun g c t wr => ∃ (i : Nat) (cc : Int) (R : List Int), i ≤ LA.length ∧ g = LA.length - i ∧ c = .int .u64 cc ∧ t = .int .i64 i ∧ Hid (Own32 wr w.heap.size R) ∧ Hid (Below w.heap.size w wr) ∧ Hid (AddInv LA LB R i cc))
    case atStart => exact ⟨0, 0, _, Nat.zero_le _, by simp, rfl, rfl, O0, K0, AddInv.start LA LB⟩
    case round =>
      obtain ⟨i, cc, R, hi, hg, rfl, rfl, hO, hK, hI⟩ := hrel
      clear O0 K0
      have hz := (unhide hK).size
      have hlt := (unhide hO).lt
      have cc0 := (unhide hI).c0
      have cc1 := (unhide hI).c1
      have hRl := hide (unhide hI).len
      have hf := (unhide hO).frozen i
      by_cases hlt2 : i < LA.length
      · obtain ⟨dA, rfl⟩ := unhide HA5 (by omega)
        obtain ⟨hdA, hcA⟩ := unhide HRA dA rfl
        have cA := cell_keep (unhide hK) hdA (hcA i hlt2)
        have gA := (unhide IA).1.get i
        have cR := (unhide hO).cell i (by have := unhide hRl; omega)
        have hne : dA ≠ w.heap.size := by omega
        have hiA : (i : Int) < (LA.length : Int) := by omega
        have hiR : (i : Int) < (LA.length : Int) + 1 := by omega
        clear hcA
        by_cases hb : i < LB.length
        · obtain ⟨dB, rfl⟩ := unhide HB5 (by omega)
          obtain ⟨hdB, hcB⟩ := unhide HRB dB rfl
          have cB := cell_keep (unhide hK) hdB (hcB i hb)
          have gB := (unhide IB).1.get i
          have hiB : (i : Int) < (LB.length : Int) := by omega
          have NX := hide ((unhide hI).next hlt2 (unhide IA).1 (unhide IB).1 (y := LB.getD i 0) rfl)
          have OX := hide ((unhide hO).set i ((cc + LA.getD i 0 + LB.getD i 0) % 4294967296) (by have := unhide hRl; omega))
          have KX := hide ((unhide hK).setCell (p := ⟨w.heap.size, i, none⟩) (Nat.le_refl _) (.int .u32 ((cc + LA.getD i 0 + LB.getD i 0) % 4294967296)))
          clear hcB
          generalize LA.getD i 0 = x at *
          generalize LB.getD i 0 = y at *
          generalize R.getD i 0 = z at *
          go_wp2_with fail
          go_roundg (LA.length - (i + 1))
          case measure => omega
          case rel => exact ⟨i + 1, _, _, by omega, rfl, rfl, by go_num, OX, KX, NX⟩
        · have hib : decide ((i : Int) < (LB.length : Int)) = false := by simp; omega
          have NX := hide ((unhide hI).next hlt2 (unhide IA).1 (unhide IB).1 (y := 0) (by rw [List.getD_eq_getElem?_getD, List.getElem?_eq_none (by omega)]; rfl))
          rw [Int.add_zero] at NX
          have OX := hide ((unhide hO).set i ((cc + LA.getD i 0) % 4294967296) (by have := unhide hRl; omega))
          have KX := hide ((unhide hK).setCell (p := ⟨w.heap.size, i, none⟩) (Nat.le_refl _) (.int .u32 ((cc + LA.getD i 0) % 4294967296)))
          generalize LA.getD i 0 = x at *
          generalize R.getD i 0 = z at *
          go_wp2_with fail
          go_roundg (LA.length - (i + 1))
          case measure => omega
          case rel => exact ⟨i + 1, _, _, by omega, rfl, rfl, by go_num, OX, KX, NX⟩
      · have hiA : i = LA.length := by omega
        subst hiA
        have cR := (unhide hO).cell LA.length (by have := unhide hRl; omega)
        have DN := hide ((unhide hI).done hle)
        have OX := hide ((unhide hO).set LA.length cc (by have := unhide hRl; omega))
        have KX := hide ((unhide hK).setCell (p := ⟨w.heap.size, LA.length, none⟩) (Nat.le_refl _) (.int .u32 cc))
        have hRX : (R.set LA.length cc).length = LA.length + 1 := by rw [List.length_set]; exact unhide hRl
        have RW := (unhide OX).row (by rw [hRX]; unfold maxLen; omega)
        have TR := trim_any _ _ _ RW (unhide DN).1 (by rw [hRX]; omega)
        rw [hRX, (unhide DN).2, (unhide IA).2.2, (unhide IB).2.2] at TR
        have HT := hide TR
        clear TR RW hRX
        generalize R.getD LA.length 0 = z at *
        go_wp2_with fail
        refine (unhide HT).mono ?_
        rintro e w1 ⟨rfl, v1, rfl, D1⟩
        have HD := hide D1
        clear D1
        go_wp2_with fail
        go_ret
        exact ⟨unhide KX, _, rfl, by first | exact unhide HD | exact Int.add_comm n2 n1 ▸ unhide HD⟩
end Go.Proofs.YtbakhengcgclmaaGreatDoor

/-
  append of a slice that lies somewhere, nil or not, onto a row of the call's own.
-/
namespace Go.Proofs.YtbakhengcgclmaaGreatDoor
open Go.RowKit
set_option linter.unusedSimpArgs false
set_option linter.unusedVariables false

theorem append_lies {P : Program} {w : World} {ops : Array Oper} {rest : List Oper} {o : Oper} {a : Act} {Q : Exit → Act → World → Prop} (hgd : o.guard = none) (s x : Operand) (t : TypeId)
    (ho : o.op = .call { callee := .builtin .append, args := #[s, x], argTypes := #[t, t] })
    (base : Nat) (e : TypeId) (i : TypeInfo) (z : Value) (size bytes : Nat) (ht : P.underlying t = some (.slice e)) (hi : P.info? e = some i) (hz : i.zero = some z)
    (hsize : i.size = size) (hby : i.bytes = bytes) (hzs : z.cells.size = size) (hsz : 0 < size)
    (v : Value) (n : Nat) (xs : List Value) (hs : a.eval s = v) (hown : w.ownsRow base e size v n xs)
    (vx : Value) (m : Nat) (news : List Value) (hx : a.eval x = vx) (hl : Lies w size vx m news) (h1 : ∀ u ∈ news, u.oneCell' = true)
    (h63 : n + m ≤ maxLen) (hbytes : (n + m) * bytes ≤ 140737488355328) (hbase : base ≤ w.heap.size)
    (h : ∀ v' w', w'.ownsRow base e size v' (n + m) (xs ++ news) → w.grownBy w' v.ownBlock → wpList P ops Q rest (a.put o.dst v') w') : wpList P ops Q (o :: rest) a w := by
  rcases hl.src with ⟨rfl, rfl, rfl⟩ | ⟨ad, cap, rfl, hlen, hc⟩
  · exact wpList_append_own_none hgd s x t ho base e i size ht hi v n xs hs hown hx (h v w (by simpa using hown) (World.grownBy.refl _ _))
  · exact wpList_append_own w hgd s x t ho base e i z size bytes ht hi hz hsize hby hzs hsz v n xs hs hown ad m cap news hx hlen hc h1 h63 hbytes hbase fun v' w' k1 k2 _ => h v' w' k1 k2
end Go.Proofs.YtbakhengcgclmaaGreatDoor
