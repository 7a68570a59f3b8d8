/-
  What the closure of a carry chain does: one word, the flags, and what is carried kept for the next call.
-/
import Derived.Test.YtmjnihepgglbdaaSum
import Derived.BigRegion
import Derived.Deep.DeepCutAuto
namespace Go.Proofs.Ytmjnihepgglbdaa
open Go.RowKit
set_option linter.unusedSimpArgs false
set_option linter.unusedVariables false

/-- Of what was there one block alone may have turned. -/
structure Only (pc : Nat) (w w' : World) : Prop where
  os : w'.os = w.os
  tape : w'.tape = w.tape
  output : w'.output = w.output
  size : w.heap.size ≤ w'.heap.size
  block : ∀ k, k < w.heap.size → k ≠ pc → w'.heap[k]? = w.heap[k]?
theorem Only.refl (pc : Nat) (w : World) : Only pc w w := ⟨rfl, rfl, rfl, Nat.le_refl _, fun _ _ _ => rfl⟩
theorem Only.trans {pc : Nat} {a b c : World} (h : Only pc a b) (k : Only pc b c) : Only pc a c :=
  ⟨k.os.trans h.os, k.tape.trans h.tape, k.output.trans h.output, Nat.le_trans h.size k.size, fun i hi hn => (k.block i (Nat.lt_of_lt_of_le hi h.size) hn).trans (h.block i hi hn)⟩
theorem Only.alloc {pc : Nat} {a w : World} (h : Only pc a w) (o : Obj) : Only pc a (w.alloc o) :=
  h.trans ⟨rfl, rfl, rfl, by simp, fun k hk _ => Below.heap_alloc _ _ _ (by omega)⟩
theorem Only.drew {pc : Nat} {a w : World} (h : Only pc a w) : Only pc a w.drew := ⟨h.os, h.tape, h.output, h.size, h.block⟩
theorem Only.setCell {pc : Nat} {a w : World} (h : Only pc a w) {p : Addr} (hp : p.block = pc ∨ a.heap.size ≤ p.block) (u : Value) : Only pc a (w.setCell p u) :=
  ⟨h.os, h.tape, h.output, by have := h.size; simp [World.setCell]; omega, fun k hk hn => by
    rw [Below.heap_setCell _ _ _ _ (by rcases hp with e | e <;> omega)]; exact h.block k hk hn⟩
theorem Only.cell {pc : Nat} {w w' : World} (h : Only pc w w') {p : Addr} (hp : p.block < w.heap.size) (hn : p.block ≠ pc) : w'.cell? p = w.cell? p := World.cell?_of_block (w := w) (h.block p.block hp hn)
theorem Only.frozen {pc : Nat} {w w' : World} (h : Only pc w w') {p : Addr} (hp : p.block < w.heap.size) (hn : p.block ≠ pc) : w'.frozen? p = w.frozen? p := World.frozen?_of_block (w := w) (h.block p.block hp hn)

/-- What lies in the memory behind the first statement. -/
structure Mid (w : World) (pc b q : Nat) (c : Bool) (o f : Bool × Bool × Bool × Bool) (u : World) : Prop where
  only : Only pc w u
  pcc : u.cell? ⟨pc, 0, none⟩ = some (.bool c)
  pcf : u.frozen? ⟨pc, 0, none⟩ = false
  b0 : u.cell? ⟨b, 0, none⟩ = some (.bool o.1)
  b1 : u.cell? ⟨b, 1, none⟩ = some (.bool o.2.1)
  b2 : u.cell? ⟨b, 2, none⟩ = some (.bool o.2.2.1)
  b3 : u.cell? ⟨b, 3, none⟩ = some (.bool o.2.2.2)
  z0 : u.frozen? ⟨b, 0, none⟩ = false
  z1 : u.frozen? ⟨b, 1, none⟩ = false
  z2 : u.frozen? ⟨b, 2, none⟩ = false
  z3 : u.frozen? ⟨b, 3, none⟩ = false
  q0 : u.cell? ⟨q, 0, none⟩ = some (.bool f.1)
  q1 : u.cell? ⟨q, 1, none⟩ = some (.bool f.2.1)
  q2 : u.cell? ⟨q, 2, none⟩ = some (.bool f.2.2.1)
  q3 : u.cell? ⟨q, 3, none⟩ = some (.bool f.2.2.2)

theorem mid_of {w : World} {pc : Nat} {c C Z N V : Bool} (t : TypeId) (o2 o3 o4 : Obj) (hp : pc < w.heap.size) (c2 : w.cell? ⟨pc, 0, none⟩ = some (.bool c)) (c3 : w.frozen? ⟨pc, 0, none⟩ = false) :
    Mid w pc w.heap.size (w.heap.size + 1 + 1 + 1 + 1) c (false, false, false, false) (C, Z, N, V) (((((w.alloc (.cells #[.bool false, .bool false, .bool false, .bool false] t)).alloc o2).alloc o3).alloc o4).alloc (.cells #[.bool C, .bool Z, .bool N, .bool V] t)) := by
  have k0 : Below (w.heap.size + 1) (w.alloc (.cells #[.bool false, .bool false, .bool false, .bool false] t)) (((((w.alloc (.cells #[.bool false, .bool false, .bool false, .bool false] t)).alloc o2).alloc o3).alloc o4).alloc (.cells #[.bool C, .bool Z, .bool N, .bool V] t)) :=
    ((((Below.refl _ _).alloc (by simp) _).alloc (by simp) _).alloc (by simp) _).alloc (by simp) _
  have k1 : Below w.heap.size w (w.alloc (.cells #[.bool false, .bool false, .bool false, .bool false] t)) := (Below.refl _ _).alloc (Nat.le_refl _) _
  refine ⟨(((((Only.refl _ _).alloc _).alloc _).alloc _).alloc _).alloc _, ?_, ?_, ?_, ?_, ?_, ?_, ?_, ?_, ?_, ?_, ?_, ?_, ?_, ?_⟩
  · rw [k0.cell (p := ⟨pc, 0, none⟩) (by show pc < _; omega), k1.cell (p := ⟨pc, 0, none⟩) hp]; exact c2
  · rw [k0.frozen (p := ⟨pc, 0, none⟩) (by show pc < _; omega), k1.frozen (p := ⟨pc, 0, none⟩) hp]; exact c3
  · rw [k0.cell (p := ⟨w.heap.size, 0, none⟩) (by simp)]; simp [go_sem]
  · rw [k0.cell (p := ⟨w.heap.size, 1, none⟩) (by simp)]; simp [go_sem]
  · rw [k0.cell (p := ⟨w.heap.size, 2, none⟩) (by simp)]; simp [go_sem]
  · rw [k0.cell (p := ⟨w.heap.size, 3, none⟩) (by simp)]; simp [go_sem]
  · rw [k0.frozen (p := ⟨w.heap.size, 0, none⟩) (by simp)]; simp [go_sem]
  · rw [k0.frozen (p := ⟨w.heap.size, 1, none⟩) (by simp)]; simp [go_sem]
  · rw [k0.frozen (p := ⟨w.heap.size, 2, none⟩) (by simp)]; simp [go_sem]
  · rw [k0.frozen (p := ⟨w.heap.size, 3, none⟩) (by simp)]; simp [go_sem]
  · simp [go_sem]
  · simp [go_sem]
  · simp [go_sem]
  · simp [go_sem]

theorem ad_ne {b b' i i' : Nat} (h : b ≠ b' ∨ i ≠ i') : (⟨b, i, none⟩ : Addr) ≠ ⟨b', i', none⟩ := fun e => by
  have h1 := congrArg Addr.block e; have h2 := congrArg Addr.off e; simp at h1 h2; omega

theorem oth {u : World} {a b : Addr} {v : Value} (h : a ≠ b) : (u.setCell a v).cell? b = u.cell? b := World.cell?_setCell_other _ _ _ _ h
theorem sam {u : World} {a : Addr} {v o : Value} (h : u.cell? a = some o) : (u.setCell a v).cell? a = some v := World.cell?_setCell_same _ _ _ h

/-- The end: the flags are copied into the result, and what is carried is kept. -/
theorem mid_end {w u : World} {pc b q : Nat} {c C Z N V o0 o1 o2 o3 : Bool} (M : Mid w pc b q c (o0, o1, o2, o3) (C, Z, N, V) u) (hb : w.heap.size ≤ b) (hp : pc < w.heap.size) (hq : q ≠ pc ∧ q ≠ b) :
    Mid w pc b q C (C, Z, N, V) (C, Z, N, V) (((((u.setCell ⟨pc, 0, none⟩ (.bool C)).setCell ⟨b, 0, none⟩ (.bool C)).setCell ⟨b, 1, none⟩ (.bool Z)).setCell ⟨b, 2, none⟩ (.bool N)).setCell ⟨b, 3, none⟩ (.bool V)) := by
  have hne : pc ≠ b := by omega
  have n0 : ∀ i, (⟨pc, 0, none⟩ : Addr) ≠ ⟨b, i, none⟩ := fun i => ad_ne (.inl hne)
  have n1 : ∀ i, (⟨b, i, none⟩ : Addr) ≠ ⟨pc, 0, none⟩ := fun i e => n0 i e.symm
  have nq : q ≠ pc ∧ q ≠ b := hq
  have m0 : ∀ i, (⟨pc, 0, none⟩ : Addr) ≠ ⟨q, i, none⟩ := fun i => ad_ne (.inl (by omega))
  have m1 : ∀ i j, (⟨b, i, none⟩ : Addr) ≠ ⟨q, j, none⟩ := fun i j => ad_ne (.inl (by omega))
  have d : ∀ i j : Nat, i ≠ j → (⟨b, i, none⟩ : Addr) ≠ ⟨b, j, none⟩ := fun i j h => ad_ne (.inr h)
  have only := ((((M.only.setCell (p := ⟨pc, 0, none⟩) (.inl rfl) (.bool C)).setCell (p := ⟨b, 0, none⟩) (.inr hb) (.bool C)).setCell (p := ⟨b, 1, none⟩) (.inr hb) (.bool Z)).setCell (p := ⟨b, 2, none⟩) (.inr hb) (.bool N)).setCell (p := ⟨b, 3, none⟩) (.inr hb) (.bool V)
  refine ⟨only, ?_, ?_, ?_, ?_, ?_, ?_, ?_, ?_, ?_, ?_, ?_, ?_, ?_, ?_⟩
  · rw [oth (n1 3), oth (n1 2), oth (n1 1), oth (n1 0)]; exact sam M.pcc
  · simp only [World.frozen?_setCell]; exact M.pcf
  · rw [oth (d 3 0 (by decide)), oth (d 2 0 (by decide)), oth (d 1 0 (by decide))]
    exact sam ((oth (n0 0)).trans M.b0)
  · rw [oth (d 3 1 (by decide)), oth (d 2 1 (by decide))]
    exact sam ((oth (d 0 1 (by decide))).trans ((oth (n0 1)).trans M.b1))
  · rw [oth (d 3 2 (by decide))]
    exact sam ((oth (d 1 2 (by decide))).trans ((oth (d 0 2 (by decide))).trans ((oth (n0 2)).trans M.b2)))
  · exact sam ((oth (d 2 3 (by decide))).trans ((oth (d 1 3 (by decide))).trans ((oth (d 0 3 (by decide))).trans ((oth (n0 3)).trans M.b3))))
  · simp only [World.frozen?_setCell]; exact M.z0
  · simp only [World.frozen?_setCell]; exact M.z1
  · simp only [World.frozen?_setCell]; exact M.z2
  · simp only [World.frozen?_setCell]; exact M.z3
  · rw [oth (m1 3 0), oth (m1 2 0), oth (m1 1 0), oth (m1 0 0), oth (m0 0)]; exact M.q0
  · rw [oth (m1 3 1), oth (m1 2 1), oth (m1 1 1), oth (m1 0 1), oth (m0 1)]; exact M.q1
  · rw [oth (m1 3 2), oth (m1 2 2), oth (m1 1 2), oth (m1 0 2), oth (m0 2)]; exact M.q2
  · rw [oth (m1 3 3), oth (m1 2 3), oth (m1 1 3), oth (m1 0 3), oth (m0 3)]; exact M.q3
theorem Mid.drew {w u : World} {pc b q : Nat} {c : Bool} {o f : Bool × Bool × Bool × Bool} (M : Mid w pc b q c o f u) : Mid w pc b q c o f u.drew :=
  ⟨M.only.drew, M.pcc, M.pcf, M.b0, M.b1, M.b2, M.b3, M.z0, M.z1, M.z2, M.z3, M.q0, M.q1, M.q2, M.q3⟩

set_option maxHeartbeats 1000000 in
theorem chained_sum (x y : Int) (c : Bool) (w : World) (pd pc : Nat) (hd : pd < w.heap.size) (hp : pc < w.heap.size)
    (c1 : w.cell? ⟨pd, 0, none⟩ = some (.func (.func 4) #[] #[])) (c2 : w.cell? ⟨pc, 0, none⟩ = some (.bool c)) (c3 : w.frozen? ⟨pc, 0, none⟩ = false) :
    Calls Try.prog 47 #[.int .i64 x, .int .i64 y, .pointer (some ⟨pd, 0, none⟩), .pointer (some ⟨pc, 0, none⟩)] w fun e w' => e = .returned (.tuple #[.int .i64 (lw (sumt x y c)), .agg #[.bool (sumt x y c != lw (sumt x y c)), .bool (lw (sumt x y c) == 0), .bool (decide (sw (lw (sumt x y c)) < 0)), .bool (sums x y c != sw (lw (sumt x y c)))]]) ∧ Only pc w w' ∧ w'.cell? ⟨pc, 0, none⟩ = some (.bool (sumt x y c != lw (sumt x y c))) ∧ w'.frozen? ⟨pc, 0, none⟩ = false := by
  have HF := hide (sum_res x y c)
  generalize (sumt x y c != lw (sumt x y c)) = C at HF
  generalize (lw (sumt x y c) == 0) = Z at HF
  generalize decide (sw (lw (sumt x y c)) < 0) = N at HF
  generalize (sums x y c != sw (lw (sumt x y c))) = V at HF
  generalize lw (sumt x y c) = r at HF
  go_enter Try.func47, Try.ntmps47
  go_upto_region 1 with fail
  go_cut [8, 9] (fun s t wx => s = .int .i64 r ∧ t = .pointer (some ⟨w.heap.size + 1 + 1 + 1 + 1, 0, none⟩) ∧ Mid w pc w.heap.size (w.heap.size + 1 + 1 + 1 + 1) c (false, false, false, false) (C, Z, N, V) wx)
  case first =>
    go_wp2_with fail
    refine (unhide HF _).mono ?_
    rintro e w1 ⟨rfl, hw⟩
    subst w1
    go_wp2_with fail
    go_meet
    exact ⟨rfl, rfl, mid_of _ _ _ _ hp c2 c3⟩
  case rest =>
    obtain ⟨rfl, rfl, M⟩ := hcut
    have e1 := M.pcc
    have e2 := M.pcf
    have e3 := M.q0
    have e4 := M.q1
    have e5 := M.q2
    have e6 := M.q3
    have g0 := M.b0
    have g1 := M.b1
    have g2 := M.b2
    have g3 := M.b3
    have y0 := M.z0
    have y1 := M.z1
    have y2 := M.z2
    have y3 := M.z3
    go_upto_region 3 with fail
    have hq : w.heap.size + 1 + 1 + 1 + 1 ≠ pc ∧ w.heap.size + 1 + 1 + 1 + 1 ≠ w.heap.size := by omega
    go_cut [6] (fun s wx => s = .int .i64 r ∧ Mid w pc w.heap.size (w.heap.size + 1 + 1 + 1 + 1) C (C, Z, N, V) (C, Z, N, V) wx)
    case first =>
      go_region
      all_goals
        go_wp2_with fail
        go_meet
        exact ⟨rfl, (mid_end M (Nat.le_refl _) hp hq).drew⟩
    case rest =>
      clear M e1 e2 e3 e4 e5 e6 g0 g1 g2 g3 y0 y1 y2 y3
      obtain ⟨rfl, M⟩ := hcut
      have g0 := M.b0
      have g1 := M.b1
      have g2 := M.b2
      have g3 := M.b3
      go_wp2
      exact bodyPost_ret (v := .tuple #[.int .i64 r, .agg #[.bool C, .bool Z, .bool N, .bool V]]) (by simp [results, Try.results47, go_sem, g0, g1, g2, g3]) rfl ⟨rfl, M.only, M.pcc, M.pcf⟩

set_option maxHeartbeats 1000000 in
theorem chained_dif (x y : Int) (c : Bool) (w : World) (pd pc : Nat) (hd : pd < w.heap.size) (hp : pc < w.heap.size)
    (c1 : w.cell? ⟨pd, 0, none⟩ = some (.func (.func 6) #[] #[])) (c2 : w.cell? ⟨pc, 0, none⟩ = some (.bool c)) (c3 : w.frozen? ⟨pc, 0, none⟩ = false) :
    Calls Try.prog 47 #[.int .i64 x, .int .i64 y, .pointer (some ⟨pd, 0, none⟩), .pointer (some ⟨pc, 0, none⟩)] w fun e w' => e = .returned (.tuple #[.int .i64 (lw (dift x y c)), .agg #[.bool (dift x y c != lw (dift x y c)), .bool (lw (dift x y c) == 0), .bool (decide (sw (lw (dift x y c)) < 0)), .bool (difs x y c != sw (lw (dift x y c)))]]) ∧ Only pc w w' ∧ w'.cell? ⟨pc, 0, none⟩ = some (.bool (dift x y c != lw (dift x y c))) ∧ w'.frozen? ⟨pc, 0, none⟩ = false := by
  have HF := hide (dif_res x y c)
  generalize (dift x y c != lw (dift x y c)) = C at HF
  generalize (lw (dift x y c) == 0) = Z at HF
  generalize decide (sw (lw (dift x y c)) < 0) = N at HF
  generalize (difs x y c != sw (lw (dift x y c))) = V at HF
  generalize lw (dift x y c) = r at HF
  go_enter Try.func47, Try.ntmps47
  go_upto_region 1 with fail
  go_cut [8, 9] (fun s t wx => s = .int .i64 r ∧ t = .pointer (some ⟨w.heap.size + 1 + 1 + 1 + 1, 0, none⟩) ∧ Mid w pc w.heap.size (w.heap.size + 1 + 1 + 1 + 1) c (false, false, false, false) (C, Z, N, V) wx)
  case first =>
    go_wp2_with fail
    refine (unhide HF _).mono ?_
    rintro e w1 ⟨rfl, hw⟩
    subst w1
    go_wp2_with fail
    go_meet
    exact ⟨rfl, rfl, mid_of _ _ _ _ hp c2 c3⟩
  case rest =>
    obtain ⟨rfl, rfl, M⟩ := hcut
    have e1 := M.pcc
    have e2 := M.pcf
    have e3 := M.q0
    have e4 := M.q1
    have e5 := M.q2
    have e6 := M.q3
    have g0 := M.b0
    have g1 := M.b1
    have g2 := M.b2
    have g3 := M.b3
    have y0 := M.z0
    have y1 := M.z1
    have y2 := M.z2
    have y3 := M.z3
    go_upto_region 3 with fail
    have hq : w.heap.size + 1 + 1 + 1 + 1 ≠ pc ∧ w.heap.size + 1 + 1 + 1 + 1 ≠ w.heap.size := by omega
    go_cut [6] (fun s wx => s = .int .i64 r ∧ Mid w pc w.heap.size (w.heap.size + 1 + 1 + 1 + 1) C (C, Z, N, V) (C, Z, N, V) wx)
    case first =>
      go_region
      all_goals
        go_wp2_with fail
        go_meet
        exact ⟨rfl, (mid_end M (Nat.le_refl _) hp hq).drew⟩
    case rest =>
      clear M e1 e2 e3 e4 e5 e6 g0 g1 g2 g3 y0 y1 y2 y3
      obtain ⟨rfl, M⟩ := hcut
      have g0 := M.b0
      have g1 := M.b1
      have g2 := M.b2
      have g3 := M.b3
      go_wp2
      exact bodyPost_ret (v := .tuple #[.int .i64 r, .agg #[.bool C, .bool Z, .bool N, .bool V]]) (by simp [results, Try.results47, go_sem, g0, g1, g2, g3]) rfl ⟨rfl, M.only, M.pcc, M.pcf⟩
end Go.Proofs.Ytmjnihepgglbdaa
