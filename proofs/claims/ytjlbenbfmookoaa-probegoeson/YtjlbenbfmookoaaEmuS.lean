/-
  What any instruction does, and one step.
-/
import Derived.Test.YtjlbenbfmookoaaEmuD0
import Derived.Test.YtjlbenbfmookoaaEmuD1
import Derived.Test.YtjlbenbfmookoaaEmuD2
import Derived.Test.YtjlbenbfmookoaaEmuD3
import Derived.Test.YtjlbenbfmookoaaEmuD4
import Derived.Test.YtjlbenbfmookoaaEmuD5
import Derived.Test.YtjlbenbfmookoaaInsO
namespace Go.Proofs.Ytjlbenbfmookoaa
open Go.RowKit
set_option linter.unusedSimpArgs false
set_option linter.unusedVariables false
variable {X : Sd}

theorem do_any {w0 w : World} {p q : Nat} {vc vi vo : Value} {m : Ma} {xs bs : List Int} (h : Mach X w0 w p q vc vi vo m xs bs) (i : Ins) (ho : 0 ≤ i.o) (ho' : i.o ≤ 32) (hd : 0 ≤ i.d) (hd' : i.d ≤ 7) (hs : 0 ≤ i.s) (hs' : i.s ≤ 7) (hm : wd i.m) :
    Calls Try.prog 67 #[.pointer (some ⟨p, 0, none⟩), agg i] w fun e w' => ∃ vo', e = .returned (.tuple #[]) ∧ Mach X w0 w' p q vc vi vo' (m.act i bs) xs bs := by
  obtain ⟨o, d, s, mm⟩ := i
  unfold agg
  dsimp only at *
  have hc : o = 0 ∨ o = 1 ∨ o = 2 ∨ o = 3 ∨ o = 4 ∨ o = 5 ∨ o = 6 ∨ o = 7 ∨ o = 8 ∨ o = 9 ∨ o = 10 ∨ o = 11 ∨ o = 12 ∨ o = 13 ∨ o = 14 ∨ o = 15 ∨ o = 16 ∨ o = 17 ∨ o = 18 ∨ o = 19 ∨ o = 20 ∨ o = 21 ∨ o = 22 ∨ o = 23 ∨ o = 24 ∨ o = 25 ∨ o = 26 ∨ o = 27 ∨ o = 28 ∨ o = 29 ∨ o = 30 ∨ o = 31 ∨ o = 32 := by omega
  rcases hc with rfl | rfl | rfl | rfl | rfl | rfl | rfl | rfl | rfl | rfl | rfl | rfl | rfl | rfl | rfl | rfl | rfl | rfl | rfl | rfl | rfl | rfl | rfl | rfl | rfl | rfl | rfl | rfl | rfl | rfl | rfl | rfl | rfl
  · exact do0 h d s mm hd hd' hs hs' hm
  · exact do1 h d s mm hd hd' hs hs' hm
  · exact do2 h d s mm hd hd' hs hs' hm
  · exact do3 h d s mm hd hd' hs hs' hm
  · exact do4 h d s mm hd hd' hs hs' hm
  · exact do5 h d s mm hd hd' hs hs' hm
  · exact do6 h d s mm hd hd' hs hs' hm
  · exact do7 h d s mm hd hd' hs hs' hm
  · exact do8 h d s mm hd hd' hs hs' hm
  · exact do9 h d s mm hd hd' hs hs' hm
  · exact do10 h d s mm hd hd' hs hs' hm
  · exact do11 h d s mm hd hd' hs hs' hm
  · exact do12 h d s mm hd hd' hs hs' hm
  · exact do13 h d s mm hd hd' hs hs' hm
  · exact do14 h d s mm hd hd' hs hs' hm
  · exact do15 h d s mm hd hd' hs hs' hm
  · exact do16 h d s mm hd hd' hs hs' hm
  · exact do17 h d s mm hd hd' hs hs' hm
  · exact do18 h d s mm hd hd' hs hs' hm
  · exact do19 h d s mm hd hd' hs hs' hm
  · exact do20 h d s mm hd hd' hs hs' hm
  · exact do21 h d s mm hd hd' hs hs' hm
  · exact do22 h d s mm hd hd' hs hs' hm
  · exact do23 h d s mm hd hd' hs hs' hm
  · exact do24 h d s mm hd hd' hs hs' hm
  · exact do25 h d s mm hd hd' hs hs' hm
  · exact do26 h d s mm hd hd' hs hs' hm
  · exact do27 h d s mm hd hd' hs hs' hm
  · exact do28 h d s mm hd hd' hs hs' hm
  · exact do29 h d s mm hd hd' hs hs' hm
  · exact do30 h d s mm hd hd' hs hs' hm
  · exact do31 h d s mm hd hd' hs hs' hm
  · exact do32 h d s mm hd hd' hs hs' hm

/-- What stands at a place is right. -/
theorem fit_ok {i : Ins} {x : Int} (h : fit i x = true) : wrg i = 0 := by unfold fit at h; simp at h; exact h.1
theorem one_ok (l : List Int) (h : (one l).2 ≠ 0) : 0 ≤ (one l).1.o ∧ (one l).1.o ≤ 32 ∧ 0 ≤ (one l).1.d ∧ (one l).1.d ≤ 7 ∧ 0 ≤ (one l).1.s ∧ (one l).1.s ≤ 7 ∧ wd (one l).1.m ∧ 1 ≤ (one l).2 ∧ (one l).2 ≤ 2 := by
  match l with
  | [] => exact absurd rfl h
  | x :: r =>
    by_cases hi : hI (x / 1024) = true
    · match r with
      | [] => rw [one_end hi] at h; exact absurd rfl h
      | y :: r =>
        rw [one_two hi] at h ⊢
        by_cases hf : fit (with2 x y) x = true
        · rw [if_pos hf] at h ⊢
          have hw := fit_ok hf
          obtain ⟨a, b, _, _, c⟩ := wr_fields hw
          have := c hi
          have e1 : (with2 x y).d = x / 128 % 8 := rfl
          have e2 : (with2 x y).s = x / 16 % 8 := rfl
          refine ⟨a, b, ?_, ?_, ?_, ?_, this, ?_, ?_⟩ <;> simp only [e1, e2] <;> omega
        · rw [if_neg hf] at h; exact absurd rfl h
    · rw [one_one hi] at h ⊢
      by_cases hf : fit (with2 x 0) x = true
      · rw [if_pos hf] at h ⊢
        have hw := fit_ok hf
        obtain ⟨a, b, _, _, c⟩ := wr_fields hw
        have e1 : (with2 x 0).d = x / 128 % 8 := rfl
        have e2 : (with2 x 0).s = x / 16 % 8 := rfl
        refine ⟨a, b, ?_, ?_, ?_, ?_, (by show (0:Int) ≤ 0 ∧ (0:Int) ≤ 65535; omega), ?_, ?_⟩ <;> simp only [e1, e2] <;> omega
      · rw [if_neg hf] at h; exact absurd rfl h
theorem oneA_ok (l : List Int) (k : Int) (h : (oneA l k).2 ≠ 0) : 0 ≤ (oneA l k).1.o ∧ (oneA l k).1.o ≤ 32 ∧ 0 ≤ (oneA l k).1.d ∧ (oneA l k).1.d ≤ 7 ∧ 0 ≤ (oneA l k).1.s ∧ (oneA l k).1.s ≤ 7 ∧ wd (oneA l k).1.m ∧ 1 ≤ (oneA l k).2 ∧ (oneA l k).2 ≤ 2 := by
  unfold oneA at *
  split
  · rename_i hk; rw [if_pos hk] at h; exact one_ok _ h
  · rename_i hk; rw [if_neg hk] at h; exact absurd rfl h

/-- Whoever has blocks besides. -/
theorem Mach.reside {w0 w : World} {p q : Nat} {vc vi vo : Value} {m : Ma} {xs bs : List Int} (h : Mach X w0 w p q vc vi vo m xs bs) (Y : Nat → Prop) (hY : ∀ b, b < w.heap.size → Y b → b ≠ p ∧ b ≠ q ∧ vo.ownBlock ≠ some b) : Mach ⟨w, Y⟩ w0 w p q vc vi vo m xs bs where
  box := h.box
  hp := h.hp
  hq := h.hq
  hpq := h.hpq
  hqw := h.hqw
  mem := h.mem
  frz := h.frz
  code := h.code
  inp := h.inp
  low := h.low
  own := h.own
  ho := h.ho
  fine := h.fine
  side := ⟨Nat.le_refl _, fun b hb hy => ⟨(hY b hb hy).1, (hY b hb hy).2.1, (hY b hb hy).2.2, rfl⟩⟩
theorem Mach.back {Y : Nat → Prop} {w0 w w' : World} {p q : Nat} {vc vi vo vo' : Value} {m m' : Ma} {xs bs : List Int} (h : Mach X w0 w p q vc vi vo m xs bs) (h' : Mach ⟨w, Y⟩ w0 w' p q vc vi vo' m' xs bs) (hY : ∀ b, b < X.u.heap.size → X.Y b → Y b) : Mach X w0 w' p q vc vi vo' m' xs bs where
  box := h'.box
  hp := h'.hp
  hq := h'.hq
  hpq := h'.hpq
  hqw := h'.hqw
  mem := h'.mem
  frz := h'.frz
  code := h'.code
  inp := h'.inp
  low := h'.low
  own := h'.own
  ho := h'.ho
  fine := h'.fine
  side := ⟨Nat.le_trans h.side.1 h'.side.1, fun b hb hy => by
    obtain ⟨a1, a2, a3, a4⟩ := h'.side.2 b (Nat.lt_of_lt_of_le hb h.side.1) (hY b hb hy)
    exact ⟨a1, a2, a3, a4.trans (h.side.2 b hb hy).2.2.2⟩⟩
theorem Mach.sideBox {Y : Nat → Prop} {w0 w w' : World} {p q b : Nat} {vc vi vo : Value} {m : Ma} {xs bs : List Int} {cs : List Value} (h : Mach ⟨w, Y⟩ w0 w' p q vc vi vo m xs bs) (k : Box w b cs) (hy : Y b) : Box w' b cs :=
  ⟨Nat.lt_of_lt_of_le k.1 h.side.1, fun j u hu => by rw [World.cell?_of_block (w := w) (a := ⟨b, j, none⟩) (h.side.2 b k.1 hy).2.2.2]; exact k.2.1 j u hu, fun j => by rw [World.frozen?_of_block (w := w) (a := ⟨b, j, none⟩) (h.side.2 b k.1 hy).2.2.2]; exact k.2.2 j⟩
theorem Mach.sep2 {Y : Nat → Prop} {w0 w w' : World} {p q b : Nat} {vc vi vo : Value} {m : Ma} {xs bs : List Int} (h : Mach ⟨w, Y⟩ w0 w' p q vc vi vo m xs bs) (hb : b < w.heap.size) (hy : Y b) : vo.ownBlock ≠ some b ∧ b < w.heap.size :=
  ⟨(h.side.2 b hb hy).2.2.1, hb⟩
theorem Mach.voLt {w0 w : World} {p q : Nat} {vc vi vo : Value} {m : Ma} {xs bs : List Int} (h : Mach X w0 w p q vc vi vo m xs bs) : ∀ k, vo.ownBlock = some k → k < w.heap.size := fun k hk => by
  rcases h.own.2 with ⟨rfl, -⟩ | ⟨g, cap, cur, rfl, -, hg, -⟩
  · cases hk
  · have e : g = k := by simpa [Value.ownBlock] using hk
    subst e
    exact (Array.getElem?_eq_some_iff.1 hg).1
/-- A cell of another's block is set. -/
theorem Mach.oth {w0 w : World} {p q b j : Nat} {v : Value} {vc vi vo : Value} {m : Ma} {xs bs : List Int} (h : Mach X w0 w p q vc vi vo m xs bs) (hp : b ≠ p) (hq : b ≠ q) (hw : w0.heap.size ≤ b) (ho : vo.ownBlock ≠ some b) (hx : X.u.heap.size ≤ b) : Mach X w0 (w.setCell ⟨b, j, none⟩ v) p q vc vi vo m xs bs where
  box := h.box.other (Ne.symm hp)
  hp := h.hp
  hq := h.hq
  hpq := h.hpq
  hqw := by have := h.hqw; simpa [World.setCell] using this
  mem := fun k hk => by rw [World.cell?_of_block (w := w) (a := ⟨q, k, none⟩) (Below.heap_setCell _ _ _ _ (Ne.symm hq))]; exact h.mem k hk
  frz := fun k => by rw [World.frozen?_setCell]; exact h.frz k
  code := h.code
  inp := h.inp
  low := h.low.setCell hw _
  own := own_set h.own fun k hk e => ho (by rw [hk, e])
  ho := h.ho
  fine := h.fine
  side := ⟨by have := h.side.1; simpa [World.setCell] using this, fun c hc hy => by
    obtain ⟨a1, a2, a3, a4⟩ := h.side.2 c hc hy
    exact ⟨a1, a2, a3, by rw [Below.heap_setCell _ _ _ _ (by show c ≠ b; omega)]; exact a4⟩⟩
theorem Mach.oth4 {w0 w : World} {p q b : Nat} {v0 v1 v2 v3 : Value} {vc vi vo : Value} {m : Ma} {xs bs : List Int} (h : Mach X w0 w p q vc vi vo m xs bs) (hp : b ≠ p) (hq : b ≠ q) (hw : w0.heap.size ≤ b) (ho : vo.ownBlock ≠ some b) (hx : X.u.heap.size ≤ b) : Mach X w0 ((((w.setCell ⟨b, 0, none⟩ v0).setCell ⟨b, 1, none⟩ v1).setCell ⟨b, 2, none⟩ v2).setCell ⟨b, 3, none⟩ v3) p q vc vi vo m xs bs :=
  (((h.oth hp hq hw ho hx).oth hp hq hw ho hx).oth hp hq hw ho hx).oth hp hq hw ho hx
theorem Box.four0 {w : World} {b : Nat} {a0 a1 a2 a3 : Value} (h : Box w b [a0, a1, a2, a3]) (b0 b1 b2 b3 : Value) : Box ((((w.setCell ⟨b, 0, none⟩ b0).setCell ⟨b, 1, none⟩ b1).setCell ⟨b, 2, none⟩ b2).setCell ⟨b, 3, none⟩ b3) b [b0, b1, b2, b3] :=
  (((h.set (j := 0) (u := b0) (by simp)).set (j := 1) (u := b1) (by simp)).set (j := 2) (u := b2) (by simp)).set (j := 3) (u := b3) (by simp)

set_option maxRecDepth 100000 in
set_option maxHeartbeats 2000000 in
theorem step_any {w0 w : World} {p q : Nat} {vc vi vo : Value} {m : Ma} {xs bs : List Int} (h : Mach X w0 w p q vc vi vo m xs bs) (ht : 0 ≤ m.took) (ht' : m.took ≤ 1000000) :
    Calls Try.prog 57 #[.pointer (some ⟨p, 0, none⟩)] w fun e w' => ∃ vo', e = .returned (.tuple #[agg (oneA xs m.pc).1, .bool (decide (¬ (oneA xs m.pc).2 = 0))]) ∧ Mach X w0 w' p q vc vi vo' (m.step xs bs) xs bs := by
  have hpc := h.fine.pc
  have bp : Hid (w.heap.size ≠ p ∧ w.heap.size ≠ q ∧ w0.heap.size ≤ w.heap.size ∧ X.u.heap.size ≤ w.heap.size) := ⟨by have := h.pw; omega, by have := h.hqw; omega, h.low.size, h.side.1⟩
  have hvb : Hid (∀ k, vo.ownBlock = some k → k < w.heap.size) := h.voLt
  have IC : Hid (Ints w0 vc xs) := h.code
  have OK := hideI (oneA_ok xs m.pc)
  have hst : Hid (m.step xs bs = if (oneA xs m.pc).2 = 0 then { m with took := m.took + 1, how := 4 } else if (({ m with took := m.took + 1, pc := lw (m.pc + (oneA xs m.pc).2) } : Ma).act (oneA xs m.pc).1 bs).how = 0 then (({ m with took := m.took + 1, pc := lw (m.pc + (oneA xs m.pc).2) } : Ma).act (oneA xs m.pc).1 bs) else { ({ m with took := m.took + 1, pc := lw (m.pc + (oneA xs m.pc).2) } : Ma).act (oneA xs m.pc).1 bs with pc := m.pc }) := by unfold Hid; rfl
  rw [unhideI hst]
  clear hst
  have hwr := wrap_ok (x := m.took + 1) (by omega) (by omega)
  have Z1 := hideI (Box.new w #[.int .i64 0, .int .i64 0, .int .i64 0, .int .i64 0] 49)
  have M1 := hideI (h.new (.cells #[.int .i64 0, .int .i64 0, .int .i64 0, .int .i64 0] 49))
  clear h
  generalize hW1 : w.alloc (.cells #[.int .i64 0, .int .i64 0, .int .i64 0, .int .i64 0] 49) = w1 at *
  obtain ⟨-, -, -, -, -, -, -, -, -, -, -, -, c20⟩ := (unhideI M1).at
  have fz := (unhideI M1).flat
  have hp := (unhideI M1).pw
  have PT := hideI ((unhideI M1).put (m' := { m with took := m.took + 1 }) 20 (.int .i64 (m.took + 1)) (by decide) rfl rfl rfl { (unhideI M1).fine with })
  have Z2 := hideI ((unhideI Z1).other (j := 20) (u := .int .i64 (m.took + 1)) (unhideI bp).1)
  clear M1 Z1
  generalize hW2 : w1.setCell ⟨p, 20, none⟩ (.int .i64 (m.took + 1)) = w2 at *
  obtain ⟨-, -, -, -, c12, -, c14, -, -, -, -, -, -⟩ := (unhideI PT).at
  have fz2 := (unhideI PT).flat
  have hp2 := (unhideI PT).pw
  have ON := hideI (iOne_any xs vc m.pc w2 ((unhideI IC).step (unhideI PT).low))
  generalize oneA xs m.pc = R at *
  obtain ⟨i, n⟩ := R
  dsimp only at *
  unfold wd at hpc
  by_cases hn : n = 0
  · subst hn
    rw [if_pos rfl]
    have hdn : decide (¬ (0 : Int) = 0) = false := by decide
    rw [hdn]
    clear OK
    go_enter Try.func57, Try.ntmps57
    go_wp2_with fail
    refine (unhideI ON).mono ?_
    rintro e w3 ⟨rfl, k3⟩
    unfold agg
    have M3 := hideI (((unhideI PT).step k3).new (.cells #[.int .i64 i.o, .int .i64 i.d, .int .i64 i.s, .int .i64 i.m] 49))
    have Z3 := hideI (((unhideI Z2).step k3).step (below_a _ (.cells #[.int .i64 i.o, .int .i64 i.d, .int .i64 i.s, .int .i64 i.m] 49)))
    have I3 := hideI (Box.new w3 #[.int .i64 i.o, .int .i64 i.d, .int .i64 i.s, .int .i64 i.m] 49)
    have hle3 : Hid (w.heap.size < w3.heap.size) := Nat.lt_of_lt_of_le (unhideI Z2).1 k3.size
    have hpl3 : Hid (p < w3.heap.size) := ((unhideI PT).step k3).pw
    have hql3 : Hid (q < w3.heap.size) := ((unhideI PT).step k3).hqw
    have hvl3 : Hid (∀ k, vo.ownBlock = some k → k < w3.heap.size) := ((unhideI PT).step k3).voLt
    generalize hW3 : w3.alloc (.cells #[.int .i64 i.o, .int .i64 i.d, .int .i64 i.s, .int .i64 i.m] 49) = w4 at *
    clear ON PT Z2
    obtain ⟨-, -, -, -, e12, -, -, -, e16, -, -, -, -⟩ := (unhideI M3).at
    have fz4 := (unhideI M3).flat
    have hp4 := (unhideI M3).pw
    obtain ⟨i0, i1, i2, i3⟩ := (unhideI I3).at4
    have i4 := (unhideI I3).2.2
    have i5 := (unhideI I3).1
    have z4 := (unhideI Z3).2.2
    have z5 := (unhideI Z3).1
    have M5 := hideI ((unhideI M3).put (m' := { m with took := m.took + 1, how := 4 }) 16 (.int .i64 4) (by decide) rfl rfl rfl { (unhideI M3).fine with })
    have Z5 := hideI ((unhideI Z3).other (j := 16) (u := .int .i64 4) (unhideI bp).1)
    have I5 := hideI ((unhideI I3).other (j := 16) (u := .int .i64 4) (show w3.heap.size ≠ p by have := unhideI hpl3; omega))
    clear M3 Z3 I3
    have hvl := (unhideI M5).voLt
    generalize hW5 : w4.setCell ⟨p, 16, none⟩ (.int .i64 4) = w5 at *
    obtain ⟨i0, i1, i2, i3⟩ := (unhideI I5).at4
    have z4 := (unhideI Z5).2.2
    have z5 := (unhideI Z5).1
    obtain ⟨z0, z1, z2, z3⟩ := (unhideI Z5).at4
    have ZZ := hideI ((unhideI Z5).four0 (.int .i64 i.o) (.int .i64 i.d) (.int .i64 i.s) (.int .i64 i.m))
    have MM := fun ho => (unhideI M5).oth4 (v0 := .int .i64 i.o) (v1 := .int .i64 i.d) (v2 := .int .i64 i.s) (v3 := .int .i64 i.m) (unhideI bp).1 (unhideI bp).2.1 (unhideI bp).2.2.1 ho (unhideI bp).2.2.2
    go_wp2_with fail
    obtain ⟨y0, y1, y2, y3⟩ := (unhideI ZZ).at4
    exact bodyPost_ret (v := .tuple #[.agg #[.int .i64 i.o, .int .i64 i.d, .int .i64 i.s, .int .i64 i.m], .bool false]) (by simp [results, Try.results57, go_sem, y0, y1, y2, y3]) rfl ⟨_, rfl, MM (fun e => by have := hvl _ e; have := unhideI hvb _ e; omega)⟩
  · obtain ⟨o1, o2, o3, o4, o5, o6, o7, o8, o9⟩ := unhideI OK hn
    rw [if_neg hn]
    have hdn : decide (¬ n = 0) = true := by simpa using hn
    rw [hdn]
    clear OK
    have hn1 : (n == 0) = false := by simp [hn]
    have hwr2 := wrap_ok (x := m.pc + n) (by omega) (by omega)
    have hl := hideI (lw_b (m.pc + n))
    have D := hideI (fun (Y : Sd) w (h : Mach Y w0 w p q vc vi vo ({ m with took := m.took + 1, pc := lw (m.pc + n) } : Ma) xs bs) => do_any h i o1 o2 o3 o4 o5 o6 o7)
    unfold agg at D
    generalize hm3 : ({ m with took := m.took + 1, pc := lw (m.pc + n) } : Ma).act i bs = m3 at *
    clear hm3 o1 o2 o3 o4 o5 o6 o7 o8 o9
    have hpc2 : Hid (wd m.pc) := hpc
    by_cases hh : m3.how = 0
    · rw [if_pos hh]
      have hh1 : (m3.how != 0) = false := by simp [hh]
      clear hh hn
      go_enter Try.func57, Try.ntmps57
      go_wp2_with fail
      refine (unhideI ON).mono ?_
      rintro e w3 ⟨rfl, k3⟩
      unfold agg
      have M3 := hideI (((unhideI PT).step k3).new (.cells #[.int .i64 i.o, .int .i64 i.d, .int .i64 i.s, .int .i64 i.m] 49))
      have Z3 := hideI (((unhideI Z2).step k3).step (below_a _ (.cells #[.int .i64 i.o, .int .i64 i.d, .int .i64 i.s, .int .i64 i.m] 49)))
      have I3 := hideI (Box.new w3 #[.int .i64 i.o, .int .i64 i.d, .int .i64 i.s, .int .i64 i.m] 49)
      have hle3 : Hid (w.heap.size < w3.heap.size) := Nat.lt_of_lt_of_le (unhideI Z2).1 k3.size
      have hpl3 : Hid (p < w3.heap.size) := ((unhideI PT).step k3).pw
      have hql3 : Hid (q < w3.heap.size) := ((unhideI PT).step k3).hqw
      have hvl3 : Hid (∀ k, vo.ownBlock = some k → k < w3.heap.size) := ((unhideI PT).step k3).voLt
      generalize hW3 : w3.alloc (.cells #[.int .i64 i.o, .int .i64 i.d, .int .i64 i.s, .int .i64 i.m] 49) = w4 at *
      clear ON PT Z2
      obtain ⟨-, -, -, -, e12, -, -, -, e16, -, -, -, -⟩ := (unhideI M3).at
      have fz4 := (unhideI M3).flat
      have hp4 := (unhideI M3).pw
      obtain ⟨i0, i1, i2, i3⟩ := (unhideI I3).at4
      have i4 := (unhideI I3).2.2
      have i5 := (unhideI I3).1
      have z4 := (unhideI Z3).2.2
      have z5 := (unhideI Z3).1
      have M5 := hideI ((unhideI M3).put (m' := { m with took := m.took + 1, pc := lw (m.pc + n) }) 12 (.int .i64 (lw (m.pc + n))) (by decide) rfl rfl rfl { (unhideI M3).fine with pc := unhideI hl })
      have Z5 := hideI ((unhideI Z3).other (j := 12) (u := .int .i64 (lw (m.pc + n))) (unhideI bp).1)
      have I5 := hideI ((unhideI I3).other (j := 12) (u := .int .i64 (lw (m.pc + n))) (show w3.heap.size ≠ p by have := unhideI hpl3; omega))
      clear M3 Z3 I3
      generalize hW5 : w4.setCell ⟨p, 12, none⟩ (.int .i64 (lw (m.pc + n))) = w5 at *
      obtain ⟨i0, i1, i2, i3⟩ := (unhideI I5).at4
      have i4 := (unhideI I5).2.2
      have i5 := (unhideI I5).1
      go_wp2_with (go_at_call 66; refine (place_any _ _).mono ?_; rintro e w9 ⟨rfl, hw9⟩; subst w9)
      have MR := hideI ((unhideI M5).reside (fun k => (k < X.u.heap.size ∧ X.Y k) ∨ k = w.heap.size ∨ k = w3.heap.size) fun k hk hy => by
        rcases hy with ⟨h1, h2⟩ | rfl | rfl
        · obtain ⟨a1, a2, a3, -⟩ := (unhideI M5).side.2 k h1 h2
          exact ⟨a1, a2, a3⟩
        · exact ⟨(unhideI bp).1, (unhideI bp).2.1, fun e => by have := unhideI hvb _ e; omega⟩
        · exact ⟨by have := unhideI hpl3; unfold Hid at *; omega, by have := unhideI hql3; unfold Hid at *; omega, fun e => by have := unhideI hvl3 _ e; omega⟩)
      refine (unhideI D _ _ (unhideI MR)).mono ?_
      rintro e w6 ⟨vo3, rfl, MR6⟩
      have Z6 := hideI (MR6.sideBox (unhideI Z5) (.inr (.inl rfl)))
      have I6 := hideI (MR6.sideBox (unhideI I5) (.inr (.inr rfl)))
      have NV := hideI (MR6.sep2 (b := w.heap.size) (unhideI Z5).1 (.inr (.inl rfl)))
      have M6 := hideI ((unhideI M5).back MR6 fun b h1 h2 => .inl ⟨h1, h2⟩)
      clear M5 Z5 I5 MR MR6 D
      obtain ⟨-, -, -, -, e12, -, -, -, e16, -, -, -, -⟩ := (unhideI M6).at
      have fz4 := (unhideI M6).flat
      have hp4 := (unhideI M6).pw
      obtain ⟨i0, i1, i2, i3⟩ := (unhideI I6).at4
      have i4 := (unhideI I6).2.2
      have i5 := (unhideI I6).1
      have z4 := (unhideI Z6).2.2
      have z5 := (unhideI Z6).1
      obtain ⟨i0, i1, i2, i3⟩ := (unhideI I6).at4
      have i4 := (unhideI I6).2.2
      have i5 := (unhideI I6).1
      have z4 := (unhideI Z6).2.2
      have z5 := (unhideI Z6).1
      obtain ⟨z0, z1, z2, z3⟩ := (unhideI Z6).at4
      have ZZ := hideI ((unhideI Z6).four0 (.int .i64 i.o) (.int .i64 i.d) (.int .i64 i.s) (.int .i64 i.m))
      have MM := fun ho => (unhideI M6).oth4 (v0 := .int .i64 i.o) (v1 := .int .i64 i.d) (v2 := .int .i64 i.s) (v3 := .int .i64 i.m) (unhideI bp).1 (unhideI bp).2.1 (unhideI bp).2.2.1 ho (unhideI bp).2.2.2
      go_wp2_with fail
      obtain ⟨y0, y1, y2, y3⟩ := (unhideI ZZ).at4
      exact bodyPost_ret (v := .tuple #[.agg #[.int .i64 i.o, .int .i64 i.d, .int .i64 i.s, .int .i64 i.m], .bool true]) (by simp [results, Try.results57, go_sem, y0, y1, y2, y3]) rfl ⟨_, rfl, MM (fun e => (unhideI NV).1 e)⟩
    · rw [if_neg hh]
      have hh1 : (m3.how != 0) = true := by simp [hh]
      clear hh hn
      go_enter Try.func57, Try.ntmps57
      go_wp2_with fail
      refine (unhideI ON).mono ?_
      rintro e w3 ⟨rfl, k3⟩
      unfold agg
      have M3 := hideI (((unhideI PT).step k3).new (.cells #[.int .i64 i.o, .int .i64 i.d, .int .i64 i.s, .int .i64 i.m] 49))
      have Z3 := hideI (((unhideI Z2).step k3).step (below_a _ (.cells #[.int .i64 i.o, .int .i64 i.d, .int .i64 i.s, .int .i64 i.m] 49)))
      have I3 := hideI (Box.new w3 #[.int .i64 i.o, .int .i64 i.d, .int .i64 i.s, .int .i64 i.m] 49)
      have hle3 : Hid (w.heap.size < w3.heap.size) := Nat.lt_of_lt_of_le (unhideI Z2).1 k3.size
      have hpl3 : Hid (p < w3.heap.size) := ((unhideI PT).step k3).pw
      have hql3 : Hid (q < w3.heap.size) := ((unhideI PT).step k3).hqw
      have hvl3 : Hid (∀ k, vo.ownBlock = some k → k < w3.heap.size) := ((unhideI PT).step k3).voLt
      generalize hW3 : w3.alloc (.cells #[.int .i64 i.o, .int .i64 i.d, .int .i64 i.s, .int .i64 i.m] 49) = w4 at *
      clear ON PT Z2
      obtain ⟨-, -, -, -, e12, -, -, -, e16, -, -, -, -⟩ := (unhideI M3).at
      have fz4 := (unhideI M3).flat
      have hp4 := (unhideI M3).pw
      obtain ⟨i0, i1, i2, i3⟩ := (unhideI I3).at4
      have i4 := (unhideI I3).2.2
      have i5 := (unhideI I3).1
      have z4 := (unhideI Z3).2.2
      have z5 := (unhideI Z3).1
      have M5 := hideI ((unhideI M3).put (m' := { m with took := m.took + 1, pc := lw (m.pc + n) }) 12 (.int .i64 (lw (m.pc + n))) (by decide) rfl rfl rfl { (unhideI M3).fine with pc := unhideI hl })
      have Z5 := hideI ((unhideI Z3).other (j := 12) (u := .int .i64 (lw (m.pc + n))) (unhideI bp).1)
      have I5 := hideI ((unhideI I3).other (j := 12) (u := .int .i64 (lw (m.pc + n))) (show w3.heap.size ≠ p by have := unhideI hpl3; omega))
      clear M3 Z3 I3
      generalize hW5 : w4.setCell ⟨p, 12, none⟩ (.int .i64 (lw (m.pc + n))) = w5 at *
      obtain ⟨i0, i1, i2, i3⟩ := (unhideI I5).at4
      have i4 := (unhideI I5).2.2
      have i5 := (unhideI I5).1
      go_wp2_with (go_at_call 66; refine (place_any _ _).mono ?_; rintro e w9 ⟨rfl, hw9⟩; subst w9)
      have MR := hideI ((unhideI M5).reside (fun k => (k < X.u.heap.size ∧ X.Y k) ∨ k = w.heap.size ∨ k = w3.heap.size) fun k hk hy => by
        rcases hy with ⟨h1, h2⟩ | rfl | rfl
        · obtain ⟨a1, a2, a3, -⟩ := (unhideI M5).side.2 k h1 h2
          exact ⟨a1, a2, a3⟩
        · exact ⟨(unhideI bp).1, (unhideI bp).2.1, fun e => by have := unhideI hvb _ e; omega⟩
        · exact ⟨by have := unhideI hpl3; unfold Hid at *; omega, by have := unhideI hql3; unfold Hid at *; omega, fun e => by have := unhideI hvl3 _ e; omega⟩)
      refine (unhideI D _ _ (unhideI MR)).mono ?_
      rintro e w6 ⟨vo3, rfl, MR6⟩
      have Z6 := hideI (MR6.sideBox (unhideI Z5) (.inr (.inl rfl)))
      have I6 := hideI (MR6.sideBox (unhideI I5) (.inr (.inr rfl)))
      have NV := hideI (MR6.sep2 (b := w.heap.size) (unhideI Z5).1 (.inr (.inl rfl)))
      have M6 := hideI ((unhideI M5).back MR6 fun b h1 h2 => .inl ⟨h1, h2⟩)
      clear M5 Z5 I5 MR MR6 D
      obtain ⟨-, -, -, -, e12, -, -, -, e16, -, -, -, -⟩ := (unhideI M6).at
      have fz4 := (unhideI M6).flat
      have hp4 := (unhideI M6).pw
      obtain ⟨i0, i1, i2, i3⟩ := (unhideI I6).at4
      have i4 := (unhideI I6).2.2
      have i5 := (unhideI I6).1
      have z4 := (unhideI Z6).2.2
      have z5 := (unhideI Z6).1
      have P7 := hideI ((unhideI M6).put (m' := { m3 with pc := m.pc }) 12 (.int .i64 m.pc) (by decide) rfl rfl rfl { (unhideI M6).fine with pc := unhideI hpc2 })
      have Z7 := hideI ((unhideI Z6).other (j := 12) (u := .int .i64 m.pc) (unhideI bp).1)
      have I7 := hideI ((unhideI I6).other (j := 12) (u := .int .i64 m.pc) (show w3.heap.size ≠ p by have := unhideI hpl3; omega))
      clear M6 Z6 I6
      generalize hW7 : w6.setCell ⟨p, 12, none⟩ (.int .i64 m.pc) = w7 at *
      have M6 := P7
      have Z6 := Z7
      have I6 := I7
      clear P7 Z7 I7
      obtain ⟨i0, i1, i2, i3⟩ := (unhideI I6).at4
      have i4 := (unhideI I6).2.2
      have i5 := (unhideI I6).1
      have z4 := (unhideI Z6).2.2
      have z5 := (unhideI Z6).1
      obtain ⟨z0, z1, z2, z3⟩ := (unhideI Z6).at4
      have ZZ := hideI ((unhideI Z6).four0 (.int .i64 i.o) (.int .i64 i.d) (.int .i64 i.s) (.int .i64 i.m))
      have MM := fun ho => (unhideI M6).oth4 (v0 := .int .i64 i.o) (v1 := .int .i64 i.d) (v2 := .int .i64 i.s) (v3 := .int .i64 i.m) (unhideI bp).1 (unhideI bp).2.1 (unhideI bp).2.2.1 ho (unhideI bp).2.2.2
      go_wp2_with fail
      obtain ⟨y0, y1, y2, y3⟩ := (unhideI ZZ).at4
      exact bodyPost_ret (v := .tuple #[.agg #[.int .i64 i.o, .int .i64 i.d, .int .i64 i.s, .int .i64 i.m], .bool true]) (by simp [results, Try.results57, go_sem, y0, y1, y2, y3]) rfl ⟨_, rfl, MM (fun e => (unhideI NV).1 e)⟩
end Go.Proofs.Ytjlbenbfmookoaa
