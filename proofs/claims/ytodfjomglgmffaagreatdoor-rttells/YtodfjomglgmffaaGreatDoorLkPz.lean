/-
  The linker while units are put: in memory, and put.
-/
import Derived.Test.YtodfjomglgmffaaGreatDoorLkS
namespace Go.Proofs.YtodfjomglgmffaaGreatDoor
open Go.RowKit Go.Maps
set_option linter.unusedSimpArgs false
set_option linter.unusedVariables false

/-- Which units are put, where they begin, and where the last one ends. -/
structure Ls where
  P : List (Pt × Nat)
  order : List Int
  fin : Int
def putL (s : Ls) (n : Nat) : Ls :=
  match s.P[n]? with
  | some p => if p.1.put = true then s else ⟨s.P.set n (⟨p.1.A, p.1.n, true, s.fin⟩, p.2), s.order ++ [(n : Int)], s.fin + p.1.n⟩
  | none => s
/-- Where the linker lies. -/
structure Lf where
  pk : Nat
  ow : Nat
  B : Nat
  vu : Value
  vp : Value
  O : Nmd
def LkAt (c : Lf) (s : Ls) (vo : Value) (u : World) : Prop := Box u c.pk [c.vu, c.vp, .map (some c.ow), vo, .int .i64 s.fin] ∧ Mp u c.ow c.O ∧ Pts u c.B c.vp s.P ∧ u.ownsRow c.B 3 1 vo s.order.length (s.order.map int1) ∧ c.pk < c.B ∧ c.ow < c.B ∧ c.pk ≠ c.ow
theorem own_setL {u : World} {B e s n g j : Nat} {v x : Value} {xs : List Value} (h : u.ownsRow B e s v n xs) (hg : v.ownBlock = some g) (hj : j < n * s) : (u.setCell ⟨g, j, none⟩ x).ownsRow B e s v n (xs.set j x) := by
  refine ⟨by rw [List.length_set]; exact h.1, ?_⟩
  rcases h.2 with ⟨rfl, _⟩ | ⟨g', cap, cur, rfl, h2, h3, h4, h5, h6, h7⟩
  · cases hg
  · obtain rfl : g' = g := Option.some.inj hg
    refine .inr ⟨g', cap, cur.setIfInBounds j x, rfl, h2, ?_, h4, h5, by simp [h6], ?_⟩
    · simp [World.setCell, Array.getElem?_modify, h3]
    · rw [Array.toList_setIfInBounds, List.take_set, h7]
theorem flatP : ∀ (l : List (Pt × Nat)) (i : Nat) (h : i < l.length) (j : Nat), j < 4 → (l.flatMap cellsP)[i * 4 + j]? = (cellsP (l[i]'h))[j]?
  | [], i, h, _, _ => by simp at h
  | x :: l, 0, h, j, hj => by
    rw [List.flatMap_cons, List.getElem?_append_left (by simp [cellsP]; omega)]; simp
  | x :: l, i + 1, h, j, hj => by
    have ih := flatP l i (by simpa using h) j hj
    rw [List.flatMap_cons, List.getElem?_append_right (by simp [cellsP]; omega)]
    rw [show (i + 1) * 4 + j - (cellsP x).length = i * 4 + j by simp [cellsP]; omega, ih]
    simp
theorem flatP_len (l : List (Pt × Nat)) : (l.flatMap cellsP).length = l.length * 4 := by
  induction l with
  | nil => rfl
  | cons x l ih => rw [List.flatMap_cons, List.length_append, ih]; simp [cellsP]; omega
theorem flatP_set (l : List (Pt × Nat)) (i : Nat) (h : i < l.length) (st : Int) : (l.set i (⟨(l[i]'h).1.A, (l[i]'h).1.n, true, st⟩, (l[i]'h).2)).flatMap cellsP = ((l.flatMap cellsP).set (i * 4 + 2) (.bool true)).set (i * 4 + 3) (.int .i64 st) := by
  apply List.ext_getElem?
  intro k
  by_cases hk : k < l.length * 4
  · have hq : k / 4 < l.length := by omega
    have hr : k % 4 < 4 := by omega
    have e : k = k / 4 * 4 + k % 4 := by omega
    have a := flatP (l.set i (⟨(l[i]'h).1.A, (l[i]'h).1.n, true, st⟩, (l[i]'h).2)) (k / 4) (by rw [List.length_set]; exact hq) (k % 4) hr
    have b := flatP l (k / 4) hq (k % 4) hr
    rw [← e] at a b
    rw [a, List.getElem_set]
    by_cases hi : i = k / 4
    · rw [if_pos hi]
      subst hi
      have c : k % 4 = 0 ∨ k % 4 = 1 ∨ k % 4 = 2 ∨ k % 4 = 3 := by omega
      rcases c with c | c | c | c
      · rw [List.getElem?_set_ne (by omega), List.getElem?_set_ne (by omega), b, c]; rfl
      · rw [List.getElem?_set_ne (by omega), List.getElem?_set_ne (by omega), b, c]; rfl
      · rw [List.getElem?_set_ne (by omega), show k / 4 * 4 + 2 = k by omega, List.getElem?_set_self (by rw [flatP_len]; omega), c]; rfl
      · rw [show k / 4 * 4 + 3 = k by omega, List.getElem?_set_self (by rw [List.length_set, flatP_len]; omega), c]; rfl
    · rw [if_neg hi, List.getElem?_set_ne (by omega), List.getElem?_set_ne (by omega), b]
  · rw [List.getElem?_eq_none (by rw [flatP_len, List.length_set]; omega), List.getElem?_eq_none (by rw [List.length_set, List.length_set, flatP_len]; omega)]
theorem Pts.at {u : World} {B : Nat} {vp : Value} {P : List (Pt × Nat)} (h : Pts u B vp P) (hne : P ≠ []) : ∃ g cap, vp = .slice (some ⟨g, 0, none⟩) P.length cap ∧ B ≤ g ∧ g < u.heap.size ∧ (∀ j, u.frozen? ⟨g, j, none⟩ = false) ∧ ∀ i (hi : i < P.length), u.cell? ⟨g, i * 4, none⟩ = some (.map (some (P[i]'hi).2)) ∧ u.cell? ⟨g, i * 4 + 1, none⟩ = some (.int .i64 (P[i]'hi).1.n) ∧ u.cell? ⟨g, i * 4 + 2, none⟩ = some (.bool (P[i]'hi).1.put) ∧ u.cell? ⟨g, i * 4 + 3, none⟩ = some (.int .i64 (P[i]'hi).1.start) := by
  have hn : P.length ≠ 0 := fun e => hne (List.eq_nil_of_length_eq_zero e)
  obtain ⟨g, cap, rfl, h2, hr⟩ := Rw.own h.1 hn
  refine ⟨g, cap, rfl, h2, hr.lt, hr.frozen, fun i hi => ?_⟩
  have f := flatP P i hi
  exact ⟨hr.cell (f 0 (by omega)), hr.cell (f 1 (by omega)), hr.cell (f 2 (by omega)), hr.cell (f 3 (by omega))⟩
end Go.Proofs.YtodfjomglgmffaaGreatDoor

/-
  (*linker).put, owner, place.
-/
namespace Go.Proofs.YtodfjomglgmffaaGreatDoor
open Go.RowKit Go.Maps
set_option linter.unusedSimpArgs false
set_option linter.unusedVariables false

theorem putL_yes {s : Ls} {n : Nat} (h : n < s.P.length) (p : (s.P[n]'h).1.put = true) : putL s n = s := by unfold putL; rw [List.getElem?_eq_getElem h]; dsimp only; rw [if_pos p]
theorem putL_no {s : Ls} {n : Nat} (h : n < s.P.length) (p : (s.P[n]'h).1.put = false) : putL s n = ⟨s.P.set n (⟨(s.P[n]'h).1.A, (s.P[n]'h).1.n, true, s.fin⟩, (s.P[n]'h).2), s.order ++ [(n : Int)], s.fin + (s.P[n]'h).1.n⟩ := by unfold putL; rw [List.getElem?_eq_getElem h]; dsimp only; rw [if_neg (by simp [p])]
theorem rows_apart {u : World} {B B' e e' s s' n n' g : Nat} {v v' : Value} {xs xs' : List Value} (h : u.ownsRow B e s v n xs) (h' : u.ownsRow B' e' s' v' n' xs') (he : e ≠ e') (hg : v.ownBlock = some g) : v'.ownBlock ≠ some g := by
  intro hg'
  rcases h.2 with ⟨rfl, _⟩ | ⟨g1, cap, cur, rfl, _, h3, _⟩
  · cases hg
  · rcases h'.2 with ⟨rfl, _⟩ | ⟨g2, cap2, cur2, rfl, _, h3', _⟩
    · cases hg'
    · obtain rfl : g1 = g := Option.some.inj hg
      obtain rfl : g2 = g1 := Option.some.inj hg'
      rw [h3] at h3'
      injection h3' with h3'
      injection h3' with _ h3' _
      exact he h3'
/-- What may turn when a unit is put. -/
def PutX (c : Lf) (vo : Value) (k : Nat) : Prop := k = c.pk ∨ c.vp.ownBlock = some k ∨ vo.ownBlock = some k

set_option maxRecDepth 100000 in
set_option maxHeartbeats 4000000 in
theorem put_any (c : Lf) (s : Ls) (vo : Value) (u : World) (n : Nat) (h : LkAt c s vo u) (hn : n < s.P.length) (hf0 : 0 ≤ s.fin) (hf1 : s.fin ≤ 30000000) (hw0 : 0 ≤ (s.P[n]'hn).1.n) (hw1 : (s.P[n]'hn).1.n ≤ 65536) (hol : s.order.length ≤ 1000) :
    Calls Tryz.prog 47 #[.pointer (some ⟨c.pk, 0, none⟩), .int .i64 n] u fun e u' => e = .returned (.tuple #[]) ∧ ∃ vo', LkAt c (putL s n) vo' u' ∧ Kpt (PutX c vo) u u' ∧ ∀ k, vo'.ownBlock = some k → vo.ownBlock = some k ∨ u.heap.size ≤ k := by
  obtain ⟨i0, hi0, hz0, hz1, hz2⟩ := info_parts Tryz.infoInt
  obtain ⟨pk, ow, B, vu, vp, O⟩ := c
  obtain ⟨hB, hM, hP, hO, hpB, hoB, hpo⟩ := h
  dsimp only at *
  have hne : s.P ≠ [] := by intro e; rw [e] at hn; simp at hn
  obtain ⟨g, cap, rfl, hBg, hgl, hfz, hcs⟩ := hP.at hne
  obtain ⟨c0, c1, c2, c3⟩ := hcs n hn
  have f2 := hfz (n * 4 + 2)
  have f3 := hfz (n * 4 + 3)
  have b1 := hB.2.1 1 _ rfl
  have b3 := hB.2.1 3 _ rfl
  have b4 := hB.2.1 4 _ rfl
  have b5 := hB.2.2
  have hpl := hB.1
  have HB := hideI hB
  have HM := hideI hM
  have HP := hideI hP
  have HO := hideI hO
  clear hB hM hP hO hcs hfz
  by_cases hput : (s.P[n]'hn).1.put = true
  · rw [putL_yes hn hput]
    rw [hput] at c2
    go_enter Tryz.func47, Tryz.ntmps47
    go_wp2_with fail
    exact bodyPost_ret (v := .tuple #[]) (by simp [results, Tryz.results47, go_sem]) rfl ⟨rfl, vo, ⟨unhideI HB, unhideI HM, unhideI HP, unhideI HO, hpB, hoB, hpo⟩, Kpt.refl _ _, fun k h => .inl h⟩
  · replace hput : (s.P[n]'hn).1.put = false := by simpa using hput
    rw [putL_no hn hput]
    rw [hput] at c2
    have fs := flatP_set s.P n hn s.fin
    generalize hPn : s.P[n] = pn at *
    obtain ⟨⟨A, nw, pt, st⟩, bm⟩ := pn
    dsimp only at *
    have KG : Kpt (fun k => k = g) u ((u.setCell ⟨g, n * 4 + 2, none⟩ (.bool true)).setCell ⟨g, n * 4 + 3, none⟩ (.int .i64 s.fin)) := (Kpt.setCell (X := fun k => k = g) _ _ rfl).trans (Kpt.setCell (X := fun k => k = g) _ _ rfl) (fun _ h => h) (fun _ h _ => h)
    have mp : ∀ p ∈ (s.P.set n (⟨A, nw, true, s.fin⟩, bm)), p.2 ∈ s.P.map (·.2) ∧ ∃ q ∈ s.P, q.2 = p.2 ∧ q.1.A = p.1.A := by
      intro p hp
      rcases List.mem_or_eq_of_mem_set hp with hp | rfl
      · exact ⟨List.mem_map_of_mem hp, p, hp, rfl, rfl⟩
      · have hm : (⟨⟨A, nw, pt, st⟩, bm⟩ : Pt × Nat) ∈ s.P := hPn ▸ List.getElem_mem hn
        exact ⟨List.mem_map.2 ⟨_, hm, rfl⟩, _, hm, rfl, rfl⟩
    have B2 := hideI ((unhideI HB).kpt KG (by omega))
    have M2 := hideI ((unhideI HM).kpt KG (by omega))
    have P2 : Hid (Pts ((u.setCell ⟨g, n * 4 + 2, none⟩ (.bool true)).setCell ⟨g, n * 4 + 3, none⟩ (.int .i64 s.fin)) B (Value.slice (some ⟨g, 0, none⟩) s.P.length cap) (s.P.set n (⟨A, nw, true, s.fin⟩, bm))) := by
      refine ⟨?_, fun p hp => ?_⟩
      · rw [fs, List.length_set]
        exact own_setL (own_setL (unhideI HP).1 rfl (by omega)) rfl (by omega)
      · obtain ⟨-, q, hq, e1, e2⟩ := mp p hp
        have := (unhideI HP).2 q hq
        rw [e1, e2] at this
        exact ⟨this.1.kpt KG (fun e => row_not_map (unhideI HP).1 (show (Value.slice (some ⟨g, 0, none⟩) s.P.length cap).ownBlock = some p.2 by rw [e]; rfl) this.1), this.2⟩
    have O2 := hideI (own_kpt (unhideI HO) KG (fun k hk e => rows_apart (unhideI HP).1 (unhideI HO) (by decide) (show (Value.slice (some ⟨g, 0, none⟩) s.P.length cap).ownBlock = some k by rw [e]; rfl) hk))
    have S2 : ((u.setCell ⟨g, n * 4 + 2, none⟩ (.bool true)).setCell ⟨g, n * 4 + 3, none⟩ (.int .i64 s.fin)).heap.size = u.heap.size := by simp
    have KG2 := hideI KG
    obtain ⟨g1, cap1, hv1, -, -, -, hcs1⟩ := (unhideI P2).at (by intro e; have := congrArg List.length e; rw [List.length_set] at this; simp at this; rw [this] at hn; simp at hn)
    obtain rfl : g = g1 := by injection hv1 with h1; injection h1 with h1; injection h1
    have d1 := (hcs1 n (by rw [List.length_set]; exact hn)).2.1
    rw [List.getElem_set_self] at d1
    dsimp only at d1
    have e4 := (unhideI B2).2.1 4 _ rfl
    have e3 := (unhideI B2).2.1 3 _ rfl
    have e5 := (unhideI B2).2.2
    clear KG hcs1 hv1 mp
    go_enter Tryz.func47, Tryz.ntmps47
    go_wp2_with fail
    clear c0 c1 c2 c3 f2 f3 b1 b3 b4 b5
    generalize (u.setCell ⟨g, n * 4 + 2, none⟩ (.bool true)).setCell ⟨g, n * 4 + 3, none⟩ (.int .i64 s.fin) = w2 at *
    refine wp_region_headL 11 (by kernel_rfl) (by kernel_rfl) ?_
    simp only [List.take_succ_cons, List.take_zero, List.drop_succ_cons, List.drop_zero]
    repeat still_step
    refine wpStill_nil ?_
    have B3 := hideI (((unhideI B2).step ⟨rfl, rfl, rfl, Nat.le_refl _, fun _ _ => rfl⟩ : Box w2.drew _ _).set (j := 4) (u := .int .i64 (s.fin + nw)) (by simp))
    have KS : Kpt (fun k => k = pk) w2 (w2.drew.setCell ⟨pk, 4, none⟩ (.int .i64 (s.fin + nw))) := (Kpt.refl (fun _ => False) w2).drew.trans (Kpt.setCell (X := fun k => k = pk) w2.drew _ rfl) (fun _ h => h.elim) (fun _ h _ => h)
    have M3 := hideI ((unhideI M2).kpt KS (by omega))
    have P3 := hideI ((unhideI P2).kpt KS (fun k hk e => by omega))
    have O3 := hideI (own_kpt (unhideI O2) KS (fun k hk e => by have := ((unhideI O2).lt k hk).1; omega))
    have S3 : (w2.drew.setCell ⟨pk, 4, none⟩ (.int .i64 (s.fin + nw))).heap.size = w2.heap.size := by simp
    have KS2 := hideI KS
    clear KS
    have r3 := (unhideI B3).2.1 3 _ rfl
    have r5 := (unhideI B3).2.2
    have hpl3 := (unhideI B3).1
    have BA := fun o => (unhideI B3).step (below_a _ o)
    go_wp2_with (at_builtin; refine wpList_append_lies _ rfl (.tmp 40) (.tmp 42) 41 rfl B 3 i0 (.int .i64 0) 1 8 Tryz.underlying41 hi0 hz0 hz1 hz2 rfl (by decide) _ _ _ rfl ((unhideI O3).alloc _) ⟨_, 0, none⟩ 1 1 [.int .i64 (n : Int)] rfl rfl (cells_c1 _ [.int .i64 (n : Int)] _ _ (by simp [S2])) (one_c2 _ _) (by decide) (by unfold maxLen; omega) (by omega) (by simp; omega) _ rfl ?_; intro g4 cap4 w4 own4 grow4 hloc hgl4; have O4 := hideI own4; have G4 := hideI grow4; have L4 := hideI hloc; have B4 := hideI ((BA _).kpt (Kpt.grown (X := fun c => vo.ownBlock = some c) grow4 (fun _ h => h)) (fun h => by have := ((unhideI O3).lt _ h).1; omega)); have q3 := (unhideI B4).2.1 3 _ rfl; have q5 := (unhideI B4).2.2; have hpl4 := (unhideI B4).1; clear own4 grow4 hloc r3 r5 hpl3)
    have hgO : B ≤ g4 := ((unhideI O4).lt g4 rfl).1
    have K4a : Kpt (fun c => vo.ownBlock = some c) (w2.drew.setCell ⟨pk, 4, none⟩ (.int .i64 (s.fin + nw))) w4 := (Kpt.of (X := fun _ => False) (below_a (w2.drew.setCell ⟨pk, 4, none⟩ (.int .i64 (s.fin + nw))) (.cells #[.int .i64 (n : Int)] 3))).trans (Kpt.grown (X := fun c => vo.ownBlock = some c) (unhideI G4) (fun _ h => h)) (fun _ h => h.elim) (fun _ h _ => h)
    have KS4 : Kpt (fun k => k = pk) w4 (w4.setCell ⟨pk, 3, none⟩ (.slice (some ⟨g4, 0, none⟩) (s.order.length + 1) cap4)) := Kpt.setCell _ _ rfl
    have nO : ∀ k, vo.ownBlock = some k → B ≤ k := fun k hk => ((unhideI O3).lt k hk).1
    have KK := hideI (((unhideI KG2).trans (unhideI KS2) (Z := PutX ⟨pk, ow, B, vu, .slice (some ⟨g, 0, none⟩) s.P.length cap, O⟩ vo) (fun k hk => .inr (.inl (by rw [hk]; rfl))) (fun k hk _ => .inl hk)).trans (K4a.trans KS4 (Z := PutX ⟨pk, ow, B, vu, .slice (some ⟨g, 0, none⟩) s.P.length cap, O⟩ vo) (fun k hk => .inr (.inr hk)) (fun k hk _ => .inl hk)) (Z := PutX ⟨pk, ow, B, vu, .slice (some ⟨g, 0, none⟩) s.P.length cap, O⟩ vo) (fun _ h => h) (fun _ h _ => h))
    have hloc4 : ∀ k, (Value.slice (some ⟨g4, 0, none⟩) (s.order.length + 1) cap4).ownBlock = some k → vo.ownBlock = some k ∨ u.heap.size ≤ k := fun k hk => by
      obtain rfl : g4 = k := Option.some.inj hk
      rcases (unhideI L4) with h | h
      · exact .inl h
      · right; simp at h; omega
    refine bodyPost_end (v := .tuple #[]) (by simp [results, Tryz.results47, go_sem]) rfl ⟨rfl, _, ⟨(unhideI B4).set (j := 3) (u := .slice (some ⟨g4, 0, none⟩) (s.order.length + 1) cap4) (by simp), ((unhideI M3).kpt K4a (fun h => by have := nO _ h; omega)).kpt KS4 (fun h => hpo h.symm), ?_, ?_, hpB, hoB, hpo⟩, unhideI KK, hloc4⟩
    · have P4 : Pts w4 B (Value.slice (some ⟨g, 0, none⟩) s.P.length cap) (s.P.set n (⟨A, nw, true, s.fin⟩, bm)) := ⟨own_kpt (unhideI P3).1 K4a (fun k hk h => rows_apart (unhideI P3).1 (unhideI O3) (by decide) hk h), fun p hp => ⟨((unhideI P3).2 p hp).1.kpt K4a (fun h => row_not_map (unhideI O3) h ((unhideI P3).2 p hp).1), ((unhideI P3).2 p hp).2⟩⟩
      exact P4.kpt KS4 (fun k hk h => by omega)
    · have := own_kpt (unhideI O4) KS4 (fun k hk h => by have e : g4 = k := Option.some.inj hk; omega)
      show World.ownsRow _ _ _ _ _ (s.order ++ [(n : Int)]).length (List.map int1 (s.order ++ [(n : Int)]))
      rw [List.length_append, List.map_append]
      exact this
end Go.Proofs.YtodfjomglgmffaaGreatDoor
