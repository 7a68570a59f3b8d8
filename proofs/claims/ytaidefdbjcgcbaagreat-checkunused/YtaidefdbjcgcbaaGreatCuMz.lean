/-
  A function more that nobody calls (mathematics).
-/
import Derived.Test.YtaidefdbjcgcbaaGreatClGz
namespace Go.Proofs.YtaidefdbjcgcbaaGreat
open Go.RowKit
set_option linter.unusedSimpArgs false
set_option linter.unusedVariables false

/-- More functions are known. -/
structure Sub (E F : Nev) : Prop where
  v : F.v = E.v
  f : ∀ k x, E.f k = some x → F.f k = some x
theorem askC_sub {E F : Nev} (h : Sub E F) (L : Loc) (nm : ByteArray) (arr : Bool) : askC F L nm arr = askC E L nm arr := by
  unfold askC varC
  rw [h.v]
theorem told_ok {r : (Int × Bool) × Int} (h : (told r).2 = 0) : r.2 = 0 := by
  unfold told at h
  split at h
  · cases h
  · exact h
theorem tyEs_sub {E F : Nev} (L : Loc) (l : List Ex) (IH : ∀ y ∈ l, (tyE E L y).2 = 0 → tyE F L y = tyE E L y) : (tyEs E L l).2 = 0 → tyEs F L l = tyEs E L l := by
  induction l with
  | nil => intro _; rw [tyEs, tyEs]
  | cons a l ih =>
    intro h
    rw [tyEs] at h ⊢
    rw [tyEs]
    split at h
    · rename_i h1; exact absurd h h1
    rename_i h1
    split at h
    · rename_i h2; exact absurd h h2
    rename_i h2
    have e1 := IH a List.mem_cons_self (told_ok (by simpa using h1))
    have e2 := ih (fun y hy => IH y (List.mem_cons_of_mem _ hy)) (by simpa using h2)
    rw [e1, e2]
theorem tyE_sub {E F : Nev} (h : Sub E F) (L : Loc) : ∀ x : Ex, (tyE E L x).2 = 0 → tyE F L x = tyE E L x := by
  apply Ex.ind
  intro x IH e
  obtain ⟨k, n, b, s, nm, kids⟩ := x
  have K := tyEs_sub L kids (fun y hy => IH y hy)
  rw [tyE] at e ⊢
  rw [tyE]
  by_cases h4 : k = 4
  · rw [if_pos h4] at e ⊢
    rw [if_pos h4]
    cases hf : E.f nm with
    | none => rw [hf] at e; cases e
    | some y =>
      rw [hf] at e
      rw [h.f _ _ hf]
      obtain ⟨fb, fs, m⟩ := y
      dsimp only at e ⊢
      split at e
      · rename_i h5
        rw [if_pos h5, if_pos h5]
        split at e
        · rename_i h6
          rw [K h6]
        · rename_i h6; exact absurd e h6
      · cases e
  · rw [if_neg h4] at e ⊢
    rw [if_neg h4]
    split at e
    · rename_i h5; exact absurd e h5
    · rename_i h5
      rw [K (by simpa using h5), askC_sub h]
theorem tellC_sub {E F : Nev} (h : Sub E F) (L : Loc) (x : Ex) (e : tellC E L x = 0) : tellC F L x = 0 := by
  unfold tellC at *
  rw [tyE_sub h L x (told_ok e)]
  exact e
theorem perC_sub {E F : Nev} (h : Sub E F) (L : Loc) (has : Bool) (x : Ex) (e : perC E L has x = 0) : perC F L has x = 0 := by
  unfold perC at *
  split at e
  · rename_i h1; rw [if_pos h1]; exact tellC_sub h L x e
  · rename_i h1; rw [if_neg h1]
theorem setC_sub {E F : Nev} (h : Sub E F) (L : Loc) (has : Bool) (nm : ByteArray) (i x : Ex) (e : setC E L has nm i x = 0) : setC F L has nm i x = 0 := by
  unfold setC at *
  split at e
  · rename_i h1; exact absurd e h1
  rename_i h1
  split at e
  · rename_i h2; exact absurd e h2
  rename_i h2
  rw [perC_sub h L has i (by simpa using h1), askC_sub h, if_neg (by simp), if_neg h2]
  exact tellC_sub h L x e
theorem thc_inv {r : Int × Loc} {f : Loc → Int × Loc} (h : (thc r f).1 = 0) : r.1 = 0 ∧ thc r f = f r.2 := by
  unfold thc at *
  split at h
  · rename_i h1; exact absurd h h1
  · rename_i h1
    exact ⟨by simpa using h1, if_neg h1⟩
theorem thc_at {r : Int × Loc} (f : Loc → Int × Loc) (h : r.1 = 0) : thc r f = f r.2 := by
  unfold thc
  rw [if_neg (by simpa using h)]
theorem ckL_sub {E F : Nev} (res : Int × Bool) (l : List Sm) (IH : ∀ y ∈ l, ∀ lp L, (ckS E res y lp L).1 = 0 → ckS F res y lp L = ckS E res y lp L) : ∀ lp L, (ckL E res l lp L).1 = 0 → ckL F res l lp L = ckL E res l lp L := by
  induction l with
  | nil => intro lp L _; rw [ckL, ckL]
  | cons a l ih =>
    intro lp L h
    rw [ckL] at h ⊢
    rw [ckL]
    obtain ⟨h1, h2⟩ := thc_inv h
    rw [h2] at h ⊢
    rw [IH a List.mem_cons_self lp L h1, thc_at _ h1]
    exact ih (fun y hy => IH y (List.mem_cons_of_mem _ hy)) lp _ h
theorem ckS_sub {E F : Nev} (hs : Sub E F) (res : Int × Bool) : ∀ x : Sm, ∀ lp L, (ckS E res x lp L).1 = 0 → ckS F res x lp L = ckS E res x lp L := by
  apply Sm.ind
  intro x I1 I2 I3 I4 lp L h
  have B1 := ckL_sub res x.init I1
  have B2 := ckL_sub res x.step I2
  have B3 := ckL_sub res x.body I3
  have B4 := ckL_sub res x.els I4
  rw [ckS_eq] at h ⊢
  rw [ckS_eq]
  by_cases k2 : x.k = 2
  · simp only [if_pos k2] at h ⊢
    obtain ⟨h1, h2⟩ := thc_inv h
    rw [h2, thc_at _ (perC_sub hs L x.has x.x h1)]
  simp only [if_neg k2] at h ⊢
  by_cases k3 : x.k = 3
  · simp only [if_pos k3] at h ⊢
    rw [h, setC_sub hs L _ _ _ _ h]
  simp only [if_neg k3] at h ⊢
  by_cases k4 : x.k = 4
  · simp only [if_pos k4] at h ⊢
    rw [tyE_sub hs L _ h]
  simp only [if_neg k4] at h ⊢
  by_cases k8 : x.k = 8
  · simp only [if_pos k8] at h ⊢
    split at h
    · rename_i h1
      rw [if_pos h1, if_pos h1, h, perC_sub hs L _ _ h]
    · cases h
  simp only [if_neg k8] at h ⊢
  by_cases k9 : x.k = 9 ∨ x.k = 10
  · simp only [if_pos k9]
  simp only [if_neg k9] at h ⊢
  by_cases k5 : x.k = 5
  · simp only [if_pos k5] at h ⊢
    obtain ⟨h1, h2⟩ := thc_inv h
    rw [h2] at h ⊢
    rw [thc_at _ (tellC_sub hs L _ h1)]
    obtain ⟨h3, h4⟩ := thc_inv h
    rw [h4] at h ⊢
    have e3 := B3 lp L h3
    rw [e3, thc_at _ h3, B4 lp _ h]
  simp only [if_neg k5] at h ⊢
  by_cases k6 : x.k = 6
  · simp only [if_pos k6] at h ⊢
    obtain ⟨h1, h2⟩ := thc_inv h
    rw [h2] at h ⊢
    rw [thc_at _ (tellC_sub hs L _ h1), B3 _ _ h]
  simp only [if_neg k6] at h ⊢
  by_cases k7 : x.k = 7
  · simp only [if_pos k7] at h ⊢
    obtain ⟨h1, h2⟩ := thc_inv h
    rw [h2] at h ⊢
    have e1 := B1 lp L h1
    rw [e1, thc_at _ h1]
    obtain ⟨h3, h4⟩ := thc_inv h
    rw [h4] at h ⊢
    rw [thc_at _ (perC_sub hs _ _ _ h3)]
    obtain ⟨h5, h6⟩ := thc_inv h
    rw [h6] at h ⊢
    have e2 := B2 lp _ h5
    rw [e2, thc_at _ h5, B3 _ _ h]
  simp only [if_neg k7] at h ⊢
  by_cases k11 : x.k = 11
  · simp only [if_pos k11] at h ⊢
    rw [B3 _ _ h]
  simp only [if_neg k11]
theorem ckF_sub {E F : Nev} (hs : Sub E F) (f : Fn8) (h : ckF E f = 0) : ckF F f = 0 := by
  unfold ckF at *
  split at h
  · rename_i h1; exact absurd h h1
  rename_i h1
  rw [if_neg h1]
  dsimp only at h ⊢
  split at h
  · rename_i h2; exact absurd h h2
  rename_i h2
  have e := ckL_sub (E := E) (F := F) (f.b, f.s) f.body (fun y _ => ckS_sub hs _ y) 0 (ckPs f.params ⟨fun _ => none, [], 0⟩).2 (by simpa [hid] using h2)
  rw [e, if_neg h2]
  exact h
theorem ckFs_sub {E F : Nev} (hs : Sub E F) (g : Fn8) (hg : ckF F g = 0) : ∀ (l : List Fn8) (i : Nat), (ckFs E l i).1 = 0 → (ckFs F (l ++ [g]) i).1 = 0 := by
  intro l
  induction l with
  | nil => intro i _; show (ckFs F [g] i).1 = 0; rw [ckFs_cons, hg, if_neg (by simp), ckFs]
  | cons a l ih =>
    intro i h
    rw [ckFs_cons] at h
    split at h
    · rename_i h1; exact absurd h h1
    rename_i h1
    show (ckFs F (a :: (l ++ [g])) i).1 = 0
    rw [ckFs_cons, ckF_sub hs a (by simpa using h1), if_neg (by simp)]
    exact ih _ h
theorem ckNs_app (g : Fn8) : ∀ (l : List Fn8) (i : Nat) (E : Nev), (ckNs l i E).1.1 = 0 → (ckNs l i E).2.taken g.nm = false → ((ckNs (l ++ [g]) i E).1.1 = 0 ∧ (ckNs (l ++ [g]) i E).2 = (ckNs l i E).2.addF g) := by
  intro l
  induction l with
  | nil =>
    intro i E _ h
    rw [ckNs] at h ⊢
    show (ckNs [g] i E).1.1 = 0 ∧ (ckNs [g] i E).2 = E.addF g
    have h : E.taken g.nm = false := h
    rw [ckNs_cons, if_neg (by simp [h]), ckNs]
    exact ⟨rfl, rfl⟩
  | cons a l ih =>
    intro i E h1 h2
    rw [ckNs_cons] at h1 h2 ⊢
    show (ckNs (a :: (l ++ [g])) i E).1.1 = 0 ∧ (ckNs (a :: (l ++ [g])) i E).2 = _
    rw [ckNs_cons]
    split at h1
    · cases h1
    · rename_i h3
      rw [if_neg h3] at h2 ⊢
      rw [if_neg h3]
      exact ih _ _ h1 h2
theorem ckNs_none {nm : ByteArray} : ∀ (l : List Fn8) (i : Nat) (E : Nev), (∀ f ∈ l, f.nm ≠ nm) → E.f nm = none → (ckNs l i E).2.f nm = none ∧ (ckNs l i E).2.v = E.v := by
  intro l
  induction l with
  | nil => intro i E _ h; rw [ckNs]; exact ⟨h, rfl⟩
  | cons a l ih =>
    intro i E h1 h2
    rw [ckNs_cons]
    split
    · exact ⟨h2, rfl⟩
    · exact ih _ (E.addF a) (fun f hf => h1 f (List.mem_cons_of_mem _ hf)) (by show (if nm = a.nm then some (a.b, a.s, a.params.length) else E.f nm) = none; rw [if_neg (fun e => h1 a List.mem_cons_self e.symm)]; exact h2)
theorem ckGs_none {nm : ByteArray} : ∀ (l : List Gb) (i : Nat) (E : Nev) (n : Int), (∀ g ∈ l, g.nm ≠ nm) → E.v nm = none → (ckGs l i E n).2.1.v nm = none ∧ (ckGs l i E n).2.1.f = E.f := by
  intro l
  induction l with
  | nil => intro i E n _ h; rw [ckGs]; exact ⟨h, rfl⟩
  | cons a l ih =>
    intro i E n h1 h2
    rw [ckGs_cons]
    split
    · exact ⟨h2, rfl⟩
    · exact ih _ (E.addV a) _ (fun f hf => h1 f (List.mem_cons_of_mem _ hf)) (by show (if nm = a.nm then some (a.b, a.s, decide (0 < a.size)) else E.v nm) = none; rw [if_neg (fun e => h1 a List.mem_cons_self e.symm)]; exact h2)
theorem lkFs_app (g : Fn8) : ∀ (l : List Fn8) (c : Nat), (lkFs l c).1 = 0 → lkFs (l ++ [g]) c = lkFs [g] (lkFs l c).2 := by
  intro l
  induction l with
  | nil => intro c _; rw [lkFs]; rfl
  | cons a l ih =>
    intro c h
    show lkFs (a :: (l ++ [g])) c = _
    rw [lkFs_cons] at h
    obtain ⟨h1, h2⟩ := thn_inv h
    rw [h2] at h
    have e1 : lkFs (a :: l) c = lkFs l (lkF a c).2 := (lkFs_cons a l c).trans h2
    have e2 : lkFs (a :: (l ++ [g])) c = lkFs (l ++ [g]) (lkF a c).2 := by
      rw [lkFs_cons]
      unfold thn
      rw [if_neg (by simpa using h1)]
    rw [e1, e2]
    exact ih _ h
/-- A function that does nothing. -/
def noF (nm : ByteArray) : Fn8 := ⟨nm, 0, false, [], []⟩
theorem lk_noF {nm : ByteArray} (hn : namN nm = true) (c : Nat) : (lkFs [noF nm] c).1 = 0 ∨ (lkFs [noF nm] c).1 = 4 := by
  have e : lkF (noF nm) c = if nodeW 1 c ≠ 0 then (nodeW 1 c, c + 1) else (0, c + 1) := by
    unfold lkF noF
    dsimp only
    rw [if_neg (by simp [hn]), if_neg (by simp), if_neg (by simp), if_neg (by simp [lkPs]), lkSs]
  rw [lkFs_cons, e]
  have h4 : nodeW 1 c = 0 ∨ nodeW 1 c = 4 := by unfold nodeW; split <;> simp
  rcases h4 with h4 | h4
  · rw [h4, if_neg (by simp), thn_ok, lkFs]; exact .inl rfl
  · rw [h4, if_pos (by simp), thn_no (by simp)]; exact .inr rfl
theorem ck_noF (E : Nev) (nm : ByteArray) : ckF E (noF nm) = 0 := by
  unfold ckF noF
  dsimp only
  rw [ckPs, if_neg (by simp), ckL]
  simp [hid, hideC]
theorem unused (p : Pg) (nm : ByteArray) (h0 : (ckP p).1 = 0) (hn : namN nm = true) (h1 : nm ≠ nPut) (h2 : nm ≠ nGet) (hg : ∀ g ∈ p.globals, g.nm ≠ nm) (hf : ∀ f ∈ p.funcs, f.nm ≠ nm) (hl : p.funcs.length < 100) :
    (ckP ⟨p.globals, p.funcs ++ [noF nm]⟩).1 = 0 ∨ ((ckP ⟨p.globals, p.funcs ++ [noF nm]⟩).1 = 4 ∧ (lkP ⟨p.globals, p.funcs ++ [noF nm]⟩).1 = 4) := by
  rw [ckP_eq] at h0
  split at h0
  · rename_i h3; exact absurd h0 h3
  rename_i h3
  have h3 : (lkP p).1 = 0 := by simpa using h3
  have hq : (lkP ⟨p.globals, p.funcs ++ [noF nm]⟩).1 = 0 ∨ (lkP ⟨p.globals, p.funcs ++ [noF nm]⟩).1 = 4 := by
    unfold lkP at h3 ⊢
    rw [if_neg (by omega)] at h3
    dsimp only
    rw [if_neg (by simp only [List.length_append, List.length_cons, List.length_nil]; omega)]
    obtain ⟨a1, a2⟩ := thn_inv h3
    rw [a2] at h3
    unfold thn
    rw [if_neg (by simpa using a1), lkFs_app _ _ _ h3]
    exact lk_noF hn _
  rw [ckP_eq]
  rcases hq with hq | hq
  rotate_left
  · right
    rw [hq, if_pos (by simp)]
    exact ⟨rfl, rfl⟩
  left
  rw [hq, if_neg (by simp)]
  unfold af1 at h0 ⊢
  split at h0
  · rename_i h4; exact absurd h0 h4
  rename_i h4
  rw [if_neg h4]
  obtain ⟨g1, g2⟩ := ckGs_none p.globals 0 ev0 0 hg rfl
  have g3 : (ckGs p.globals 0 ev0 0).2.1.f nm = none := by
    rw [g2]
    show (if nm = nGet then some ((16 : Int), true, 0) else if nm = nPut then some (0, false, 1) else none) = none
    rw [if_neg h2, if_neg h1]
  generalize (ckGs p.globals 0 ev0 0).2.1 = E at *
  unfold af2 at h0 ⊢
  split at h0
  · rename_i h5; exact absurd h0 h5
  rename_i h5
  have h5 : (ckNs p.funcs p.globals.length E).1.1 = 0 := by simpa using h5
  obtain ⟨n1, n2⟩ := ckNs_none p.funcs p.globals.length E hf g3
  have ht : (ckNs p.funcs p.globals.length E).2.taken (noF nm).nm = false := by
    show (((ckNs p.funcs p.globals.length E).2.v nm).isSome || ((ckNs p.funcs p.globals.length E).2.f nm).isSome) = false
    rw [n1, n2, g1]
    rfl
  obtain ⟨n3, n4⟩ := ckNs_app (noF nm) p.funcs p.globals.length E h5 ht
  dsimp only
  rw [n3, if_neg (by simp), n4]
  generalize (ckNs p.funcs p.globals.length E).2 = F at *
  have hs : Sub F (F.addF (noF nm)) := ⟨rfl, fun k x hk => by
    show (if k = nm then _ else F.f k) = some x
    rw [if_neg (by rintro rfl; rw [n1] at hk; cases hk)]
    exact hk⟩
  unfold af3 at h0 ⊢
  split at h0
  · rename_i h6; exact absurd h0 h6
  rename_i h6
  have h6 : (ckFs F p.funcs p.globals.length).1 = 0 := by simpa using h6
  rw [if_neg (by simpa using ckFs_sub hs (noF nm) (ck_noF _ nm) p.funcs p.globals.length h6)]
  have hm : mainB F = true := by
    cases hm : mainB F
    · rw [hm] at h0; cases h0
    · rfl
  have hm2 : mainB (F.addF (noF nm)) = true := by
    unfold mainB at hm ⊢
    cases e : F.f nMain with
    | none => rw [e] at hm; cases hm
    | some x => rw [hs.f _ _ e]; rw [e] at hm; exact hm
  rw [hm2, if_pos rfl]
end Go.Proofs.YtaidefdbjcgcbaaGreat
