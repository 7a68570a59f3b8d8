/-
  Writing: a program with which nothing is wrong is such as is written, and its text is not long.
-/
import Derived.Test.YtbakhengcgclmaaGreatDoorSwUz
namespace Go.Proofs.YtbakhengcgclmaaGreatDoor
open Go.RowKit Go.Great
set_option linter.unusedSimpArgs false
set_option linter.unusedVariables false

def sums (l : List (List UInt8)) : Nat := (l.map fun t => t.length + 2).sum
theorem sums_cons (t : List UInt8) (l : List (List UInt8)) : sums (t :: l) = t.length + 2 + sums l := by simp [sums]
theorem joinC_len : ∀ l : List (List UInt8), (joinC l).length ≤ sums l
  | [] => by simp [joinC]
  | [x] => by simp [joinC, sums]
  | x :: y :: l => by
    have := joinC_len (y :: l)
    rw [joinC, sums_cons]
    simp only [List.length_append, List.length_cons, List.length_nil]
    omega
theorem getD_len (l : List (List UInt8)) : (l.getD 0 []).length + (l.getD 1 []).length ≤ sums l := by
  match l with
  | [] => simp [sums]
  | [x] => simp [sums]
  | x :: y :: l => simp [sums]; omega
theorem opS_len (k : Int) : (opS k).length ≤ 2 := by
  have hm : ∀ p ∈ opT, p.1.length ≤ 2 := by decide
  unfold opS
  cases h : opT[(k - 9).toNat]? with
  | none => simp
  | some p => simpa using hm p (List.mem_of_getElem? h)
theorem lit_ok {n : Int} {u : Bool} (h : (lit n u).2.2 = 0) : n ≤ 18446744073709551615 := by
  unfold lit at h
  have g16 : gr 16 (!u) ≤ 18446744073709551615 := by cases u <;> decide
  have g32 : gr 32 (!u) ≤ 18446744073709551615 := by cases u <;> decide
  have g64 : gr 64 (!u) ≤ 18446744073709551615 := by cases u <;> decide
  split at h
  · omega
  · split at h
    · omega
    · split at h
      · omega
      · cases h
theorem headT_len (k b : Int) (s : Bool) : (headT k b s).length ≤ 12 := by
  have h := tyN_len b s
  have e : (tyN b s).data.toList.length = (tyN b s).size := by simp
  unfold headT
  split
  · decide
  · split
    · decide
    · split
      · decide
      · simp only [List.length_append, List.length_cons, List.length_nil, e]; omega
theorem putE_len (k n b : Int) (s : Bool) (nm : ByteArray) (least : Nat) (l : List (List UInt8)) (hn : k = 1 → n ≤ 18446744073709551615) (hm : k = 2 ∨ k = 3 ∨ k = 4 → nm.size ≤ 32) : (putE k n b s nm least l).length ≤ 40 + sums l := by
  have h1 := joinC_len l
  have h2 := getD_len l
  have h3 := opS_len k
  have h4 := headT_len k b s
  have e : nm.data.toList.length = nm.size := by simp
  unfold putE
  split
  · split <;> (simp only [List.length_append, List.length_cons, List.length_nil]; omega)
  · split
    · rename_i hk
      have := decDigits_le n.toNat (by have := hn hk; omega)
      split <;> (simp only [List.length_append, List.length_cons, List.length_nil]; omega)
    · split
      · rename_i hk; have := hm (.inl hk); rw [e]; omega
      · split
        · rename_i hk; have := hm (.inr (.inl hk)); simp only [List.length_append, List.length_cons, List.length_nil, e]; omega
        · split
          · rename_i hk; have := hm (.inr (.inr hk)); simp only [List.length_append, List.length_cons, List.length_nil, e]; omega
          · simp only [List.length_append]; omega
theorem shL_len (l : List Ex) (IH : ∀ y ∈ l, ∀ d c, (lkE y d c).1 = 0 → ∀ least, (shE y least).length + 2 + 64 * c ≤ 64 * (lkE y d c).2) : ∀ d c, (lkEs l d c).1 = 0 → ∀ f i, sums (shL f l i) + 64 * c ≤ 64 * (lkEs l d c).2 := by
  induction l with
  | nil => intro d c _ f i; rw [lkEs, shL]; simp [sums]
  | cons a l ih =>
    intro d c h f i
    rw [lkEs_cons] at h ⊢
    by_cases e : (lkE a d c).1 = 0
    · rw [if_neg (by simpa using e)] at h ⊢
      have h1 := IH a List.mem_cons_self d c e (f i)
      have h2 := ih (fun z hz => IH z (List.mem_cons_of_mem _ hz)) d _ h f (i + 1)
      rw [shL_cons, sums_cons]
      omega
    · rw [if_pos e] at h; exact absurd h e
theorem shE_len : ∀ (x : Ex) (d c : Nat), (lkE x d c).1 = 0 → ∀ least, (shE x least).length + 2 + 64 * c ≤ 64 * (lkE x d c).2 := by
  apply Ex.ind
  intro x IH d c h least
  rw [lkE_eq] at h ⊢
  split at h
  · rename_i h1; exact absurd h h1
  · rename_i h1
    rw [if_neg h1]
    split at h
    · cases h
    · rename_i h2
      rw [if_neg h2]
      split at h
      · rename_i h3; exact absurd h h3
      · rename_i h3
        rw [if_neg h3]
        split at h
        · cases h
        · rename_i h4
          rw [if_neg h4]
          have h3' : wExF x.k x.n x.b x.s x.nm = 0 := by simpa using h3
          have hs := shL_len x.kids (fun y hy d c => IH y hy d c) _ _ h (kidW x.k) 0
          have hp := putE_len x.k x.n x.b x.s x.nm least (shL (kidW x.k) x.kids 0)
            (fun hk => by
              unfold wExF at h3'
              rw [if_pos hk] at h3'
              split at h3'
              · rename_i hh; exact lit_ok hh.1
              · cases h3')
            (fun hk => by
              apply wName_ok
              unfold wExF at h3'
              rw [if_neg (by omega), if_pos hk] at h3'
              exact h3')
          rw [shE_eq]
          omega
theorem thn_zero {r : Int × Nat} {f : Nat → Int × Nat} (h : (thn r f).1 = 0) : r.1 = 0 ∧ thn r f = f r.2 := by
  unfold thn at *
  by_cases e : r.1 = 0
  · rw [if_neg (by simpa using e)]; exact ⟨e, rfl⟩
  · rw [if_pos e] at h; exact absurd h e
/-- What is shown of each statement. -/
def SGood (x : Sm) : Prop := ∀ d c n, (lkS x d c).1 = 0 → n ≤ d → OkS x ∧ (lnT n x).length + 500 * c ≤ 500 * (lkS x d c).2
theorem stL_len (xs : List Sm) (IH : ∀ y ∈ xs, SGood y) : ∀ d c n, (lkSs xs d c).1 = 0 → n ≤ d → (∀ y ∈ xs, OkS y) ∧ (stL xs n).length + 500 * c ≤ 500 * (lkSs xs d c).2 := by
  induction xs with
  | nil => intro d c n _ _; rw [lkSs, stL]; exact ⟨fun y hy => (by simp at hy), by simp⟩
  | cons a l ih =>
    intro d c n h hn
    rw [lkSs_cons] at h ⊢
    by_cases e : (lkS a d c).1 = 0
    · rw [if_neg (by simpa using e)] at h ⊢
      obtain ⟨o1, h1⟩ := IH a List.mem_cons_self d c n e hn
      obtain ⟨o2, h2⟩ := ih (fun z hz => IH z (List.mem_cons_of_mem _ hz)) d _ n h hn
      refine ⟨fun y hy => ?_, ?_⟩
      · rcases List.mem_cons.1 hy with rfl | hy
        · exact o1
        · exact o2 y hy
      · rw [stL]
        rw [List.length_append]
        unfold lnT at h1
        omega
    · rw [if_pos e] at h; exact absurd h e
theorem OkS.c {x : Sm} (h : OkS x) : OkC x := by cases h; assumption
theorem stL_cl (xs : List Sm) (n : Nat) (h : isSE xs = true) : (xs.map clT).flatten.length ≤ (stL xs n).length ∧ (xs.map fun y => 32 :: clT y).flatten.length ≤ (stL xs n).length := by
  induction xs with
  | nil => simp
  | cons a l ih =>
    simp only [isSE, List.all_cons, Bool.and_eq_true] at h
    obtain ⟨h1, h2⟩ := h
    obtain ⟨i1, i2⟩ := ih h2
    have hk : a.k = 3 ∨ a.k = 4 := by simpa using h1
    have e : stT a n = clT a ++ [59] := by rw [stT_eq, if_neg (by omega), if_neg (by omega), if_neg (by omega), if_neg (by omega)]
    rw [stL, e]
    simp only [List.map_cons, List.flatten_cons, List.length_append, List.length_cons, List.length_nil]
    omega
theorem lkB_len (xs : List Sm) (IH : ∀ y ∈ xs, SGood y) (d c : Nat) (h : (lkB xs d c).1 = 0) : (∀ y ∈ xs, OkC y) ∧ (xs.map clT).flatten.length + 500 * c ≤ 500 * (lkB xs d c).2 ∧ (xs.map fun y => 32 :: clT y).flatten.length + 500 * c ≤ 500 * (lkB xs d c).2 := by
  unfold lkB at *
  split at h
  · cases h
  · rename_i h1
    rw [if_neg h1]
    split at h
    · rename_i h2
      rw [if_pos h2]
      obtain ⟨o, hl⟩ := stL_len xs IH d c 0 h (Nat.zero_le _)
      obtain ⟨i1, i2⟩ := stL_cl xs 0 h2
      exact ⟨fun y hy => (o y hy).c, by omega, by omega⟩
    · cases h
theorem lkE_good (x : Ex) (d c : Nat) (h : (lkE x d c).1 = 0) : OkE x ∧ (shE x 1).length + 500 * c ≤ 500 * (lkE x d c).2 := by
  have := shE_len x d c h 1
  exact ⟨okE_of x d c h, by omega⟩
set_option maxHeartbeats 2000000 in
theorem sgood : ∀ x : Sm, SGood x := by
  apply Sm.ind
  intro x I1 I2 I3 I4 d c n h hn
  rw [lkS_eq] at h ⊢
  split at h
  · rename_i h1; exact absurd h h1
  · rename_i h1
    have hd := (nodeW_ok (by simpa using h1)).2
    rw [if_neg h1]
    split at h
    · cases h
    · rename_i h2
      rw [if_neg h2]
      split at h
      · rename_i h3; exact absurd h h3
      · rename_i h3
        rw [if_neg h3]
        have h3' : wSmF x.k x.b x.nm = 0 := by simpa using h3
        have hnm : x.k = 2 ∨ x.k = 3 → x.nm.size ≤ 32 := fun hk => by
          unfold wSmF at h3'
          rcases hk with hk | hk
          · rw [if_pos hk] at h3'
            unfold wTyped at h3'
            split at h3'
            · exact wName_ok h3'
            · cases h3'
          · rw [if_neg (by omega), if_pos hk] at h3'
            exact wName_ok h3'
        have hnl : x.nm.data.toList.length = x.nm.size := by simp
        have hty : (tyN x.b x.s).data.toList.length ≤ 10 := by have := tyN_len x.b x.s; simpa using this
        clear h3 h3' h2 h1
        unfold lkI at h ⊢
        obtain ⟨r1, e1⟩ := thn_zero h
        rw [e1] at h ⊢
        obtain ⟨r2, e2⟩ := thn_zero h
        rw [e2] at h ⊢
        obtain ⟨r3, e3⟩ := thn_zero h
        rw [e3] at h ⊢
        obtain ⟨r4, e4⟩ := thn_zero h
        rw [e4] at h ⊢
        clear e1 e2 e3 e4
        have F1 : (x.k = 7 → (∀ y ∈ x.init, OkC y) ∧ (x.init.map clT).flatten.length + 500 * (c + 1) ≤ 500 * (if x.k = 7 then lkB x.init (d + 1) (c + 1) else (0, c + 1)).2) ∧ c + 1 ≤ (if x.k = 7 then lkB x.init (d + 1) (c + 1) else (0, c + 1)).2 := by
          by_cases hk : x.k = 7
          · rw [if_pos hk] at r1 ⊢
            obtain ⟨o, l1, l2⟩ := lkB_len x.init I1 _ _ r1
            exact ⟨fun _ => ⟨o, l1⟩, by omega⟩
          · rw [if_neg hk]; exact ⟨fun e => absurd e hk, Nat.le_refl _⟩
        generalize (if x.k = 7 then lkB x.init (d + 1) (c + 1) else (0, c + 1)).2 = a1 at *
        have F2 : (x.k = 3 → x.has = true → OkE x.i ∧ (shE x.i 1).length + 500 * a1 ≤ 500 * (if x.k = 3 ∧ x.has = true then lkE x.i (d + 1) a1 else (0, a1)).2) ∧ a1 ≤ (if x.k = 3 ∧ x.has = true then lkE x.i (d + 1) a1 else (0, a1)).2 := by
          by_cases hk : x.k = 3 ∧ x.has = true
          · rw [if_pos hk] at r2 ⊢
            obtain ⟨o, l1⟩ := lkE_good _ _ _ r2
            exact ⟨fun _ _ => ⟨o, l1⟩, by omega⟩
          · rw [if_neg hk]; exact ⟨fun e f => absurd ⟨e, f⟩ hk, Nat.le_refl _⟩
        generalize (if x.k = 3 ∧ x.has = true then lkE x.i (d + 1) a1 else (0, a1)).2 = a2 at *
        have F3 : (hasX x.k x.has = true → OkE x.x ∧ (shE x.x 1).length + 500 * a2 ≤ 500 * (if hasX x.k x.has = true then lkE x.x (d + 1) a2 else (0, a2)).2) ∧ a2 ≤ (if hasX x.k x.has = true then lkE x.x (d + 1) a2 else (0, a2)).2 := by
          by_cases hk : hasX x.k x.has = true
          · rw [if_pos hk] at r3 ⊢
            obtain ⟨o, l1⟩ := lkE_good _ _ _ r3
            exact ⟨fun _ => ⟨o, l1⟩, by omega⟩
          · rw [if_neg hk]; exact ⟨fun e => absurd e hk, Nat.le_refl _⟩
        generalize (if hasX x.k x.has = true then lkE x.x (d + 1) a2 else (0, a2)).2 = a3 at *
        have F4 : (x.k = 7 → (∀ y ∈ x.step, OkC y) ∧ (x.step.map fun y => 32 :: clT y).flatten.length + 500 * a3 ≤ 500 * (if x.k = 7 then lkB x.step (d + 1) a3 else (0, a3)).2) ∧ a3 ≤ (if x.k = 7 then lkB x.step (d + 1) a3 else (0, a3)).2 := by
          by_cases hk : x.k = 7
          · rw [if_pos hk] at r4 ⊢
            obtain ⟨o, l1, l2⟩ := lkB_len x.step I2 _ _ r4
            exact ⟨fun _ => ⟨o, l2⟩, by omega⟩
          · rw [if_neg hk]; exact ⟨fun e => absurd e hk, Nat.le_refl _⟩
        generalize (if x.k = 7 then lkB x.step (d + 1) a3 else (0, a3)).2 = a4 at *
        clear r1 r2 r3 r4
        obtain ⟨F1, f1⟩ := F1
        obtain ⟨F2, f2⟩ := F2
        obtain ⟨F3, f3⟩ := F3
        obtain ⟨F4, f4⟩ := F4
        have hc : OkC x := ⟨fun hk => (F3 hk).1, fun hk hh => (F2 hk hh).1⟩
        have hO1 : x.k = 7 → ∀ y ∈ x.init, OkC y := fun hk => (F1 hk).1
        have hO2 : x.k = 7 → ∀ y ∈ x.step, OkC y := fun hk => (F4 hk).1
        unfold lnT
        rw [stT_eq]
        simp only [List.length_append, List.length_replicate, List.length_cons, List.length_nil]
        by_cases h5 : x.k = 5
        · rw [if_pos h5] at h ⊢
          rw [if_pos h5]
          obtain ⟨r5, e5⟩ := thn_zero h
          rw [e5] at h ⊢
          obtain ⟨oB, lB⟩ := stL_len x.body I3 (d + 1) a4 (n + 1) r5 (by omega)
          obtain ⟨oE, lE⟩ := stL_len x.els I4 (d + 1) _ (n + 1) h (by omega)
          have fx := (F3 (by simp [hasX, h5])).2
          refine ⟨.mk x hc hO1 hO2 (fun _ => oB) (fun _ => oE), ?_⟩
          have eB : (blT x.body n).length = (stL x.body (n + 1)).length + n + 3 := by unfold blT; simp only [List.length_append, List.length_replicate, List.length_cons, List.length_nil]; omega
          have eE : (blT x.els n).length = (stL x.els (n + 1)).length + n + 3 := by unfold blT; simp only [List.length_append, List.length_replicate, List.length_cons, List.length_nil]; omega
          split <;> (simp only [List.length_append, List.length_cons, List.length_nil]; omega)
        · rw [if_neg h5] at h ⊢
          rw [if_neg h5]
          by_cases h6 : x.k = 6 ∨ x.k = 7 ∨ x.k = 11
          · rw [if_pos h6] at h ⊢
            obtain ⟨oB, lB⟩ := stL_len x.body I3 (d + 1) a4 (n + 1) h (by omega)
            have eB : (blT x.body n).length = (stL x.body (n + 1)).length + n + 3 := by unfold blT; simp only [List.length_append, List.length_replicate, List.length_cons, List.length_nil]; omega
            refine ⟨.mk x hc hO1 hO2 (fun _ => oB) (fun e => absurd e h5), ?_⟩
            rcases h6 with h6 | h6 | h6
            · rw [if_pos h6]
              have fx := (F3 (by simp [hasX, h6])).2
              simp only [List.length_append, List.length_cons, List.length_nil]; omega
            · rw [if_neg (by omega), if_pos h6]
              have g1 := (F1 h6).2
              have g4 := (F4 h6).2
              unfold forT
              by_cases hh : x.has = true
              · have fx := (F3 (by simp [hasX, h6, hh])).2
                rw [if_pos hh]
                simp only [List.length_append, List.length_cons, List.length_nil]; omega
              · rw [if_neg hh]
                simp only [List.length_append, List.length_cons, List.length_nil]; omega
            · rw [if_neg (by omega), if_neg (by omega), if_pos h6]
              omega
          · rw [if_neg h6] at h ⊢
            rw [if_neg (by omega), if_neg (by omega), if_neg (by omega)]
            refine ⟨.mk x hc hO1 hO2 (fun e => absurd e (by omega)) (fun e => absurd e h5), ?_⟩
            simp only [List.length_append, List.length_cons, List.length_nil]
            unfold clT
            have pl : ∀ a : List UInt8, (x.k = 2 ∨ x.k = 8) → a.length ≤ 3 → (perT a x).length + 500 * a2 ≤ 500 * a3 + 3 := fun a hk ha => by
              unfold perT
              by_cases hh : x.has = true
              · have fx := (F3 (by rcases hk with hk | hk <;> simp [hasX, hk, hh])).2
                rw [if_pos hh]
                simp only [List.length_append]; omega
              · rw [if_neg hh]; simp only [List.length_nil]; omega
            split
            · rename_i hk
              have := hnm (.inl hk)
              have := pl [32, 61, 32] (.inl hk) (by decide)
              simp only [List.length_append, List.length_cons, List.length_nil]; omega
            · split
              · rename_i hk
                have := hnm (.inr hk)
                have fx := (F3 (by simp [hasX, hk])).2
                unfold setT
                by_cases hh : x.has = true
                · have fi := (F2 hk hh).2
                  rw [if_pos hh]
                  simp only [List.length_append, List.length_cons, List.length_nil]; omega
                · rw [if_neg hh]
                  simp only [List.length_append, List.length_cons, List.length_nil]; omega
              · split
                · rename_i hk
                  have fx := (F3 (by simp [hasX, hk])).2
                  omega
                · split
                  · rename_i hk
                    have := pl [32] (.inr hk) (by decide)
                    simp only [List.length_append, List.length_cons, List.length_nil]; omega
                  · split
                    · simp only [List.length_cons, List.length_nil]; omega
                    · split <;> (simp only [List.length_cons, List.length_nil]; omega)
/-- Variables. -/
theorem lkG_good (g : Gb) (c : Nat) (h : (lkG g c).1 = 0) : (∀ x ∈ g.init, OkE x) ∧ 0 ≤ g.size ∧ g.size ≤ 8000 ∧ (glT g).length + 500 * c ≤ 500 * (lkG g c).2 := by
  unfold lkG at h ⊢
  split at h
  · rename_i h1; exact absurd h h1
  · rename_i h1
    rw [if_neg h1]
    split at h
    · cases h
    · rename_i h2
      rw [if_neg h2]
      split at h
      · cases h
      · rename_i h3
        rw [if_neg h3]
        split at h
        · rename_i h4; exact absurd h h4
        · rename_i h4
          rw [if_neg h4]
          have hnm : g.nm.size ≤ 32 := by
            have h1' : wTyped g.b g.nm = 0 := by simpa using h1
            unfold wTyped at h1'
            split at h1'
            · exact wName_ok h1'
            · cases h1'
          have hnl : g.nm.data.toList.length = g.nm.size := by simp
          have hty : (tyN g.b g.s).data.toList.length ≤ 10 := by have := tyN_len g.b g.s; simpa using this
          have hit := itoa_short g.size (by omega) (by omega)
          have all : ∀ (l : List Ex) d c, (lkEs l d c).1 = 0 → (∀ y ∈ l, OkE y) ∧ (shC l).length + 64 * c ≤ 64 * (lkEs l d c).2 := by
            intro l d c hl
            have a1 := shL_len l (fun y _ => shE_len y) d c hl (fun _ => 1) 0
            have a2 : ∀ (l : List Ex) i, shL (fun _ => 1) l i = l.map fun x => shE x 1 := by
              intro l
              induction l with
              | nil => intro i; rw [shL]; rfl
              | cons a l ih => intro i; rw [shL_cons, ih]; rfl
            have a3 := joinC_len (l.map fun x => shE x 1)
            rw [a2] at a1
            refine ⟨?_, by unfold shC; omega⟩
            clear a1 a2 a3
            induction l generalizing c with
            | nil => intro y hy; simp at hy
            | cons a l ih =>
              intro y hy
              rw [lkEs_cons] at hl
              by_cases e : (lkE a d c).1 = 0
              · rw [if_neg (by simpa using e)] at hl
                rcases List.mem_cons.1 hy with rfl | hy
                · exact okE_of _ _ _ e
                · exact ih _ hl y hy
              · rw [if_pos e] at hl; exact absurd hl e
          obtain ⟨o, hl⟩ := all g.init 2 (c + 1) h
          refine ⟨o, by omega, by omega, ?_⟩
          unfold glT szT inT nuT
          simp only [List.length_append, List.length_cons, List.length_nil, hnl]
          have : ((if 0 < g.size then [91] ++ Lib.itoa g.size ++ [93] else [] : List UInt8)).length ≤ 22 := by
            split
            · simp only [List.length_append, List.length_cons, List.length_nil]; omega
            · simp
          have : ((if g.init.length = 0 then [] else [32, 61, 32] ++ if 0 < g.size then [123] ++ shC g.init ++ [125] else shC g.init : List UInt8)).length ≤ 5 + (shC g.init).length := by
            split
            · simp
            · split <;> (simp only [List.length_append, List.length_cons, List.length_nil]; omega)
          omega
/-- Functions. -/
theorem lkF_good (f : Fn8) (c : Nat) (h : (lkF f c).1 = 0) : (∀ y ∈ f.body, OkS y) ∧ (fnT f 0).length + 1000 * c ≤ 1000 * (lkF f c).2 := by
  unfold lkF at h ⊢
  split at h
  · cases h
  · rename_i h0
    rw [if_neg h0]
    split at h
    · cases h
    · rename_i h1
      rw [if_neg h1]
      split at h
      · cases h
      · rename_i h2
        rw [if_neg h2]
        split at h
        · rename_i h3; exact absurd h h3
        · rename_i h3
          rw [if_neg h3]
          split at h
          · rename_i h4; exact absurd h h4
          · rename_i h4
            rw [if_neg h4]
            obtain ⟨oB, lB⟩ := stL_len f.body (fun y _ => sgood y) 2 (c + 1) 1 h (by omega)
            refine ⟨oB, ?_⟩
            have hnm : f.nm.size ≤ 32 := by
              apply wName_ok
              unfold wName
              rw [if_pos (by simpa using h0)]
            have hnl : f.nm.data.toList.length = f.nm.size := by simp
            have hty : (tyN f.b f.s).data.toList.length ≤ 10 := by have := tyN_len f.b f.s; simpa using this
            have hps : ∀ ps : List Pm, lkPs ps = 0 → sums (ps.map pmT) ≤ 45 * ps.length := by
              intro ps
              induction ps with
              | nil => intro _; simp [sums]
              | cons p ps ih =>
                intro hp
                rw [lkPs] at hp
                split at hp
                · rename_i hh; exact absurd hp hh
                · rename_i hh
                  have hh' : wTyped p.b p.nm = 0 := by simpa using hh
                  have hpn : p.nm.size ≤ 32 := by
                    unfold wTyped at hh'
                    split at hh'
                    · exact wName_ok hh'
                    · cases hh'
                  have := ih hp
                  have hnl : p.nm.data.toList.length = p.nm.size := by simp
                  have hty : (tyN p.b p.s).data.toList.length ≤ 10 := by have := tyN_len p.b p.s; simpa using this
                  have hpl : (pmT p).length = (tyN p.b p.s).data.toList.length + 1 + p.nm.data.toList.length := by unfold pmT; simp only [List.length_append, List.length_cons, List.length_nil]
                  rw [List.map_cons, sums_cons, List.length_cons]
                  omega
            have hj := joinC_len (f.params.map pmT)
            have hq := hps f.params (by simpa using h3)
            unfold fnT psT blT
            simp only [List.length_append, List.length_cons, List.length_nil, List.length_replicate, hnl, Nat.zero_add]
            omega
theorem lkGs_good (gs : List Gb) : ∀ c, (lkGs gs c).1 = 0 → (∀ g ∈ gs, (∀ x ∈ g.init, OkE x) ∧ 0 ≤ g.size ∧ g.size ≤ 8000) ∧ (gs.map glT).flatten.length + 1000 * c ≤ 1000 * (lkGs gs c).2 ∧ (c ≤ 20000 → (lkGs gs c).2 ≤ 20000) := by
  induction gs with
  | nil => intro c _; rw [lkGs]; exact ⟨fun y hy => (by simp at hy), by simp, fun h => h⟩
  | cons g gs ih =>
    intro c h
    rw [lkGs_cons] at h ⊢
    obtain ⟨r, e⟩ := thn_zero h
    rw [e] at h ⊢
    obtain ⟨o1, o2, o3, l1⟩ := lkG_good g c r
    obtain ⟨p1, p2, p3⟩ := ih _ h
    refine ⟨fun y hy => ?_, ?_, fun hc => p3 (lkG_le g c hc r)⟩
    · rcases List.mem_cons.1 hy with rfl | hy
      · exact ⟨o1, o2, o3⟩
      · exact p1 y hy
    · rw [List.map_cons, List.flatten_cons, List.length_append]
      omega
theorem lkFs_good (fs : List Fn8) : ∀ c, (lkFs fs c).1 = 0 → (∀ f ∈ fs, ∀ y ∈ f.body, OkS y) ∧ (fs.map (fnT · 0)).flatten.length + 1000 * c ≤ 1000 * (lkFs fs c).2 ∧ (c ≤ 20000 → (lkFs fs c).2 ≤ 20000) := by
  induction fs with
  | nil => intro c _; rw [lkFs]; exact ⟨fun y hy => (by simp at hy), by simp, fun h => h⟩
  | cons f fs ih =>
    intro c h
    rw [lkFs_cons] at h ⊢
    obtain ⟨r, e⟩ := thn_zero h
    rw [e] at h ⊢
    obtain ⟨o1, l1⟩ := lkF_good f c r
    obtain ⟨p1, p2, p3⟩ := ih _ h
    refine ⟨fun y hy => ?_, ?_, fun hc => p3 (lkF_le f c hc r)⟩
    · rcases List.mem_cons.1 hy with rfl | hy
      · exact o1
      · exact p1 y hy
    · rw [List.map_cons, List.flatten_cons, List.length_append]
      omega
/-- A program's text. -/
def shP (p : Pg) : List UInt8 := (p.globals.map glT).flatten ++ (p.funcs.map (fnT · 0)).flatten
/-- What Show tells. -/
def showT (p : Pg) : List UInt8 × Int := if (lkP p).1 = 0 then (if 65536 < (shP p).length then ([], 4) else (shP p, 0)) else ([], (lkP p).1)
theorem lkP_good (p : Pg) (h : (lkP p).1 = 0) : (∀ g ∈ p.globals, (∀ x ∈ g.init, OkE x) ∧ 0 ≤ g.size ∧ g.size ≤ 8000) ∧ (∀ f ∈ p.funcs, ∀ y ∈ f.body, OkS y) ∧ (shP p).length ≤ 20000000 := by
  unfold lkP at h
  split at h
  · cases h
  · obtain ⟨r, e⟩ := thn_zero h
    rw [e] at h
    obtain ⟨a1, a2, a3⟩ := lkGs_good _ _ r
    obtain ⟨b1, b2, b3⟩ := lkFs_good _ _ h
    refine ⟨a1, b1, ?_⟩
    have := b3 (a3 (by omega))
    unfold shP
    rw [List.length_append]
    omega
end Go.Proofs.YtbakhengcgclmaaGreatDoor
