/-
  The linker as a plain function; the blocks' numbers make nothing of it.
-/
import Derived.Test.YtodfjomglgmffaaGreatDoorLkW0
namespace Go.Proofs.YtodfjomglgmffaaGreatDoor
open Go.RowKit Go.Maps
set_option linter.unusedSimpArgs false
set_option linter.unusedVariables false

/-- The blocks' numbers struck. -/
def er (s : Ls) : Ls := ⟨s.P.map (fun p => (p.1, 0)), s.order, s.fin⟩
theorem er_put (s : Ls) (n : Nat) : putL (er s) n = er (putL s n) := by
  unfold putL er
  rw [List.getElem?_map]
  cases h : s.P[n]? with
  | none => rfl
  | some p =>
    simp only [Option.map_some]
    by_cases hp : p.1.put = true
    · rw [if_pos hp, if_pos hp]
    · rw [if_neg hp, if_neg hp]; simp [List.map_set]
theorem er_owner (O : Nmd) (P : List (Pt × Nat)) (n : Nat) (k : List UInt8) : ownerL O (P.map (fun p => (p.1, 0))) n k = ownerL O P n k := by
  unfold ownerL
  split
  · rfl
  · rw [List.getElem?_map]; cases P[n]? <;> rfl
theorem er_fnd (O : Nmd) (n : Nat) (s : Ls) (k : List UInt8) : fndL O n (er s) k = (er (fndL O n s k).1, (fndL O n s k).2) := by
  unfold fndL
  rw [show (er s).P = s.P.map (fun p => (p.1, 0)) from rfl, er_owner, er_put]
  split
  · refine Prod.ext rfl (Prod.ext ?_ rfl)
    dsimp only
    rw [show (er (putL s (ownerL O s.P n k).1.toNat)).P = (putL s (ownerL O s.P n k).1.toNat).P.map (fun p => (p.1, 0)) from rfl, List.getElem?_map]
    cases (putL s (ownerL O s.P n k).1.toNat).P[(ownerL O s.P n k).1.toNat]? <;> rfl
  · rfl
/-- Resolve with a finder whose states are seen otherwise. -/
theorem rsv_map {σ τ : Type} {fnd : σ → List UInt8 → σ × Int × Bool} {fnd' : τ → List UInt8 → τ × Int × Bool} (f : σ → τ) (h : ∀ s k, fnd' (f s) k = (f (fnd s k).1, (fnd s k).2)) : ∀ (l : List Ln) (k : Nat) (s : σ) (acc : List Ins), rsv fnd' l k (f s) acc = ((rsv fnd l k s acc).1, f (rsv fnd l k s acc).2)
  | [], _, _, _ => rfl
  | x :: l, k, s, acc => by
    unfold rsv
    rw [h]
    dsimp only
    split
    · exact rsv_map f h l _ _ _
    · split
      · exact rsv_map f h l _ _ _
      · split
        · exact rsv_map f h l _ _ _
        · rfl
/-- A run that comes to its end, beside a finder that finds the same. -/
theorem rsv_sim {σ τ : Type} {fnd : σ → List UInt8 → σ × Int × Bool} {fnd' : τ → List UInt8 → τ × Int × Bool} (f : σ → τ) (I : σ → Prop) (h : ∀ s k, I s → (fnd s k).2.2 = true → fnd' (f s) k = (f (fnd s k).1, (fnd s k).2) ∧ I (fnd s k).1) : ∀ (l : List Ln) (k : Nat) (s : σ) (acc : List Ins), I s → (rsv fnd l k s acc).1.2.1 = 0 → rsv fnd' l k (f s) acc = ((rsv fnd l k s acc).1, f (rsv fnd l k s acc).2) ∧ I (rsv fnd l k s acc).2
  | [], _, _, _, hI, _ => ⟨rfl, hI⟩
  | x :: l, k, s, acc, hI, h0 => by
    by_cases h1 : emp x.lab = false
    · rw [rsv_lab h1] at h0 ⊢; rw [rsv_lab h1]; exact rsv_sim f I h l _ _ _ hI h0
    · replace h1 : emp x.lab = true := by simpa using h1
      by_cases h2 : emp x.ref = true
      · rw [rsv_ins h1 h2] at h0 ⊢; rw [rsv_ins h1 h2]; exact rsv_sim f I h l _ _ _ hI h0
      · replace h2 : emp x.ref = false := by simpa using h2
        by_cases h3 : (fnd s x.ref.toList).2.2 = true
        · obtain ⟨e, hI2⟩ := h s _ hI h3
          rw [rsv_ref h1 h2 h3] at h0 ⊢
          rw [rsv_ref h1 h2 (by rw [e]; exact h3), e]
          exact rsv_sim f I h l _ _ _ hI2 h0
        · replace h3 : (fnd s x.ref.toList).2.2 = false := by simpa using h3
          rw [rsv_none h1 h2 h3] at h0; simp at h0
theorem er_wrd (us : List Un) (O : Nmd) : ∀ (f i : Nat) (s : Ls) (out : List Int), wrdL us O f i (er s) out = ((wrdL us O f i s out).1, er (wrdL us O f i s out).2)
  | 0, _, _, _ => rfl
  | f + 1, i, s, out => by
    unfold wrdL
    rw [show (er s).order = s.order from rfl]
    cases h : s.order[i]? with
    | none => rfl
    | some m =>
      dsimp only
      rw [show (er s).P = s.P.map (fun p => (p.1, 0)) from rfl, List.getElem?_map]
      cases h1 : s.P[m.toNat]? with
      | none => rfl
      | some p =>
        cases h2 : us[m.toNat]? with
        | none => rfl
        | some u =>
          simp only [Option.map_some]
          rw [rsv_map er (er_fnd O m.toNat)]
          dsimp only
          split
          · split
            · exact er_wrd us O f _ _ _
            · rfl
          · rfl
/-- An image. -/
structure Im where
  words : List Int
  units : List Int
  spots : List (ByteArray × Int)
/-- The labels for all of one unit. -/
def spt1 (l : List Ln) (p : Pt) : List (ByteArray × Int) := (l.filter fun x => fa x.lab).map fun x => (x.lab, p.start + atA p.A x.lab.toList)
def sptL (us : List Un) (P : List (Pt × Nat)) (order : List Int) : List (ByteArray × Int) :=
  order.flatMap fun n => match us[n.toNat]?, P[n.toNat]? with | some u, some p => spt1 u.lines p.1 | _, _ => []
def im0 : Im := ⟨[], [], []⟩
/-- What words makes, the blocks' numbers struck. -/
def wrdS (us : List Un) (S : Sv) (entry : List UInt8) : (List Int × Int × Int) × Ls := wrdL us S.owners 400 0 (putL ⟨S.parts.map (fun p => (p, 0)), [], 0⟩ (atA S.owners entry).toNat) []
def imL (us : List Un) (R : (List Int × Int × Int) × Ls) : Im × Int × Int := if R.1.2.1 = 0 then (⟨R.1.1, R.2.order, sptL us R.2.P R.2.order⟩, 0, 0) else (im0, R.1.2.1, R.1.2.2)
def linkL (us : List Un) (entry : List UInt8) : Im × Int × Int :=
  if us.length ≤ 400 then
    (if (srv us 0 ⟨[], []⟩).2.1 = 0 then
      (if hasA (srv us 0 ⟨[], []⟩).1.owners entry = true then imL us (wrdS us (srv us 0 ⟨[], []⟩).1 entry) else (im0, 6, us.length))
     else (im0, (srv us 0 ⟨[], []⟩).2.1, (srv us 0 ⟨[], []⟩).2.2))
  else (im0, 5, 0)
theorem er_spt (us : List Un) (s : Ls) : sptL us (er s).P (er s).order = sptL us s.P s.order := by
  unfold sptL er
  dsimp only
  congr 1
  funext n
  rw [List.getElem?_map]
  cases us[n.toNat]? <;> cases s.P[n.toNat]? <;> rfl
/-- With whatever blocks. -/
theorem wrdS_of (us : List Un) (S : Sv) (entry : List UInt8) (P : List (Pt × Nat)) (h : P.map (·.1) = S.parts) : imL us (wrdL us S.owners 400 0 (putL ⟨P, [], 0⟩ (atA S.owners entry).toNat) []) = imL us (wrdS us S entry) := by
  unfold wrdS
  have e : (⟨S.parts.map (fun p => (p, 0)), [], 0⟩ : Ls) = er ⟨P, [], 0⟩ := by unfold er; rw [← h]; simp
  rw [e, er_put, er_wrd]
  unfold imL
  dsimp only
  rw [er_spt]
  rfl
end Go.Proofs.YtodfjomglgmffaaGreatDoor

/-
  What holds of a linker all along; one unit alone; a unit more.
-/
namespace Go.Proofs.YtodfjomglgmffaaGreatDoor
open Go.RowKit Go.Maps
set_option linter.unusedSimpArgs false
set_option linter.unusedVariables false

theorem atA_mem {A : Nmd} {k : List UInt8} (h : hasA A k = true) : (k, atA A k) ∈ A := by
  unfold hasA at h
  unfold atA
  cases e : A.find? (fun p => p.1 == k) with
  | none =>
    rw [List.find?_eq_none] at e
    rw [List.any_eq_true] at h
    obtain ⟨p, hp, hk⟩ := h
    exact absurd hk (e p hp)
  | some p =>
    have h1 := List.mem_of_find?_eq_some e
    have h2 := List.find?_some e
    simp only [beq_iff_eq] at h2
    subst h2
    exact h1
theorem atA_none {A : Nmd} {k : List UInt8} (h : hasA A k = false) : atA A k = 0 := by
  unfold hasA at h
  unfold atA
  rw [List.any_eq_false] at h
  rw [List.find?_eq_none.2 (fun p hp => h p hp)]
/-- Places are within memory. -/
theorem plc_in : ∀ (l : List Ln) (k : Nat) (A : Nmd) (n : Int), 0 ≤ n → n ≤ 65536 → (∀ p ∈ A, 0 ≤ p.2 ∧ p.2 ≤ 65536) → (∀ p ∈ (plc l k A n).1, 0 ≤ p.2 ∧ p.2 ≤ 65536) ∧ 0 ≤ (plc l k A n).2.1 ∧ (plc l k A n).2.1 ≤ 65536
  | [], _, _, _, h1, h2, h => ⟨h, h1, h2⟩
  | x :: l, k, A, n, h1, h2, h => by
    by_cases hw : wrgL x = 0
    · by_cases he : emp x.lab = true
      · by_cases ht : n + lng x.i.o ≤ 65536
        · rw [plc_ins hw he ht]
          exact plc_in l _ _ _ (by have := lng_in x.i.o; omega) ht h
        · rw [plc_much hw he (by omega)]; simp
      · replace he : emp x.lab = false := by simpa using he
        by_cases ht : hasA A x.lab.toList = true
        · rw [plc_taken hw he ht]; simp
        · replace ht : hasA A x.lab.toList = false := by simpa using ht
          rw [plc_label hw he ht]
          refine plc_in l _ _ _ h1 h2 fun p hp => ?_
          rcases List.mem_append.1 hp with hp | hp
          · exact h p hp
          · simp at hp; subst hp; exact ⟨h1, h2⟩
    · rw [plc_bad hw]; simp
theorem plcA_in (l : List Ln) : (∀ p ∈ (plcA l).1, 0 ≤ p.2 ∧ p.2 ≤ 65536) ∧ 0 ≤ (plcA l).2.1 ∧ (plcA l).2.1 ≤ 65536 := by
  unfold plcA
  by_cases hm : l.length ≤ 40000
  · rw [if_pos hm]; exact plc_in _ _ _ _ (by decide) (by decide) (by simp)
  · rw [if_neg hm]; simp
theorem atA_in {A : Nmd} (h : ∀ p ∈ A, 0 ≤ p.2 ∧ p.2 ≤ 65536) (k : List UInt8) : 0 ≤ atA A k ∧ atA A k ≤ 65536 := by
  by_cases e : hasA A k = true
  · exact h _ (atA_mem e)
  · rw [atA_none (by simpa using e)]; omega
/-- Which labels Places finds. -/
theorem plc_has : ∀ (l : List Ln) (k : Nat) (A : Nmd) (n : Int), (plc l k A n).2.2.1 = 0 → ∀ j, hasA (plc l k A n).1 j = true ↔ (hasA A j = true ∨ ∃ x ∈ l, emp x.lab = false ∧ x.lab.toList = j)
  | [], _, A, _, _, j => by simp [plc]
  | x :: l, k, A, n, h, j => by
    by_cases hw : wrgL x = 0
    · by_cases he : emp x.lab = true
      · by_cases ht : n + lng x.i.o ≤ 65536
        · rw [plc_ins hw he ht] at h ⊢
          rw [plc_has l _ _ _ h]
          simp [he]
        · rw [plc_much hw he (by omega)] at h; simp at h
      · replace he : emp x.lab = false := by simpa using he
        by_cases ht : hasA A x.lab.toList = true
        · rw [plc_taken hw he ht] at h; simp at h
        · replace ht : hasA A x.lab.toList = false := by simpa using ht
          rw [plc_label hw he ht] at h ⊢
          rw [plc_has l _ _ _ h, hasA_snoc]
          simp [he, or_assoc]
    · rw [plc_bad hw] at h; exact absurd h hw
theorem plcA_ok {l : List Ln} (h : (plcA l).2.2.1 = 0) : plcA l = plc l 0 [] 0 := by
  have := (plcA_right h).1
  unfold plcA; rw [if_pos this]
theorem plcA_has {l : List Ln} (h : (plcA l).2.2.1 = 0) (j : List UInt8) : hasA (plcA l).1 j = true ↔ ∃ x ∈ l, emp x.lab = false ∧ x.lab.toList = j := by
  have e := plcA_ok h
  rw [e] at h ⊢
  rw [plc_has _ _ _ _ h]
  simp [hasA]
theorem fa_emp {s : ByteArray} (h : fa s = true) : emp s = false := by unfold fa at h; simp at h; exact h.1
/-- Whose labels are: old ones stay. -/
theorem owns_old : ∀ (l : List Ln) (n : Int) (O O' : Nmd), owns l n O = some O' → ∀ k, hasA O k = true → hasA O' k = true ∧ atA O' k = atA O k
  | [], _, O, O', h, k, hk => by simp [owns] at h; subst h; exact ⟨hk, rfl⟩
  | x :: l, n, O, O', h, k, hk => by
    by_cases hf : fa x.lab = true
    · by_cases ht : hasA O x.lab.toList = true
      · rw [owns_taken hf ht] at h; cases h
      · replace ht : hasA O x.lab.toList = false := by simpa using ht
        rw [owns_next hf ht] at h
        have e : (x.lab.toList == k) = false := by
          rw [beq_eq_false_iff_ne]; intro e; rw [e, hk] at ht; cases ht
        obtain ⟨h1, h2⟩ := owns_old l n _ _ h k (by rw [hasA_snoc, hk]; rfl)
        exact ⟨h1, by rw [h2, atA_snoc_other e]⟩
    · rw [owns_skip (by simpa using hf)] at h; exact owns_old l n _ _ h k hk
theorem owns_new : ∀ (l : List Ln) (n : Int) (O O' : Nmd), owns l n O = some O' → ∀ k, hasA O' k = true → hasA O k = false → atA O' k = n ∧ ∃ x ∈ l, fa x.lab = true ∧ x.lab.toList = k
  | [], _, O, O', h, k, hk, hn => by simp [owns] at h; subst h; rw [hk] at hn; cases hn
  | x :: l, n, O, O', h, k, hk, hn => by
    by_cases hf : fa x.lab = true
    · by_cases ht : hasA O x.lab.toList = true
      · rw [owns_taken hf ht] at h; cases h
      · replace ht : hasA O x.lab.toList = false := by simpa using ht
        rw [owns_next hf ht] at h
        by_cases e : x.lab.toList = k
        · subst e
          obtain ⟨h1, h2⟩ := owns_old l n _ _ h x.lab.toList (by rw [hasA_snoc]; simp)
          exact ⟨by rw [h2, atA_snoc_new ht], x, List.mem_cons_self, hf, rfl⟩
        · obtain ⟨h1, y, hy, h2⟩ := owns_new l n _ _ h k hk (by rw [hasA_snoc, hn]; simp [e])
          exact ⟨h1, y, List.mem_cons_of_mem _ hy, h2⟩
    · rw [owns_skip (by simpa using hf)] at h
      obtain ⟨h1, y, hy, h2⟩ := owns_new l n _ _ h k hk hn
      exact ⟨h1, y, List.mem_cons_of_mem _ hy, h2⟩
theorem owns_in : ∀ (l : List Ln) (n : Int) (O O' : Nmd), owns l n O = some O' → ∀ x ∈ l, fa x.lab = true → hasA O' x.lab.toList = true ∧ atA O' x.lab.toList = n ∧ hasA O x.lab.toList = false
  | [], _, _, _, _, x, hx, _ => by cases hx
  | y :: l, n, O, O', h, x, hx, hf => by
    by_cases hy : fa y.lab = true
    · by_cases ht : hasA O y.lab.toList = true
      · rw [owns_taken hy ht] at h; cases h
      · replace ht : hasA O y.lab.toList = false := by simpa using ht
        rw [owns_next hy ht] at h
        rcases List.mem_cons.1 hx with rfl | hx
        · obtain ⟨h1, h2⟩ := owns_old l n _ _ h x.lab.toList (by rw [hasA_snoc]; simp)
          exact ⟨h1, by rw [h2, atA_snoc_new ht], ht⟩
        · obtain ⟨h1, h2, h3⟩ := owns_in l n _ _ h x hx hf
          refine ⟨h1, h2, ?_⟩
          rw [hasA_snoc] at h3
          exact (Bool.or_eq_false_iff.1 h3).1
    · replace hy : fa y.lab = false := by simpa using hy
      rw [owns_skip hy] at h
      rcases List.mem_cons.1 hx with rfl | hx
      · rw [hy] at hf; cases hf
      · exact owns_in l n _ _ h x hx hf

/-! ### what is known of all units -/
theorem srv_split {u : Un} {l : List Un} {n : Nat} {s : Sv} (h : (srv (u :: l) n s).2.1 = 0) : (plcA u.lines).2.2.1 = 0 ∧ ∃ O, owns u.lines n s.owners = some O ∧ srv (u :: l) n s = srv l (n + 1) ⟨s.parts ++ [⟨(plcA u.lines).1, (plcA u.lines).2.1, false, 0⟩], O⟩ := by
  by_cases e : (plcA u.lines).2.2.1 = 0
  · cases o : owns u.lines n s.owners with
    | none => rw [srv_taken e o] at h; simp at h
    | some O => exact ⟨e, O, rfl, srv_next e o⟩
  · rw [srv_bad e] at h; exact absurd h e
def ptOf (u : Un) : Pt := ⟨(plcA u.lines).1, (plcA u.lines).2.1, false, 0⟩
theorem srv_parts : ∀ (l : List Un) (n : Nat) (s : Sv), (srv l n s).2.1 = 0 → (srv l n s).1.parts = s.parts ++ l.map ptOf ∧ (∀ u ∈ l, (plcA u.lines).2.2.1 = 0)
  | [], n, s, _ => by simp [srv]
  | u :: l, n, s, h => by
    obtain ⟨h1, O, h2, h3⟩ := srv_split h
    rw [h3] at h ⊢
    obtain ⟨h4, h5⟩ := srv_parts l _ _ h
    refine ⟨by rw [h4]; simp [ptOf], fun v hv => ?_⟩
    rcases List.mem_cons.1 hv with rfl | hv
    · exact h1
    · exact h5 v hv
/-- Who has a label: the unit in which it stands. -/
theorem srv_old : ∀ (l : List Un) (n : Nat) (s : Sv), (srv l n s).2.1 = 0 → ∀ k, hasA s.owners k = true → hasA (srv l n s).1.owners k = true ∧ atA (srv l n s).1.owners k = atA s.owners k
  | [], n, s, _, k, hk => ⟨hk, rfl⟩
  | u :: l, n, s, h, k, hk => by
    obtain ⟨h1, O, h2, h3⟩ := srv_split h
    rw [h3] at h ⊢
    obtain ⟨h4, h5⟩ := owns_old _ _ _ _ h2 k hk
    obtain ⟨h6, h7⟩ := srv_old l _ _ h k h4
    exact ⟨h6, h7.trans h5⟩
theorem srv_in : ∀ (l : List Un) (n : Nat) (s : Sv), (srv l n s).2.1 = 0 → ∀ i (hi : i < l.length), ∀ x ∈ (l[i]'hi).lines, fa x.lab = true → hasA (srv l n s).1.owners x.lab.toList = true ∧ atA (srv l n s).1.owners x.lab.toList = ((n + i : Nat) : Int)
  | [], n, s, _, i, hi, _, _, _ => by simp at hi
  | u :: l, n, s, h, 0, hi, x, hx, hf => by
    obtain ⟨h1, O, h2, h3⟩ := srv_split h
    rw [h3] at h ⊢
    obtain ⟨h4, h5, _⟩ := owns_in _ _ _ _ h2 x hx hf
    obtain ⟨h6, h7⟩ := srv_old l _ _ h _ h4
    exact ⟨h6, h7.trans h5⟩
  | u :: l, n, s, h, i + 1, hi, x, hx, hf => by
    obtain ⟨h1, O, h2, h3⟩ := srv_split h
    rw [h3] at h ⊢
    obtain ⟨h4, h5⟩ := srv_in l (n + 1) _ h i (by simpa using hi) x hx hf
    exact ⟨h4, by rw [h5]; congr 1; omega⟩
theorem srv_new : ∀ (l : List Un) (n : Nat) (s : Sv), (srv l n s).2.1 = 0 → ∀ k, hasA (srv l n s).1.owners k = true → hasA s.owners k = false → ∃ (i : Nat) (hi : i < l.length), atA (srv l n s).1.owners k = ((n + i : Nat) : Int) ∧ ∃ x ∈ (l[i]'hi).lines, fa x.lab = true ∧ x.lab.toList = k
  | [], n, s, _, k, hk, hn => by simp [srv] at hk; rw [hk] at hn; cases hn
  | u :: l, n, s, h, k, hk, hn => by
    obtain ⟨h1, O, h2, h3⟩ := srv_split h
    rw [h3] at h hk ⊢
    by_cases ho : hasA O k = true
    · obtain ⟨h4, h5⟩ := owns_new _ _ _ _ h2 k ho hn
      obtain ⟨h6, h7⟩ := srv_old l _ _ h k ho
      exact ⟨0, by simp, by rw [h7]; exact h4, h5⟩
    · obtain ⟨i, hi, h4, h5⟩ := srv_new l _ _ h k hk (by simpa using ho)
      exact ⟨i + 1, by simpa using hi, by rw [h4]; congr 1; omega, h5⟩
theorem srv_good {us : List Un} (hm : us.length ≤ 400) (h : (srv us 0 ⟨[], []⟩).2.1 = 0) {P : List (Pt × Nat)} (hP : P.map (·.1) = (srv us 0 ⟨[], []⟩).1.parts) : Good ⟨P, [], 0⟩ (srv us 0 ⟨[], []⟩).1.owners ∧ P.length = us.length := by
  obtain ⟨h1, h2⟩ := srv_parts us 0 ⟨[], []⟩ h
  have hl : P.length = us.length := by have := congrArg List.length (hP.trans h1); simpa using this
  have hput : ∀ p ∈ P, ∃ u ∈ us, p.1 = ptOf u := by
    intro p hp
    have : p.1 ∈ P.map (·.1) := List.mem_map_of_mem hp
    rw [hP, h1] at this
    simp only [List.nil_append, List.mem_map] at this
    obtain ⟨u, hu, e⟩ := this
    exact ⟨u, hu, e.symm⟩
  refine ⟨⟨by show P.length ≤ 400; omega, ?_, by show (0 : Int) ≤ 0; omega, by show (0 : Int) ≤ _; simp, ?_, ?_, by simp⟩, hl⟩
  · show 0 = cntP P
    unfold cntP
    rw [List.filter_eq_nil_iff.2 (fun p hp => by obtain ⟨u, _, e⟩ := hput p hp; rw [e]; simp [ptOf])]; rfl
  · intro p hp
    obtain ⟨u, _, e⟩ := hput p hp
    have hq := plcA_in u.lines
    rw [e]
    exact ⟨hq.2.1, hq.2.2, by show (0 : Int) ≤ 0; omega, by show (0 : Int) ≤ _; omega, fun k => atA_in hq.1 k⟩
  · intro k hk
    obtain ⟨i, hi, e, _⟩ := srv_new us 0 ⟨[], []⟩ h k hk rfl
    rw [e]
    show _ ∧ _ < ((P.length : Nat) : Int)
    omega
theorem fnd_good {O : Nmd} {s : Ls} {n : Nat} (h : Good s O) (hn : n < s.P.length) (k : List UInt8) : Good (fndL O n s k).1 O ∧ (fndL O n s k).1.P.length = s.P.length := by
  unfold fndL
  split
  · rename_i ht
    obtain ⟨o0, o1⟩ := ownerL_in h hn ht
    exact ⟨putL_good h (by omega), putL_len _ _⟩
  · exact ⟨h, rfl⟩
/-- What the finder leaves holds behind Resolve. -/
theorem rsv_keeps {σ : Type} {fnd : σ → List UInt8 → σ × Int × Bool} (I : σ → Prop) (h : ∀ s k, I s → I (fnd s k).1) : ∀ (l : List Ln) (k : Nat) (s : σ) (acc : List Ins), I s → I (rsv fnd l k s acc).2
  | [], _, _, _, hI => hI
  | x :: l, k, s, acc, hI => by
    unfold rsv
    split
    · exact rsv_keeps I h l _ _ _ hI
    · split
      · exact rsv_keeps I h l _ _ _ hI
      · split
        · exact rsv_keeps I h l _ _ _ (h _ _ hI)
        · exact h _ _ hI

/-! ### one unit alone -/
theorem link_alone (l : List Ln) (nm0 : ByteArray) (entry : List UInt8) (h : (linkL [⟨nm0, l⟩] entry).2.1 = 0) : (asmA l).2.1 = 0 ∧ (linkL [⟨nm0, l⟩] entry).1.words = (asmA l).1 := by
  unfold linkL at h ⊢
  rw [if_pos (by simp)] at h ⊢
  by_cases hs : (srv [⟨nm0, l⟩] 0 ⟨[], []⟩).2.1 = 0
  · rw [if_pos hs] at h ⊢
    obtain ⟨hp, O, ho, he⟩ := srv_split hs
    replace he : srv [⟨nm0, l⟩] 0 ⟨[], []⟩ = (⟨[] ++ [⟨(plcA l).1, (plcA l).2.1, false, 0⟩], O⟩, 0, 0) := he.trans rfl
    rw [he] at h ⊢
    dsimp only [List.nil_append] at h ⊢ hp ho
    by_cases hh : hasA O entry = true
    · rw [if_pos hh] at h ⊢
      have e0 : atA O entry = 0 := (owns_new _ _ _ _ ho entry hh rfl).1
      unfold wrdS at h ⊢
      dsimp only at h ⊢
      rw [e0] at h ⊢
      have hA := plcA_has hp
      have hin := (plcA_in l).2
      have hasm : asmA l = if (rsv (fndA (plcA l).1) l 0 () []).1.2.1 = 0 then ((encA (rsv (fndA (plcA l).1) l 0 () []).1.1).1, 0, 0) else ([], (rsv (fndA (plcA l).1) l 0 () []).1.2.1, (rsv (fndA (plcA l).1) l 0 () []).1.2.2) := by unfold asmA; rw [if_pos hp]
      generalize plcA l = Z at *
      obtain ⟨A, n, e, m⟩ := Z
      dsimp only at *
      have ep : putL ⟨[(⟨A, n, false, 0⟩, 0)], [], 0⟩ (0 : Int).toNat = ⟨[(⟨A, n, true, 0⟩, 0)], [0], n⟩ := by
        show Ls.mk _ _ _ = _; simp
      simp only [List.map_cons, List.map_nil] at h ⊢
      rw [ep] at h ⊢
      have F : ∀ s k, s = (⟨[(⟨A, n, true, 0⟩, 0)], [0], n⟩ : Ls) → (fndL O 0 s k).2.2 = true → fndA A () k = ((), (fndL O 0 s k).2) ∧ (fndL O 0 s k).1 = ⟨[(⟨A, n, true, 0⟩, 0)], [0], n⟩ := by
        intro s k hs1 ht
        subst hs1
        unfold fndL at ht ⊢
        by_cases hw : (ownerL O [(⟨A, n, true, 0⟩, 0)] 0 k).2 = true
        · have ew : (ownerL O [(⟨A, n, true, 0⟩, 0)] 0 k).1 = 0 ∧ hasA A k = true := by
            by_cases hf : faL k = true
            · rw [ownerL_all hf] at hw ⊢
              obtain ⟨a1, x, hx, hfx, hk⟩ := owns_new _ _ _ _ ho k hw rfl
              exact ⟨a1, (hA k).2 ⟨x, hx, fa_emp hfx, hk⟩⟩
            · rw [ownerL_own (by simpa using hf) (by simp)] at hw ⊢
              exact ⟨rfl, hw⟩
          dsimp only
          rw [if_pos hw, ew.1]
          have ep2 : putL ⟨[(⟨A, n, true, 0⟩, 0)], [0], n⟩ (0 : Int).toNat = ⟨[(⟨A, n, true, 0⟩, 0)], [0], n⟩ := rfl
          rw [ep2]
          refine ⟨?_, rfl⟩
          unfold fndA
          rw [ew.2]
          simp
        · dsimp only at ht
          rw [if_neg hw] at ht; cases ht
      have hrs : ∀ acc, (rsv (fndL O 0) l 0 ⟨[(⟨A, n, true, 0⟩, 0)], [0], n⟩ acc).1.2.1 = 0 → rsv (fndA A) l 0 () acc = ((rsv (fndL O 0) l 0 ⟨[(⟨A, n, true, 0⟩, 0)], [0], n⟩ acc).1, ()) ∧ (rsv (fndL O 0) l 0 ⟨[(⟨A, n, true, 0⟩, 0)], [0], n⟩ acc).2 = ⟨[(⟨A, n, true, 0⟩, 0)], [0], n⟩ := fun acc h0 => rsv_sim (fun _ : Ls => ()) (fun s => s = ⟨[(⟨A, n, true, 0⟩, 0)], [0], n⟩) F l 0 _ acc rfl h0
      replace hrs := hrs []
      have hord : ([(0 : Int)] : List Int)[0]? = some ((0 : Nat) : Int) := rfl
      by_cases hr : (rsv (fndL O 0) l 0 ⟨[(⟨A, n, true, 0⟩, 0)], [0], n⟩ []).1.2.1 = 0
      · obtain ⟨r1, r2⟩ := hrs hr
        rw [wrd_next (m := 0) hord (by simp) (by simp) (by show 0 + n ≤ 65536; omega) hr] at h ⊢
        dsimp only [List.getElem_cons_zero] at h ⊢
        rw [r2, wrd_end (by simp)] at h ⊢
        rw [r1] at hasm
        dsimp only at hasm
        rw [if_pos hr] at hasm
        rw [hasm]
        exact ⟨rfl, by simp [imL]⟩
      · rw [wrd_bad (m := 0) hord (by simp) (by simp) (by show 0 + n ≤ 65536; omega) hr] at h
        unfold imL at h
        dsimp only [List.getElem_cons_zero] at h
        rw [if_neg hr] at h
        exact absurd h hr
    · rw [if_neg hh] at h; simp at h
  · rw [if_neg hs] at h; exact absurd h hs
end Go.Proofs.YtodfjomglgmffaaGreatDoor
