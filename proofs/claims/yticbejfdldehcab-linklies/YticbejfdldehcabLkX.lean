/-
  The linker as a plain function; the blocks' numbers make nothing of it.
-/
import Derived.Test.YticbejfdldehcabLkW0
namespace Go.Proofs.Yticbejfdldehcab
open Go.RowKit Go.Maps
set_option linter.unusedSimpArgs false
set_option linter.unusedVariables false

/-- The blocks' numbers struck. -/
def er (s : Ls) : Ls := ⟨s.P.map (fun p => (p.1, 0)), s.order, s.fin⟩
theorem er_put (s : Ls) (n : Nat) : putL (er s) n = er (putL s n) := by
  unfold putL er
  rw [List.getElem?_map]
  cases h : s.P[n]? with
  | none => rfl
  | some p =>
    simp only [Option.map_some]
    by_cases hp : p.1.put = true
    · rw [if_pos hp, if_pos hp]
    · rw [if_neg hp, if_neg hp]; simp [List.map_set]
theorem er_owner (O : Nmd) (P : List (Pt × Nat)) (n : Nat) (k : List UInt8) : ownerL O (P.map (fun p => (p.1, 0))) n k = ownerL O P n k := by
  unfold ownerL
  split
  · rfl
  · rw [List.getElem?_map]; cases P[n]? <;> rfl
theorem er_fnd (O : Nmd) (n : Nat) (s : Ls) (k : List UInt8) : fndL O n (er s) k = (er (fndL O n s k).1, (fndL O n s k).2) := by
  unfold fndL
  rw [show (er s).P = s.P.map (fun p => (p.1, 0)) from rfl, er_owner, er_put]
  split
  · refine Prod.ext rfl (Prod.ext ?_ rfl)
    dsimp only
    rw [show (er (putL s (ownerL O s.P n k).1.toNat)).P = (putL s (ownerL O s.P n k).1.toNat).P.map (fun p => (p.1, 0)) from rfl, List.getElem?_map]
    cases (putL s (ownerL O s.P n k).1.toNat).P[(ownerL O s.P n k).1.toNat]? <;> rfl
  · rfl
/-- Resolve with a finder whose states are seen otherwise. -/
theorem rsv_map {σ τ : Type} {fnd : σ → List UInt8 → σ × Int × Bool} {fnd' : τ → List UInt8 → τ × Int × Bool} (f : σ → τ) (h : ∀ s k, fnd' (f s) k = (f (fnd s k).1, (fnd s k).2)) : ∀ (l : List Ln) (k : Nat) (s : σ) (acc : List Ins), rsv fnd' l k (f s) acc = ((rsv fnd l k s acc).1, f (rsv fnd l k s acc).2)
  | [], _, _, _ => rfl
  | x :: l, k, s, acc => by
    unfold rsv
    rw [h]
    dsimp only
    split
    · exact rsv_map f h l _ _ _
    · split
      · exact rsv_map f h l _ _ _
      · split
        · exact rsv_map f h l _ _ _
        · rfl
/-- A run that comes to its end, beside a finder that finds the same. -/
theorem rsv_sim {σ τ : Type} {fnd : σ → List UInt8 → σ × Int × Bool} {fnd' : τ → List UInt8 → τ × Int × Bool} (f : σ → τ) (I : σ → Prop) (h : ∀ s k, I s → (fnd s k).2.2 = true → fnd' (f s) k = (f (fnd s k).1, (fnd s k).2) ∧ I (fnd s k).1) : ∀ (l : List Ln) (k : Nat) (s : σ) (acc : List Ins), I s → (rsv fnd l k s acc).1.2.1 = 0 → rsv fnd' l k (f s) acc = ((rsv fnd l k s acc).1, f (rsv fnd l k s acc).2) ∧ I (rsv fnd l k s acc).2
  | [], _, _, _, hI, _ => ⟨rfl, hI⟩
  | x :: l, k, s, acc, hI, h0 => by
    by_cases h1 : emp x.lab = false
    · rw [rsv_lab h1] at h0 ⊢; rw [rsv_lab h1]; exact rsv_sim f I h l _ _ _ hI h0
    · replace h1 : emp x.lab = true := by simpa using h1
      by_cases h2 : emp x.ref = true
      · rw [rsv_ins h1 h2] at h0 ⊢; rw [rsv_ins h1 h2]; exact rsv_sim f I h l _ _ _ hI h0
      · replace h2 : emp x.ref = false := by simpa using h2
        by_cases h3 : (fnd s x.ref.toList).2.2 = true
        · obtain ⟨e, hI2⟩ := h s _ hI h3
          rw [rsv_ref h1 h2 h3] at h0 ⊢
          rw [rsv_ref h1 h2 (by rw [e]; exact h3), e]
          exact rsv_sim f I h l _ _ _ hI2 h0
        · replace h3 : (fnd s x.ref.toList).2.2 = false := by simpa using h3
          rw [rsv_none h1 h2 h3] at h0; simp at h0
theorem er_wrd (us : List Un) (O : Nmd) : ∀ (f i : Nat) (s : Ls) (out : List Int), wrdL us O f i (er s) out = ((wrdL us O f i s out).1, er (wrdL us O f i s out).2)
  | 0, _, _, _ => rfl
  | f + 1, i, s, out => by
    unfold wrdL
    rw [show (er s).order = s.order from rfl]
    cases h : s.order[i]? with
    | none => rfl
    | some m =>
      dsimp only
      rw [show (er s).P = s.P.map (fun p => (p.1, 0)) from rfl, List.getElem?_map]
      cases h1 : s.P[m.toNat]? with
      | none => rfl
      | some p =>
        cases h2 : us[m.toNat]? with
        | none => rfl
        | some u =>
          simp only [Option.map_some]
          rw [rsv_map er (er_fnd O m.toNat)]
          dsimp only
          split
          · split
            · exact er_wrd us O f _ _ _
            · rfl
          · rfl
/-- An image. -/
structure Im where
  words : List Int
  units : List Int
  spots : List (ByteArray × Int)
/-- The labels for all of one unit. -/
def spt1 (l : List Ln) (p : Pt) : List (ByteArray × Int) := (l.filter fun x => fa x.lab).map fun x => (x.lab, p.start + atA p.A x.lab.toList)
def sptL (us : List Un) (P : List (Pt × Nat)) (order : List Int) : List (ByteArray × Int) :=
  order.flatMap fun n => match us[n.toNat]?, P[n.toNat]? with | some u, some p => spt1 u.lines p.1 | _, _ => []
def im0 : Im := ⟨[], [], []⟩
/-- What words makes, the blocks' numbers struck. -/
def wrdS (us : List Un) (S : Sv) (entry : List UInt8) : (List Int × Int × Int) × Ls := wrdL us S.owners 400 0 (putL ⟨S.parts.map (fun p => (p, 0)), [], 0⟩ (atA S.owners entry).toNat) []
def imL (us : List Un) (R : (List Int × Int × Int) × Ls) : Im × Int × Int := if R.1.2.1 = 0 then (⟨R.1.1, R.2.order, sptL us R.2.P R.2.order⟩, 0, 0) else (im0, R.1.2.1, R.1.2.2)
def linkL (us : List Un) (entry : List UInt8) : Im × Int × Int :=
  if us.length ≤ 400 then
    (if (srv us 0 ⟨[], []⟩).2.1 = 0 then
      (if hasA (srv us 0 ⟨[], []⟩).1.owners entry = true then imL us (wrdS us (srv us 0 ⟨[], []⟩).1 entry) else (im0, 6, us.length))
     else (im0, (srv us 0 ⟨[], []⟩).2.1, (srv us 0 ⟨[], []⟩).2.2))
  else (im0, 5, 0)
theorem er_spt (us : List Un) (s : Ls) : sptL us (er s).P (er s).order = sptL us s.P s.order := by
  unfold sptL er
  dsimp only
  congr 1
  funext n
  rw [List.getElem?_map]
  cases us[n.toNat]? <;> cases s.P[n.toNat]? <;> rfl
/-- With whatever blocks. -/
theorem wrdS_of (us : List Un) (S : Sv) (entry : List UInt8) (P : List (Pt × Nat)) (h : P.map (·.1) = S.parts) : imL us (wrdL us S.owners 400 0 (putL ⟨P, [], 0⟩ (atA S.owners entry).toNat) []) = imL us (wrdS us S entry) := by
  unfold wrdS
  have e : (⟨S.parts.map (fun p => (p, 0)), [], 0⟩ : Ls) = er ⟨P, [], 0⟩ := by unfold er; rw [← h]; simp
  rw [e, er_put, er_wrd]
  unfold imL
  dsimp only
  rw [er_spt]
  rfl
end Go.Proofs.Yticbejfdldehcab
