/-
  A line as the document reads it: plain lists, no program in sight.
-/
import Derived.Test.YtoopgkbefhoeiaaGreatDoorR4O
namespace Go.Proofs.YtoopgkbefhoeiaaGreatDoor
open Go.RowKit
set_option linter.unusedSimpArgs false
set_option linter.unusedVariables false

/-- The parts between commas. -/
def ps4 : Nat → List UInt8 → Bool → List (List UInt8)
  | 0, _, _ => []
  | g + 1, rest, more => if more = true then trimA (Lib.cut rest [44]).1 :: ps4 g (Lib.cut rest [44]).2.1 (Lib.cut rest [44]).2.2 else []
/-- Fields out of parts. -/
def rdP : List Fk → List (List UInt8) → Ln → Ln × Int
  | [], [], x => (x, 0)
  | [], _ :: _, _ => (lnZ, 5)
  | _ :: _, [], _ => (lnZ, 5)
  | f :: fs, p :: ps, x =>
    match fldA f x p with
    | some y => rdP fs ps y
    | none => (lnZ, 2)
/-- How many parts there may be at most. -/
def msr (rest : List UInt8) (more : Bool) : Nat := if more = true then rest.length + 1 else 0
theorem msr_cut (rest : List UInt8) : msr (Lib.cut rest [44]).2.1 (Lib.cut rest [44]).2.2 ≤ rest.length := by
  unfold msr
  by_cases h : rest = []
  · subst h; decide
  · have := cut_less (c := 44) h
    split <;> omega
theorem rdF_ps : ∀ (fs : List Fk) (g : Nat) (rest : List UInt8) (more : Bool) (x : Ln), msr rest more ≤ g → rdF fs rest more x = rdP fs (ps4 g rest more) x
  | [], g, rest, more, x, h => by
    cases more with
    | false => cases g <;> simp [rdF, ps4, rdP]
    | true =>
      obtain ⟨g', rfl⟩ : ∃ g', g = g' + 1 := ⟨g - 1, by unfold msr at h; rw [if_pos rfl] at h; omega⟩
      simp [rdF, ps4, rdP]
  | f :: fs, g, rest, more, x, h => by
    cases more with
    | false => cases g <;> simp [rdF, ps4, rdP]
    | true =>
      obtain ⟨g', rfl⟩ : ∃ g', g = g' + 1 := ⟨g - 1, by unfold msr at h; rw [if_pos rfl] at h; omega⟩
      have hm := msr_cut rest
      have hg : rest.length ≤ g' := by unfold msr at h; rw [if_pos rfl] at h; omega
      rw [ps4, if_pos rfl, rdF, if_pos rfl, rdP]
      cases fldA f x (trimA (Lib.cut rest [44]).1) with
      | none => rfl
      | some y => exact rdF_ps fs g' _ _ y (by omega)
theorem ps4_fuel : ∀ (g g2 : Nat) (rest : List UInt8) (more : Bool), msr rest more ≤ g → msr rest more ≤ g2 → ps4 g rest more = ps4 g2 rest more
  | 0, g2, rest, more, h, _ => by
    have : more = false := by cases more with | false => rfl | true => unfold msr at h; rw [if_pos rfl] at h; omega
    subst this
    cases g2 <;> simp [ps4]
  | g + 1, g2, rest, more, h, h2 => by
    cases more with
    | false => cases g2 <;> simp [ps4]
    | true =>
      obtain ⟨k, rfl⟩ : ∃ k, g2 = k + 1 := ⟨g2 - 1, by unfold msr at h2; rw [if_pos rfl] at h2; omega⟩
      have hm := msr_cut rest
      have h3 : rest.length ≤ g := by unfold msr at h; rw [if_pos rfl] at h; omega
      have h4 : rest.length ≤ k := by unfold msr at h2; rw [if_pos rfl] at h2; omega
      rw [ps4, ps4, if_pos rfl, if_pos rfl, ps4_fuel g k _ _ (by omega) (by omega)]
/-- The kind of a word: below 0: there is none. -/
def opK (wd : List UInt8) : Nat → Int
  | 0 => -1
  | k + 1 => if kwL[k]? = some wd then (k : Int) else opK wd k
theorem opK_none (wd : List UInt8) : ∀ n, (∀ k, k < n → kwL[k]? ≠ some wd) → opK wd n = -1
  | 0, _ => rfl
  | n + 1, h => by rw [opK, if_neg (h n (by omega))]; exact opK_none wd n fun k hk => h k (by omega)
theorem opK_at : ∀ k : Fin 33, opK (kwL[k.val]'(by have := k.2; exact this)) 33 = k.val ∧ hasA kdA (kwL[k.val]'(by have := k.2; exact this)) = true ∧ atA kdA (kwL[k.val]'(by have := k.2; exact this)) = k.val := by decide
theorem opK_eq (wd : List UInt8) : (opK wd 33 = -1 ∧ hasA kdA wd = false) ∨ ∃ k : Nat, k < 33 ∧ opK wd 33 = k ∧ hasA kdA wd = true ∧ atA kdA wd = k := by
  by_cases h : ∃ k, k < 33 ∧ kwL[k]? = some wd
  · obtain ⟨k, hk, e⟩ := h
    have e2 : kwL[k]'(by exact hk) = wd := by rw [List.getElem?_eq_getElem (by exact hk)] at e; exact Option.some.inj e
    have := opK_at ⟨k, hk⟩
    simp only [e2] at this
    exact .inr ⟨k, hk, this⟩
  · refine .inl ⟨opK_none wd 33 fun k hk e => h ⟨k, hk, e⟩, ?_⟩
    unfold hasA
    rw [List.any_eq_false]
    intro p hp
    unfold kdA at hp
    rw [List.mem_map] at hp
    obtain ⟨⟨a, b⟩, hq, rfl⟩ := hp
    rw [List.mem_zipIdx_iff_getElem?] at hq
    simp only [beq_iff_eq]
    rintro rfl
    exact h ⟨b, (List.getElem?_eq_some_iff.1 hq).1, hq⟩
/-- A register's number: below 0: it is none. -/
def reg4 (p : List UInt8) : Int := if 1 < p.length ∧ p.getD 0 0 = 114 then num4 (p.drop 1) 7 else -1
theorem numA_nn {s : List UInt8} {most n : Int} (hm : most ≤ 65535) (h : numA s most = some n) : 0 ≤ n := by
  rw [numA_eq s most hm] at h
  split at h
  · obtain rfl := Option.some.inj h; omega
  · cases h
theorem reg4_eq (p : List UInt8) : reg4 p = (regA p).getD (-1) := by
  unfold reg4 regA
  cases p with
  | nil => rfl
  | cons c q =>
    by_cases hc : c = 114
    · subst hc
      have e1 : Lib.hasPrefix (114 :: q) [114] = true := by simp [Lib.hasPrefix]
      have e2 : Lib.trimPrefix (114 :: q) [114] = q := by unfold Lib.trimPrefix; rw [e1]; rfl
      rw [e1, e2, if_pos rfl]
      by_cases hq : q = []
      · subst hq; rw [if_neg (by simp), numA_eq _ _ (by decide)]; rfl
      · rw [if_pos ⟨by have := List.length_pos_iff.2 hq; simp; omega, rfl⟩, num4_eq _ _ (by decide)]; rfl
    · have e0 : ¬ (114 : UInt8) = c := fun h => hc h.symm
      have e1 : Lib.hasPrefix (c :: q) [114] = false := by unfold Lib.hasPrefix; rw [List.isPrefixOf, beq_eq_false_iff_ne.2 e0]; rfl
      rw [e1, if_neg (fun e => hc e.2), if_neg (by simp)]; rfl
theorem regA_nn {p : List UInt8} {n : Int} (h : regA p = some n) : 0 ≤ n := by
  unfold regA at h
  split at h
  · exact numA_nn (by decide) h
  · cases h
theorem fld_d_no {x : Ln} {p : List UInt8} (h : reg4 p < 0) : fldA .d x p = none ∧ fldA .s x p = none := by
  rw [reg4_eq] at h
  unfold fldA
  cases e : regA p with
  | none => exact ⟨rfl, rfl⟩
  | some n => have := regA_nn e; rw [e] at h; simp at h; omega
theorem fld_d {x : Ln} {p : List UInt8} (h : 0 ≤ reg4 p) : fldA .d x p = some ⟨x.lab, ⟨x.i.o, reg4 p, x.i.s, x.i.m⟩, x.ref⟩ ∧ fldA .s x p = some ⟨x.lab, ⟨x.i.o, x.i.d, reg4 p, x.i.m⟩, x.ref⟩ := by
  rw [reg4_eq] at *
  unfold fldA
  cases e : regA p with
  | none => rw [e] at h; exact absurd h (by decide)
  | some n => exact ⟨rfl, rfl⟩
theorem fld_i {x : Ln} {p : List UInt8} (h : 0 ≤ num4 p 65535) : fldA .i x p = some ⟨x.lab, ⟨x.i.o, x.i.d, x.i.s, num4 p 65535⟩, x.ref⟩ := by
  rw [num4_eq _ _ (by decide)] at *
  show immA x p = _
  unfold immA
  cases e : numA p 65535 with
  | none => rw [e] at h; exact absurd h (by decide)
  | some n => rfl
theorem fld_i_ref {x : Ln} {p : List UInt8} (h : num4 p 65535 < 0) : fldA .i x p = if may x.i.o = true ∧ nm (ba p) = true then some ⟨x.lab, x.i, ba p⟩ else none := by
  rw [num4_eq _ _ (by decide)] at h
  show immA x p = _
  unfold immA
  cases e : numA p 65535 with
  | none => rfl
  | some n => have := numA_nn (by decide) e; rw [e] at h; simp at h; omega
/-- What Line answers where a line holds something. -/
def fin4 (r : Ln × Int) : Ln × Bool × Int := if r.2 = 0 then (r.1, true, 0) else (lnZ, false, r.2)
def lin5 (u : List UInt8) : Ln × Bool × Int :=
  if u.getD (u.length - 1) 0 = 58 then
    (if nm (ba (u.take (u.length - 1))) = true then (⟨ba (u.take (u.length - 1)), ⟨0, 0, 0, 0⟩, ⟨#[]⟩⟩, true, 0) else (lnZ, false, 7))
  else if opK (Lib.cut u [32]).1 33 < 0 then (lnZ, false, 1)
  else fin4 (rdP (fks (opK (Lib.cut u [32]).1 33)) (ps4 (msr (trimA (Lib.cut u [32]).2.1) (!(trimA (Lib.cut u [32]).2.1).isEmpty)) (trimA (Lib.cut u [32]).2.1) (!(trimA (Lib.cut u [32]).2.1).isEmpty)) ⟨⟨#[]⟩, ⟨opK (Lib.cut u [32]).1 33, 0, 0, 0⟩, ⟨#[]⟩⟩)
def lin4 (s : List UInt8) : Ln × Bool × Int := if rmkA s = [] then (lnZ, false, 0) else lin5 (rmkA s)
end Go.Proofs.YtoopgkbefhoeiaaGreatDoor
