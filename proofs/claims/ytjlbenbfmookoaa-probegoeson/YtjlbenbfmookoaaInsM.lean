/-
  Instructions and their words: plain lists and numbers, no program in sight.
-/
import Derived.WalkKit
namespace Go.Proofs.Ytjlbenbfmookoaa
open Go.RowKit
set_option linter.unusedSimpArgs false
set_option linter.unusedVariables false

theorem hideI {p : Prop} (h : p) : Hid p := h
theorem unhideI {p : Prop} (h : Hid p) : p := h

/-- An instruction's four fields. -/
structure Ins where
  o : Int
  d : Int
  s : Int
  m : Int

def kn (o : Int) : Bool := decide (0 ≤ o ∧ o ≤ 32)
def hD (o : Int) : Bool := decide ((1 ≤ o ∧ o ≤ 18) ∨ o = 29 ∨ o = 31)
def hS (o : Int) : Bool := decide (o = 1 ∨ (3 ≤ o ∧ o ≤ 13) ∨ o = 28 ∨ o = 30)
def hI (o : Int) : Bool := decide ((2 ≤ o ∧ o ≤ 4) ∨ (19 ≤ o ∧ o ≤ 26) ∨ o = 32)
/-- ErrKind, or none. -/
def ke (o : Int) : Int := if kn o = true then 0 else 1
/-- Within 0 and a bound. -/
def inR (x top : Int) : Bool := decide (0 ≤ x ∧ x ≤ top)
def bad (i : Ins) : Bool := (hD i.o && !inR i.d 7) || (hS i.o && !inR i.s 7) || (hI i.o && !inR i.m 65535)
/-- What is wrong with an instruction. -/
def wrg (i : Ins) : Int := if kn i.o = true then (if bad i = true then 3 else 0) else 1
def bare (i : Ins) : Ins := ⟨i.o, if hD i.o = true then i.d else 0, if hS i.o = true then i.s else 0, if hI i.o = true then i.m else 0⟩
/-- The first word. -/
def fst (i : Ins) : Int := (bare i).o * 1024 + (bare i).d * 128 + (bare i).s * 16
def ws (i : Ins) : List Int := if hI i.o = true then [fst i, i.m] else [fst i]
def lng (o : Int) : Int := if hI o = true then 2 else 1

theorem ke_yes {o : Int} (h : kn o = true) : ke o = 0 := by unfold ke; rw [if_pos h]
theorem ke_no {o : Int} (h : kn o = false) : ke o = 1 := by unfold ke; rw [if_neg (by simp [h])]
theorem kn_of {o : Int} (h : hD o = true ∨ hS o = true ∨ hI o = true) : kn o = true := by
  unfold hD hS hI kn at *; simp only [decide_eq_true_eq] at *; omega
theorem kn_no {o : Int} (h : kn o = false) : hD o = false ∧ hS o = false ∧ hI o = false := by
  unfold hD hS hI kn at *; simp only [decide_eq_false_iff_not] at *; omega
theorem wr_no {i : Ins} (h : kn i.o = false) : wrg i = 1 := by unfold wrg; rw [if_neg (by simp [h])]
theorem wr_bad {i : Ins} (h : kn i.o = true) (b : bad i = true) : wrg i = 3 := by unfold wrg; rw [if_pos h, if_pos b]
theorem wr_ok {i : Ins} (h : kn i.o = true) (b : bad i = false) : wrg i = 0 := by unfold wrg; rw [if_pos h, if_neg (by simp [b])]
theorem wr_zero {i : Ins} (h : wrg i = 0) : kn i.o = true ∧ bad i = false := by
  unfold wrg at h
  by_cases k : kn i.o = true
  · rw [if_pos k] at h
    by_cases b : bad i = true
    · rw [if_pos b] at h; omega
    · exact ⟨k, by simpa using b⟩
  · rw [if_neg k] at h; omega
theorem wr_cases (i : Ins) : wrg i = 0 ∨ wrg i = 1 ∨ wrg i = 3 := by
  unfold wrg; split
  · split <;> simp
  · simp

/-- What a right instruction's own fields keep to. -/
theorem wr_fields {i : Ins} (h : wrg i = 0) : 0 ≤ i.o ∧ i.o ≤ 32 ∧ (hD i.o = true → 0 ≤ i.d ∧ i.d ≤ 7) ∧ (hS i.o = true → 0 ≤ i.s ∧ i.s ≤ 7) ∧ (hI i.o = true → 0 ≤ i.m ∧ i.m ≤ 65535) := by
  obtain ⟨k, b⟩ := wr_zero h
  unfold kn at k
  simp only [decide_eq_true_eq] at k
  refine ⟨k.1, k.2, ?_, ?_, ?_⟩
  · intro x; unfold bad at b; rw [x] at b; simp [inR] at b; omega
  · intro x; unfold bad at b; rw [x] at b; simp [inR] at b; omega
  · intro x; unfold bad at b; rw [x] at b; simp [inR] at b; omega
theorem wr_of {i : Ins} (h0 : 0 ≤ i.o) (h1 : i.o ≤ 32) (hd : hD i.o = true → 0 ≤ i.d ∧ i.d ≤ 7) (hs : hS i.o = true → 0 ≤ i.s ∧ i.s ≤ 7) (hm : hI i.o = true → 0 ≤ i.m ∧ i.m ≤ 65535) : wrg i = 0 := by
  refine wr_ok (by unfold kn; simp only [decide_eq_true_eq]; omega) ?_
  unfold bad inR
  cases a : hD i.o <;> cases b : hS i.o <;> cases c : hI i.o <;> simp <;> (try have := hd a) <;> (try have := hs b) <;> (try have := hm c) <;> omega
theorem bare_in {i : Ins} (h : wrg i = 0) : 0 ≤ (bare i).d ∧ (bare i).d ≤ 7 ∧ 0 ≤ (bare i).s ∧ (bare i).s ≤ 7 ∧ 0 ≤ (bare i).m ∧ (bare i).m ≤ 65535 := by
  obtain ⟨_, _, hd, hs, hm⟩ := wr_fields h
  unfold bare
  refine ⟨?_, ?_, ?_, ?_, ?_, ?_⟩ <;> (dsimp only; split <;> simp_all)
theorem fst_in {i : Ins} (h : wrg i = 0) : 0 ≤ fst i ∧ fst i ≤ 65535 := by
  obtain ⟨a, b, _⟩ := wr_fields h
  obtain ⟨c, d, e, f, _⟩ := bare_in h
  unfold fst
  have : (bare i).o = i.o := rfl
  omega
theorem bare_o (i : Ins) : (bare i).o = i.o := rfl
theorem bare_bare (i : Ins) : bare (bare i) = bare i := by
  unfold bare; dsimp only
  congr 1 <;> (split <;> rfl)
theorem fst_bare (i : Ins) : fst (bare i) = fst i := by unfold fst; rw [bare_bare]
theorem ws_len (i : Ins) : ((ws i).length : Int) = lng i.o := by unfold ws lng; split <;> rfl
theorem ws_len2 (i : Ins) : 1 ≤ (ws i).length ∧ (ws i).length ≤ 2 := by unfold ws; split <;> simp

/-! ### Encode -/
def enc : List Ins → Nat → List Int → List Int × Int × Nat
  | [], _, acc => (acc, 0, 0)
  | i :: l, k, acc => if wrg i = 0 then (if (acc ++ ws i).length ≤ 65536 then enc l (k + 1) (acc ++ ws i) else ([], 4, k)) else ([], wrg i, k)
def encA (l : List Ins) : List Int × Int × Nat := enc l 0 []
theorem enc_nil (k : Nat) (acc : List Int) : enc [] k acc = (acc, 0, 0) := rfl
theorem enc_bad {i : Ins} {l : List Ins} {k : Nat} {acc : List Int} (h : wrg i ≠ 0) : enc (i :: l) k acc = ([], wrg i, k) := by rw [enc, if_neg h]
theorem enc_much {i : Ins} {l : List Ins} {k : Nat} {acc : List Int} (h : wrg i = 0) (m : 65536 < (acc ++ ws i).length) : enc (i :: l) k acc = ([], 4, k) := by rw [enc, if_pos h, if_neg (by omega)]
theorem enc_next {i : Ins} {l : List Ins} {k : Nat} {acc : List Int} (h : wrg i = 0) (m : (acc ++ ws i).length ≤ 65536) : enc (i :: l) k acc = enc l (k + 1) (acc ++ ws i) := by rw [enc, if_pos h, if_pos m]

/-- No fault: all are right, and the words are theirs. -/
theorem enc_ok : ∀ (l : List Ins) (k : Nat) (acc : List Int), acc.length ≤ 65536 → ((enc l k acc).2.1 = 0 ↔ (∀ i ∈ l, wrg i = 0) ∧ (acc ++ l.flatMap ws).length ≤ 65536)
  | [], k, acc, h => by simp [enc, h]
  | i :: l, k, acc, h => by
    by_cases a : wrg i = 0
    · by_cases b : (acc ++ ws i).length ≤ 65536
      · rw [enc_next a b, enc_ok l (k + 1) _ b]
        simp [a, List.append_assoc]
      · rw [enc_much a (by omega)]
        simp at b ⊢
        omega
    · rw [enc_bad a]
      simp [a]
theorem enc_words : ∀ (l : List Ins) (k : Nat) (acc : List Int), (enc l k acc).2.1 = 0 → (enc l k acc).1 = acc ++ l.flatMap ws
  | [], k, acc, _ => by simp [enc]
  | i :: l, k, acc, h => by
    by_cases a : wrg i = 0
    · by_cases b : (acc ++ ws i).length ≤ 65536
      · rw [enc_next a b] at h ⊢
        rw [enc_words l (k + 1) _ h]; simp
      · rw [enc_much a (by omega)] at h; simp at h
    · rw [enc_bad a] at h; simp at h; exact absurd h a
theorem enc_fault : ∀ (l : List Ins) (k : Nat) (acc : List Int), (∀ i ∈ l, wrg i = 0) → (enc l k acc).2.1 = 0 ∨ (enc l k acc).2.1 = 4
  | [], k, acc, _ => by simp [enc]
  | i :: l, k, acc, h => by
    have a : wrg i = 0 := h i (by simp)
    by_cases b : (acc ++ ws i).length ≤ 65536
    · rw [enc_next a b]
      exact enc_fault l (k + 1) _ fun j hj => h j (by simp [hj])
    · rw [enc_much a (by omega)]; simp
theorem enc_len : ∀ (l : List Ins) (k : Nat) (acc : List Int), acc.length ≤ 65536 → (enc l k acc).1.length ≤ 65536
  | [], k, acc, h => by simpa [enc] using h
  | i :: l, k, acc, h => by
    by_cases a : wrg i = 0
    · by_cases b : (acc ++ ws i).length ≤ 65536
      · rw [enc_next a b]; exact enc_len l (k + 1) _ b
      · rw [enc_much a (by omega)]; simp
    · rw [enc_bad a]; simp
theorem flat_len (l : List Ins) : l.length ≤ (l.flatMap ws).length := by
  induction l with
  | nil => simp
  | cons i l ih => have := ws_len2 i; rw [List.flatMap_cons, List.length_append, List.length_cons]; omega

/-! ### One, Decode -/
def cut1 (w : Int) : Ins := ⟨w / 1024, w / 128 % 8, w / 16 % 8, 0⟩
def zeroI : Ins := ⟨0, 0, 0, 0⟩
/-- The instruction that these two words would be. -/
def with2 (w m : Int) : Ins := ⟨w / 1024, w / 128 % 8, w / 16 % 8, m⟩
def fit (i : Ins) (w : Int) : Bool := decide (wrg i = 0 ∧ fst i = w)
/-- What stands ahead of these words. -/
def one : List Int → Ins × Int
  | [] => (zeroI, 0)
  | w :: r => if hI (w / 1024) = true then (match r with | [] => (zeroI, 0) | m :: _ => if fit (with2 w m) w = true then (with2 w m, 2) else (zeroI, 0)) else if fit (with2 w 0) w = true then (with2 w 0, 1) else (zeroI, 0)
theorem one_end {w : Int} (h : hI (w / 1024) = true) : one [w] = (zeroI, 0) := by show (if hI (w / 1024) = true then (zeroI, (0 : Int)) else _) = _; rw [if_pos h]
theorem one_two {w m : Int} {r : List Int} (h : hI (w / 1024) = true) : one (w :: m :: r) = if fit (with2 w m) w = true then (with2 w m, 2) else (zeroI, 0) := by
  show (if hI (w / 1024) = true then (if fit (with2 w m) w = true then (with2 w m, (2 : Int)) else (zeroI, 0)) else _) = _; rw [if_pos h]
theorem one_one {w : Int} {r : List Int} (h : ¬ hI (w / 1024) = true) : one (w :: r) = if fit (with2 w 0) w = true then (with2 w 0, 1) else (zeroI, 0) := by
  show (if hI (w / 1024) = true then _ else if fit (with2 w 0) w = true then (with2 w 0, (1 : Int)) else (zeroI, 0)) = _; rw [if_neg h]
def oneA (xs : List Int) (p : Int) : Ins × Int := if 0 ≤ p then one (xs.drop p.toNat) else (zeroI, 0)
def dec : Nat → List Int → Nat → List Ins → List Ins × Int × Nat
  | 0, _, _, acc => (acc, 0, 0)
  | _ + 1, [], _, acc => (acc, 0, 0)
  | g + 1, w :: r, p, acc => if (one (w :: r)).2 = 0 then ([], 2, p) else dec g ((w :: r).drop (one (w :: r)).2.toNat) (p + (one (w :: r)).2.toNat) (acc ++ [(one (w :: r)).1])
def decA (xs : List Int) : List Ins × Int × Nat := if xs.length ≤ 65536 then dec xs.length xs 0 [] else ([], 4, 0)
theorem dec_nil (g p : Nat) (acc : List Ins) : dec g [] p acc = (acc, 0, 0) := by cases g <;> rfl
theorem dec_bad {g p : Nat} {w : Int} {r : List Int} {acc : List Ins} (h : (one (w :: r)).2 = 0) : dec (g + 1) (w :: r) p acc = ([], 2, p) := by rw [dec, if_pos h]
theorem dec_next {g p : Nat} {w : Int} {r : List Int} {acc : List Ins} (h : (one (w :: r)).2 ≠ 0) : dec (g + 1) (w :: r) p acc = dec g ((w :: r).drop (one (w :: r)).2.toNat) (p + (one (w :: r)).2.toNat) (acc ++ [(one (w :: r)).1]) := by rw [dec, if_neg h]

theorem one_cases (xs : List Int) : (one xs = (zeroI, 0)) ∨ ∃ i r, one xs = (i, lng i.o) ∧ xs = ws i ++ r ∧ wrg i = 0 ∧ bare i = i := by
  cases xs with
  | nil => exact .inl rfl
  | cons w r =>
    have key : ∀ m, (hI (w / 1024) = true ∨ m = 0) → fit (with2 w m) w = true → bare (with2 w m) = with2 w m ∧ wrg (with2 w m) = 0 ∧ fst (with2 w m) = w := by
      intro m hm hf
      unfold fit at hf
      simp only [decide_eq_true_eq] at hf
      refine ⟨?_, hf.1, hf.2⟩
      have a := bare_in hf.1
      have b := hf.2
      unfold fst at b
      unfold bare with2 at a b ⊢
      dsimp only at a b ⊢
      congr 1
      · split
        · rfl
        · rename_i h; rw [if_neg h] at a b; omega
      · split
        · rfl
        · rename_i h; rw [if_neg h] at a b; omega
      · split
        · rfl
        · rename_i h; rcases hm with hm | hm
          · exact absurd hm h
          · exact hm.symm
    by_cases hi : hI (w / 1024) = true
    · cases r with
      | nil => exact .inl (one_end hi)
      | cons m r =>
        by_cases f : fit (with2 w m) w = true
        · obtain ⟨k1, k2, k3⟩ := key m (.inl hi) f
          refine .inr ⟨with2 w m, r, ?_, ?_, k2, k1⟩
          · rw [one_two hi, if_pos f]; unfold lng; show _ = (with2 w m, if hI (w / 1024) = true then (2 : Int) else 1); rw [if_pos hi]
          · unfold ws; show _ = (if hI (w / 1024) = true then [fst (with2 w m), m] else _) ++ r; rw [if_pos hi, k3]; rfl
        · exact .inl (by rw [one_two hi, if_neg f])
    · by_cases f : fit (with2 w 0) w = true
      · obtain ⟨k1, k2, k3⟩ := key 0 (.inr rfl) f
        refine .inr ⟨with2 w 0, r, ?_, ?_, k2, k1⟩
        · rw [one_one hi, if_pos f]; unfold lng; show _ = (with2 w 0, if hI (w / 1024) = true then (2 : Int) else 1); rw [if_neg hi]
        · unfold ws; show _ = (if hI (w / 1024) = true then _ else [fst (with2 w 0)]) ++ r; rw [if_neg hi, k3]; rfl
      · exact .inl (by rw [one_one hi, if_neg f])
theorem one_ws (i : Ins) (r : List Int) (h : wrg i = 0) : one (ws i ++ r) = (bare i, lng i.o) := by
  obtain ⟨a, b, hd, hs, hm⟩ := wr_fields h
  obtain ⟨c, d, e, f, _, _⟩ := bare_in h
  have o : (fst i) / 1024 = i.o := by unfold fst; rw [bare_o]; omega
  have D : (fst i) / 128 % 8 = (bare i).d := by unfold fst; rw [bare_o]; omega
  have S : (fst i) / 16 % 8 = (bare i).s := by unfold fst; rw [bare_o]; omega
  have fb : ∀ m, (bare i).m = m → with2 (fst i) m = bare i := by
    intro m hm; unfold with2; rw [o, D, S, ← hm, ← bare_o i]
  have wb : wrg (bare i) = 0 := by
    refine wr_of a b ?_ ?_ ?_ <;> intro x
    · exact ⟨c, d⟩
    · exact ⟨e, f⟩
    · exact ⟨(bare_in h).2.2.2.2.1, (bare_in h).2.2.2.2.2⟩
  have ft : fit (bare i) (fst i) = true := by unfold fit; rw [fst_bare]; simp [wb]
  by_cases hi : hI i.o = true
  · have e2 : with2 (fst i) i.m = bare i := fb i.m (by unfold bare; dsimp only; rw [if_pos hi])
    unfold ws lng; rw [if_pos hi]
    show one (fst i :: i.m :: r) = _
    rw [one_two (by rw [o]; exact hi), e2, if_pos ft, if_pos hi]
  · have e2 : with2 (fst i) 0 = bare i := fb 0 (by unfold bare; dsimp only; rw [if_neg hi])
    unfold ws lng; rw [if_neg hi]
    show one (fst i :: r) = _
    rw [one_one (by rw [o]; exact hi), e2, if_pos ft, if_neg hi]
theorem lng_nat (i : Ins) : (lng i.o).toNat = (ws i).length := by have := ws_len i; omega
theorem lng_ne (o : Int) : lng o ≠ 0 := by unfold lng; split <;> decide
theorem lng_in (o : Int) : 1 ≤ lng o ∧ lng o ≤ 2 := by unfold lng; split <;> decide
/-- What is encoded is decoded. -/
theorem dec_flat : ∀ (l : List Ins) (g p : Nat) (acc : List Ins), (∀ i ∈ l, wrg i = 0) → (l.flatMap ws).length ≤ g → dec g (l.flatMap ws) p acc = (acc ++ l.map bare, 0, 0)
  | [], g, p, acc, _, _ => by simp [dec_nil]
  | i :: l, g, p, acc, h, hg => by
    have hi : wrg i = 0 := h i (by simp)
    have e1 : (i :: l).flatMap ws = ws i ++ l.flatMap ws := rfl
    have hl := ws_len2 i
    rw [e1] at hg ⊢
    obtain ⟨w, r, e2⟩ : ∃ w r, ws i ++ l.flatMap ws = w :: r := by
      cases hc : ws i ++ l.flatMap ws with
      | nil => have := congrArg List.length hc; rw [List.length_append] at this; simp only [List.length_nil] at this; omega
      | cons w r => exact ⟨w, r, rfl⟩
    have o1 := one_ws i (l.flatMap ws) hi
    rw [List.length_append] at hg
    obtain ⟨g', rfl⟩ : ∃ g', g = g' + 1 := ⟨g - 1, by omega⟩
    rw [e2] at o1 ⊢
    rw [dec_next (by rw [o1]; exact lng_ne _), o1, ← e2]
    dsimp only
    rw [lng_nat, List.drop_left]
    rw [dec_flat l g' _ _ (fun j hj => h j (by simp [hj])) (by omega)]
    simp
/-- What is decoded are the words of what comes. -/
theorem dec_sound : ∀ (g : Nat) (xs : List Int) (p : Nat) (acc : List Ins), xs.length ≤ g → (dec g xs p acc).2.1 = 0 → ∃ l, (dec g xs p acc).1 = acc ++ l ∧ l.flatMap ws = xs ∧ ∀ i ∈ l, wrg i = 0
  | 0, xs, p, acc, hg, _ => ⟨[], by simp [dec], by cases xs with | nil => rfl | cons _ _ => simp at hg, by simp⟩
  | g + 1, [], p, acc, _, _ => ⟨[], by simp [dec], rfl, by simp⟩
  | g + 1, w :: r, p, acc, hg, h => by
    rcases one_cases (w :: r) with h0 | ⟨i, r', h1, h2, h3, h4⟩
    · rw [dec_bad (by rw [h0])] at h; simp at h
    · have hl := ws_len2 i
      rw [dec_next (by rw [h1]; exact lng_ne _), h1] at h ⊢
      dsimp only at h ⊢
      rw [h2, lng_nat, List.drop_left] at h ⊢
      have hlen : r'.length ≤ g := by
        have := congrArg List.length h2
        simp at this hg; omega
      obtain ⟨l, e1, e2, e3⟩ := dec_sound g r' _ _ hlen h
      refine ⟨i :: l, by rw [e1]; simp, by simp [e2], ?_⟩
      intro j hj
      rcases List.mem_cons.1 hj with rfl | hj
      · exact h3
      · exact e3 j hj
theorem dec_len : ∀ (g : Nat) (xs : List Int) (p : Nat) (acc : List Ins), (dec g xs p acc).1.length ≤ acc.length + g
  | 0, xs, p, acc => by simp [dec]
  | g + 1, [], p, acc => by simp [dec]
  | g + 1, w :: r, p, acc => by
    by_cases h : (one (w :: r)).2 = 0
    · rw [dec_bad h]; simp
    · rw [dec_next h]
      have := dec_len g ((w :: r).drop (one (w :: r)).2.toNat) (p + (one (w :: r)).2.toNat) (acc ++ [(one (w :: r)).1])
      simp at this ⊢; omega

theorem turns1 (l : List Ins) (h : (encA l).2.1 = 0) : decA (encA l).1 = (l.map bare, 0, 0) := by
  unfold encA at *
  have a := (enc_ok l 0 [] (by simp)).1 h
  have b := enc_words l 0 [] h
  simp only [List.nil_append] at a b
  unfold decA
  rw [b, if_pos a.2, dec_flat l _ _ _ a.1 (Nat.le_refl _)]; simp
theorem turns2 (xs : List Int) (h : (decA xs).2.1 = 0) : encA (decA xs).1 = (xs, 0, 0) := by
  unfold decA at *
  by_cases hl : xs.length ≤ 65536
  · rw [if_pos hl] at h ⊢
    obtain ⟨l, e1, e2, e3⟩ := dec_sound _ xs 0 [] (Nat.le_refl _) h
    rw [e1]
    simp only [List.nil_append]
    unfold encA
    have a : (enc l 0 []).2.1 = 0 := (enc_ok l 0 [] (by simp)).2 ⟨e3, by simpa [e2] using hl⟩
    have b := enc_words l 0 [] a
    have c : (enc l 0 []).2.2 = 0 := by
      have gen : ∀ (l : List Ins) (k : Nat) (acc : List Int), (enc l k acc).2.1 = 0 → (enc l k acc).2.2 = 0 := by
        intro l
        induction l with
        | nil => intro k acc _; rfl
        | cons i l ih =>
          intro k acc h
          by_cases a : wrg i = 0
          · by_cases b : (acc ++ ws i).length ≤ 65536
            · rw [enc_next a b] at h ⊢; exact ih _ _ h
            · rw [enc_much a (by omega)] at h; simp at h
          · rw [enc_bad a] at h; exact absurd h a
      exact gen l 0 [] a
    rw [List.nil_append, e2] at b
    exact Prod.ext b (Prod.ext a c)
  · rw [if_neg hl] at h; simp at h
theorem joined (l m : List Ins) (hl : (encA l).2.1 = 0) (hm : (encA m).2.1 = 0) :
    ((encA (l ++ m)).2.1 = 0 ∧ (encA (l ++ m)).1 = (encA l).1 ++ (encA m).1) ∨ ((encA (l ++ m)).2.1 = 4 ∧ 65536 < (encA l).1.length + (encA m).1.length) := by
  unfold encA at *
  have a := (enc_ok l 0 [] (by simp)).1 hl
  have b := (enc_ok m 0 [] (by simp)).1 hm
  have c := enc_words l 0 [] hl
  have d := enc_words m 0 [] hm
  simp only [List.nil_append] at a b c d
  have all : ∀ i ∈ l ++ m, wrg i = 0 := by
    intro i hi
    rcases List.mem_append.1 hi with h | h
    · exact a.1 i h
    · exact b.1 i h
  have k := enc_ok (l ++ m) 0 [] (by simp)
  rcases enc_fault (l ++ m) 0 [] all with h | h
  · refine .inl ⟨h, ?_⟩
    rw [enc_words _ _ _ h, c, d]; simp
  · refine .inr ⟨h, ?_⟩
    have : ¬ ((enc (l ++ m) 0 []).2.1 = 0) := by rw [h]; decide
    rw [k] at this
    rw [c, d]
    by_cases hx : (l.flatMap ws).length + (m.flatMap ws).length ≤ 65536
    · exact absurd ⟨all, by simp only [List.nil_append, List.flatMap_append, List.length_append]; exact hx⟩ this
    · omega
end Go.Proofs.Ytjlbenbfmookoaa
