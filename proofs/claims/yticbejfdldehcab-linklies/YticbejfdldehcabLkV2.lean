/-
  Each label lies where it says: the image as a whole.
-/
import Derived.Test.YticbejfdldehcabLkV
namespace Go.Proofs.Yticbejfdldehcab
open Go.RowKit Go.Maps
set_option linter.unusedSimpArgs false
set_option linter.unusedVariables false

/-! ### where units begin -/
def nOf (P : List (Pt × Nat)) (m : Int) : Int := match P[m.toNat]? with | some p => p.1.n | none => 0
def sumN (P : List (Pt × Nat)) : List Int → Int
  | [] => 0
  | m :: l => nOf P m + sumN P l
theorem sumN_append (P : List (Pt × Nat)) : ∀ (a b : List Int), sumN P (a ++ b) = sumN P a + sumN P b
  | [], b => by simp [sumN]
  | x :: a, b => by rw [List.cons_append, sumN, sumN, sumN_append P a b]; omega
theorem sumN_congr {P P' : List (Pt × Nat)} (h : ∀ m, nOf P' m = nOf P m) : ∀ l, sumN P' l = sumN P l
  | [] => rfl
  | m :: l => by rw [sumN, sumN, h, sumN_congr h l]
theorem nOf_ltr {s s' : Ls} (h : Ltr s s') (m : Int) : nOf s'.P m = nOf s.P m := by
  unfold nOf
  by_cases hm : m.toNat < s.P.length
  · have hm' : m.toNat < s'.P.length := by rw [h.len]; exact hm
    rw [List.getElem?_eq_getElem hm, List.getElem?_eq_getElem hm']
    exact (h.same _ _ _ (List.getElem?_eq_getElem hm) (List.getElem?_eq_getElem hm')).2.1
  · rw [List.getElem?_eq_none (l := s'.P) (by have := h.len; omega), List.getElem?_eq_none (l := s.P) (by omega)]
structure Str (s : Ls) : Prop where
  fin : s.fin = sumN s.P s.order
  st : ∀ (j : Nat) (h : j < s.order.length) (p : Pt × Nat), s.P[(s.order[j]'h).toNat]? = some p → p.1.start = sumN s.P (s.order.take j)
theorem putL_str {s : Ls} {O : Nmd} (hg : Good s O) (hd : Nd s) (h : Str s) {n : Nat} (hn : n < s.P.length) : Str (putL s n) := by
  by_cases hp : (s.P[n]'hn).1.put = true
  · rw [putL_yes hn hp]; exact h
  · replace hp : (s.P[n]'hn).1.put = false := by simpa using hp
    have hm : (n : Int) ∉ s.order := fun hm => by rw [(hd.put n hn).2 hm] at hp; cases hp
    have hc := sumN_congr (nOf_ltr (putL_ltr s n))
    rw [putL_no hn hp] at hc ⊢
    dsimp only at hc
    refine ⟨?_, fun j hj p hpj => ?_⟩
    · show s.fin + _ = sumN _ (s.order ++ [(n : Int)])
      rw [hc, sumN_append, h.fin, sumN, sumN]
      have : nOf s.P (n : Int) = (s.P[n]'hn).1.n := by unfold nOf; rw [Int.toNat_natCast, List.getElem?_eq_getElem hn]
      rw [this]; omega
    · dsimp only at hj hpj ⊢
      rw [hc]
      rw [List.length_append] at hj
      by_cases hjl : j < s.order.length
      · rw [List.getElem_append_left hjl] at hpj
        rw [List.take_append_of_le_length (by omega)]
        have hne : n ≠ (s.order[j]'hjl).toNat := fun e => by
          have h1 := (hg.ord _ (List.getElem_mem hjl)).1
          have h2 : (s.order[j]'hjl) = (n : Int) := by omega
          exact hm (h2 ▸ List.getElem_mem hjl)
        rw [List.getElem?_set_ne hne] at hpj
        exact h.st j hjl p hpj
      · have hje : j = s.order.length := by simp at hj; omega
        subst hje
        rw [List.getElem_append_right (Nat.le_refl _)] at hpj
        simp only [Nat.sub_self, List.getElem_cons_zero, Int.toNat_natCast] at hpj
        rw [List.getElem?_set_self hn] at hpj
        cases hpj
        show s.fin = _
        rw [List.take_append_of_le_length (Nat.le_refl _), List.take_length, h.fin]
theorem putL_pre (s : Ls) (n : Nat) : s.order <+: (putL s n).order := by
  unfold putL; split
  · split
    · exact List.prefix_refl _
    · exact List.prefix_append _ _
  · exact List.prefix_refl _
/-- What holds of the linker on its way. -/
structure Way (us : List Un) (O : Nmd) (s : Ls) : Prop where
  good : Good s O
  len : s.P.length = us.length
  nd : Nd s
  str : Str s
theorem Way.put {us : List Un} {O : Nmd} {s : Ls} (h : Way us O s) {n : Nat} (hn : n < s.P.length) : Way us O (putL s n) := ⟨putL_good h.good hn, by rw [putL_len]; exact h.len, (putL_nd h.nd hn).1, putL_str h.good h.nd h.str hn⟩
theorem Way.fnd {us : List Un} {O : Nmd} {s : Ls} (h : Way us O s) {m : Nat} (hm : m < us.length) (k : List UInt8) : Way us O (fndL O m s k).1 ∧ s.order <+: (fndL O m s k).1.order := by
  unfold fndL
  split
  · rename_i ht
    obtain ⟨o0, o1⟩ := ownerL_in h.good (by rw [h.len]; exact hm) ht
    exact ⟨h.put (by omega), putL_pre _ _⟩
  · exact ⟨h, List.prefix_refl _⟩
def uLn (us : List Un) (m : Int) : List Ln := match us[m.toNat]? with | some u => u.lines | none => []
theorem uLn_at {us : List Un} {m : Nat} (h : m < us.length) : uLn us (m : Int) = (us[m]'h).lines := by unfold uLn; rw [Int.toNat_natCast, List.getElem?_eq_getElem h]
/-- A unit's own labels that it speaks of are there. -/
def OwnR (us : List Un) (P : List (Pt × Nat)) (m : Int) : Prop := ∀ y ∈ uLn us m, emp y.lab = true → emp y.ref = false → faL y.ref.toList = false → ∀ p, P[m.toNat]? = some p → hasA p.1.A y.ref.toList = true
theorem wrd_words {us : List Un} {O : Nmd} : ∀ (f i : Nat) (s : Ls) (out : List Int), 400 ≤ f + i → Way us O s → (wrdL us O f i s out).1.2.1 = 0 →
    Way us O (wrdL us O f i s out).2 ∧ Ltr s (wrdL us O f i s out).2 ∧ s.order <+: (wrdL us O f i s out).2.order ∧
    (wrdL us O f i s out).1.1 = out ++ ((wrdL us O f i s out).2.order.drop i).flatMap (fun m => (encA (insL O (wrdL us O f i s out).2.P m.toNat (uLn us m))).1) ∧
    ∀ m ∈ (wrdL us O f i s out).2.order.drop i, OwnR us (wrdL us O f i s out).2.P m ∧ ∀ p, (wrdL us O f i s out).2.P[m.toNat]? = some p → p.1.start + p.1.n ≤ 65536
  | 0, i, s, out, hfi, hw, _ => by
    have := hw.good.small
    have hd : s.order.drop i = [] := List.drop_eq_nil_of_le (by omega)
    refine ⟨hw, Ltr.refl s, List.prefix_refl _, ?_, ?_⟩
    · show out = out ++ (s.order.drop i).flatMap _; rw [hd]; simp
    · show ∀ m ∈ s.order.drop i, _; rw [hd]; simp
  | f + 1, i, s, out, hfi, hw, h => by
    by_cases hi : i < s.order.length
    · have hoi := List.getElem?_eq_getElem hi
      obtain ⟨q0, q1⟩ := hw.good.ord _ (List.getElem_mem hi)
      obtain ⟨x, hx⟩ : ∃ x : Nat, s.order[i] = (x : Int) := ⟨s.order[i].toNat, by omega⟩
      have hmem : (x : Int) ∈ s.order := hx ▸ List.getElem_mem hi
      rw [hx] at hoi q0 q1
      have hxP : x < s.P.length := by omega
      have hxU : x < us.length := by rw [← hw.len]; exact hxP
      by_cases hmu : (s.P[x]'hxP).1.start + (s.P[x]'hxP).1.n ≤ 65536
      · by_cases hr : (rsv (fndL O x) (us[x]'hxU).lines 0 s []).1.2.1 = 0
        · rw [wrd_next hoi hxP hxU hmu hr] at h ⊢
          obtain ⟨r1, r2⟩ := rsv_insL hxU (us[x]'hxU).lines 0 s [] hw.good hw.len hr
          obtain ⟨k1, k2⟩ := rsv_keeps (fnd := fndL O x) (fun s' => Way us O s' ∧ s.order <+: s'.order) (fun s' k hI => ⟨(hI.1.fnd hxU k).1, hI.2.trans (hI.1.fnd hxU k).2⟩) (us[x]'hxU).lines 0 s [] ⟨hw, List.prefix_refl _⟩
          obtain ⟨_, w2, _⟩ := rsv_walk (fnd := fndL O x) (fun s' => Ltr s s' ∧ Way us O s') (fun _ k => faL k = false → ∀ p, s.P[x]? = some p → hasA p.1.A k = true) (us[x]'hxU).lines 0 s [] (fun y _ _ _ s' hs' ht => by
            refine ⟨⟨hs'.1.trans (fnd_ltr O x s' _), (hs'.2.fnd hxU _).1⟩, fun hf p hp => ?_, fun _ h => h⟩
            have hw2 : (ownerL O s'.P x y.ref.toList).2 = true := by
              unfold fndL at ht
              by_cases hw2 : (ownerL O s'.P x y.ref.toList).2 = true
              · exact hw2
              · rw [if_neg hw2] at ht; cases ht
            rw [owner_ltr hs'.1, ownerL_own hf hxP] at hw2
            rw [List.getElem?_eq_getElem hxP] at hp
            cases hp; exact hw2) ⟨Ltr.refl s, hw⟩ hr
          obtain ⟨i1, i2, i3, i4, i5⟩ := wrd_words f (i + 1) (rsv (fndL O x) (us[x]'hxU).lines 0 s []).2 (out ++ (encA (rsv (fndL O x) (us[x]'hxU).lines 0 s []).1.1).1) (by omega) k1 h
          generalize hW : wrdL us O f (i + 1) (rsv (fndL O x) (us[x]'hxU).lines 0 s []).2 (out ++ (encA (rsv (fndL O x) (us[x]'hxU).lines 0 s []).1.1).1) = W at *
          have hlt := r1.trans i2
          have hpre := k2.trans i3
          have hiW : i < W.2.order.length := Nat.lt_of_lt_of_le hi hpre.length_le
          have hxW : W.2.order[i]'hiW = (x : Int) := by
            obtain ⟨t, ht⟩ := hpre
            have : W.2.order[i]? = some (x : Int) := by rw [← ht, List.getElem?_append_left hi, hoi]
            rw [List.getElem?_eq_getElem hiW] at this
            exact Option.some.inj this
          have hdr : W.2.order.drop i = (x : Int) :: W.2.order.drop (i + 1) := by rw [List.drop_eq_getElem_cons hiW, hxW]
          have hput : (s.P[x]'hxP).1.put = true := (hw.nd.put x hxP).2 hmem
          refine ⟨i1, hlt, hpre, ?_, fun m hm => ?_⟩
          · rw [i4, r2 W.2 i2, hdr, List.flatMap_cons, List.nil_append, Int.toNat_natCast, uLn_at hxU, List.append_assoc]
          · rw [hdr] at hm
            rcases List.mem_cons.1 hm with rfl | hm
            · have hxW' : x < W.2.P.length := by rw [hlt.len]; exact hxP
              obtain ⟨a1, a2, a3⟩ := hlt.same x _ _ (List.getElem?_eq_getElem hxP) (List.getElem?_eq_getElem hxW')
              refine ⟨fun y hy e1 e2 e3 p hp => ?_, fun p hp => ?_⟩
              · rw [uLn_at hxU] at hy
                rw [Int.toNat_natCast, List.getElem?_eq_getElem hxW'] at hp
                cases hp
                rw [a1]
                exact w2 y hy e1 e2 e3 _ (List.getElem?_eq_getElem hxP)
              · rw [Int.toNat_natCast, List.getElem?_eq_getElem hxW'] at hp
                cases hp
                rw [a2, (a3 hput).2]; exact hmu
            · exact i5 m hm
        · rw [wrd_bad hoi hxP hxU hmu hr] at h; exact absurd h hr
      · rw [wrd_much hoi hxP hxU (by omega)] at h; simp at h
    · rw [wrd_end (by omega)]
      have hd : s.order.drop i = [] := List.drop_eq_nil_of_le (by omega)
      refine ⟨hw, Ltr.refl s, List.prefix_refl _, ?_, ?_⟩
      · show out = out ++ (s.order.drop i).flatMap _; rw [hd]; simp
      · show ∀ m ∈ s.order.drop i, _; rw [hd]; simp
/-- Where a label lies, looked for from a place on. -/
def whrL : List Ln → List UInt8 → Int → Int
  | [], _, _ => -1
  | x :: l, k, n => if (x.lab.toList == k) = true then n else whrL l k (n + if emp x.lab = true then lng x.i.o else 0)
theorem whr_plc : ∀ (l : List Ln) (k : Nat) (A : Nmd) (n g : Int) (j : List UInt8), (plc l k A n).2.2.1 = 0 → hasA (plc l k A n).1 j = true → hasA A j = false → j ≠ [] → whrL l j g = g - n + atA (plc l k A n).1 j
  | [], _, A, n, g, j, _, h1, h2, _ => by simp [plc] at h1; rw [h1] at h2; cases h2
  | x :: l, k, A, n, g, j, h, h1, h2, hj => by
    by_cases hw : wrgL x = 0
    · by_cases he : emp x.lab = true
      · by_cases ht : n + lng x.i.o ≤ 65536
        · rw [plc_ins hw he ht] at h h1 ⊢
          have hne : (x.lab.toList == j) = false := by
            rw [beq_eq_false_iff_ne]; intro e; unfold emp at he; rw [e] at he; cases j with
            | nil => exact hj rfl
            | cons a b => cases he
          rw [whrL, if_neg (by simp [hne]), if_pos he, whr_plc l _ _ _ _ j h h1 h2 hj]; omega
        · rw [plc_much hw he (by omega)] at h; simp at h
      · replace he : emp x.lab = false := by simpa using he
        by_cases ht : hasA A x.lab.toList = true
        · rw [plc_taken hw he ht] at h; simp at h
        · replace ht : hasA A x.lab.toList = false := by simpa using ht
          rw [plc_label hw he ht] at h h1 ⊢
          by_cases e : x.lab.toList = j
          · subst e
            rw [whrL, if_pos (by simp)]
            have := (plc_words l _ _ _ h).2.1 x.lab.toList (by rw [hasA_snoc]; simp)
            rw [this.2, atA_snoc_new ht]; omega
          · have hne : (x.lab.toList == j) = false := beq_eq_false_iff_ne.2 e
            rw [whrL, if_neg (by simp [hne]), if_neg (by simp [he]), whr_plc l _ _ _ _ j h h1 (by rw [hasA_snoc, h2, hne]; rfl) hj]; omega
    · rw [plc_bad hw] at h; exact absurd h hw
theorem atA_of_mem : ∀ (l : Nmd) (k : List UInt8) (v : Int), l.Pairwise (fun a b => a.1 ≠ b.1) → (k, v) ∈ l → hasA l k = true ∧ atA l k = v
  | [], k, v, _, h => by cases h
  | x :: l, k, v, hp, h => by
    obtain ⟨h1, h2⟩ := List.pairwise_cons.1 hp
    rcases List.mem_cons.1 h with h | h
    · subst h; simp [hasA, atA]
    · obtain ⟨a, b⟩ := atA_of_mem l k v h2 h
      have hne : (x.1 == k) = false := beq_eq_false_iff_ne.2 (h1 _ h)
      refine ⟨by unfold hasA at a ⊢; rw [List.any_cons, a]; simp, ?_⟩
      unfold atA at b ⊢
      rw [List.find?_cons, hne]
      exact b
/-- The spots as names and places. -/
def spM (sp : List (ByteArray × Int)) : Nmd := sp.map fun x => (x.1.toList, x.2)
/-- What the words, the spots and the units tell. -/
structure LiesF (us : List Un) (R : Im) (O : Nmd) (P : List (Pt × Nat)) : Prop where
  words : R.words = (R.units.flatMap fun m => insL O P m.toNat (uLn us m)).flatMap ws
  right : ∀ i ∈ R.units.flatMap (fun m => insL O P m.toNat (uLn us m)), wrg i = 0
  short : R.words.length ≤ 65536
  once : (spM R.spots).Pairwise (fun a b => a.1 ≠ b.1)
  inU : ∀ m ∈ R.units, 0 ≤ m ∧ m < us.length
  lines : ∀ m ∈ R.units, ∀ y ∈ uLn us m, wrgL y = 0
  lab : ∀ (j : Nat) (hj : j < R.units.length) (q : Nat) (hq : q < (uLn us (R.units[j]'hj)).length), fa ((uLn us (R.units[j]'hj))[q]'hq).lab = true → hasA (spM R.spots) ((uLn us (R.units[j]'hj))[q]'hq).lab.toList = true ∧ atA (spM R.spots) ((uLn us (R.units[j]'hj))[q]'hq).lab.toList = sumN P (R.units.take j) + wl ((uLn us (R.units[j]'hj)).take q)
  ref : ∀ (j : Nat) (hj : j < R.units.length), ∀ y ∈ uLn us (R.units[j]'hj), emp y.lab = true → emp y.ref = false → (ownK y.ref.toList = false → hasA (spM R.spots) y.ref.toList = true ∧ atA (spM R.spots) y.ref.toList = plcP O P (R.units[j]'hj).toNat y.ref.toList) ∧ (ownK y.ref.toList = true → whrL (uLn us (R.units[j]'hj)) y.ref.toList (sumN P (R.units.take j)) = plcP O P (R.units[j]'hj).toNat y.ref.toList)
  sum : ∀ (j : Nat) (hj : j < R.units.length), sumN P (R.units.take (j + 1)) = sumN P (R.units.take j) + wl (uLn us (R.units[j]'hj))
  pos : ∀ k m, 0 ≤ plcP O P m k ∧ plcP O P m k ≤ 100000000
  spot : ∀ z ∈ R.spots, 0 ≤ z.2 ∧ z.2 ≤ 100000000 ∧ z.1.size ≤ 32
  few : ∀ m ∈ R.units, (uLn us m).length ≤ 40000
  beg : ∀ j, j ≤ R.units.length → 0 ≤ sumN P (R.units.take j) ∧ sumN P (R.units.take j) ≤ 100000000
  all : sumN P R.units = R.words.length
end Go.Proofs.Yticbejfdldehcab
