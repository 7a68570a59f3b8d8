/-
  Each label lies where it says: plain lists.
-/
import Derived.Test.YteoifpkbknkpjaaLkN
import Derived.Test.YteoifpkbknkpjaaT4F
namespace Go.Proofs.Yteoifpkbknkpjaa
open Go.RowKit Go.Maps
set_option linter.unusedSimpArgs false
set_option linter.unusedVariables false

/-! ### what stays while units are put -/
structure Ltr (s s' : Ls) : Prop where
  len : s'.P.length = s.P.length
  same : ∀ (n : Nat) (p p' : Pt × Nat), s.P[n]? = some p → s'.P[n]? = some p' → p'.1.A = p.1.A ∧ p'.1.n = p.1.n ∧ (p.1.put = true → p'.1.put = true ∧ p'.1.start = p.1.start)
theorem Ltr.refl (s : Ls) : Ltr s s := ⟨rfl, fun n p p' h h' => by rw [h] at h'; cases h'; exact ⟨rfl, rfl, fun h => ⟨h, rfl⟩⟩⟩
theorem Ltr.trans {a b c : Ls} (h : Ltr a b) (k : Ltr b c) : Ltr a c := by
  refine ⟨k.len.trans h.len, fun n p p' hp hp' => ?_⟩
  have hn : n < b.P.length := by rw [h.len]; exact (List.getElem?_eq_some_iff.1 hp).1
  obtain ⟨a1, a2, a3⟩ := h.same n p _ hp (List.getElem?_eq_getElem hn)
  obtain ⟨b1, b2, b3⟩ := k.same n _ p' (List.getElem?_eq_getElem hn) hp'
  exact ⟨b1.trans a1, b2.trans a2, fun hq => by
    obtain ⟨c1, c2⟩ := a3 hq
    obtain ⟨d1, d2⟩ := b3 c1
    exact ⟨d1, d2.trans c2⟩⟩
theorem putL_ltr (s : Ls) (n : Nat) : Ltr s (putL s n) := by
  by_cases hn : n < s.P.length
  · by_cases hp : (s.P[n]'hn).1.put = true
    · rw [putL_yes hn hp]; exact Ltr.refl s
    · replace hp : (s.P[n]'hn).1.put = false := by simpa using hp
      rw [putL_no hn hp]
      refine ⟨by simp, fun m p p' h h' => ?_⟩
      by_cases e : n = m
      · subst e
        simp only [] at h'
        rw [List.getElem?_set_self hn] at h'
        rw [List.getElem?_eq_getElem hn] at h
        cases h; cases h'
        exact ⟨rfl, rfl, fun hq => by rw [hp] at hq; cases hq⟩
      · simp only [] at h'
        rw [List.getElem?_set_ne e, h] at h'
        cases h'
        exact ⟨rfl, rfl, fun h => ⟨h, rfl⟩⟩
  · have : putL s n = s := by unfold putL; rw [List.getElem?_eq_none (by omega)]
    rw [this]; exact Ltr.refl s
theorem putL_put {s : Ls} {n : Nat} (hn : n < s.P.length) : ∃ p, (putL s n).P[n]? = some p ∧ p.1.put = true := by
  by_cases hp : (s.P[n]'hn).1.put = true
  · rw [putL_yes hn hp]; exact ⟨_, List.getElem?_eq_getElem hn, hp⟩
  · replace hp : (s.P[n]'hn).1.put = false := by simpa using hp
    rw [putL_no hn hp]
    exact ⟨_, List.getElem?_set_self hn, rfl⟩
theorem owner_ltr {s s' : Ls} (h : Ltr s s') (O : Nmd) (m : Nat) (k : List UInt8) : ownerL O s'.P m k = ownerL O s.P m k := by
  unfold ownerL
  split
  · rfl
  · by_cases hm : m < s.P.length
    · have hm' : m < s'.P.length := by rw [h.len]; exact hm
      rw [List.getElem?_eq_getElem hm, List.getElem?_eq_getElem hm']
      dsimp only
      rw [(h.same m _ _ (List.getElem?_eq_getElem hm) (List.getElem?_eq_getElem hm')).1]
    · rw [List.getElem?_eq_none (l := s'.P) (by have := h.len; omega), List.getElem?_eq_none (l := s.P) (by omega)]
/-- Where a label lies that unit m speaks of. -/
def plcP (O : Nmd) (P : List (Pt × Nat)) (m : Nat) (k : List UInt8) : Int := match P[(ownerL O P m k).1.toNat]? with | some p => p.1.start + atA p.1.A k | none => 0
theorem fnd_ltr (O : Nmd) (m : Nat) (s : Ls) (k : List UInt8) : Ltr s (fndL O m s k).1 := by
  unfold fndL; split
  · exact putL_ltr _ _
  · exact Ltr.refl s
theorem fnd_plc {O : Nmd} {m : Nat} {s s' : Ls} {k : List UInt8} (hg : Good s O) (hm : m < s.P.length) (ht : (fndL O m s k).2.2 = true) (h : Ltr (fndL O m s k).1 s') : (fndL O m s k).2.1 = plcP O s'.P m k := by
  have hw : (ownerL O s.P m k).2 = true := by
    unfold fndL at ht
    by_cases hw : (ownerL O s.P m k).2 = true
    · exact hw
    · rw [if_neg hw] at ht; cases ht
  obtain ⟨o0, o1⟩ := ownerL_in hg hm hw
  have ho : (ownerL O s.P m k).1.toNat < s.P.length := by omega
  have eo := owner_ltr ((fnd_ltr O m s k).trans h) O m k
  have e1 : fndL O m s k = (putL s (ownerL O s.P m k).1.toNat, (match (putL s (ownerL O s.P m k).1.toNat).P[(ownerL O s.P m k).1.toNat]? with | some p => p.1.start + atA p.1.A k | none => 0), true) := by
    unfold fndL; rw [if_pos hw]; rfl
  rw [e1] at h ⊢
  dsimp only at h ⊢
  unfold plcP
  rw [eo]
  obtain ⟨p, hp, hput⟩ := putL_put ho
  rw [hp]
  have ho' : (ownerL O s.P m k).1.toNat < s'.P.length := by rw [h.len, putL_len]; exact ho
  rw [List.getElem?_eq_getElem ho']
  obtain ⟨a1, _, a3⟩ := h.same _ _ _ hp (List.getElem?_eq_getElem ho')
  dsimp only
  rw [a1, (a3 hput).2]
/-- A line's instruction, with places for labels. -/
def insX (O : Nmd) (P : List (Pt × Nat)) (m : Nat) (x : Ln) : Ins := if emp x.ref = true then x.i else ⟨x.i.o, x.i.d, x.i.s, plcP O P m x.ref.toList % 65536⟩
def insL (O : Nmd) (P : List (Pt × Nat)) (m : Nat) (l : List Ln) : List Ins := (l.filter fun x => emp x.lab).map (insX O P m)
theorem insL_lab {O : Nmd} {P : List (Pt × Nat)} {m : Nat} {x : Ln} {l : List Ln} (h : emp x.lab = false) : insL O P m (x :: l) = insL O P m l := by unfold insL; rw [List.filter_cons, if_neg (by simp [h])]
theorem insL_ins {O : Nmd} {P : List (Pt × Nat)} {m : Nat} {x : Ln} {l : List Ln} (h : emp x.lab = true) : insL O P m (x :: l) = insX O P m x :: insL O P m l := by unfold insL; rw [List.filter_cons, if_pos h, List.map_cons]
theorem rsv_insL {O : Nmd} {m n : Nat} (hm : m < n) : ∀ (l : List Ln) (k : Nat) (s : Ls) (acc : List Ins), Good s O → s.P.length = n → (rsv (fndL O m) l k s acc).1.2.1 = 0 → Ltr s (rsv (fndL O m) l k s acc).2 ∧ ∀ s', Ltr (rsv (fndL O m) l k s acc).2 s' → (rsv (fndL O m) l k s acc).1.1 = acc ++ insL O s'.P m l
  | [], _, s, acc, _, _, _ => ⟨Ltr.refl s, fun _ _ => by simp [rsv, insL]⟩
  | x :: l, k, s, acc, hg, hn, h => by
    by_cases h1 : emp x.lab = false
    · rw [rsv_lab h1] at h ⊢
      obtain ⟨a, b⟩ := rsv_insL hm l _ _ _ hg hn h
      exact ⟨a, fun s' hs => by rw [insL_lab h1]; exact b s' hs⟩
    · replace h1 : emp x.lab = true := by simpa using h1
      by_cases h2 : emp x.ref = true
      · rw [rsv_ins h1 h2] at h ⊢
        obtain ⟨a, b⟩ := rsv_insL hm l _ _ _ hg hn h
        exact ⟨a, fun s' hs => by rw [insL_ins h1, b s' hs]; unfold insX; rw [if_pos h2]; simp⟩
      · replace h2 : emp x.ref = false := by simpa using h2
        by_cases h3 : (fndL O m s x.ref.toList).2.2 = true
        · rw [rsv_ref h1 h2 h3] at h ⊢
          obtain ⟨g1, g2⟩ := fnd_good hg (by rw [hn]; exact hm) x.ref.toList
          obtain ⟨a, b⟩ := rsv_insL hm l _ _ _ g1 (g2.trans hn) h
          exact ⟨(fnd_ltr O m s x.ref.toList).trans a, fun s' hs => by
            rw [insL_ins h1, b s' hs, fnd_plc hg (by rw [hn]; exact hm) h3 (a.trans hs)]
            unfold insX
            rw [if_neg (by simp [h2])]; simp⟩
        · rw [rsv_none h1 h2 (by simpa using h3)] at h; simp at h

/-! ### how many words -/
theorem plcA_words {l : List Ln} (h : (plcA l).2.2.1 = 0) : (plcA l).2.1 = wl l ∧ ∀ (q : Nat) (hq : q < l.length), emp (l[q]'hq).lab = false → hasA (plcA l).1 (l[q]'hq).lab.toList = true ∧ atA (plcA l).1 (l[q]'hq).lab.toList = wl (l.take q) := by
  have e := plcA_ok h
  rw [e] at h ⊢
  obtain ⟨a, _, c⟩ := plc_words _ _ _ _ h
  exact ⟨by rw [a]; omega, fun q hq hl => ⟨(c q hq hl).2.1, by rw [(c q hq hl).2.2]; omega⟩⟩
/-- No label stands twice. -/
theorem plc_once : ∀ (l : List Ln) (k : Nat) (A : Nmd) (n : Int), (plc l k A n).2.2.1 = 0 → (l.filter fun x => fa x.lab).Pairwise (fun x y => x.lab.toList ≠ y.lab.toList) ∧ ∀ x ∈ l, emp x.lab = false → hasA A x.lab.toList = false
  | [], _, _, _, _ => ⟨by simp, by simp⟩
  | x :: l, k, A, n, h => by
    by_cases hw : wrgL x = 0
    · by_cases he : emp x.lab = true
      · by_cases ht : n + lng x.i.o ≤ 65536
        · rw [plc_ins hw he ht] at h
          obtain ⟨a, b⟩ := plc_once l _ _ _ h
          have hf : fa x.lab = false := by
            cases hf : fa x.lab with
            | false => rfl
            | true => have := fa_emp hf; rw [he] at this; cases this
          refine ⟨by rw [List.filter_cons, if_neg (by simp [hf])]; exact a, fun y hy hl => ?_⟩
          rcases List.mem_cons.1 hy with rfl | hy
          · rw [he] at hl; cases hl
          · exact b y hy hl
        · rw [plc_much hw he (by omega)] at h; simp at h
      · replace he : emp x.lab = false := by simpa using he
        by_cases ht : hasA A x.lab.toList = true
        · rw [plc_taken hw he ht] at h; simp at h
        · replace ht : hasA A x.lab.toList = false := by simpa using ht
          rw [plc_label hw he ht] at h
          obtain ⟨a, b⟩ := plc_once l _ _ _ h
          have b' : ∀ y ∈ l, emp y.lab = false → hasA A y.lab.toList = false ∧ x.lab.toList ≠ y.lab.toList := fun y hy hl => by
            have := b y hy hl
            rw [hasA_snoc] at this
            obtain ⟨h1, h2⟩ := Bool.or_eq_false_iff.1 this
            exact ⟨h1, by simpa using h2⟩
          refine ⟨?_, fun y hy hl => ?_⟩
          · rw [List.filter_cons]
            split
            · refine List.Pairwise.cons (fun y hy => ?_) a
              obtain ⟨hy1, hy2⟩ := List.mem_filter.1 hy
              exact (b' y hy1 (fa_emp hy2)).2
            · exact a
          · rcases List.mem_cons.1 hy with rfl | hy
            · exact ht
            · exact (b' y hy hl).1
    · rw [plc_bad hw] at h; exact absurd h hw
/-- The words of lines with which nothing is wrong. -/
theorem insX_ok {O : Nmd} {P : List (Pt × Nat)} {m : Nat} {x : Ln} (h : wrgL x = 0) (he : emp x.lab = true) : wrg (insX O P m x) = 0 ∧ (insX O P m x).o = x.i.o ∧ (emp x.ref = false → (bare (insX O P m x)).m = plcP O P m x.ref.toList % 65536) := by
  obtain ⟨h1, h2⟩ := wrgL_ins h he
  unfold insX
  by_cases hr : emp x.ref = true
  · rw [if_pos hr]; exact ⟨h1, rfl, fun h => by rw [hr] at h; cases h⟩
  · rw [if_neg hr]
    obtain ⟨f0, f1, f2, f3, f4⟩ := wr_fields h1
    rcases h2 with h2 | ⟨_, hmay, _⟩
    · exact absurd h2 hr
    · have hi : hI x.i.o = true := by unfold may at hmay; simp at hmay; exact hmay.1
      refine ⟨wr_of f0 f1 f2 f3 (fun _ => ⟨?_, ?_⟩), rfl, fun _ => ?_⟩
      · show 0 ≤ plcP O P m x.ref.toList % 65536; omega
      · show plcP O P m x.ref.toList % 65536 ≤ 65535; omega
      · unfold bare; dsimp only; rw [if_pos hi]
theorem insL_words {O : Nmd} {P : List (Pt × Nat)} {m : Nat} : ∀ (l : List Ln), (∀ x ∈ l, wrgL x = 0) → (∀ i ∈ insL O P m l, wrg i = 0) ∧ (((insL O P m l).flatMap ws).length : Int) = wl l
  | [], _ => ⟨by simp [insL], by simp [insL, wl]⟩
  | x :: l, h => by
    obtain ⟨a, b⟩ := insL_words (O := O) (P := P) (m := m) l (fun y hy => h y (List.mem_cons_of_mem _ hy))
    by_cases he : emp x.lab = true
    · rw [insL_ins he, wl, if_pos he]
      obtain ⟨c1, c2, _⟩ := insX_ok (O := O) (P := P) (m := m) (h x List.mem_cons_self) he
      refine ⟨fun i hi => ?_, ?_⟩
      · rcases List.mem_cons.1 hi with rfl | hi
        · exact c1
        · exact a i hi
      · rw [List.flatMap_cons, List.length_append]
        have := ws_len (insX O P m x)
        rw [c2] at this
        omega
    · replace he : emp x.lab = false := by simpa using he
      rw [insL_lab he, wl, if_neg (by simp [he])]
      exact ⟨a, by omega⟩
end Go.Proofs.Yteoifpkbknkpjaa

/-
  Each label lies where it says: the image as a whole.
-/
namespace Go.Proofs.Yteoifpkbknkpjaa
open Go.RowKit Go.Maps
set_option linter.unusedSimpArgs false
set_option linter.unusedVariables false

/-! ### where units begin -/
def nOf (P : List (Pt × Nat)) (m : Int) : Int := match P[m.toNat]? with | some p => p.1.n | none => 0
def sumN (P : List (Pt × Nat)) : List Int → Int
  | [] => 0
  | m :: l => nOf P m + sumN P l
theorem sumN_append (P : List (Pt × Nat)) : ∀ (a b : List Int), sumN P (a ++ b) = sumN P a + sumN P b
  | [], b => by simp [sumN]
  | x :: a, b => by rw [List.cons_append, sumN, sumN, sumN_append P a b]; omega
theorem sumN_congr {P P' : List (Pt × Nat)} (h : ∀ m, nOf P' m = nOf P m) : ∀ l, sumN P' l = sumN P l
  | [] => rfl
  | m :: l => by rw [sumN, sumN, h, sumN_congr h l]
theorem nOf_ltr {s s' : Ls} (h : Ltr s s') (m : Int) : nOf s'.P m = nOf s.P m := by
  unfold nOf
  by_cases hm : m.toNat < s.P.length
  · have hm' : m.toNat < s'.P.length := by rw [h.len]; exact hm
    rw [List.getElem?_eq_getElem hm, List.getElem?_eq_getElem hm']
    exact (h.same _ _ _ (List.getElem?_eq_getElem hm) (List.getElem?_eq_getElem hm')).2.1
  · rw [List.getElem?_eq_none (l := s'.P) (by have := h.len; omega), List.getElem?_eq_none (l := s.P) (by omega)]
structure Str (s : Ls) : Prop where
  fin : s.fin = sumN s.P s.order
  st : ∀ (j : Nat) (h : j < s.order.length) (p : Pt × Nat), s.P[(s.order[j]'h).toNat]? = some p → p.1.start = sumN s.P (s.order.take j)
theorem putL_str {s : Ls} {O : Nmd} (hg : Good s O) (hd : Nd s) (h : Str s) {n : Nat} (hn : n < s.P.length) : Str (putL s n) := by
  by_cases hp : (s.P[n]'hn).1.put = true
  · rw [putL_yes hn hp]; exact h
  · replace hp : (s.P[n]'hn).1.put = false := by simpa using hp
    have hm : (n : Int) ∉ s.order := fun hm => by rw [(hd.put n hn).2 hm] at hp; cases hp
    have hc := sumN_congr (nOf_ltr (putL_ltr s n))
    rw [putL_no hn hp] at hc ⊢
    dsimp only at hc
    refine ⟨?_, fun j hj p hpj => ?_⟩
    · show s.fin + _ = sumN _ (s.order ++ [(n : Int)])
      rw [hc, sumN_append, h.fin, sumN, sumN]
      have : nOf s.P (n : Int) = (s.P[n]'hn).1.n := by unfold nOf; rw [Int.toNat_natCast, List.getElem?_eq_getElem hn]
      rw [this]; omega
    · dsimp only at hj hpj ⊢
      rw [hc]
      rw [List.length_append] at hj
      by_cases hjl : j < s.order.length
      · rw [List.getElem_append_left hjl] at hpj
        rw [List.take_append_of_le_length (by omega)]
        have hne : n ≠ (s.order[j]'hjl).toNat := fun e => by
          have h1 := (hg.ord _ (List.getElem_mem hjl)).1
          have h2 : (s.order[j]'hjl) = (n : Int) := by omega
          exact hm (h2 ▸ List.getElem_mem hjl)
        rw [List.getElem?_set_ne hne] at hpj
        exact h.st j hjl p hpj
      · have hje : j = s.order.length := by simp at hj; omega
        subst hje
        rw [List.getElem_append_right (Nat.le_refl _)] at hpj
        simp only [Nat.sub_self, List.getElem_cons_zero, Int.toNat_natCast] at hpj
        rw [List.getElem?_set_self hn] at hpj
        cases hpj
        show s.fin = _
        rw [List.take_append_of_le_length (Nat.le_refl _), List.take_length, h.fin]
theorem putL_pre (s : Ls) (n : Nat) : s.order <+: (putL s n).order := by
  unfold putL; split
  · split
    · exact List.prefix_refl _
    · exact List.prefix_append _ _
  · exact List.prefix_refl _
/-- What holds of the linker on its way. -/
structure Way (us : List Un) (O : Nmd) (s : Ls) : Prop where
  good : Good s O
  len : s.P.length = us.length
  nd : Nd s
  str : Str s
theorem Way.put {us : List Un} {O : Nmd} {s : Ls} (h : Way us O s) {n : Nat} (hn : n < s.P.length) : Way us O (putL s n) := ⟨putL_good h.good hn, by rw [putL_len]; exact h.len, (putL_nd h.nd hn).1, putL_str h.good h.nd h.str hn⟩
theorem Way.fnd {us : List Un} {O : Nmd} {s : Ls} (h : Way us O s) {m : Nat} (hm : m < us.length) (k : List UInt8) : Way us O (fndL O m s k).1 ∧ s.order <+: (fndL O m s k).1.order := by
  unfold fndL
  split
  · rename_i ht
    obtain ⟨o0, o1⟩ := ownerL_in h.good (by rw [h.len]; exact hm) ht
    exact ⟨h.put (by omega), putL_pre _ _⟩
  · exact ⟨h, List.prefix_refl _⟩
def uLn (us : List Un) (m : Int) : List Ln := match us[m.toNat]? with | some u => u.lines | none => []
theorem uLn_at {us : List Un} {m : Nat} (h : m < us.length) : uLn us (m : Int) = (us[m]'h).lines := by unfold uLn; rw [Int.toNat_natCast, List.getElem?_eq_getElem h]
/-- A unit's own labels that it speaks of are there. -/
def OwnR (us : List Un) (P : List (Pt × Nat)) (m : Int) : Prop := ∀ y ∈ uLn us m, emp y.lab = true → emp y.ref = false → faL y.ref.toList = false → ∀ p, P[m.toNat]? = some p → hasA p.1.A y.ref.toList = true
theorem wrd_words {us : List Un} {O : Nmd} : ∀ (f i : Nat) (s : Ls) (out : List Int), 400 ≤ f + i → Way us O s → (wrdL us O f i s out).1.2.1 = 0 →
    Way us O (wrdL us O f i s out).2 ∧ Ltr s (wrdL us O f i s out).2 ∧ s.order <+: (wrdL us O f i s out).2.order ∧
    (wrdL us O f i s out).1.1 = out ++ ((wrdL us O f i s out).2.order.drop i).flatMap (fun m => (encA (insL O (wrdL us O f i s out).2.P m.toNat (uLn us m))).1) ∧
    ∀ m ∈ (wrdL us O f i s out).2.order.drop i, OwnR us (wrdL us O f i s out).2.P m ∧ ∀ p, (wrdL us O f i s out).2.P[m.toNat]? = some p → p.1.start + p.1.n ≤ 65536
  | 0, i, s, out, hfi, hw, _ => by
    have := hw.good.small
    have hd : s.order.drop i = [] := List.drop_eq_nil_of_le (by omega)
    refine ⟨hw, Ltr.refl s, List.prefix_refl _, ?_, ?_⟩
    · show out = out ++ (s.order.drop i).flatMap _; rw [hd]; simp
    · show ∀ m ∈ s.order.drop i, _; rw [hd]; simp
  | f + 1, i, s, out, hfi, hw, h => by
    by_cases hi : i < s.order.length
    · have hoi := List.getElem?_eq_getElem hi
      obtain ⟨q0, q1⟩ := hw.good.ord _ (List.getElem_mem hi)
      obtain ⟨x, hx⟩ : ∃ x : Nat, s.order[i] = (x : Int) := ⟨s.order[i].toNat, by omega⟩
      have hmem : (x : Int) ∈ s.order := hx ▸ List.getElem_mem hi
      rw [hx] at hoi q0 q1
      have hxP : x < s.P.length := by omega
      have hxU : x < us.length := by rw [← hw.len]; exact hxP
      by_cases hmu : (s.P[x]'hxP).1.start + (s.P[x]'hxP).1.n ≤ 65536
      · by_cases hr : (rsv (fndL O x) (us[x]'hxU).lines 0 s []).1.2.1 = 0
        · rw [wrd_next hoi hxP hxU hmu hr] at h ⊢
          obtain ⟨r1, r2⟩ := rsv_insL hxU (us[x]'hxU).lines 0 s [] hw.good hw.len hr
          obtain ⟨k1, k2⟩ := rsv_keeps (fnd := fndL O x) (fun s' => Way us O s' ∧ s.order <+: s'.order) (fun s' k hI => ⟨(hI.1.fnd hxU k).1, hI.2.trans (hI.1.fnd hxU k).2⟩) (us[x]'hxU).lines 0 s [] ⟨hw, List.prefix_refl _⟩
          obtain ⟨_, w2, _⟩ := rsv_walk (fnd := fndL O x) (fun s' => Ltr s s' ∧ Way us O s') (fun _ k => faL k = false → ∀ p, s.P[x]? = some p → hasA p.1.A k = true) (us[x]'hxU).lines 0 s [] (fun y _ _ _ s' hs' ht => by
            refine ⟨⟨hs'.1.trans (fnd_ltr O x s' _), (hs'.2.fnd hxU _).1⟩, fun hf p hp => ?_, fun _ h => h⟩
            have hw2 : (ownerL O s'.P x y.ref.toList).2 = true := by
              unfold fndL at ht
              by_cases hw2 : (ownerL O s'.P x y.ref.toList).2 = true
              · exact hw2
              · rw [if_neg hw2] at ht; cases ht
            rw [owner_ltr hs'.1, ownerL_own hf hxP] at hw2
            rw [List.getElem?_eq_getElem hxP] at hp
            cases hp; exact hw2) ⟨Ltr.refl s, hw⟩ hr
          obtain ⟨i1, i2, i3, i4, i5⟩ := wrd_words f (i + 1) (rsv (fndL O x) (us[x]'hxU).lines 0 s []).2 (out ++ (encA (rsv (fndL O x) (us[x]'hxU).lines 0 s []).1.1).1) (by omega) k1 h
          generalize hW : wrdL us O f (i + 1) (rsv (fndL O x) (us[x]'hxU).lines 0 s []).2 (out ++ (encA (rsv (fndL O x) (us[x]'hxU).lines 0 s []).1.1).1) = W at *
          have hlt := r1.trans i2
          have hpre := k2.trans i3
          have hiW : i < W.2.order.length := Nat.lt_of_lt_of_le hi hpre.length_le
          have hxW : W.2.order[i]'hiW = (x : Int) := by
            obtain ⟨t, ht⟩ := hpre
            have : W.2.order[i]? = some (x : Int) := by rw [← ht, List.getElem?_append_left hi, hoi]
            rw [List.getElem?_eq_getElem hiW] at this
            exact Option.some.inj this
          have hdr : W.2.order.drop i = (x : Int) :: W.2.order.drop (i + 1) := by rw [List.drop_eq_getElem_cons hiW, hxW]
          have hput : (s.P[x]'hxP).1.put = true := (hw.nd.put x hxP).2 hmem
          refine ⟨i1, hlt, hpre, ?_, fun m hm => ?_⟩
          · rw [i4, r2 W.2 i2, hdr, List.flatMap_cons, List.nil_append, Int.toNat_natCast, uLn_at hxU, List.append_assoc]
          · rw [hdr] at hm
            rcases List.mem_cons.1 hm with rfl | hm
            · have hxW' : x < W.2.P.length := by rw [hlt.len]; exact hxP
              obtain ⟨a1, a2, a3⟩ := hlt.same x _ _ (List.getElem?_eq_getElem hxP) (List.getElem?_eq_getElem hxW')
              refine ⟨fun y hy e1 e2 e3 p hp => ?_, fun p hp => ?_⟩
              · rw [uLn_at hxU] at hy
                rw [Int.toNat_natCast, List.getElem?_eq_getElem hxW'] at hp
                cases hp
                rw [a1]
                exact w2 y hy e1 e2 e3 _ (List.getElem?_eq_getElem hxP)
              · rw [Int.toNat_natCast, List.getElem?_eq_getElem hxW'] at hp
                cases hp
                rw [a2, (a3 hput).2]; exact hmu
            · exact i5 m hm
        · rw [wrd_bad hoi hxP hxU hmu hr] at h; exact absurd h hr
      · rw [wrd_much hoi hxP hxU (by omega)] at h; simp at h
    · rw [wrd_end (by omega)]
      have hd : s.order.drop i = [] := List.drop_eq_nil_of_le (by omega)
      refine ⟨hw, Ltr.refl s, List.prefix_refl _, ?_, ?_⟩
      · show out = out ++ (s.order.drop i).flatMap _; rw [hd]; simp
      · show ∀ m ∈ s.order.drop i, _; rw [hd]; simp
theorem atA_of_mem : ∀ (l : Nmd) (k : List UInt8) (v : Int), l.Pairwise (fun a b => a.1 ≠ b.1) → (k, v) ∈ l → hasA l k = true ∧ atA l k = v
  | [], k, v, _, h => by cases h
  | x :: l, k, v, hp, h => by
    obtain ⟨h1, h2⟩ := List.pairwise_cons.1 hp
    rcases List.mem_cons.1 h with h | h
    · subst h; simp [hasA, atA]
    · obtain ⟨a, b⟩ := atA_of_mem l k v h2 h
      have hne : (x.1 == k) = false := beq_eq_false_iff_ne.2 (h1 _ h)
      refine ⟨by unfold hasA at a ⊢; rw [List.any_cons, a]; simp, ?_⟩
      unfold atA at b ⊢
      rw [List.find?_cons, hne]
      exact b
/-- The spots as names and places. -/
def spM (sp : List (ByteArray × Int)) : Nmd := sp.map fun x => (x.1.toList, x.2)
/-- What the words, the spots and the units tell. -/
structure LiesF (us : List Un) (R : Im) (O : Nmd) (P : List (Pt × Nat)) : Prop where
  words : R.words = (R.units.flatMap fun m => insL O P m.toNat (uLn us m)).flatMap ws
  right : ∀ i ∈ R.units.flatMap (fun m => insL O P m.toNat (uLn us m)), wrg i = 0
  short : R.words.length ≤ 65536
  once : (spM R.spots).Pairwise (fun a b => a.1 ≠ b.1)
  inU : ∀ m ∈ R.units, 0 ≤ m ∧ m < us.length
  lines : ∀ m ∈ R.units, ∀ y ∈ uLn us m, wrgL y = 0
  lab : ∀ (j : Nat) (hj : j < R.units.length) (q : Nat) (hq : q < (uLn us (R.units[j]'hj)).length), fa ((uLn us (R.units[j]'hj))[q]'hq).lab = true → hasA (spM R.spots) ((uLn us (R.units[j]'hj))[q]'hq).lab.toList = true ∧ atA (spM R.spots) ((uLn us (R.units[j]'hj))[q]'hq).lab.toList = sumN P (R.units.take j) + wl ((uLn us (R.units[j]'hj)).take q)
  ref : ∀ (j : Nat) (hj : j < R.units.length), ∀ y ∈ uLn us (R.units[j]'hj), emp y.lab = true → emp y.ref = false → (ownK y.ref.toList = false → hasA (spM R.spots) y.ref.toList = true ∧ atA (spM R.spots) y.ref.toList = plcP O P (R.units[j]'hj).toNat y.ref.toList) ∧ (ownK y.ref.toList = true → whrL (uLn us (R.units[j]'hj)) y.ref.toList (sumN P (R.units.take j)) = plcP O P (R.units[j]'hj).toNat y.ref.toList)
  sum : ∀ (j : Nat) (hj : j < R.units.length), sumN P (R.units.take (j + 1)) = sumN P (R.units.take j) + wl (uLn us (R.units[j]'hj))
  pos : ∀ k m, 0 ≤ plcP O P m k ∧ plcP O P m k ≤ 100000000
  spot : ∀ z ∈ R.spots, 0 ≤ z.2 ∧ z.2 ≤ 100000000 ∧ z.1.size ≤ 32
  few : ∀ m ∈ R.units, (uLn us m).length ≤ 40000
  beg : ∀ j, j ≤ R.units.length → 0 ≤ sumN P (R.units.take j) ∧ sumN P (R.units.take j) ≤ 100000000
  all : sumN P R.units = R.words.length
end Go.Proofs.Yteoifpkbknkpjaa

/-
  Each label lies where it says.
-/
namespace Go.Proofs.Yteoifpkbknkpjaa
open Go.RowKit Go.Maps
set_option linter.unusedSimpArgs false
set_option linter.unusedVariables false

theorem flatMap_same {α β : Type} {f g : α → List β} : ∀ {l : List α}, (∀ a ∈ l, f a = g a) → l.flatMap f = l.flatMap g
  | [], _ => rfl
  | x :: l, h => by rw [List.flatMap_cons, List.flatMap_cons, h x List.mem_cons_self, flatMap_same (fun a ha => h a (List.mem_cons_of_mem _ ha))]
theorem mem_spt1 {l : List Ln} {p : Pt} {x : Ln} (hx : x ∈ l) (hf : fa x.lab = true) : (x.lab, p.start + atA p.A x.lab.toList) ∈ spt1 l p := by
  unfold spt1
  exact List.mem_map.2 ⟨x, List.mem_filter.2 ⟨hx, hf⟩, rfl⟩
theorem spt1_mem {l : List Ln} {p : Pt} {z : ByteArray × Int} (h : z ∈ spt1 l p) : ∃ x ∈ l, fa x.lab = true ∧ x.lab = z.1 := by
  unfold spt1 at h
  obtain ⟨x, hx, rfl⟩ := List.mem_map.1 h
  exact ⟨x, (List.mem_filter.1 hx).1, (List.mem_filter.1 hx).2, rfl⟩
theorem enc_all {l : List Ins} (h : ∀ i ∈ l, wrg i = 0) (hl : (l.flatMap ws).length ≤ 65536) : (encA l).1 = l.flatMap ws := by
  unfold encA
  have h0 := (enc_ok l 0 [] (by simp)).2 ⟨h, by simpa using hl⟩
  rw [enc_words l 0 [] h0]; simp
theorem link_lies {us : List Un} {e : List UInt8} (h : (linkL us e).2.1 = 0) : ∃ O P, LiesF us (linkL us e).1 O P := by
  obtain ⟨a1, a2, a3, a4, a5⟩ := link_ok h
  obtain ⟨i, hi, d1, x0, hx0, hfx0, hxe0⟩ := srv_new us 0 ⟨[], []⟩ a2 e a3 rfl
  obtain ⟨hg, hl⟩ := srv_good a1 a2 (P := (srv us 0 ⟨[], []⟩).1.parts.map (fun p => (p, 0))) (map_fst0 _)
  obtain ⟨hp1, hp2⟩ := srv_parts us 0 ⟨[], []⟩ a2
  have hi' : (atA (srv us 0 ⟨[], []⟩).1.owners e).toNat < ((srv us 0 ⟨[], []⟩).1.parts.map (fun p => (p, 0))).length := by rw [d1]; omega
  have et : ((atA (srv us 0 ⟨[], []⟩).1.owners e).toNat : Int) = atA (srv us 0 ⟨[], []⟩).1.owners e := by omega
  have nd0 : Nd ⟨(srv us 0 ⟨[], []⟩).1.parts.map (fun p => (p, 0)), [], 0⟩ := by
    refine ⟨by simp, fun n hn => ?_⟩
    simp [hp1, ptOf]
  have way0 : Way us (srv us 0 ⟨[], []⟩).1.owners ⟨(srv us 0 ⟨[], []⟩).1.parts.map (fun p => (p, 0)), [], 0⟩ := ⟨hg, hl, nd0, ⟨rfl, fun j hj => by simp at hj⟩⟩
  obtain ⟨n1, n2, n3, n4⟩ := putL_nd nd0 hi'
  have W := wrd_words (us := us) (O := (srv us 0 ⟨[], []⟩).1.owners) 400 0 _ [] (by omega) (way0.put hi') a4
  have V := wrd_nds (us := us) (O := (srv us 0 ⟨[], []⟩).1.owners) (first := atA (srv us 0 ⟨[], []⟩).1.owners e) 400 0 _ [] (by omega) ⟨putL_good hg hi', by rw [putL_len]; exact hl, n1, fun j hj => by
    rcases n4 j hj with hj | hj
    · simp at hj
    · left; rw [hj, et], List.nil_prefix⟩ (fun v hv hm => by simp at hm) a4
  have LT := (putL_ltr ⟨(srv us 0 ⟨[], []⟩).1.parts.map (fun p => (p, 0)), [], 0⟩ (atA (srv us 0 ⟨[], []⟩).1.owners e).toNat).trans W.2.1
  have eR : (linkL us e).1 = ⟨(wrdS us (srv us 0 ⟨[], []⟩).1 e).1.1, (wrdS us (srv us 0 ⟨[], []⟩).1 e).2.order, sptL us (wrdS us (srv us 0 ⟨[], []⟩).1 e).2.P (wrdS us (srv us 0 ⟨[], []⟩).1 e).2.order⟩ := by rw [a5]; unfold imL; rw [if_pos a4]
  have hS : wrdL us (srv us 0 ⟨[], []⟩).1.owners 400 0 (putL ⟨(srv us 0 ⟨[], []⟩).1.parts.map (fun p => (p, 0)), [], 0⟩ (atA (srv us 0 ⟨[], []⟩).1.owners e).toNat) [] = wrdS us (srv us 0 ⟨[], []⟩).1 e := rfl
  rw [hS] at W V LT
  generalize wrdS us (srv us 0 ⟨[], []⟩).1 e = Z at *
  obtain ⟨⟨zs, er, ef⟩, s⟩ := Z
  dsimp only at W V LT eR
  obtain ⟨way, -, -, w4, w5⟩ := W
  obtain ⟨-, dn⟩ := V
  rw [eR]
  have hO : ∀ m : Nat, m < us.length → ∃ p, s.P[m]? = some p ∧ p.1.A = (plcA (uLn us m)).1 ∧ p.1.n = (plcA (uLn us m)).2.1 := fun m hm => by
    have hmP : m < s.P.length := by rw [way.len]; exact hm
    have h0 : ((srv us 0 ⟨[], []⟩).1.parts.map (fun p => (p, 0)))[m]? = some (ptOf (us[m]'hm), 0) := by
      rw [hp1, List.nil_append, List.getElem?_map, List.getElem?_map, List.getElem?_eq_getElem hm]; rfl
    obtain ⟨b1, b2, -⟩ := LT.same m _ _ h0 (List.getElem?_eq_getElem hmP)
    refine ⟨_, List.getElem?_eq_getElem hmP, ?_, ?_⟩
    · rw [b1, uLn_at hm]; rfl
    · rw [b2, uLn_at hm]; rfl
  have hU : ∀ m ∈ s.order, ∃ u : Nat, m = (u : Int) ∧ u < us.length := fun m hm => by
    have := way.good.ord m hm
    exact ⟨m.toNat, by omega, by rw [← way.len]; omega⟩
  have hok : ∀ m : Nat, m < us.length → (plcA (uLn us m)).2.2.1 = 0 := fun m hm => by rw [uLn_at hm]; exact hp2 _ (List.getElem_mem hm)
  have hrt : ∀ m ∈ s.order, ∀ y ∈ uLn us m, wrgL y = 0 := fun m hm => by
    obtain ⟨u, rfl, hu⟩ := hU m hm
    exact (plcA_right (hok u hu)).2
  have hnw : ∀ m ∈ s.order, nOf s.P m = wl (uLn us m) := fun m hm => by
    obtain ⟨u, rfl, hu⟩ := hU m hm
    obtain ⟨p, hp, _, hn⟩ := hO u hu
    unfold nOf
    rw [Int.toNat_natCast, hp]
    dsimp only
    rw [hn, (plcA_words (hok u hu)).1]
  have hst : ∀ (j : Nat) (hj : j < s.order.length) (p : Pt × Nat), s.P[(s.order[j]'hj).toNat]? = some p → p.1.start = sumN s.P (s.order.take j) := way.str.st
  have honce : (spM (sptL us s.P s.order)).Pairwise (fun a b => a.1 ≠ b.1) := by
    unfold spM sptL
    rw [List.pairwise_map, List.pairwise_flatMap]
    refine ⟨fun m hm => ?_, ?_⟩
    · obtain ⟨u, rfl, hu⟩ := hU m hm
      obtain ⟨p, hp, -⟩ := hO u hu
      rw [Int.toNat_natCast, hp, List.getElem?_eq_getElem hu]
      dsimp only
      unfold spt1
      rw [List.pairwise_map]
      have hk := hok u hu
      rw [uLn_at hu] at hk
      have e0 := plcA_ok hk
      rw [e0] at hk
      exact (plc_once _ _ _ _ hk).1
    · refine List.Pairwise.imp_of_mem (fun {a b} ha hb hab => ?_) way.nd.nd
      obtain ⟨u, rfl, hu⟩ := hU a ha
      obtain ⟨v, rfl, hv⟩ := hU b hb
      obtain ⟨p, hp, -⟩ := hO u hu
      obtain ⟨p', hp', -⟩ := hO v hv
      rw [Int.toNat_natCast, Int.toNat_natCast, hp, hp', List.getElem?_eq_getElem hu, List.getElem?_eq_getElem hv]
      dsimp only
      intro z hz z' hz' he
      obtain ⟨x, hx, hf, ex⟩ := spt1_mem hz
      obtain ⟨x', hx', hf', ex'⟩ := spt1_mem hz'
      have q1 := (srv_in us 0 ⟨[], []⟩ a2 u hu x hx hf).2
      have q2 := (srv_in us 0 ⟨[], []⟩ a2 v hv x' hx' hf').2
      rw [ex, he, ← ex', q2] at q1
      omega
  have hmem : ∀ m ∈ s.order, ∀ p, s.P[m.toNat]? = some p → ∀ y ∈ uLn us m, fa y.lab = true → hasA (spM (sptL us s.P s.order)) y.lab.toList = true ∧ atA (spM (sptL us s.P s.order)) y.lab.toList = p.1.start + atA p.1.A y.lab.toList := fun m hm p hp y hy hf => by
    refine atA_of_mem _ _ _ honce ?_
    obtain ⟨u, rfl, hu⟩ := hU m hm
    rw [uLn_at hu] at hy
    unfold spM sptL
    refine List.mem_map.2 ⟨(y.lab, p.1.start + atA p.1.A y.lab.toList), List.mem_flatMap.2 ⟨_, hm, ?_⟩, rfl⟩
    rw [hp, Int.toNat_natCast, List.getElem?_eq_getElem hu]
    exact mem_spt1 hy hf
  have hright : ∀ j ∈ s.order.flatMap (fun m => insL (srv us 0 ⟨[], []⟩).1.owners s.P m.toNat (uLn us m)), wrg j = 0 := fun j hj => by
    obtain ⟨m, hm, hj⟩ := List.mem_flatMap.1 hj
    exact (insL_words (uLn us m) (hrt m hm)).1 j hj
  have hwords : zs = (s.order.flatMap fun m => insL (srv us 0 ⟨[], []⟩).1.owners s.P m.toNat (uLn us m)).flatMap ws := by
    rw [w4, List.nil_append, List.drop_zero, List.flatMap_assoc]
    refine flatMap_same fun m hm => ?_
    obtain ⟨b1, b2⟩ := insL_words (O := (srv us 0 ⟨[], []⟩).1.owners) (P := s.P) (m := m.toNat) (uLn us m) (hrt m hm)
    refine enc_all b1 ?_
    obtain ⟨u, rfl, hu⟩ := hU m hm
    have c1 := (plcA_words (hok u hu)).1
    have c2 := (plcA_in (uLn us u)).2.2
    omega
  have hlen : ∀ l : List Int, (∀ m ∈ l, m ∈ s.order) → (((l.flatMap fun m => insL (srv us 0 ⟨[], []⟩).1.owners s.P m.toNat (uLn us m)).flatMap ws).length : Int) = sumN s.P l := by
    intro l
    induction l with
    | nil => intro _; rfl
    | cons m l ih =>
      intro hm
      have := ih (fun x hx => hm x (List.mem_cons_of_mem _ hx))
      rw [List.flatMap_cons, List.flatMap_append, List.length_append, sumN, hnw m (hm m List.mem_cons_self)]
      have b := (insL_words (O := (srv us 0 ⟨[], []⟩).1.owners) (P := s.P) (m := m.toNat) (uLn us m) (hrt m (hm m List.mem_cons_self))).2
      omega
  have hsum : ∀ (j : Nat) (hj : j < s.order.length), sumN s.P (s.order.take (j + 1)) = sumN s.P (s.order.take j) + wl (uLn us (s.order[j]'hj)) := fun j hj => by
    rw [List.take_add_one, List.getElem?_eq_getElem hj, Option.toList_some, sumN_append, sumN, sumN, hnw _ (List.getElem_mem hj)]; omega
  have hshort : zs.length ≤ 65536 := by
    have h1 := hlen s.order (fun _ h => h)
    rw [← hwords] at h1
    by_cases h0 : s.order.length = 0
    · rw [List.eq_nil_of_length_eq_zero h0] at h1; simp [sumN] at h1; rw [h1]; simp
    · have hj : s.order.length - 1 < s.order.length := by omega
      have h2 := hsum (s.order.length - 1) hj
      rw [show s.order.length - 1 + 1 = s.order.length by omega, List.take_length] at h2
      have hm := List.getElem_mem hj
      obtain ⟨u, hu, hul⟩ := hU _ hm
      obtain ⟨p, hp, _, hn⟩ := hO u hul
      have h3 := (w5 _ (by rw [List.drop_zero]; exact hm)).2 p (by rw [hu, Int.toNat_natCast]; exact hp)
      have h4 := hst _ hj p (by rw [hu, Int.toNat_natCast]; exact hp)
      have h5 := (plcA_words (hok u hul)).1
      rw [hu] at h2
      omega
  refine ⟨(srv us 0 ⟨[], []⟩).1.owners, s.P, hwords, hright, hshort, honce, fun m hm => ?_, hrt, fun j hj q hq hf => ?_, fun j hj y hy hl hr => ⟨fun how => ?_, fun how => ?_⟩, hsum, fun k m => ?_, fun z hz => ?_, fun m hm => ?_, fun j hj => ?_, ?_⟩
  · obtain ⟨u, rfl, hu⟩ := hU m hm; omega
  · dsimp only at hj hq hf ⊢
    have hm := List.getElem_mem hj
    obtain ⟨u, hu, hul⟩ := hU _ hm
    obtain ⟨p, hp, hA, _⟩ := hO u hul
    have hp' : s.P[(s.order[j]'hj).toNat]? = some p := by rw [hu, Int.toNat_natCast]; exact hp
    obtain ⟨c1, c2⟩ := hmem _ hm p hp' _ (List.getElem_mem hq) hf
    refine ⟨c1, ?_⟩
    rw [c2, hst j hj p hp', hA]
    congr 1
    have := (plcA_words (hok u hul)).2 q (by rw [← hu]; exact hq)
    simp only [← hu] at this ⊢
    exact (this (fa_emp hf)).2
  · dsimp only at hj hy ⊢
    have hm := List.getElem_mem hj
    obtain ⟨u, hu, hul⟩ := hU _ hm
    have hne := emp_ne hr
    have hf : faL y.ref.toList = true := by rw [faL_own hne, how]; rfl
    have hy' : y ∈ (us[u]'hul).lines := by rw [← uLn_at hul, ← hu]; exact hy
    obtain ⟨r1, r2⟩ := dn u hul (by rw [List.take_length, ← hu]; exact hm) y hy' hl hr hf
    obtain ⟨v, hv, hvl⟩ := hU _ r2
    obtain ⟨i2, hi2, e2, x, hx, hfx, hxe⟩ := srv_new us 0 ⟨[], []⟩ a2 _ r1 rfl
    have hiv : i2 = v := by omega
    subst hiv
    obtain ⟨p, hp, -⟩ := hO i2 hvl
    obtain ⟨c1, c2⟩ := hmem _ r2 p (by rw [hv, Int.toNat_natCast]; exact hp) x (by rw [hv, uLn_at hvl]; exact hx) hfx
    rw [hxe] at c1 c2
    refine ⟨c1, ?_⟩
    rw [c2]
    unfold plcP
    rw [ownerL_all hf]
    dsimp only
    rw [hv, Int.toNat_natCast, hp]
  · dsimp only at hj hy ⊢
    have hm := List.getElem_mem hj
    obtain ⟨u, hu, hul⟩ := hU _ hm
    obtain ⟨p, hp, hA, _⟩ := hO u hul
    have hp' : s.P[(s.order[j]'hj).toNat]? = some p := by rw [hu, Int.toNat_natCast]; exact hp
    have hne := emp_ne hr
    have hf : faL y.ref.toList = false := by rw [faL_own hne, how]; rfl
    have hown := (w5 _ (by rw [List.drop_zero]; exact hm)).1 y hy hl hr hf p hp'
    have huP : u < s.P.length := by rw [way.len]; exact hul
    have hk := hok u hul
    have ep := plcA_ok hk
    rw [hA, ep] at hown
    rw [ep] at hk
    have key := whr_plc (uLn us u) 0 [] 0 (sumN s.P (s.order.take j)) y.ref.toList hk hown rfl hne
    unfold plcP
    rw [hu, Int.toNat_natCast, ownerL_own hf huP]
    dsimp only
    rw [Int.toNat_natCast, hp]
    dsimp only
    rw [key, hst j hj p hp', hA, ep]; omega
  · unfold plcP
    split
    · rename_i p hp
      have := way.good.pts p (List.mem_of_getElem? hp)
      have h2 := this.2.2.1
      have h3 := this.2.2.2.2 k
      have h4 := this.2.2.2.1
      omega
    · omega
  · dsimp only at hz
    unfold sptL at hz
    obtain ⟨m, hm, hz⟩ := List.mem_flatMap.1 hz
    obtain ⟨u, rfl, hu⟩ := hU m hm
    obtain ⟨p, hp, -⟩ := hO u hu
    rw [Int.toNat_natCast, hp, List.getElem?_eq_getElem hu] at hz
    dsimp only at hz
    unfold spt1 at hz
    obtain ⟨x, hx, rfl⟩ := List.mem_map.1 hz
    obtain ⟨hx1, hx2⟩ := List.mem_filter.1 hx
    have := way.good.pts p (List.mem_of_getElem? hp)
    have h3 := this.2.2.2.2 x.lab.toList
    have hw := hrt _ hm x (by rw [uLn_at hu]; exact hx1)
    have hs := (nm_size (wrgL_lab hw (fa_emp hx2)).1).1
    refine ⟨?_, ?_, hs⟩
    · dsimp only; omega
    · dsimp only; omega
  · obtain ⟨u, rfl, hu⟩ := hU m hm
    exact (plcA_right (hok u hu)).1
  · dsimp only at hj ⊢
    have hmon : ∀ l : List Int, (∀ m ∈ l, m ∈ s.order) → 0 ≤ sumN s.P l := fun l hl => by have := hlen l hl; omega
    have h1 := hmon (s.order.take j) (fun m hm => List.mem_of_mem_take hm)
    have h2 := hmon (s.order.drop j) (fun m hm => List.mem_of_mem_drop hm)
    have h3 := sumN_append s.P (s.order.take j) (s.order.drop j)
    rw [List.take_append_drop] at h3
    have h4 := hlen s.order (fun _ h => h)
    rw [← hwords] at h4
    omega
  · have h4 := hlen s.order (fun _ h => h)
    rw [← hwords] at h4
    exact h4.symm
end Go.Proofs.Yteoifpkbknkpjaa
