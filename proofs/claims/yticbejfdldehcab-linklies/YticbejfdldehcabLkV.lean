/-
  Each label lies where it says: plain lists.
-/
import Derived.Test.YticbejfdldehcabLkN
namespace Go.Proofs.Yticbejfdldehcab
open Go.RowKit Go.Maps
set_option linter.unusedSimpArgs false
set_option linter.unusedVariables false

/-! ### what stays while units are put -/
structure Ltr (s s' : Ls) : Prop where
  len : s'.P.length = s.P.length
  same : ∀ (n : Nat) (p p' : Pt × Nat), s.P[n]? = some p → s'.P[n]? = some p' → p'.1.A = p.1.A ∧ p'.1.n = p.1.n ∧ (p.1.put = true → p'.1.put = true ∧ p'.1.start = p.1.start)
theorem Ltr.refl (s : Ls) : Ltr s s := ⟨rfl, fun n p p' h h' => by rw [h] at h'; cases h'; exact ⟨rfl, rfl, fun h => ⟨h, rfl⟩⟩⟩
theorem Ltr.trans {a b c : Ls} (h : Ltr a b) (k : Ltr b c) : Ltr a c := by
  refine ⟨k.len.trans h.len, fun n p p' hp hp' => ?_⟩
  have hn : n < b.P.length := by rw [h.len]; exact (List.getElem?_eq_some_iff.1 hp).1
  obtain ⟨a1, a2, a3⟩ := h.same n p _ hp (List.getElem?_eq_getElem hn)
  obtain ⟨b1, b2, b3⟩ := k.same n _ p' (List.getElem?_eq_getElem hn) hp'
  exact ⟨b1.trans a1, b2.trans a2, fun hq => by
    obtain ⟨c1, c2⟩ := a3 hq
    obtain ⟨d1, d2⟩ := b3 c1
    exact ⟨d1, d2.trans c2⟩⟩
theorem putL_ltr (s : Ls) (n : Nat) : Ltr s (putL s n) := by
  by_cases hn : n < s.P.length
  · by_cases hp : (s.P[n]'hn).1.put = true
    · rw [putL_yes hn hp]; exact Ltr.refl s
    · replace hp : (s.P[n]'hn).1.put = false := by simpa using hp
      rw [putL_no hn hp]
      refine ⟨by simp, fun m p p' h h' => ?_⟩
      by_cases e : n = m
      · subst e
        simp only [] at h'
        rw [List.getElem?_set_self hn] at h'
        rw [List.getElem?_eq_getElem hn] at h
        cases h; cases h'
        exact ⟨rfl, rfl, fun hq => by rw [hp] at hq; cases hq⟩
      · simp only [] at h'
        rw [List.getElem?_set_ne e, h] at h'
        cases h'
        exact ⟨rfl, rfl, fun h => ⟨h, rfl⟩⟩
  · have : putL s n = s := by unfold putL; rw [List.getElem?_eq_none (by omega)]
    rw [this]; exact Ltr.refl s
theorem putL_put {s : Ls} {n : Nat} (hn : n < s.P.length) : ∃ p, (putL s n).P[n]? = some p ∧ p.1.put = true := by
  by_cases hp : (s.P[n]'hn).1.put = true
  · rw [putL_yes hn hp]; exact ⟨_, List.getElem?_eq_getElem hn, hp⟩
  · replace hp : (s.P[n]'hn).1.put = false := by simpa using hp
    rw [putL_no hn hp]
    exact ⟨_, List.getElem?_set_self hn, rfl⟩
theorem owner_ltr {s s' : Ls} (h : Ltr s s') (O : Nmd) (m : Nat) (k : List UInt8) : ownerL O s'.P m k = ownerL O s.P m k := by
  unfold ownerL
  split
  · rfl
  · by_cases hm : m < s.P.length
    · have hm' : m < s'.P.length := by rw [h.len]; exact hm
      rw [List.getElem?_eq_getElem hm, List.getElem?_eq_getElem hm']
      dsimp only
      rw [(h.same m _ _ (List.getElem?_eq_getElem hm) (List.getElem?_eq_getElem hm')).1]
    · rw [List.getElem?_eq_none (l := s'.P) (by have := h.len; omega), List.getElem?_eq_none (l := s.P) (by omega)]
/-- Where a label lies that unit m speaks of. -/
def plcP (O : Nmd) (P : List (Pt × Nat)) (m : Nat) (k : List UInt8) : Int := match P[(ownerL O P m k).1.toNat]? with | some p => p.1.start + atA p.1.A k | none => 0
theorem fnd_ltr (O : Nmd) (m : Nat) (s : Ls) (k : List UInt8) : Ltr s (fndL O m s k).1 := by
  unfold fndL; split
  · exact putL_ltr _ _
  · exact Ltr.refl s
theorem fnd_plc {O : Nmd} {m : Nat} {s s' : Ls} {k : List UInt8} (hg : Good s O) (hm : m < s.P.length) (ht : (fndL O m s k).2.2 = true) (h : Ltr (fndL O m s k).1 s') : (fndL O m s k).2.1 = plcP O s'.P m k := by
  have hw : (ownerL O s.P m k).2 = true := by
    unfold fndL at ht
    by_cases hw : (ownerL O s.P m k).2 = true
    · exact hw
    · rw [if_neg hw] at ht; cases ht
  obtain ⟨o0, o1⟩ := ownerL_in hg hm hw
  have ho : (ownerL O s.P m k).1.toNat < s.P.length := by omega
  have eo := owner_ltr ((fnd_ltr O m s k).trans h) O m k
  have e1 : fndL O m s k = (putL s (ownerL O s.P m k).1.toNat, (match (putL s (ownerL O s.P m k).1.toNat).P[(ownerL O s.P m k).1.toNat]? with | some p => p.1.start + atA p.1.A k | none => 0), true) := by
    unfold fndL; rw [if_pos hw]; rfl
  rw [e1] at h ⊢
  dsimp only at h ⊢
  unfold plcP
  rw [eo]
  obtain ⟨p, hp, hput⟩ := putL_put ho
  rw [hp]
  have ho' : (ownerL O s.P m k).1.toNat < s'.P.length := by rw [h.len, putL_len]; exact ho
  rw [List.getElem?_eq_getElem ho']
  obtain ⟨a1, _, a3⟩ := h.same _ _ _ hp (List.getElem?_eq_getElem ho')
  dsimp only
  rw [a1, (a3 hput).2]
/-- A line's instruction, with places for labels. -/
def insX (O : Nmd) (P : List (Pt × Nat)) (m : Nat) (x : Ln) : Ins := if emp x.ref = true then x.i else ⟨x.i.o, x.i.d, x.i.s, plcP O P m x.ref.toList % 65536⟩
def insL (O : Nmd) (P : List (Pt × Nat)) (m : Nat) (l : List Ln) : List Ins := (l.filter fun x => emp x.lab).map (insX O P m)
theorem insL_lab {O : Nmd} {P : List (Pt × Nat)} {m : Nat} {x : Ln} {l : List Ln} (h : emp x.lab = false) : insL O P m (x :: l) = insL O P m l := by unfold insL; rw [List.filter_cons, if_neg (by simp [h])]
theorem insL_ins {O : Nmd} {P : List (Pt × Nat)} {m : Nat} {x : Ln} {l : List Ln} (h : emp x.lab = true) : insL O P m (x :: l) = insX O P m x :: insL O P m l := by unfold insL; rw [List.filter_cons, if_pos h, List.map_cons]
theorem rsv_insL {O : Nmd} {m n : Nat} (hm : m < n) : ∀ (l : List Ln) (k : Nat) (s : Ls) (acc : List Ins), Good s O → s.P.length = n → (rsv (fndL O m) l k s acc).1.2.1 = 0 → Ltr s (rsv (fndL O m) l k s acc).2 ∧ ∀ s', Ltr (rsv (fndL O m) l k s acc).2 s' → (rsv (fndL O m) l k s acc).1.1 = acc ++ insL O s'.P m l
  | [], _, s, acc, _, _, _ => ⟨Ltr.refl s, fun _ _ => by simp [rsv, insL]⟩
  | x :: l, k, s, acc, hg, hn, h => by
    by_cases h1 : emp x.lab = false
    · rw [rsv_lab h1] at h ⊢
      obtain ⟨a, b⟩ := rsv_insL hm l _ _ _ hg hn h
      exact ⟨a, fun s' hs => by rw [insL_lab h1]; exact b s' hs⟩
    · replace h1 : emp x.lab = true := by simpa using h1
      by_cases h2 : emp x.ref = true
      · rw [rsv_ins h1 h2] at h ⊢
        obtain ⟨a, b⟩ := rsv_insL hm l _ _ _ hg hn h
        exact ⟨a, fun s' hs => by rw [insL_ins h1, b s' hs]; unfold insX; rw [if_pos h2]; simp⟩
      · replace h2 : emp x.ref = false := by simpa using h2
        by_cases h3 : (fndL O m s x.ref.toList).2.2 = true
        · rw [rsv_ref h1 h2 h3] at h ⊢
          obtain ⟨g1, g2⟩ := fnd_good hg (by rw [hn]; exact hm) x.ref.toList
          obtain ⟨a, b⟩ := rsv_insL hm l _ _ _ g1 (g2.trans hn) h
          exact ⟨(fnd_ltr O m s x.ref.toList).trans a, fun s' hs => by
            rw [insL_ins h1, b s' hs, fnd_plc hg (by rw [hn]; exact hm) h3 (a.trans hs)]
            unfold insX
            rw [if_neg (by simp [h2])]; simp⟩
        · rw [rsv_none h1 h2 (by simpa using h3)] at h; simp at h

/-! ### how many words -/
/-- How many words lines are. -/
def wl : List Ln → Int
  | [] => 0
  | x :: l => (if emp x.lab = true then lng x.i.o else 0) + wl l
theorem wl_append : ∀ (a b : List Ln), wl (a ++ b) = wl a + wl b
  | [], b => by simp [wl]
  | x :: a, b => by rw [List.cons_append, wl, wl, wl_append a b]; omega
theorem wl_take (l : List Ln) (k : Nat) (h : k < l.length) : wl (l.take (k + 1)) = wl (l.take k) + (if emp (l[k]'h).lab = true then lng (l[k]'h).i.o else 0) := by
  rw [List.take_add_one, List.getElem?_eq_getElem h, Option.toList_some, wl_append]; simp [wl]
theorem plc_words : ∀ (l : List Ln) (k : Nat) (A : Nmd) (n : Int), (plc l k A n).2.2.1 = 0 → (plc l k A n).2.1 = n + wl l ∧ (∀ j, hasA A j = true → hasA (plc l k A n).1 j = true ∧ atA (plc l k A n).1 j = atA A j) ∧ ∀ (q : Nat) (hq : q < l.length), emp (l[q]'hq).lab = false → hasA A (l[q]'hq).lab.toList = false ∧ hasA (plc l k A n).1 (l[q]'hq).lab.toList = true ∧ atA (plc l k A n).1 (l[q]'hq).lab.toList = n + wl (l.take q)
  | [], _, A, n, _ => ⟨by simp [plc, wl], fun j h => ⟨h, rfl⟩, fun q hq => by simp at hq⟩
  | x :: l, k, A, n, h => by
    by_cases hw : wrgL x = 0
    · by_cases he : emp x.lab = true
      · by_cases ht : n + lng x.i.o ≤ 65536
        · rw [plc_ins hw he ht] at h ⊢
          obtain ⟨a, b, c⟩ := plc_words l _ _ _ h
          refine ⟨by rw [a, wl, if_pos he]; omega, b, fun q hq hl => ?_⟩
          cases q with
          | zero => simp at hl; rw [he] at hl; cases hl
          | succ q =>
            obtain ⟨c1, c2, c3⟩ := c q (by simpa using hq) hl
            exact ⟨c1, c2, by rw [List.getElem_cons_succ, c3, List.take_succ_cons, wl, if_pos he]; omega⟩
        · rw [plc_much hw he (by omega)] at h; simp at h
      · replace he : emp x.lab = false := by simpa using he
        by_cases ht : hasA A x.lab.toList = true
        · rw [plc_taken hw he ht] at h; simp at h
        · replace ht : hasA A x.lab.toList = false := by simpa using ht
          rw [plc_label hw he ht] at h ⊢
          obtain ⟨a, b, c⟩ := plc_words l _ _ _ h
          refine ⟨by rw [a, wl, if_neg (by simp [he])]; omega, fun j hj => ?_, fun q hq hl => ?_⟩
          · have e : (x.lab.toList == j) = false := by
              rw [beq_eq_false_iff_ne]; intro e; rw [e, hj] at ht; cases ht
            obtain ⟨b1, b2⟩ := b j (by rw [hasA_snoc, hj]; rfl)
            exact ⟨b1, by rw [b2, atA_snoc_other e]⟩
          · cases q with
            | zero =>
              obtain ⟨b1, b2⟩ := b x.lab.toList (by rw [hasA_snoc]; simp)
              exact ⟨ht, b1, by rw [List.getElem_cons_zero, b2, atA_snoc_new ht]; simp [wl]⟩
            | succ q =>
              obtain ⟨c1, c2, c3⟩ := c q (by simpa using hq) hl
              rw [hasA_snoc] at c1
              exact ⟨(Bool.or_eq_false_iff.1 c1).1, c2, by rw [List.getElem_cons_succ, c3, List.take_succ_cons, wl, if_neg (by simp [he])]; omega⟩
    · rw [plc_bad hw] at h; exact absurd h hw
theorem plcA_words {l : List Ln} (h : (plcA l).2.2.1 = 0) : (plcA l).2.1 = wl l ∧ ∀ (q : Nat) (hq : q < l.length), emp (l[q]'hq).lab = false → hasA (plcA l).1 (l[q]'hq).lab.toList = true ∧ atA (plcA l).1 (l[q]'hq).lab.toList = wl (l.take q) := by
  have e := plcA_ok h
  rw [e] at h ⊢
  obtain ⟨a, _, c⟩ := plc_words _ _ _ _ h
  exact ⟨by rw [a]; omega, fun q hq hl => ⟨(c q hq hl).2.1, by rw [(c q hq hl).2.2]; omega⟩⟩
/-- No label stands twice. -/
theorem plc_once : ∀ (l : List Ln) (k : Nat) (A : Nmd) (n : Int), (plc l k A n).2.2.1 = 0 → (l.filter fun x => fa x.lab).Pairwise (fun x y => x.lab.toList ≠ y.lab.toList) ∧ ∀ x ∈ l, emp x.lab = false → hasA A x.lab.toList = false
  | [], _, _, _, _ => ⟨by simp, by simp⟩
  | x :: l, k, A, n, h => by
    by_cases hw : wrgL x = 0
    · by_cases he : emp x.lab = true
      · by_cases ht : n + lng x.i.o ≤ 65536
        · rw [plc_ins hw he ht] at h
          obtain ⟨a, b⟩ := plc_once l _ _ _ h
          have hf : fa x.lab = false := by
            cases hf : fa x.lab with
            | false => rfl
            | true => have := fa_emp hf; rw [he] at this; cases this
          refine ⟨by rw [List.filter_cons, if_neg (by simp [hf])]; exact a, fun y hy hl => ?_⟩
          rcases List.mem_cons.1 hy with rfl | hy
          · rw [he] at hl; cases hl
          · exact b y hy hl
        · rw [plc_much hw he (by omega)] at h; simp at h
      · replace he : emp x.lab = false := by simpa using he
        by_cases ht : hasA A x.lab.toList = true
        · rw [plc_taken hw he ht] at h; simp at h
        · replace ht : hasA A x.lab.toList = false := by simpa using ht
          rw [plc_label hw he ht] at h
          obtain ⟨a, b⟩ := plc_once l _ _ _ h
          have b' : ∀ y ∈ l, emp y.lab = false → hasA A y.lab.toList = false ∧ x.lab.toList ≠ y.lab.toList := fun y hy hl => by
            have := b y hy hl
            rw [hasA_snoc] at this
            obtain ⟨h1, h2⟩ := Bool.or_eq_false_iff.1 this
            exact ⟨h1, by simpa using h2⟩
          refine ⟨?_, fun y hy hl => ?_⟩
          · rw [List.filter_cons]
            split
            · refine List.Pairwise.cons (fun y hy => ?_) a
              obtain ⟨hy1, hy2⟩ := List.mem_filter.1 hy
              exact (b' y hy1 (fa_emp hy2)).2
            · exact a
          · rcases List.mem_cons.1 hy with rfl | hy
            · exact ht
            · exact (b' y hy hl).1
    · rw [plc_bad hw] at h; exact absurd h hw
/-- The words of lines with which nothing is wrong. -/
theorem insX_ok {O : Nmd} {P : List (Pt × Nat)} {m : Nat} {x : Ln} (h : wrgL x = 0) (he : emp x.lab = true) : wrg (insX O P m x) = 0 ∧ (insX O P m x).o = x.i.o ∧ (emp x.ref = false → (bare (insX O P m x)).m = plcP O P m x.ref.toList % 65536) := by
  obtain ⟨h1, h2⟩ := wrgL_ins h he
  unfold insX
  by_cases hr : emp x.ref = true
  · rw [if_pos hr]; exact ⟨h1, rfl, fun h => by rw [hr] at h; cases h⟩
  · rw [if_neg hr]
    obtain ⟨f0, f1, f2, f3, f4⟩ := wr_fields h1
    rcases h2 with h2 | ⟨_, hmay, _⟩
    · exact absurd h2 hr
    · have hi : hI x.i.o = true := by unfold may at hmay; simp at hmay; exact hmay.1
      refine ⟨wr_of f0 f1 f2 f3 (fun _ => ⟨?_, ?_⟩), rfl, fun _ => ?_⟩
      · show 0 ≤ plcP O P m x.ref.toList % 65536; omega
      · show plcP O P m x.ref.toList % 65536 ≤ 65535; omega
      · unfold bare; dsimp only; rw [if_pos hi]
theorem insL_words {O : Nmd} {P : List (Pt × Nat)} {m : Nat} : ∀ (l : List Ln), (∀ x ∈ l, wrgL x = 0) → (∀ i ∈ insL O P m l, wrg i = 0) ∧ (((insL O P m l).flatMap ws).length : Int) = wl l
  | [], _ => ⟨by simp [insL], by simp [insL, wl]⟩
  | x :: l, h => by
    obtain ⟨a, b⟩ := insL_words (O := O) (P := P) (m := m) l (fun y hy => h y (List.mem_cons_of_mem _ hy))
    by_cases he : emp x.lab = true
    · rw [insL_ins he, wl, if_pos he]
      obtain ⟨c1, c2, _⟩ := insX_ok (O := O) (P := P) (m := m) (h x List.mem_cons_self) he
      refine ⟨fun i hi => ?_, ?_⟩
      · rcases List.mem_cons.1 hi with rfl | hi
        · exact c1
        · exact a i hi
      · rw [List.flatMap_cons, List.length_append]
        have := ws_len (insX O P m x)
        rw [c2] at this
        omega
    · replace he : emp x.lab = false := by simpa using he
      rw [insL_lab he, wl, if_neg (by simp [he])]
      exact ⟨a, by omega⟩
end Go.Proofs.Yticbejfdldehcab
