/-
  The document's linker and the program's: what is wrong with units.
-/
import Derived.Test.YteoifpkbknkpjaaL5Dz
namespace Go.Proofs.Yteoifpkbknkpjaa
open Go.RowKit Go.Maps
set_option linter.unusedSimpArgs false
set_option linter.unusedVariables false

theorem hold_pre {k : List UInt8} {r : List Un} : ∀ (pre : List Un) (n : Nat), (∀ u ∈ pre, ∀ x ∈ u.lines, x.lab.toList ≠ k) → holdU (pre ++ r) n k = holdU r (n + pre.length) k
  | [], n, _ => rfl
  | u :: pre, n, h => by
    have hn : ¬ ((u.lines.any fun x => x.lab.toList == k) = true ∧ ownK k = false) := by
      rintro ⟨h1, _⟩
      obtain ⟨x, hx, e⟩ := List.any_eq_true.1 h1
      exact h u List.mem_cons_self x hx (by simpa using e)
    rw [List.cons_append, holdU, if_neg hn, hold_pre pre (n + 1) (fun v hv => h v (List.mem_cons_of_mem _ hv)), List.length_cons]
    congr 1; omega
theorem hold_lt {k : List UInt8} {r : List Un} (ho : ownK k = false) : ∀ (pre : List Un) (n : Nat), (∃ u ∈ pre, ∃ x ∈ u.lines, x.lab.toList = k) → holdU (pre ++ r) n k < (n + pre.length : Nat)
  | [], n, h => by obtain ⟨u, hu, _⟩ := h; cases hu
  | u :: pre, n, h => by
    rw [List.cons_append, holdU, List.length_cons]
    by_cases h1 : (u.lines.any fun x => x.lab.toList == k) = true ∧ ownK k = false
    · rw [if_pos h1]; omega
    · rw [if_neg h1]
      have h2 : ∃ v ∈ pre, ∃ x ∈ v.lines, x.lab.toList = k := by
        obtain ⟨v, hv, x, hx, e⟩ := h
        rcases List.mem_cons.1 hv with rfl | hv
        · exact absurd ⟨List.any_eq_true.2 ⟨x, hx, by simpa using e⟩, ho⟩ h1
        · exact ⟨v, hv, x, hx, e⟩
      have := hold_lt (r := r) ho pre (n + 1) h2
      omega
theorem fa_own {s : ByteArray} : fa s = (!emp s && !ownK s.toList) := by
  by_cases h : emp s = true
  · have : fa s = false := by unfold fa; rw [h]; rfl
    rw [this, h]; rfl
  · replace h : emp s = false := by simpa using h
    rw [fa_list, faL_own (emp_ne h), h]; rfl
theorem owns_bad : ∀ (l : List Ln) (n : Int) (O : Nmd), (l.filter fun x => fa x.lab).Pairwise (fun x y => x.lab.toList ≠ y.lab.toList) → (owns l n O = none ↔ ∃ x ∈ l, fa x.lab = true ∧ hasA O x.lab.toList = true)
  | [], _, O, _ => by simp [owns]
  | x :: l, n, O, hp => by
    by_cases hf : fa x.lab = true
    · rw [List.filter_cons, if_pos hf] at hp
      obtain ⟨h1, h2⟩ := List.pairwise_cons.1 hp
      by_cases ht : hasA O x.lab.toList = true
      · rw [owns_taken hf ht]
        exact ⟨fun _ => ⟨x, List.mem_cons_self, hf, ht⟩, fun _ => rfl⟩
      · replace ht : hasA O x.lab.toList = false := by simpa using ht
        rw [owns_next hf ht, owns_bad l n _ h2]
        constructor
        · rintro ⟨y, hy, hfy, hh⟩
          rw [hasA_snoc] at hh
          have hne : (x.lab.toList == y.lab.toList) = false := beq_eq_false_iff_ne.2 (h1 y (List.mem_filter.2 ⟨hy, hfy⟩))
          rw [hne, Bool.or_false] at hh
          exact ⟨y, List.mem_cons_of_mem _ hy, hfy, hh⟩
        · rintro ⟨y, hy, hfy, hh⟩
          rcases List.mem_cons.1 hy with rfl | hy
          · rw [ht] at hh; cases hh
          · exact ⟨y, hy, hfy, by rw [hasA_snoc, hh]; rfl⟩
    · replace hf : fa x.lab = false := by simpa using hf
      rw [List.filter_cons, if_neg (by simp [hf])] at hp
      rw [owns_skip hf, owns_bad l n O hp]
      constructor
      · rintro ⟨y, hy, h⟩; exact ⟨y, List.mem_cons_of_mem _ hy, h⟩
      · rintro ⟨y, hy, hfy, hh⟩
        rcases List.mem_cons.1 hy with rfl | hy
        · rw [hf] at hfy; cases hfy
        · exact ⟨y, hy, hfy, hh⟩
theorem owns_has {l : List Ln} {n : Int} {O O' : Nmd} (h : owns l n O = some O') (k : List UInt8) : hasA O' k = true ↔ hasA O k = true ∨ ∃ x ∈ l, fa x.lab = true ∧ x.lab.toList = k := by
  constructor
  · intro hk
    by_cases ho : hasA O k = true
    · exact .inl ho
    · exact .inr (owns_new l n O O' h k hk (by simpa using ho)).2
  · rintro (hk | ⟨x, hx, hf, rfl⟩)
    · exact (owns_old l n O O' h k hk).1
    · exact (owns_in l n O O' h x hx hf).1
theorem chk_srv (all : List Un) : ∀ (l pre : List Un) (s : Sv), all = pre ++ l → (∀ k, hasA s.owners k = true ↔ ∃ u ∈ pre, ∃ x ∈ u.lines, fa x.lab = true ∧ x.lab.toList = k) → chkU all l pre.length = ((srv l pre.length s).2.1, ((srv l pre.length s).2.2 : Int))
  | [], _, _, _, _ => rfl
  | u :: l, pre, s, e, hs => by
    rw [chkU]
    by_cases h5 : 40000 < u.lines.length
    · have hp : plcA u.lines = ([], 0, 5, 0) := by unfold plcA; rw [if_neg (by omega)]
      rw [if_pos h5, srv_bad (by rw [hp]; decide), hp]
    · have hp : plcA u.lines = plc u.lines 0 [] 0 := by unfold plcA; rw [if_pos (by omega)]
      rw [if_neg h5]
      by_cases hz : (plc u.lines 0 [] 0).2.2.1 = 0
      · rw [if_pos hz]
        have ho := owns_bad u.lines (pre.length : Int) s.owners (plc_once _ _ _ _ hz).1
        have hb : u.lines.any (badU all pre.length) = true ↔ ∃ x ∈ u.lines, fa x.lab = true ∧ hasA s.owners x.lab.toList = true := by
          rw [List.any_eq_true]
          constructor
          · rintro ⟨x, hx, h⟩
            unfold badU at h
            rw [Bool.and_eq_true, Bool.and_eq_true] at h
            obtain ⟨⟨h1, h2⟩, h3⟩ := h
            have hf : fa x.lab = true := by rw [fa_own, h1, h2]; rfl
            refine ⟨x, hx, hf, ?_⟩
            by_cases hq : hasA s.owners x.lab.toList = true
            · exact hq
            · exfalso
              have hno : ∀ v ∈ pre, ∀ y ∈ v.lines, y.lab.toList ≠ x.lab.toList := fun v hv y hy e2 => by
                have hfy : fa y.lab = true := by rw [fa_list, e2, ← fa_list]; exact hf
                exact hq ((hs _).2 ⟨v, hv, y, hy, hfy, e2⟩)
              have e3 := hold_pre (r := u :: l) pre 0 hno
              rw [← e, holdU, if_pos ⟨List.any_eq_true.2 ⟨x, hx, by simp⟩, by simpa using h2⟩] at e3
              rw [e3] at h3; simp at h3
          · rintro ⟨x, hx, hf, hh⟩
            obtain ⟨v, hv, y, hy, _, e2⟩ := (hs _).1 hh
            rw [fa_own, Bool.and_eq_true] at hf
            have h4 : ownK x.lab.toList = false := by simpa using hf.2
            have := hold_lt (r := u :: l) h4 pre 0 ⟨v, hv, y, hy, e2⟩
            rw [← e] at this
            refine ⟨x, hx, ?_⟩
            unfold badU
            rw [hf.1, hf.2, Bool.true_and, Bool.true_and]
            have hne : holdU all 0 x.lab.toList ≠ (pre.length : Int) := by omega
            simpa using hne
        by_cases hbb : u.lines.any (badU all pre.length) = true
        · rw [if_pos hbb, srv_taken (by rw [hp]; exact hz) (ho.2 (hb.1 hbb))]
        · rw [if_neg hbb]
          cases hO : owns u.lines (pre.length : Int) s.owners with
          | none => exact absurd (hb.2 (ho.1 hO)) hbb
          | some O =>
            rw [srv_next (by rw [hp]; exact hz) hO]
            have IH := chk_srv all l (pre ++ [u]) ⟨s.parts ++ [⟨(plcA u.lines).1, (plcA u.lines).2.1, false, 0⟩], O⟩ (by rw [e]; simp) (fun k => by
              rw [owns_has hO, hs]
              constructor
              · rintro (⟨v, hv, h⟩ | h)
                · exact ⟨v, List.mem_append_left _ hv, h⟩
                · exact ⟨u, by simp, h⟩
              · rintro ⟨v, hv, h⟩
                rcases List.mem_append.1 hv with hv | hv
                · exact .inl ⟨v, hv, h⟩
                · simp at hv; subst hv; exact .inr h)
            rw [show (pre ++ [u]).length = pre.length + 1 by simp] at IH
            exact IH
      · rw [if_neg hz, srv_bad (by rw [hp]; exact hz), hp]
theorem chk_same {us : List Un} (h : us.length ≤ 400) : chkR us = ((srv us 0 ⟨[], []⟩).2.1, ((srv us 0 ⟨[], []⟩).2.2 : Int)) := by
  unfold chkR
  rw [if_neg (by omega)]
  exact chk_srv us us [] ⟨[], []⟩ rfl (fun k => by simp [hasA])
/-- Who has the entry. -/
theorem entry_same {us : List Un} (h : (srv us 0 ⟨[], []⟩).2.1 = 0) (e : List UInt8) : (hasA (srv us 0 ⟨[], []⟩).1.owners e = true → e ≠ [] ∧ faL e = true ∧ 0 ≤ holdU us 0 e ∧ holdU us 0 e = atA (srv us 0 ⟨[], []⟩).1.owners e) ∧ (hasA (srv us 0 ⟨[], []⟩).1.owners e = false → e = [] ∨ holdU us 0 e < 0) := by
  constructor
  · intro ha
    obtain ⟨i, hi, d1, x, hx, hfx, hxe⟩ := srv_new us 0 ⟨[], []⟩ h e ha rfl
    have hne : e ≠ [] := by rw [← hxe]; exact emp_ne (fa_emp hfx)
    have hf : faL e = true := by rw [← hxe, ← fa_list]; exact hfx
    have e1 := (hold_at h hne).1 hf ha
    exact ⟨hne, hf, by rw [e1, d1]; omega, e1⟩
  · intro ha
    by_cases hne : e = []
    · exact .inl hne
    · right
      by_cases h0 : 0 ≤ holdU us 0 e
      · have := ((hold_at h hne).2 h0).2
        rw [ha] at this; cases this
      · omega
end Go.Proofs.Yteoifpkbknkpjaa

/-
  The document's linker and the program's: the order of units.
-/
namespace Go.Proofs.Yteoifpkbknkpjaa
open Go.RowKit Go.Maps
set_option linter.unusedSimpArgs false
set_option linter.unusedVariables false

/-- The parts are the units'. -/
def Pf (us : List Un) (s : Ls) : Prop := ∀ m : Nat, m < us.length → ∃ p, s.P[m]? = some p ∧ p.1.A = (plcA (uLn us m)).1 ∧ p.1.n = (plcA (uLn us m)).2.1
theorem Pf.ltr {us : List Un} {s s' : Ls} (h : Pf us s) (k : Ltr s s') : Pf us s' := fun m hm => by
  obtain ⟨p, hp, h1, h2⟩ := h m hm
  have hl : m < s'.P.length := by rw [k.len]; exact (List.getElem?_eq_some_iff.1 hp).1
  obtain ⟨b1, b2, -⟩ := k.same m _ _ hp (List.getElem?_eq_getElem hl)
  exact ⟨_, List.getElem?_eq_getElem hl, b1.trans h1, b2.trans h2⟩
theorem putL_add {s : Ls} (h : Nd s) {n : Nat} (hn : n < s.P.length) : (putL s n).order = addO s.order (n : Int) := by
  unfold addO
  by_cases hp : (s.P[n]'hn).1.put = true
  · rw [putL_yes hn hp, if_pos (List.any_eq_true.2 ⟨_, (h.put n hn).1 hp, by simp⟩)]
  · have hm : ¬ s.order.any (fun k => k == (n : Int)) = true := fun ha => by
      obtain ⟨x, hx, e⟩ := List.any_eq_true.1 ha
      have : x = (n : Int) := by simpa using e
      exact hp ((h.put n hn).2 (this ▸ hx))
    rw [if_neg hm, putL_no hn (by simpa using hp)]
section
variable {us : List Un} (hsv : (srv us 0 ⟨[], []⟩).2.1 = 0)
include hsv
theorem all_ok (m : Nat) (hm : m < us.length) : (plcA (uLn us m)).2.2.1 = 0 := by rw [uLn_at hm]; exact (srv_parts us 0 ⟨[], []⟩ hsv).2 _ (List.getElem_mem hm)
theorem fnd_rf {s : Ls} (hw : Way us (srv us 0 ⟨[], []⟩).1.owners s) (hp : Pf us s) {m : Nat} (hm : m < us.length) {k : List UInt8} (hk : k ≠ []) :
    ((fndL (srv us 0 ⟨[], []⟩).1.owners m s k).2.2 = true ∧ 0 ≤ rfU us m k ∧ (fndL (srv us 0 ⟨[], []⟩).1.owners m s k).1.order = addO s.order (rfU us m k)) ∨ ((fndL (srv us 0 ⟨[], []⟩).1.owners m s k).2.2 = false ∧ rfU us m k < 0) := by
  have hmP : m < s.P.length := by rw [hw.len]; exact hm
  by_cases hf : faL k = true
  · have how : ownK k = false := by rw [faL_own hk] at hf; simpa using hf
    have hrf : rfU us m k = holdU us 0 k := by unfold rfU; rw [if_neg (by rw [how]; simp)]
    rw [hrf]
    by_cases hh : hasA (srv us 0 ⟨[], []⟩).1.owners k = true
    · left
      obtain ⟨-, -, h0, e⟩ := (entry_same hsv k).1 hh
      have hwn : (ownerL (srv us 0 ⟨[], []⟩).1.owners s.P m k).2 = true := by rw [ownerL_all hf]; exact hh
      obtain ⟨o0, o1⟩ := ownerL_in hw.good hmP hwn
      unfold fndL
      rw [if_pos hwn]
      refine ⟨rfl, h0, ?_⟩
      dsimp only
      rw [putL_add hw.nd (by omega), ownerL_all hf]
      dsimp only
      rw [← e]
      congr 1; omega
    · right
      replace hh : hasA (srv us 0 ⟨[], []⟩).1.owners k = false := by simpa using hh
      refine ⟨?_, ?_⟩
      · unfold fndL; rw [if_neg (by rw [ownerL_all hf]; simp [hh])]
      · rcases (entry_same hsv k).2 hh with h | h
        · exact absurd h hk
        · exact h
  · replace hf : faL k = false := by simpa using hf
    have how : ownK k = true := by rw [faL_own hk] at hf; simpa using hf
    obtain ⟨p, hpm, hA, -⟩ := hp m hm
    have hpe : s.P[m]'hmP = p := by rw [List.getElem?_eq_getElem hmP] at hpm; exact Option.some.inj hpm
    have hok := all_ok hsv m hm
    have ep := plcA_ok hok
    rw [ep] at hok hA
    have hon : ownerL (srv us 0 ⟨[], []⟩).1.owners s.P m k = ((m : Int), hasA p.1.A k) := by rw [ownerL_own hf hmP, hpe]
    by_cases hh : hasA p.1.A k = true
    · left
      have hwk : whrL (uLn us m) k 0 = 0 - 0 + atA (plc (uLn us m) 0 [] 0).1 k := whr_plc _ _ _ _ _ _ hok (by rw [← hA]; exact hh) rfl hk
      have hpos := plc_pos (uLn us m) 0 [] 0 (by omega) (by simp)
      have h0 : 0 ≤ whrL (uLn us m) k 0 := by rw [hwk]; have := atA_pos hpos k; omega
      have hrf : rfU us m k = m := by unfold rfU; rw [if_pos ⟨how, h0⟩]
      rw [hrf]
      unfold fndL
      rw [if_pos (by rw [hon]; exact hh)]
      refine ⟨rfl, by omega, ?_⟩
      dsimp only
      rw [hon]
      dsimp only
      rw [Int.toNat_natCast, putL_add hw.nd hmP]
    · right
      replace hh : hasA p.1.A k = false := by simpa using hh
      have hwk : whrL (uLn us m) k 0 = -1 := whr_none _ _ _ _ _ _ hok (by rw [← hA]; exact hh) hk
      refine ⟨?_, ?_⟩
      · unfold fndL; rw [if_neg (by rw [hon]; simp [hh])]
      · unfold rfU
        rw [if_neg (by rw [hwk]; simp), hold_own how]; omega
theorem rsv_ord {m : Nat} (hm : m < us.length) : ∀ (l : List Ln) (k : Nat) (s : Ls) (acc : List Ins), (∀ x ∈ l, wrgL x = 0) → Way us (srv us 0 ⟨[], []⟩).1.owners s → Pf us s →
    ((rsv (fndL (srv us 0 ⟨[], []⟩).1.owners m) l k s acc).1.2.1 = 0 ∧ ordU us m l s.order = (true, (rsv (fndL (srv us 0 ⟨[], []⟩).1.owners m) l k s acc).2.order)) ∨ ((rsv (fndL (srv us 0 ⟨[], []⟩).1.owners m) l k s acc).1.2.1 = 6 ∧ (ordU us m l s.order).1 = false)
  | [], _, s, acc, _, _, _ => .inl ⟨rfl, rfl⟩
  | x :: l, k, s, acc, hr, hw, hp => by
    have hr' : ∀ y ∈ l, wrgL y = 0 := fun y hy => hr y (List.mem_cons_of_mem _ hy)
    by_cases h1 : emp x.lab = false
    · rw [rsv_lab h1, ordU_skip (wrgL_lab (hr x List.mem_cons_self) h1).2.1]
      exact rsv_ord hm l _ _ _ hr' hw hp
    · replace h1 : emp x.lab = true := by simpa using h1
      by_cases h2 : emp x.ref = true
      · rw [rsv_ins h1 h2, ordU_skip h2]
        exact rsv_ord hm l _ _ _ hr' hw hp
      · replace h2 : emp x.ref = false := by simpa using h2
        rcases fnd_rf hsv hw hp hm (emp_ne h2) with ⟨a1, a2, a3⟩ | ⟨a1, a2⟩
        · rw [rsv_ref h1 h2 a1, ordU_next h2 (by omega), ← a3]
          exact rsv_ord hm l _ _ _ hr' (hw.fnd hm _).1 (hp.ltr (fnd_ltr _ _ _ _))
        · rw [rsv_none h1 h2 a1, ordU_none h2 a2]
          exact .inr ⟨rfl, rfl⟩
theorem len_same {s : Ls} (hp : Pf us s) {m : Int} (h0 : 0 ≤ m) (h1 : m < us.length) : nOf s.P m = lenU us m := by
  obtain ⟨u, rfl⟩ : ∃ u : Nat, m = u := ⟨m.toNat, by omega⟩
  obtain ⟨p, hpm, -, hn⟩ := hp u (by omega)
  rw [lenU_ln]
  unfold nOf
  rw [Int.toNat_natCast, hpm]
  dsimp only
  rw [hn, (plcA_words (all_ok hsv u (by omega))).1]
theorem sum_same {s : Ls} (hp : Pf us s) : ∀ (l : List Int), (∀ m ∈ l, 0 ≤ m ∧ m < us.length) → sumN s.P l = sumL us l
  | [], _ => rfl
  | m :: l, h => by
    have := h m List.mem_cons_self
    rw [sumN, sumL, len_same hsv hp this.1 this.2, sum_same hp l (fun x hx => h x (List.mem_cons_of_mem _ hx))]
theorem ord_sim : ∀ (f i : Nat) (s : Ls) (out : List Int), Way us (srv us 0 ⟨[], []⟩).1.owners s → Pf us s →
    ordR us f i s.order = if (wrdL us (srv us 0 ⟨[], []⟩).1.owners f i s out).1.2.1 = 0 then ((wrdL us (srv us 0 ⟨[], []⟩).1.owners f i s out).2.order, 0, 0) else ([], (wrdL us (srv us 0 ⟨[], []⟩).1.owners f i s out).1.2.1, (wrdL us (srv us 0 ⟨[], []⟩).1.owners f i s out).1.2.2)
  | 0, i, s, out, _, _ => rfl
  | f + 1, i, s, out, hw, hp => by
    by_cases hi : i < s.order.length
    · have hoi := List.getElem?_eq_getElem hi
      obtain ⟨q0, q1⟩ := hw.good.ord _ (List.getElem_mem hi)
      obtain ⟨x, hx⟩ : ∃ x : Nat, s.order[i] = (x : Int) := ⟨s.order[i].toNat, by omega⟩
      rw [hx] at hoi q0 q1
      have hxP : x < s.P.length := by omega
      have hxU : x < us.length := by rw [← hw.len]; exact hxP
      obtain ⟨p, hpx, -, hpn⟩ := hp x hxU
      have hpe : s.P[x]'hxP = p := by rw [List.getElem?_eq_getElem hxP] at hpx; exact Option.some.inj hpx
      have hrange : ∀ m ∈ s.order, 0 ≤ m ∧ m < (us.length : Int) := fun m hm => by have := hw.good.ord m hm; rw [hw.len] at this; exact this
      have hst : (s.P[x]'hxP).1.start + (s.P[x]'hxP).1.n = sumL us (s.order.take (i + 1)) := by
        have h1 := hw.str.st i hi p (by rw [hx, Int.toNat_natCast]; exact hpx)
        rw [hpe, h1, ← sum_same hsv hp _ (fun m hm => hrange m (List.mem_of_mem_take hm)), List.take_add_one, hoi, Option.toList_some, sumN_append, sumN, sumN]
        unfold nOf
        rw [Int.toNat_natCast, hpx]
        dsimp only; omega
      have eo := ordR_at (us := us) (f := f) hi
      rw [hx, uLn_at hxU] at eo
      rw [eo]
      by_cases hmu : (s.P[x]'hxP).1.start + (s.P[x]'hxP).1.n ≤ 65536
      · rw [if_neg (by omega)]
        have hrt : ∀ y ∈ (us[x]'hxU).lines, wrgL y = 0 := by have := (plcA_right (all_ok hsv x hxU)).2; rw [uLn_at hxU] at this; exact this
        rcases rsv_ord hsv hxU (us[x]'hxU).lines 0 s [] hrt hw hp with ⟨a1, a2⟩ | ⟨a1, a2⟩
        · rw [wrd_next hoi hxP hxU hmu a1, a2, if_pos rfl]
          dsimp only
          obtain ⟨k1, k2⟩ := rsv_keeps (fnd := fndL (srv us 0 ⟨[], []⟩).1.owners x) (fun s' => Way us (srv us 0 ⟨[], []⟩).1.owners s' ∧ Ltr s s') (fun s' k hI => ⟨(hI.1.fnd hxU k).1, hI.2.trans (fnd_ltr _ _ _ _)⟩) (us[x]'hxU).lines 0 s [] ⟨hw, Ltr.refl s⟩
          exact ord_sim f (i + 1) _ _ k1 (hp.ltr k2)
        · have hne : (rsv (fndL (srv us 0 ⟨[], []⟩).1.owners x) (us[x]'hxU).lines 0 s []).1.2.1 ≠ 0 := by rw [a1]; decide
          rw [wrd_bad hoi hxP hxU hmu hne, if_neg (by simp [a2]), a1]
          rfl
      · rw [if_pos (by omega), wrd_much hoi hxP hxU (by omega)]
        rfl
    · rw [wrd_end (by omega), ordR_end (by omega)]; rfl
end
end Go.Proofs.Yteoifpkbknkpjaa

/-
  The document's linker and the program's: the image.
-/
namespace Go.Proofs.Yteoifpkbknkpjaa
open Go.RowKit Go.Maps
set_option linter.unusedSimpArgs false
set_option linter.unusedVariables false

theorem imgW_eq {us : List Un} {o b : List Int} (F : Int → List Int) : ∀ (o' b' : List Int), o'.length ≤ b'.length → (∀ (j : Nat) (h : j < o'.length) (h2 : j < b'.length), wdR us o b (o'[j]'h) (b'[j]'h2) (uLn us (o'[j]'h)) = F (o'[j]'h)) → imgW us o b o' b' = o'.flatMap F
  | [], b', _, _ => by unfold imgW; simp
  | m :: o', [], h, _ => by simp at h
  | m :: o', a :: b', h, H => by
    rw [imgW, List.flatMap_cons, imgW_eq F o' b' (by simpa using h) (fun j h1 h2 => H (j + 1) (by simpa using h1) (by simpa using h2))]
    have := H 0 (by simp) (by simp)
    simp only [List.getElem_cons_zero] at this
    rw [this]
theorem imgS_eq {us : List Un} {o b : List Int} (F : Int → List (ByteArray × Int)) : ∀ (o' b' : List Int), o'.length ≤ b'.length → (∀ (j : Nat) (h : j < o'.length) (h2 : j < b'.length), spR us o b (o'[j]'h) (b'[j]'h2) (uLn us (o'[j]'h)) = F (o'[j]'h)) → imgS us o b o' b' = o'.flatMap F
  | [], b', _, _ => by unfold imgS; simp
  | m :: o', [], h, _ => by simp at h
  | m :: o', a :: b', h, H => by
    rw [imgS, List.flatMap_cons, imgS_eq F o' b' (by simpa using h) (fun j h1 h2 => H (j + 1) (by simpa using h1) (by simpa using h2))]
    have := H 0 (by simp) (by simp)
    simp only [List.getElem_cons_zero] at this
    rw [this]
theorem fdR_at {us : List Un} {k : List UInt8} {h : Int} : ∀ (o b : List Int), o.length ≤ b.length → h ∈ o → ∃ (j : Nat) (h1 : j < o.length) (h2 : j < b.length), (o[j]'h1) = h ∧ fdR us k h o b = whrL (uLn us h) k (b[j]'h2)
  | [], b, _, hm => by cases hm
  | x :: o, [], hl, _ => by simp at hl
  | x :: o, y :: b, hl, hm => by
    by_cases e : x = h
    · exact ⟨0, by simp, by simp, e, by rw [fdR, if_pos e]; rfl⟩
    · have hm' : h ∈ o := by
        rcases List.mem_cons.1 hm with h1 | h1
        · exact absurd h1.symm e
        · exact h1
      obtain ⟨j, h1, h2, e1, e2⟩ := fdR_at o b (by simpa using hl) hm'
      exact ⟨j + 1, by simpa using h1, by simpa using h2, e1, by rw [fdR, if_neg e, e2]; rfl⟩
theorem enc_one5 {i : Ins} (h : wrg i = 0) : (encA [i]).1 = ws i := by
  have l2 := (ws_len2 i).2
  unfold encA
  rw [enc_next h (by simp; omega), enc_nil]; simp
theorem wdR_eq {us : List Un} {o b : List Int} {O : Nmd} {P : List (Pt × Nat)} {m : Nat} {a : Int} : ∀ (l : List Ln), (∀ y ∈ l, wrgL y = 0) → (∀ y ∈ l, emp y.lab = true → emp y.ref = false → plcR us o b y.ref.toList (m : Int) a = plcP O P m y.ref.toList ∧ 0 ≤ plcP O P m y.ref.toList) → wdR us o b (m : Int) a l = (insL O P m l).flatMap ws
  | [], _, _ => rfl
  | y :: l, hr, hp => by
    rw [wdR, wdR_eq (O := O) (P := P) l (fun x hx => hr x (List.mem_cons_of_mem _ hx)) (fun x hx => hp x (List.mem_cons_of_mem _ hx))]
    by_cases he : emp y.lab = true
    · rw [if_pos he, insL_ins he, List.flatMap_cons]
      have hi : insR us o b (m : Int) a y = insX O P m y := by
        unfold insR insX
        by_cases hre : emp y.ref = true
        · rw [if_pos hre, if_pos hre]
        · rw [if_neg hre, if_neg hre]
          obtain ⟨h1, h2⟩ := hp y List.mem_cons_self he (by simpa using hre)
          rw [h1, Int.tmod_eq_emod_of_nonneg h2]
      rw [hi, enc_one5 (insX_ok (hr y List.mem_cons_self) he).1]
    · replace he : emp y.lab = false := by simpa using he
      rw [if_neg (by simp [he]), insL_lab he]; rfl
theorem spR_eq {us : List Un} {o b : List Int} {p : Pt} {m : Nat} {a : Int} : ∀ (l : List Ln), (∀ y ∈ l, fa y.lab = true → plcR us o b y.lab.toList (m : Int) a = p.start + atA p.A y.lab.toList) → spR us o b (m : Int) a l = spt1 l p
  | [], _ => rfl
  | y :: l, hp => by
    rw [spR, spR_eq l (fun x hx => hp x (List.mem_cons_of_mem _ hx))]
    by_cases hf : fa y.lab = true
    · have h2 := hf
      rw [fa_own, Bool.and_eq_true] at h2
      have e1 : emp y.lab = false := by simpa using h2.1
      have e2 : ownK y.lab.toList = false := by simpa using h2.2
      rw [if_neg (by simp [e1]), if_neg (by simp [e2]), spt1_yes hf, hp y List.mem_cons_self hf]; rfl
    · replace hf : fa y.lab = false := by simpa using hf
      rw [spt1_no hf]
      have h2 := hf
      rw [fa_own] at h2
      by_cases e1 : emp y.lab = true
      · rw [if_pos e1]; rfl
      · have e2 : ownK y.lab.toList = true := by
          rw [show emp y.lab = false by simpa using e1] at h2
          simpa using h2
        rw [if_neg e1, if_pos e2]; rfl
theorem link_same (us : List Un) (e : List UInt8) : linkR us e = linkL us e := by
  unfold linkR linkL
  by_cases h4 : us.length ≤ 400
  · rw [if_pos h4, chk_same h4]
    dsimp only
    by_cases hsv : (srv us 0 ⟨[], []⟩).2.1 = 0
    · rw [if_pos hsv, if_pos hsv]
      by_cases hh : hasA (srv us 0 ⟨[], []⟩).1.owners e = true
      · obtain ⟨hne, hfe, h0, he⟩ := (entry_same hsv e).1 hh
        rw [if_neg (by rintro (h | h); exact hne h; omega), if_pos hh]
        -- the order
        obtain ⟨hg, hl⟩ := srv_good h4 hsv (P := (srv us 0 ⟨[], []⟩).1.parts.map (fun p => (p, 0))) (map_fst0 _)
        obtain ⟨hp1, hp2⟩ := srv_parts us 0 ⟨[], []⟩ hsv
        have hin := (hold_in us 0 e).1
        have hi' : (atA (srv us 0 ⟨[], []⟩).1.owners e).toNat < ((srv us 0 ⟨[], []⟩).1.parts.map (fun p => (p, 0))).length := by rw [hl]; omega
        have et : ((atA (srv us 0 ⟨[], []⟩).1.owners e).toNat : Int) = holdU us 0 e := by omega
        have nd0 : Nd ⟨(srv us 0 ⟨[], []⟩).1.parts.map (fun p => (p, 0)), [], 0⟩ := by
          refine ⟨by simp, fun n hn => ?_⟩
          simp [hp1, ptOf]
        have way0 : Way us (srv us 0 ⟨[], []⟩).1.owners ⟨(srv us 0 ⟨[], []⟩).1.parts.map (fun p => (p, 0)), [], 0⟩ := ⟨hg, hl, nd0, ⟨rfl, fun j hj => by simp at hj⟩⟩
        have pf0 : Pf us ⟨(srv us 0 ⟨[], []⟩).1.parts.map (fun p => (p, 0)), [], 0⟩ := fun m hm => by
          refine ⟨(ptOf (us[m]'hm), 0), ?_, ?_, ?_⟩
          · show ((srv us 0 ⟨[], []⟩).1.parts.map (fun p => (p, 0)))[m]? = _
            rw [hp1, List.nil_append, List.getElem?_map, List.getElem?_map, List.getElem?_eq_getElem hm]; rfl
          · rw [uLn_at hm]; rfl
          · rw [uLn_at hm]; rfl
        have hord0 : (putL ⟨(srv us 0 ⟨[], []⟩).1.parts.map (fun p => (p, 0)), [], 0⟩ (atA (srv us 0 ⟨[], []⟩).1.owners e).toNat).order = [holdU us 0 e] := by
          rw [putL_add nd0 hi', et]; rfl
        have way1 := way0.put hi'
        have pf1 := pf0.ltr (putL_ltr ⟨(srv us 0 ⟨[], []⟩).1.parts.map (fun p => (p, 0)), [], 0⟩ (atA (srv us 0 ⟨[], []⟩).1.owners e).toNat)
        have SIM := ord_sim hsv 400 0 _ [] way1 pf1
        rw [hord0] at SIM
        have hS : wrdL us (srv us 0 ⟨[], []⟩).1.owners 400 0 (putL ⟨(srv us 0 ⟨[], []⟩).1.parts.map (fun p => (p, 0)), [], 0⟩ (atA (srv us 0 ⟨[], []⟩).1.owners e).toNat) [] = wrdS us (srv us 0 ⟨[], []⟩).1 e := rfl
        rw [hS] at SIM
        by_cases hz : (wrdS us (srv us 0 ⟨[], []⟩).1 e).1.2.1 = 0
        · rw [if_pos hz] at SIM
          rw [SIM, if_pos rfl]
          have W := wrd_words (us := us) (O := (srv us 0 ⟨[], []⟩).1.owners) 400 0 _ [] (by omega) way1 (by rw [hS]; exact hz)
          obtain ⟨n1, n2, n3, n4⟩ := putL_nd nd0 hi'
          have V := wrd_nds (us := us) (O := (srv us 0 ⟨[], []⟩).1.owners) (first := atA (srv us 0 ⟨[], []⟩).1.owners e) 400 0 _ [] (by omega) ⟨putL_good hg hi', by rw [putL_len]; exact hl, n1, fun j hj => by
            rcases n4 j hj with hj | hj
            · simp at hj
            · left; rw [hj, et, he], List.nil_prefix⟩ (fun v hv hm => by simp at hm) (by rw [hS]; exact hz)
          have pf2 := pf1.ltr W.2.1
          rw [hS] at W V pf2
          unfold imL
          rw [if_pos hz]
          generalize wrdS us (srv us 0 ⟨[], []⟩).1 e = Z at *
          obtain ⟨⟨zs, er, ef⟩, s⟩ := Z
          dsimp only at W V pf2 ⊢
          obtain ⟨way, -, -, w4, w5⟩ := W
          obtain ⟨-, dn⟩ := V
          rw [List.nil_append, List.drop_zero] at w4
          rw [List.drop_zero] at w5
          have hrange : ∀ m ∈ s.order, 0 ≤ m ∧ m < (us.length : Int) := fun m hm => by have := way.good.ord m hm; rw [way.len] at this; exact this
          have hblen := begL_len us s.order 0
          -- where a unit of the order begins
          have hbeg : ∀ (j : Nat) (hj : j < s.order.length) (h2 : j < (begL us s.order 0).length) (p : Pt × Nat), s.P[(s.order[j]'hj).toNat]? = some p → (begL us s.order 0)[j]'h2 = p.1.start := fun j hj h2 p hp => by
            have e1 := begL_at us s.order 0 j (by omega)
            rw [List.getElem?_eq_getElem h2] at e1
            rw [Option.some.inj e1, way.str.st j hj p hp, Int.zero_add, sum_same hsv pf2 _ (fun m hm => hrange m (List.mem_of_mem_take hm))]
          -- a label that a unit of the order has
          have hlab : ∀ (j : Nat) (hj : j < s.order.length) (h2 : j < (begL us s.order 0).length) (p : Pt × Nat) (k : List UInt8), s.P[(s.order[j]'hj).toNat]? = some p → hasA p.1.A k = true → k ≠ [] → whrL (uLn us (s.order[j]'hj)) k ((begL us s.order 0)[j]'h2) = p.1.start + atA p.1.A k := fun j hj h2 p k hp hk hkn => by
            have hr := hrange _ (List.getElem_mem hj)
            obtain ⟨u, hu⟩ : ∃ u : Nat, (s.order[j]'hj) = u := ⟨(s.order[j]'hj).toNat, by omega⟩
            rw [hbeg j hj h2 p hp, hu]
            rw [hu, Int.toNat_natCast] at hp
            obtain ⟨p', hp', hA, -⟩ := pf2 u (by omega)
            rw [hp] at hp'
            cases hp'
            have hok := all_ok hsv u (by omega)
            have ep := plcA_ok hok
            rw [ep] at hok hA
            rw [whr_plc _ _ _ _ _ _ hok (by rw [← hA]; exact hk) rfl hkn, ← hA]; omega
          -- a label of all
          have hall : ∀ (k : List UInt8) (m a : Int), k ≠ [] → ownK k = false → hasA (srv us 0 ⟨[], []⟩).1.owners k = true → atA (srv us 0 ⟨[], []⟩).1.owners k ∈ s.order → ∀ p, s.P[(atA (srv us 0 ⟨[], []⟩).1.owners k).toNat]? = some p → plcR us s.order (begL us s.order 0) k m a = p.1.start + atA p.1.A k := fun k m a hk how hO hmem p hp => by
            have hh := ((entry_same hsv k).1 hO).2.2.2
            unfold plcR
            rw [if_neg (by simp [how]), hh]
            obtain ⟨j, j1, j2, e1, e2⟩ := fdR_at (us := us) (k := k) s.order (begL us s.order 0) (by omega) hmem
            rw [e2, ← e1]
            refine hlab j j1 j2 p k (by rw [e1]; exact hp) ?_ hk
            obtain ⟨i, hi, d1, x, hx, hfx, hxe⟩ := srv_new us 0 ⟨[], []⟩ hsv k hO rfl
            have hri : (atA (srv us 0 ⟨[], []⟩).1.owners k).toNat = i := by omega
            obtain ⟨p', hp', hA, -⟩ := pf2 i hi
            rw [hri, hp'] at hp
            cases hp
            rw [hA]
            have hok := all_ok hsv i hi
            refine (plcA_has hok k).2 ⟨x, by rw [uLn_at hi]; exact hx, fa_emp hfx, hxe⟩
          have hgp : ∀ (j : Nat) (hj : j < s.order.length), ∃ (u : Nat) (p : Pt × Nat), (s.order[j]'hj) = (u : Int) ∧ u < us.length ∧ s.P[u]? = some p := fun j hj => by
            have hr := hrange _ (List.getElem_mem hj)
            obtain ⟨p, hp, -⟩ := pf2 (s.order[j]'hj).toNat (by omega)
            exact ⟨(s.order[j]'hj).toNat, p, by omega, by omega, hp⟩
          have hwords : imgW us s.order (begL us s.order 0) s.order (begL us s.order 0) = zs := by
            rw [w4]
            refine imgW_eq _ _ _ (by omega) (fun j hj h2 => ?_)
            obtain ⟨u, p, hu, huU, hpu⟩ := hgp j hj
            have hmem : (u : Int) ∈ s.order := hu ▸ List.getElem_mem hj
            have hrt := (plcA_right (all_ok hsv u huU)).2
            have hj' := hlab j hj h2 p
            simp only [hu] at hj' ⊢
            rw [Int.toNat_natCast] at hj' ⊢
            rw [wdR_eq (O := (srv us 0 ⟨[], []⟩).1.owners) (P := s.P) (uLn us u) hrt (fun y hy hl hr => ?_)]
            · obtain ⟨b1, b2⟩ := insL_words (O := (srv us 0 ⟨[], []⟩).1.owners) (P := s.P) (m := u) (uLn us u) hrt
              refine (enc_all b1 ?_).symm
              have c1 := (plcA_words (all_ok hsv u huU)).1
              have c2 := (plcA_in (uLn us u)).2.2
              omega
            · have hkn := emp_ne hr
              have hpos : 0 ≤ plcP (srv us 0 ⟨[], []⟩).1.owners s.P u y.ref.toList := by
                unfold plcP
                split
                · rename_i q hq
                  have := way.good.pts q (List.mem_of_getElem? hq)
                  have h2 := this.2.2.1
                  have h3 := this.2.2.2.2 y.ref.toList
                  omega
                · omega
              refine ⟨?_, hpos⟩
              by_cases how : ownK y.ref.toList = true
              · have hf : faL y.ref.toList = false := by rw [faL_own hkn, how]; rfl
                have hown := (w5 _ hmem).1 y hy hl hr hf p (by rw [Int.toNat_natCast]; exact hpu)
                have huP : u < s.P.length := by rw [way.len]; exact huU
                unfold plcR
                rw [if_pos how, hj' y.ref.toList hpu hown hkn]
                unfold plcP
                rw [ownerL_own hf huP]
                dsimp only
                rw [Int.toNat_natCast, hpu]
              · replace how : ownK y.ref.toList = false := by simpa using how
                have hf : faL y.ref.toList = true := by rw [faL_own hkn, how]; rfl
                obtain ⟨r1, r2⟩ := dn u huU (by rw [List.take_length]; exact hmem) y (by rw [← uLn_at huU]; exact hy) hl hr hf
                have hr2 := hrange _ r2
                obtain ⟨q, hq, -⟩ := pf2 (atA (srv us 0 ⟨[], []⟩).1.owners y.ref.toList).toNat (by omega)
                rw [hall y.ref.toList _ _ hkn how r1 r2 q hq]
                unfold plcP
                rw [ownerL_all hf]
                dsimp only
                rw [hq]
          have hspots : imgS us s.order (begL us s.order 0) s.order (begL us s.order 0) = sptL us s.P s.order := by
            unfold sptL
            refine imgS_eq _ _ _ (by omega) (fun j hj h2 => ?_)
            obtain ⟨u, p, hu, huU, hpu⟩ := hgp j hj
            have hmem : (u : Int) ∈ s.order := hu ▸ List.getElem_mem hj
            simp only [hu]
            rw [Int.toNat_natCast, List.getElem?_eq_getElem huU, hpu]
            dsimp only
            rw [uLn_at huU]
            refine spR_eq _ (fun y hy hf => ?_)
            have a := srv_in us 0 ⟨[], []⟩ hsv u huU y hy hf
            rw [Nat.zero_add] at a
            have h3 := hf
            rw [fa_own, Bool.and_eq_true] at h3
            exact hall y.lab.toList _ _ (emp_ne (fa_emp hf)) (by simpa using h3.2) a.1 (by rw [a.2]; exact hmem) p (by rw [a.2, Int.toNat_natCast]; exact hpu)
          rw [hwords, hspots]
        · rw [if_neg hz] at SIM
          rw [SIM, if_neg hz]
          unfold imL
          rw [if_neg hz]
      · replace hh : hasA (srv us 0 ⟨[], []⟩).1.owners e = false := by simpa using hh
        rw [if_pos ((entry_same hsv e).2 hh), if_neg (by simp [hh])]
    · rw [if_neg hsv, if_neg hsv]
  · rw [if_neg h4]
    have : chkR us = (5, 0) := by unfold chkR; rw [if_pos (by omega)]
    rw [this, if_neg (by decide)]
end Go.Proofs.Yteoifpkbknkpjaa
