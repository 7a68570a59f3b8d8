/-
  Just what is needed is there: plain lists.
-/
import Derived.Test.YteoifpkbknkpjaaLkXz
namespace Go.Proofs.Yteoifpkbknkpjaa
open Go.RowKit Go.Maps
set_option linter.unusedSimpArgs false
set_option linter.unusedVariables false

/-- Is a label its unit's alone? -/
def ownK (k : List UInt8) : Bool := match k with | [] => false | x :: _ => ((x.toNat : Int) == 46)
theorem faL_own {k : List UInt8} (h : k ≠ []) : faL k = !(ownK k) := by
  cases k with
  | nil => exact absurd rfl h
  | cons x l => unfold faL ownK; simp [bne]
/-- Which unit has a label for all; -1: none. -/
def holdU : List Un → Nat → List UInt8 → Int
  | [], _, _ => -1
  | u :: l, n, k => if (u.lines.any fun x => x.lab.toList == k) = true ∧ ownK k = false then (n : Int) else holdU l (n + 1) k
theorem hold_or : ∀ (us : List Un) (n : Nat) (k : List UInt8), (holdU us n k = -1 ∧ ∀ (i : Nat) (hi : i < us.length), ownK k = false → ∀ x ∈ (us[i]'hi).lines, x.lab.toList ≠ k) ∨ ∃ (i : Nat) (hi : i < us.length), holdU us n k = ((n + i : Nat) : Int) ∧ ownK k = false ∧ ∃ x ∈ (us[i]'hi).lines, x.lab.toList = k
  | [], n, k => .inl ⟨rfl, fun i hi => by simp at hi⟩
  | u :: l, n, k => by
    by_cases h : (u.lines.any fun x => x.lab.toList == k) = true ∧ ownK k = false
    · right
      refine ⟨0, by simp, by rw [holdU, if_pos h]; rfl, h.2, ?_⟩
      obtain ⟨x, hx, e⟩ := List.any_eq_true.1 h.1
      exact ⟨x, hx, by simpa using e⟩
    · rw [holdU, if_neg h]
      rcases hold_or l (n + 1) k with ⟨h1, h2⟩ | ⟨i, hi, h1, h2, h3⟩
      · left
        refine ⟨h1, fun i hi ho x hx e => ?_⟩
        cases i with
        | zero => exact h ⟨List.any_eq_true.2 ⟨x, hx, by simpa using e⟩, ho⟩
        | succ i => exact h2 i (by simpa using hi) ho x hx e
      · right
        exact ⟨i + 1, by simpa using hi, by rw [h1]; congr 1; omega, h2, h3⟩
theorem fa_of {s : ByteArray} {k : List UInt8} (e : s.toList = k) (hk : k ≠ []) (ho : ownK k = false) : fa s = true := by
  rw [fa_list, e, faL_own hk, ho]; rfl
theorem hold_at {us : List Un} (h : (srv us 0 ⟨[], []⟩).2.1 = 0) {k : List UInt8} (hk : k ≠ []) : (faL k = true → hasA (srv us 0 ⟨[], []⟩).1.owners k = true → holdU us 0 k = atA (srv us 0 ⟨[], []⟩).1.owners k) ∧ (0 ≤ holdU us 0 k → faL k = true ∧ hasA (srv us 0 ⟨[], []⟩).1.owners k = true) := by
  rcases hold_or us 0 k with ⟨h1, h2⟩ | ⟨i, hi, h1, h2, x, hx, e⟩
  · refine ⟨fun hf ho => ?_, fun h3 => by rw [h1] at h3; omega⟩
    obtain ⟨i, hi, _, x, hx, _, e⟩ := srv_new us 0 ⟨[], []⟩ h k ho rfl
    rw [faL_own hk] at hf
    exact absurd e (h2 i hi (by simpa using hf) x hx)
  · have hf : fa x.lab = true := fa_of e hk h2
    obtain ⟨a1, a2⟩ := srv_in us 0 ⟨[], []⟩ h i hi x hx hf
    rw [e] at a1 a2
    exact ⟨fun _ _ => by rw [h1, a2], fun _ => ⟨by rw [faL_own hk, h2]; rfl, a1⟩⟩

/-! ### the order of units -/
structure Nd (s : Ls) : Prop where
  nd : s.order.Nodup
  put : ∀ (n : Nat) (h : n < s.P.length), (s.P[n]'h).1.put = true ↔ (n : Int) ∈ s.order
theorem putL_nd {s : Ls} (h : Nd s) {n : Nat} (hn : n < s.P.length) : Nd (putL s n) ∧ (n : Int) ∈ (putL s n).order ∧ s.order <+: (putL s n).order ∧ ∀ i ∈ (putL s n).order, i ∈ s.order ∨ i = n := by
  by_cases hp : (s.P[n]'hn).1.put = true
  · rw [putL_yes hn hp]
    exact ⟨h, (h.put n hn).1 hp, List.prefix_refl _, fun i hi => .inl hi⟩
  · replace hp : (s.P[n]'hn).1.put = false := by simpa using hp
    have hm : (n : Int) ∉ s.order := fun hm => by rw [(h.put n hn).2 hm] at hp; cases hp
    rw [putL_no hn hp]
    refine ⟨⟨?_, fun m hm' => ?_⟩, ?_, List.prefix_append _ _, fun i hi => ?_⟩
    · show (s.order ++ [(n : Int)]).Nodup
      rw [List.nodup_append]
      exact ⟨h.nd, by simp, fun a ha b hb => by simp at hb; subst hb; intro e; subst e; exact hm ha⟩
    · show _ ↔ (m : Int) ∈ s.order ++ [(n : Int)]
      rw [List.mem_append, List.mem_singleton]
      by_cases e : n = m
      · subst e; simp
      · have hm2 : m < s.P.length := by simpa using hm'
        have : ((s.P.set n (⟨(s.P[n]'hn).1.A, (s.P[n]'hn).1.n, true, s.fin⟩, (s.P[n]'hn).2))[m]'hm') = s.P[m]'hm2 := List.getElem_set_ne e _
        rw [this, h.put m hm2]
        constructor
        · exact fun h => .inl h
        · rintro (h | h)
          · exact h
          · omega
    · show (n : Int) ∈ s.order ++ [(n : Int)]; simp
    · rcases List.mem_append.1 hi with h | h
      · exact .inl h
      · simp at h; exact .inr h
theorem rsv_walk {σ : Type} {fnd : σ → List UInt8 → σ × Int × Bool} (I : σ → Prop) (R : σ → List UInt8 → Prop) : ∀ (l : List Ln) (k : Nat) (s : σ) (acc : List Ins), (∀ x ∈ l, emp x.lab = true → emp x.ref = false → ∀ s, I s → (fnd s x.ref.toList).2.2 = true → I (fnd s x.ref.toList).1 ∧ R (fnd s x.ref.toList).1 x.ref.toList ∧ ∀ k, R s k → R (fnd s x.ref.toList).1 k) → I s → (rsv fnd l k s acc).1.2.1 = 0 → I (rsv fnd l k s acc).2 ∧ (∀ x ∈ l, emp x.lab = true → emp x.ref = false → R (rsv fnd l k s acc).2 x.ref.toList) ∧ ∀ k', R s k' → R (rsv fnd l k s acc).2 k'
  | [], _, _, _, _, hI, _ => ⟨hI, (fun x hx => by cases hx), fun _ h => h⟩
  | x :: l, k, s, acc, H, hI, h0 => by
    have H' := fun y hy => H y (List.mem_cons_of_mem _ hy)
    by_cases h1 : emp x.lab = false
    · rw [rsv_lab h1] at h0 ⊢
      obtain ⟨a, b, c⟩ := rsv_walk I R l _ _ _ H' hI h0
      refine ⟨a, fun y hy e1 e2 => ?_, c⟩
      rcases List.mem_cons.1 hy with rfl | hy
      · rw [h1] at e1; cases e1
      · exact b y hy e1 e2
    · replace h1 : emp x.lab = true := by simpa using h1
      by_cases h2 : emp x.ref = true
      · rw [rsv_ins h1 h2] at h0 ⊢
        obtain ⟨a, b, c⟩ := rsv_walk I R l _ _ _ H' hI h0
        refine ⟨a, fun y hy e1 e2 => ?_, c⟩
        rcases List.mem_cons.1 hy with rfl | hy
        · rw [h2] at e2; cases e2
        · exact b y hy e1 e2
      · replace h2 : emp x.ref = false := by simpa using h2
        by_cases h3 : (fnd s x.ref.toList).2.2 = true
        · obtain ⟨i1, i2, i3⟩ := H x List.mem_cons_self h1 h2 s hI h3
          rw [rsv_ref h1 h2 h3] at h0 ⊢
          obtain ⟨a, b, c⟩ := rsv_walk I R l _ _ _ H' i1 h0
          refine ⟨a, fun y hy e1 e2 => ?_, fun k' hk => c k' (i3 k' hk)⟩
          rcases List.mem_cons.1 hy with rfl | hy
          · exact c _ i2
          · exact b y hy e1 e2
        · replace h3 : (fnd s x.ref.toList).2.2 = false := by simpa using h3
          rw [rsv_none h1 h2 h3] at h0; simp at h0
/-- Each unit there is the first one, or is spoken of. -/
def Spk (us : List Un) (O : Nmd) (first : Int) (s : Ls) : Prop := ∀ i ∈ s.order, i = first ∨ ∃ (v : Nat) (hv : v < us.length), (v : Int) ∈ s.order ∧ ∃ y ∈ (us[v]'hv).lines, emp y.ref = false ∧ faL y.ref.toList = true ∧ hasA O y.ref.toList = true ∧ atA O y.ref.toList = i
/-- A label for all is there. -/
def RhO (O : Nmd) (s : Ls) (k : List UInt8) : Prop := faL k = true → hasA O k = true ∧ atA O k ∈ s.order
structure Nds (us : List Un) (O : Nmd) (first : Int) (pre : List Int) (s : Ls) : Prop where
  good : Good s O
  len : s.P.length = us.length
  nd : Nd s
  spk : Spk us O first s
  pre : pre <+: s.order
theorem fnd_nds {us : List Un} {O : Nmd} {first : Int} {pre : List Int} {s : Ls} {m : Nat} (hm : m < us.length) (h : Nds us O first pre s) (hmp : (m : Int) ∈ pre) {y : Ln} (hy : y ∈ (us[m]'hm).lines) (he : emp y.ref = false) (ht : (fndL O m s y.ref.toList).2.2 = true) : Nds us O first pre (fndL O m s y.ref.toList).1 ∧ RhO O (fndL O m s y.ref.toList).1 y.ref.toList ∧ ∀ k, RhO O s k → RhO O (fndL O m s y.ref.toList).1 k := by
  have hmP : m < s.P.length := by rw [h.len]; exact hm
  have hw : (ownerL O s.P m y.ref.toList).2 = true := by
    unfold fndL at ht
    by_cases hw : (ownerL O s.P m y.ref.toList).2 = true
    · exact hw
    · rw [if_neg hw] at ht; cases ht
  obtain ⟨o0, o1⟩ := ownerL_in h.good hmP hw
  have e1 : (fndL O m s y.ref.toList).1 = putL s (ownerL O s.P m y.ref.toList).1.toNat := by unfold fndL; rw [if_pos hw]
  have ho : (ownerL O s.P m y.ref.toList).1.toNat < s.P.length := by omega
  obtain ⟨n1, n2, n3, n4⟩ := putL_nd h.nd ho
  rw [e1]
  have et : ((ownerL O s.P m y.ref.toList).1.toNat : Int) = (ownerL O s.P m y.ref.toList).1 := by omega
  have hmono : ∀ i ∈ s.order, i ∈ (putL s (ownerL O s.P m y.ref.toList).1.toNat).order := fun i hi => n3.subset hi
  have hmin : (m : Int) ∈ s.order := h.pre.subset hmp
  refine ⟨⟨putL_good h.good ho, by rw [putL_len]; exact h.len, n1, fun i hi => ?_, h.pre.trans n3⟩, fun hf => ?_, fun k hk hf => ?_⟩
  · rcases n4 i hi with hi | hi
    · rcases h.spk i hi with h1 | ⟨v, hv, h1, h2⟩
      · exact .inl h1
      · exact .inr ⟨v, hv, hmono _ h1, h2⟩
    · by_cases hf : faL y.ref.toList = true
      · rw [ownerL_all hf] at hw hi
        right
        refine ⟨m, hm, hmono _ hmin, y, hy, he, hf, hw, ?_⟩
        rw [ownerL_all hf] at et
        rw [hi]; exact et.symm
      · rw [ownerL_own (by simpa using hf) hmP] at hi
        simp at hi
        subst hi
        rcases h.spk _ hmin with h1 | ⟨v, hv, h1, h2⟩
        · exact .inl h1
        · exact .inr ⟨v, hv, hmono _ h1, h2⟩
  · rw [ownerL_all hf] at hw et n2 ⊢
    refine ⟨hw, ?_⟩
    rw [et] at n2
    exact n2
  · obtain ⟨h1, h2⟩ := hk hf
    exact ⟨h1, hmono _ h2⟩
/-- All that the first i units speak of is there. -/
def DoneU (us : List Un) (O : Nmd) (i : Nat) (s : Ls) : Prop := ∀ (v : Nat) (hv : v < us.length), (v : Int) ∈ s.order.take i → ∀ y ∈ (us[v]'hv).lines, emp y.lab = true → emp y.ref = false → RhO O s y.ref.toList
theorem take_pre {l m : List Int} (h : l <+: m) {i : Nat} (hi : i ≤ l.length) : m.take i = l.take i := by
  obtain ⟨t, rfl⟩ := h
  rw [List.take_append_of_le_length hi]
theorem wrd_nds {us : List Un} {O : Nmd} {first : Int} : ∀ (f i : Nat) (s : Ls) (out : List Int), 400 ≤ f + i → Nds us O first [] s → DoneU us O i s → (wrdL us O f i s out).1.2.1 = 0 → Nds us O first [] (wrdL us O f i s out).2 ∧ DoneU us O (wrdL us O f i s out).2.order.length (wrdL us O f i s out).2
  | 0, i, s, out, hfi, hn, hd, h => by
    have := hn.good.small
    refine ⟨hn, fun v hv hm => hd v hv ?_⟩
    show (v : Int) ∈ s.order.take i
    rw [List.take_of_length_le (by omega)]
    exact List.mem_of_mem_take hm
  | f + 1, i, s, out, hfi, hn, hd, h => by
    by_cases hi : i < s.order.length
    · have hoi := List.getElem?_eq_getElem hi
      obtain ⟨q0, q1⟩ := hn.good.ord _ (List.getElem_mem hi)
      obtain ⟨x, hx⟩ : ∃ x : Nat, s.order[i] = (x : Int) := ⟨s.order[i].toNat, by omega⟩
      have hmem : (x : Int) ∈ s.order := hx ▸ List.getElem_mem hi
      rw [hx] at hoi q0 q1
      have hxP : x < s.P.length := by omega
      have hxU : x < us.length := by rw [← hn.len]; exact hxP
      by_cases hmu : (s.P[x]'hxP).1.start + (s.P[x]'hxP).1.n ≤ 65536
      · by_cases hr : (rsv (fndL O x) (us[x]'hxU).lines 0 s []).1.2.1 = 0
        · rw [wrd_next hoi hxP hxU hmu hr] at h ⊢
          obtain ⟨r1, r2, r3⟩ := rsv_walk (fnd := fndL O x) (Nds us O first s.order) (RhO O) (us[x]'hxU).lines 0 s [] (fun y hy _ e2 s' hs' ht => fnd_nds hxU hs' hmem hy e2 ht) ⟨hn.good, hn.len, hn.nd, hn.spk, List.prefix_refl _⟩ hr
          refine wrd_nds f (i + 1) _ _ (by omega) ⟨r1.good, r1.len, r1.nd, r1.spk, List.nil_prefix⟩ ?_ h
          intro v hv hm y hy e1 e2
          rw [take_pre r1.pre (by omega)] at hm
          rw [List.take_add_one, hoi, Option.toList_some, List.mem_append, List.mem_singleton] at hm
          rcases hm with hm | hm
          · exact r3 _ (hd v hv hm y hy e1 e2)
          · obtain rfl : v = x := by omega
            exact r2 y hy e1 e2
        · rw [wrd_bad hoi hxP hxU hmu hr] at h; exact absurd h hr
      · rw [wrd_much hoi hxP hxU (by omega)] at h; simp at h
    · rw [wrd_end (by omega)]
      refine ⟨hn, fun v hv hm => hd v hv ?_⟩
      rw [List.take_of_length_le (by omega)]
      exact List.mem_of_mem_take hm
theorem emp_ne {s : ByteArray} (h : emp s = false) : s.toList ≠ [] := by unfold emp at h; intro e; rw [e] at h; cases h
/-- JUST WHAT IS NEEDED IS THERE. -/
theorem link_needs {us : List Un} {e : List UInt8} (h : (linkL us e).2.1 = 0) : (∀ i ∈ (linkL us e).1.units, 0 ≤ i ∧ i < us.length) ∧ (linkL us e).1.units.Nodup ∧ ∀ u : Nat, u < us.length → ((u : Int) ∈ (linkL us e).1.units ↔ holdU us 0 e = u ∨ ∃ (v : Nat) (hv : v < us.length), (v : Int) ∈ (linkL us e).1.units ∧ ∃ y ∈ (us[v]'hv).lines, emp y.ref = false ∧ holdU us 0 y.ref.toList = u) := by
  obtain ⟨a1, a2, a3, a4, a5⟩ := link_ok h
  obtain ⟨i, hi, d1, x, hx, hfx, hxe⟩ := srv_new us 0 ⟨[], []⟩ a2 e a3 rfl
  have hene : e ≠ [] := by rw [← hxe]; exact emp_ne (fa_emp hfx)
  have hfe : faL e = true := by rw [← hxe, ← fa_list]; exact hfx
  obtain ⟨hg, hl⟩ := srv_good a1 a2 (P := (srv us 0 ⟨[], []⟩).1.parts.map (fun p => (p, 0))) (map_fst0 _)
  obtain ⟨hp1, hp2⟩ := srv_parts us 0 ⟨[], []⟩ a2
  have hi' : (atA (srv us 0 ⟨[], []⟩).1.owners e).toNat < ((srv us 0 ⟨[], []⟩).1.parts.map (fun p => (p, 0))).length := by rw [d1]; omega
  have et : ((atA (srv us 0 ⟨[], []⟩).1.owners e).toNat : Int) = atA (srv us 0 ⟨[], []⟩).1.owners e := by omega
  have nd0 : Nd ⟨(srv us 0 ⟨[], []⟩).1.parts.map (fun p => (p, 0)), [], 0⟩ := by
    refine ⟨by simp, fun n hn => ?_⟩
    simp [hp1, ptOf]
  obtain ⟨n1, n2, n3, n4⟩ := putL_nd nd0 hi'
  have W := wrd_nds (us := us) (O := (srv us 0 ⟨[], []⟩).1.owners) (first := atA (srv us 0 ⟨[], []⟩).1.owners e) 400 0 _ [] (by omega) ⟨putL_good hg hi', by rw [putL_len]; exact hl, n1, fun j hj => by
    rcases n4 j hj with hj | hj
    · simp at hj
    · left; rw [hj, et], List.nil_prefix⟩ (fun v hv hm => by simp at hm) a4
  have n5 : atA (srv us 0 ⟨[], []⟩).1.owners e ∈ (wrdS us (srv us 0 ⟨[], []⟩).1 e).2.order := by
    have key : ∀ (f i : Nat) (s : Ls) (out : List Int), Good s (srv us 0 ⟨[], []⟩).1.owners → s.P.length = us.length → ∀ j ∈ s.order, j ∈ (wrdL us (srv us 0 ⟨[], []⟩).1.owners f i s out).2.order := by
      intro f
      induction f with
      | zero => intro i s out _ _ j hj; exact hj
      | succ f ih =>
        intro i s out hg hl j hj
        by_cases hi : i < s.order.length
        · have hoi := List.getElem?_eq_getElem hi
          obtain ⟨q0, q1⟩ := hg.ord _ (List.getElem_mem hi)
          obtain ⟨x, hx⟩ : ∃ x : Nat, s.order[i] = (x : Int) := ⟨s.order[i].toNat, by omega⟩
          rw [hx] at hoi q0 q1
          have hxP : x < s.P.length := by omega
          have hxU : x < us.length := by omega
          have kp := rsv_keeps (fnd := fndL (srv us 0 ⟨[], []⟩).1.owners x) (fun s' => Good s' (srv us 0 ⟨[], []⟩).1.owners ∧ s'.P.length = us.length ∧ j ∈ s'.order) (fun s' k hI => by
            refine ⟨(fnd_good hI.1 (by rw [hI.2.1]; exact hxU) k).1, (fnd_good hI.1 (by rw [hI.2.1]; exact hxU) k).2.trans hI.2.1, ?_⟩
            unfold fndL
            split
            · unfold putL; split
              · split
                · exact hI.2.2
                · exact List.mem_append_left _ hI.2.2
              · exact hI.2.2
            · exact hI.2.2) (us[x]'hxU).lines 0 s [] ⟨hg, hl, hj⟩
          by_cases hmu : (s.P[x]'hxP).1.start + (s.P[x]'hxP).1.n ≤ 65536
          · by_cases hr : (rsv (fndL (srv us 0 ⟨[], []⟩).1.owners x) (us[x]'hxU).lines 0 s []).1.2.1 = 0
            · rw [wrd_next hoi hxP hxU hmu hr]; exact ih _ _ _ kp.1 kp.2.1 j kp.2.2
            · rw [wrd_bad hoi hxP hxU hmu hr]; exact kp.2.2
          · rw [wrd_much hoi hxP hxU (by omega)]; exact hj
        · rw [wrd_end (by omega)]; exact hj
    rw [et] at n2
    exact key 400 0 _ [] (putL_good hg hi') (by rw [putL_len]; exact hl) _ n2
  have eu : (linkL us e).1.units = (wrdS us (srv us 0 ⟨[], []⟩).1 e).2.order := by rw [a5]; unfold imL; rw [if_pos a4]
  have hd : (linkL us e).2 = (0, 0) := by rw [a5]; unfold imL; rw [if_pos a4]
  rw [eu]
  have W1 : Nds us (srv us 0 ⟨[], []⟩).1.owners (atA (srv us 0 ⟨[], []⟩).1.owners e) [] (wrdS us (srv us 0 ⟨[], []⟩).1 e).2 := W.1
  have W2 : DoneU us (srv us 0 ⟨[], []⟩).1.owners (wrdS us (srv us 0 ⟨[], []⟩).1 e).2.order.length (wrdS us (srv us 0 ⟨[], []⟩).1 e).2 := W.2
  have hrt : ∀ (v : Nat) (hv : v < us.length), ∀ y ∈ (us[v]'hv).lines, wrgL y = 0 := fun v hv => (plcA_right (hp2 _ (List.getElem_mem hv))).2
  refine ⟨fun j hj => ?_, W1.nd.nd, fun u hu => ⟨fun hm => ?_, ?_⟩⟩
  · have := W1.good.ord j hj; have := W1.len; omega
  · rcases W1.spk _ hm with h1 | ⟨v, hv, h1, y, hy, b1, b2, b3, b4⟩
    · left; rw [(hold_at a2 hene).1 hfe a3]; exact h1.symm
    · right; exact ⟨v, hv, h1, y, hy, b1, by rw [(hold_at a2 (emp_ne b1)).1 b2 b3]; exact b4⟩
  · rintro (h1 | ⟨v, hv, h1, y, hy, b1, b2⟩)
    · rw [(hold_at a2 hene).1 hfe a3] at h1
      rw [← h1]; exact n5
    · obtain ⟨c1, c2⟩ := (hold_at a2 (emp_ne b1)).2 (by omega)
      rw [(hold_at a2 (emp_ne b1)).1 c1 c2] at b2
      have hlab : emp y.lab = true := by
        by_cases hq : emp y.lab = true
        · exact hq
        · have := (wrgL_lab (hrt v hv y hy) (by simpa using hq)).2.1
          rw [this] at b1; cases b1
      have := (W2 v hv (by rw [List.take_length]; exact h1) y hy hlab b1 c1).2
      rw [b2] at this; exact this
end Go.Proofs.Yteoifpkbknkpjaa
