/-
  A unit more, behind all others.
-/
import Derived.Test.YticbejfdldehcabLkY
namespace Go.Proofs.Yticbejfdldehcab
open Go.RowKit Go.Maps
set_option linter.unusedSimpArgs false
set_option linter.unusedVariables false

theorem map_fst0 (l : List Pt) : (l.map (fun p => (p, 0))).map (·.1) = l := by rw [List.map_map]; exact List.map_id' l
def emb (pm : Pt × Nat) (s : Ls) : Ls := ⟨s.P ++ [pm], s.order, s.fin⟩
theorem emb_put {pm : Pt × Nat} {s : Ls} {n : Nat} (h : n < s.P.length) : putL (emb pm s) n = emb pm (putL s n) := by
  unfold putL emb
  dsimp only
  rw [List.getElem?_append_left h]
  cases e : s.P[n]? with
  | none => rfl
  | some p =>
    dsimp only
    by_cases hp : p.1.put = true
    · rw [if_pos hp, if_pos hp]
    · rw [if_neg hp, if_neg hp, List.set_append_left _ _ h]
theorem emb_owner {O O' : Nmd} (hO : ∀ k, hasA O k = true → hasA O' k = true ∧ atA O' k = atA O k) {pm : Pt × Nat} {P : List (Pt × Nat)} {n : Nat} (hn : n < P.length) {k : List UInt8} (ht : (ownerL O P n k).2 = true) : ownerL O' (P ++ [pm]) n k = ownerL O P n k := by
  by_cases hf : faL k = true
  · rw [ownerL_all hf] at ht ⊢
    rw [ownerL_all hf]
    obtain ⟨h1, h2⟩ := hO k ht
    rw [h1, h2]
    exact Prod.ext rfl (by dsimp only; exact ht.symm)
  · unfold ownerL
    rw [if_neg hf, if_neg hf, List.getElem?_append_left hn]
theorem emb_fnd {O O' : Nmd} (hO : ∀ k, hasA O k = true → hasA O' k = true ∧ atA O' k = atA O k) {pm : Pt × Nat} {s : Ls} {n : Nat} (hg : Good s O) (hn : n < s.P.length) {k : List UInt8} (ht : (fndL O n s k).2.2 = true) : fndL O' n (emb pm s) k = (emb pm (fndL O n s k).1, (fndL O n s k).2) := by
  have hw : (ownerL O s.P n k).2 = true := by
    unfold fndL at ht
    by_cases hw : (ownerL O s.P n k).2 = true
    · exact hw
    · rw [if_neg hw] at ht; cases ht
  obtain ⟨o0, o1⟩ := ownerL_in hg hn hw
  have ho : (ownerL O s.P n k).1.toNat < s.P.length := by omega
  have eo : ownerL O' (emb pm s).P n k = ownerL O s.P n k := emb_owner hO hn hw
  unfold fndL
  rw [eo, if_pos hw, if_pos hw, emb_put ho]
  refine Prod.ext rfl (Prod.ext ?_ rfl)
  dsimp only
  rw [show (emb pm (putL s (ownerL O s.P n k).1.toNat)).P = (putL s (ownerL O s.P n k).1.toNat).P ++ [pm] from rfl, List.getElem?_append_left (by rw [putL_len]; exact ho)]
theorem wrd_emb {O O' : Nmd} (hO : ∀ k, hasA O k = true → hasA O' k = true ∧ atA O' k = atA O k) {pm : Pt × Nat} {us : List Un} {m : Un} : ∀ (f i : Nat) (s : Ls) (out : List Int), Good s O → s.P.length = us.length → (wrdL us O f i s out).1.2.1 = 0 → wrdL (us ++ [m]) O' f i (emb pm s) out = ((wrdL us O f i s out).1, emb pm (wrdL us O f i s out).2) ∧ Good (wrdL us O f i s out).2 O ∧ (wrdL us O f i s out).2.P.length = us.length
  | 0, _, _, _, hg, hl, _ => ⟨rfl, hg, hl⟩
  | f + 1, i, s, out, hg, hl, h => by
    by_cases hi : i < s.order.length
    · have hoi := List.getElem?_eq_getElem hi
      obtain ⟨q0, q1⟩ := hg.ord _ (List.getElem_mem hi)
      obtain ⟨x, hx⟩ : ∃ x : Nat, s.order[i] = (x : Int) := ⟨s.order[i].toNat, by omega⟩
      rw [hx] at hoi q0 q1
      have hxP : x < s.P.length := by omega
      have hxU : x < us.length := by omega
      have hxP' : x < (emb pm s).P.length := by show x < (s.P ++ [pm]).length; rw [List.length_append]; omega
      have hxU' : x < (us ++ [m]).length := by rw [List.length_append]; omega
      have eP : (emb pm s).P[x]'hxP' = s.P[x]'hxP := List.getElem_append_left hxP
      have eU : (us ++ [m])[x]'hxU' = us[x]'hxU := List.getElem_append_left hxU
      have hoi' : (emb pm s).order[i]? = some (x : Int) := hoi
      by_cases hmu : (s.P[x]'hxP).1.start + (s.P[x]'hxP).1.n ≤ 65536
      · by_cases hr : (rsv (fndL O x) (us[x]'hxU).lines 0 s []).1.2.1 = 0
        · rw [wrd_next hoi hxP hxU hmu hr] at h ⊢
          obtain ⟨r1, r2, r3⟩ := rsv_sim (fnd := fndL O x) (fnd' := fndL O' x) (emb pm) (fun s => Good s O ∧ s.P.length = us.length) (fun s k hI ht => ⟨emb_fnd hO hI.1 (by rw [hI.2]; exact hxU) ht, (fnd_good hI.1 (by rw [hI.2]; exact hxU) k).1, (fnd_good hI.1 (by rw [hI.2]; exact hxU) k).2.trans hI.2⟩) (us[x]'hxU).lines 0 s [] ⟨hg, hl⟩ hr
          have ih := wrd_emb hO (pm := pm) (us := us) (m := m) f (i + 1) _ _ r2 r3 h
          refine ⟨?_, ih.2⟩
          rw [wrd_next hoi' hxP' hxU' (by rw [eP]; exact hmu) (by rw [eU, r1]; exact hr), eU, r1]
          exact ih.1
        · rw [wrd_bad hoi hxP hxU hmu hr] at h; exact absurd h hr
      · rw [wrd_much hoi hxP hxU (by omega)] at h; simp at h
    · rw [wrd_end (s := s) (by omega), wrd_end (s := emb pm s) (by show s.order.length ≤ i; omega)]
      exact ⟨rfl, hg, hl⟩
theorem spt_emb {pm : Pt × Nat} {us : List Un} {m : Un} {s : Ls} {O : Nmd} (hg : Good s O) (hl : s.P.length = us.length) : sptL (us ++ [m]) (emb pm s).P (emb pm s).order = sptL us s.P s.order := by
  show sptL (us ++ [m]) (s.P ++ [pm]) s.order = _
  have ho := hg.ord
  unfold sptL
  generalize s.order = l at *
  clear hg
  induction l with
  | nil => rfl
  | cons n l ih =>
    rw [List.flatMap_cons, List.flatMap_cons, ih (fun i hi => ho i (List.mem_cons_of_mem _ hi))]
    obtain ⟨h0, h1⟩ := ho n List.mem_cons_self
    rw [List.getElem?_append_left (by omega), List.getElem?_append_left (by omega)]
theorem srv_snoc : ∀ (us : List Un) (m : Un) (n : Nat) (s : Sv), (srv (us ++ [m]) n s).2.1 = 0 → (srv us n s).2.1 = 0 ∧ ∃ O', owns m.lines ((n + us.length : Nat) : Int) (srv us n s).1.owners = some O' ∧ (srv (us ++ [m]) n s).1 = ⟨(srv us n s).1.parts ++ [ptOf m], O'⟩
  | [], m, n, s, h => by
    obtain ⟨h1, O, h2, h3⟩ := srv_split h
    exact ⟨rfl, O, h2, congrArg (·.1) h3⟩
  | u :: us, m, n, s, h => by
    obtain ⟨h1, O, h2, h3⟩ := srv_split h
    have h3' : srv (u :: us ++ [m]) n s = srv (us ++ [m]) (n + 1) ⟨s.parts ++ [⟨(plcA u.lines).1, (plcA u.lines).2.1, false, 0⟩], O⟩ := h3
    rw [h3'] at h ⊢
    obtain ⟨h4, O', h5, h6⟩ := srv_snoc us m _ _ h
    rw [srv_next h1 h2]
    refine ⟨h4, O', ?_, h6⟩
    rw [← h5, List.length_cons]
    congr 2
    omega
theorem link_ok {us : List Un} {e : List UInt8} (h : (linkL us e).2.1 = 0) : us.length ≤ 400 ∧ (srv us 0 ⟨[], []⟩).2.1 = 0 ∧ hasA (srv us 0 ⟨[], []⟩).1.owners e = true ∧ (wrdS us (srv us 0 ⟨[], []⟩).1 e).1.2.1 = 0 ∧ linkL us e = imL us (wrdS us (srv us 0 ⟨[], []⟩).1 e) := by
  unfold linkL at h ⊢
  by_cases h1 : us.length ≤ 400
  · rw [if_pos h1] at h ⊢
    by_cases h2 : (srv us 0 ⟨[], []⟩).2.1 = 0
    · rw [if_pos h2] at h ⊢
      by_cases h3 : hasA (srv us 0 ⟨[], []⟩).1.owners e = true
      · rw [if_pos h3] at h ⊢
        refine ⟨h1, h2, h3, ?_, rfl⟩
        unfold imL at h
        by_cases h4 : (wrdS us (srv us 0 ⟨[], []⟩).1 e).1.2.1 = 0
        · exact h4
        · rw [if_neg h4] at h; exact absurd h h4
      · rw [if_neg h3] at h; simp at h
    · rw [if_neg h2] at h; exact absurd h h2
  · rw [if_neg h1] at h; simp at h
theorem link_more (us : List Un) (m : Un) (e : List UInt8) (h : (linkL us e).2.1 = 0) (h' : (linkL (us ++ [m]) e).2.1 = 0) : linkL (us ++ [m]) e = linkL us e := by
  obtain ⟨a1, a2, a3, a4, a5⟩ := link_ok h
  obtain ⟨b1, b2, b3, b4, b5⟩ := link_ok h'
  obtain ⟨_, O', c1, c2⟩ := srv_snoc us m 0 ⟨[], []⟩ b2
  have hO := owns_old _ _ _ _ c1
  obtain ⟨i, hi, d1, _⟩ := srv_new us 0 ⟨[], []⟩ a2 e a3 rfl
  obtain ⟨hg, hl⟩ := srv_good a1 a2 (P := (srv us 0 ⟨[], []⟩).1.parts.map (fun p => (p, 0))) (map_fst0 _)
  have hi' : (atA (srv us 0 ⟨[], []⟩).1.owners e).toNat < ((srv us 0 ⟨[], []⟩).1.parts.map (fun p => (p, 0))).length := by rw [d1]; omega
  have W := wrd_emb hO (pm := (ptOf m, 0)) (us := us) (m := m) 400 0 _ [] (putL_good hg hi') (by rw [putL_len]; exact hl) a4
  have key : wrdS (us ++ [m]) (srv (us ++ [m]) 0 ⟨[], []⟩).1 e = ((wrdS us (srv us 0 ⟨[], []⟩).1 e).1, emb (ptOf m, 0) (wrdS us (srv us 0 ⟨[], []⟩).1 e).2) := by
    have W1 := W.1
    rw [← emb_put hi'] at W1
    unfold wrdS
    rw [c2]
    dsimp only
    rw [(hO e a3).2, List.map_append]
    exact W1
  rw [b5, a5, key]
  have ws : (wrdS us (srv us 0 ⟨[], []⟩).1 e) = wrdL us (srv us 0 ⟨[], []⟩).1.owners 400 0 (putL ⟨(srv us 0 ⟨[], []⟩).1.parts.map (fun p => (p, 0)), [], 0⟩ (atA (srv us 0 ⟨[], []⟩).1.owners e).toNat) [] := rfl
  have W2 : Good (wrdS us (srv us 0 ⟨[], []⟩).1 e).2 (srv us 0 ⟨[], []⟩).1.owners := by rw [ws]; exact W.2.1
  have W3 : (wrdS us (srv us 0 ⟨[], []⟩).1 e).2.P.length = us.length := by rw [ws]; exact W.2.2
  unfold imL
  dsimp only
  rw [if_pos a4, if_pos a4, spt_emb W2 W3]
  rfl
end Go.Proofs.Yticbejfdldehcab
