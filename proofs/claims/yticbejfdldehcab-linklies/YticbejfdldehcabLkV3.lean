/-
  Each label lies where it says.
-/
import Derived.Test.YticbejfdldehcabLkV2
namespace Go.Proofs.Yticbejfdldehcab
open Go.RowKit Go.Maps
set_option linter.unusedSimpArgs false
set_option linter.unusedVariables false

theorem flatMap_same {α β : Type} {f g : α → List β} : ∀ {l : List α}, (∀ a ∈ l, f a = g a) → l.flatMap f = l.flatMap g
  | [], _ => rfl
  | x :: l, h => by rw [List.flatMap_cons, List.flatMap_cons, h x List.mem_cons_self, flatMap_same (fun a ha => h a (List.mem_cons_of_mem _ ha))]
theorem mem_spt1 {l : List Ln} {p : Pt} {x : Ln} (hx : x ∈ l) (hf : fa x.lab = true) : (x.lab, p.start + atA p.A x.lab.toList) ∈ spt1 l p := by
  unfold spt1
  exact List.mem_map.2 ⟨x, List.mem_filter.2 ⟨hx, hf⟩, rfl⟩
theorem spt1_mem {l : List Ln} {p : Pt} {z : ByteArray × Int} (h : z ∈ spt1 l p) : ∃ x ∈ l, fa x.lab = true ∧ x.lab = z.1 := by
  unfold spt1 at h
  obtain ⟨x, hx, rfl⟩ := List.mem_map.1 h
  exact ⟨x, (List.mem_filter.1 hx).1, (List.mem_filter.1 hx).2, rfl⟩
theorem enc_all {l : List Ins} (h : ∀ i ∈ l, wrg i = 0) (hl : (l.flatMap ws).length ≤ 65536) : (encA l).1 = l.flatMap ws := by
  unfold encA
  have h0 := (enc_ok l 0 [] (by simp)).2 ⟨h, by simpa using hl⟩
  rw [enc_words l 0 [] h0]; simp
theorem link_lies {us : List Un} {e : List UInt8} (h : (linkL us e).2.1 = 0) : ∃ O P, LiesF us (linkL us e).1 O P := by
  obtain ⟨a1, a2, a3, a4, a5⟩ := link_ok h
  obtain ⟨i, hi, d1, x0, hx0, hfx0, hxe0⟩ := srv_new us 0 ⟨[], []⟩ a2 e a3 rfl
  obtain ⟨hg, hl⟩ := srv_good a1 a2 (P := (srv us 0 ⟨[], []⟩).1.parts.map (fun p => (p, 0))) (map_fst0 _)
  obtain ⟨hp1, hp2⟩ := srv_parts us 0 ⟨[], []⟩ a2
  have hi' : (atA (srv us 0 ⟨[], []⟩).1.owners e).toNat < ((srv us 0 ⟨[], []⟩).1.parts.map (fun p => (p, 0))).length := by rw [d1]; omega
  have et : ((atA (srv us 0 ⟨[], []⟩).1.owners e).toNat : Int) = atA (srv us 0 ⟨[], []⟩).1.owners e := by omega
  have nd0 : Nd ⟨(srv us 0 ⟨[], []⟩).1.parts.map (fun p => (p, 0)), [], 0⟩ := by
    refine ⟨by simp, fun n hn => ?_⟩
    simp [hp1, ptOf]
  have way0 : Way us (srv us 0 ⟨[], []⟩).1.owners ⟨(srv us 0 ⟨[], []⟩).1.parts.map (fun p => (p, 0)), [], 0⟩ := ⟨hg, hl, nd0, ⟨rfl, fun j hj => by simp at hj⟩⟩
  obtain ⟨n1, n2, n3, n4⟩ := putL_nd nd0 hi'
  have W := wrd_words (us := us) (O := (srv us 0 ⟨[], []⟩).1.owners) 400 0 _ [] (by omega) (way0.put hi') a4
  have V := wrd_nds (us := us) (O := (srv us 0 ⟨[], []⟩).1.owners) (first := atA (srv us 0 ⟨[], []⟩).1.owners e) 400 0 _ [] (by omega) ⟨putL_good hg hi', by rw [putL_len]; exact hl, n1, fun j hj => by
    rcases n4 j hj with hj | hj
    · simp at hj
    · left; rw [hj, et], List.nil_prefix⟩ (fun v hv hm => by simp at hm) a4
  have LT := (putL_ltr ⟨(srv us 0 ⟨[], []⟩).1.parts.map (fun p => (p, 0)), [], 0⟩ (atA (srv us 0 ⟨[], []⟩).1.owners e).toNat).trans W.2.1
  have eR : (linkL us e).1 = ⟨(wrdS us (srv us 0 ⟨[], []⟩).1 e).1.1, (wrdS us (srv us 0 ⟨[], []⟩).1 e).2.order, sptL us (wrdS us (srv us 0 ⟨[], []⟩).1 e).2.P (wrdS us (srv us 0 ⟨[], []⟩).1 e).2.order⟩ := by rw [a5]; unfold imL; rw [if_pos a4]
  have hS : wrdL us (srv us 0 ⟨[], []⟩).1.owners 400 0 (putL ⟨(srv us 0 ⟨[], []⟩).1.parts.map (fun p => (p, 0)), [], 0⟩ (atA (srv us 0 ⟨[], []⟩).1.owners e).toNat) [] = wrdS us (srv us 0 ⟨[], []⟩).1 e := rfl
  rw [hS] at W V LT
  generalize wrdS us (srv us 0 ⟨[], []⟩).1 e = Z at *
  obtain ⟨⟨zs, er, ef⟩, s⟩ := Z
  dsimp only at W V LT eR
  obtain ⟨way, -, -, w4, w5⟩ := W
  obtain ⟨-, dn⟩ := V
  rw [eR]
  have hO : ∀ m : Nat, m < us.length → ∃ p, s.P[m]? = some p ∧ p.1.A = (plcA (uLn us m)).1 ∧ p.1.n = (plcA (uLn us m)).2.1 := fun m hm => by
    have hmP : m < s.P.length := by rw [way.len]; exact hm
    have h0 : ((srv us 0 ⟨[], []⟩).1.parts.map (fun p => (p, 0)))[m]? = some (ptOf (us[m]'hm), 0) := by
      rw [hp1, List.nil_append, List.getElem?_map, List.getElem?_map, List.getElem?_eq_getElem hm]; rfl
    obtain ⟨b1, b2, -⟩ := LT.same m _ _ h0 (List.getElem?_eq_getElem hmP)
    refine ⟨_, List.getElem?_eq_getElem hmP, ?_, ?_⟩
    · rw [b1, uLn_at hm]; rfl
    · rw [b2, uLn_at hm]; rfl
  have hU : ∀ m ∈ s.order, ∃ u : Nat, m = (u : Int) ∧ u < us.length := fun m hm => by
    have := way.good.ord m hm
    exact ⟨m.toNat, by omega, by rw [← way.len]; omega⟩
  have hok : ∀ m : Nat, m < us.length → (plcA (uLn us m)).2.2.1 = 0 := fun m hm => by rw [uLn_at hm]; exact hp2 _ (List.getElem_mem hm)
  have hrt : ∀ m ∈ s.order, ∀ y ∈ uLn us m, wrgL y = 0 := fun m hm => by
    obtain ⟨u, rfl, hu⟩ := hU m hm
    exact (plcA_right (hok u hu)).2
  have hnw : ∀ m ∈ s.order, nOf s.P m = wl (uLn us m) := fun m hm => by
    obtain ⟨u, rfl, hu⟩ := hU m hm
    obtain ⟨p, hp, _, hn⟩ := hO u hu
    unfold nOf
    rw [Int.toNat_natCast, hp]
    dsimp only
    rw [hn, (plcA_words (hok u hu)).1]
  have hst : ∀ (j : Nat) (hj : j < s.order.length) (p : Pt × Nat), s.P[(s.order[j]'hj).toNat]? = some p → p.1.start = sumN s.P (s.order.take j) := way.str.st
  have honce : (spM (sptL us s.P s.order)).Pairwise (fun a b => a.1 ≠ b.1) := by
    unfold spM sptL
    rw [List.pairwise_map, List.pairwise_flatMap]
    refine ⟨fun m hm => ?_, ?_⟩
    · obtain ⟨u, rfl, hu⟩ := hU m hm
      obtain ⟨p, hp, -⟩ := hO u hu
      rw [Int.toNat_natCast, hp, List.getElem?_eq_getElem hu]
      dsimp only
      unfold spt1
      rw [List.pairwise_map]
      have hk := hok u hu
      rw [uLn_at hu] at hk
      have e0 := plcA_ok hk
      rw [e0] at hk
      exact (plc_once _ _ _ _ hk).1
    · refine List.Pairwise.imp_of_mem (fun {a b} ha hb hab => ?_) way.nd.nd
      obtain ⟨u, rfl, hu⟩ := hU a ha
      obtain ⟨v, rfl, hv⟩ := hU b hb
      obtain ⟨p, hp, -⟩ := hO u hu
      obtain ⟨p', hp', -⟩ := hO v hv
      rw [Int.toNat_natCast, Int.toNat_natCast, hp, hp', List.getElem?_eq_getElem hu, List.getElem?_eq_getElem hv]
      dsimp only
      intro z hz z' hz' he
      obtain ⟨x, hx, hf, ex⟩ := spt1_mem hz
      obtain ⟨x', hx', hf', ex'⟩ := spt1_mem hz'
      have q1 := (srv_in us 0 ⟨[], []⟩ a2 u hu x hx hf).2
      have q2 := (srv_in us 0 ⟨[], []⟩ a2 v hv x' hx' hf').2
      rw [ex, he, ← ex', q2] at q1
      omega
  have hmem : ∀ m ∈ s.order, ∀ p, s.P[m.toNat]? = some p → ∀ y ∈ uLn us m, fa y.lab = true → hasA (spM (sptL us s.P s.order)) y.lab.toList = true ∧ atA (spM (sptL us s.P s.order)) y.lab.toList = p.1.start + atA p.1.A y.lab.toList := fun m hm p hp y hy hf => by
    refine atA_of_mem _ _ _ honce ?_
    obtain ⟨u, rfl, hu⟩ := hU m hm
    rw [uLn_at hu] at hy
    unfold spM sptL
    refine List.mem_map.2 ⟨(y.lab, p.1.start + atA p.1.A y.lab.toList), List.mem_flatMap.2 ⟨_, hm, ?_⟩, rfl⟩
    rw [hp, Int.toNat_natCast, List.getElem?_eq_getElem hu]
    exact mem_spt1 hy hf
  have hright : ∀ j ∈ s.order.flatMap (fun m => insL (srv us 0 ⟨[], []⟩).1.owners s.P m.toNat (uLn us m)), wrg j = 0 := fun j hj => by
    obtain ⟨m, hm, hj⟩ := List.mem_flatMap.1 hj
    exact (insL_words (uLn us m) (hrt m hm)).1 j hj
  have hwords : zs = (s.order.flatMap fun m => insL (srv us 0 ⟨[], []⟩).1.owners s.P m.toNat (uLn us m)).flatMap ws := by
    rw [w4, List.nil_append, List.drop_zero, List.flatMap_assoc]
    refine flatMap_same fun m hm => ?_
    obtain ⟨b1, b2⟩ := insL_words (O := (srv us 0 ⟨[], []⟩).1.owners) (P := s.P) (m := m.toNat) (uLn us m) (hrt m hm)
    refine enc_all b1 ?_
    obtain ⟨u, rfl, hu⟩ := hU m hm
    have c1 := (plcA_words (hok u hu)).1
    have c2 := (plcA_in (uLn us u)).2.2
    omega
  have hlen : ∀ l : List Int, (∀ m ∈ l, m ∈ s.order) → (((l.flatMap fun m => insL (srv us 0 ⟨[], []⟩).1.owners s.P m.toNat (uLn us m)).flatMap ws).length : Int) = sumN s.P l := by
    intro l
    induction l with
    | nil => intro _; rfl
    | cons m l ih =>
      intro hm
      have := ih (fun x hx => hm x (List.mem_cons_of_mem _ hx))
      rw [List.flatMap_cons, List.flatMap_append, List.length_append, sumN, hnw m (hm m List.mem_cons_self)]
      have b := (insL_words (O := (srv us 0 ⟨[], []⟩).1.owners) (P := s.P) (m := m.toNat) (uLn us m) (hrt m (hm m List.mem_cons_self))).2
      omega
  have hsum : ∀ (j : Nat) (hj : j < s.order.length), sumN s.P (s.order.take (j + 1)) = sumN s.P (s.order.take j) + wl (uLn us (s.order[j]'hj)) := fun j hj => by
    rw [List.take_add_one, List.getElem?_eq_getElem hj, Option.toList_some, sumN_append, sumN, sumN, hnw _ (List.getElem_mem hj)]; omega
  have hshort : zs.length ≤ 65536 := by
    have h1 := hlen s.order (fun _ h => h)
    rw [← hwords] at h1
    by_cases h0 : s.order.length = 0
    · rw [List.eq_nil_of_length_eq_zero h0] at h1; simp [sumN] at h1; rw [h1]; simp
    · have hj : s.order.length - 1 < s.order.length := by omega
      have h2 := hsum (s.order.length - 1) hj
      rw [show s.order.length - 1 + 1 = s.order.length by omega, List.take_length] at h2
      have hm := List.getElem_mem hj
      obtain ⟨u, hu, hul⟩ := hU _ hm
      obtain ⟨p, hp, _, hn⟩ := hO u hul
      have h3 := (w5 _ (by rw [List.drop_zero]; exact hm)).2 p (by rw [hu, Int.toNat_natCast]; exact hp)
      have h4 := hst _ hj p (by rw [hu, Int.toNat_natCast]; exact hp)
      have h5 := (plcA_words (hok u hul)).1
      rw [hu] at h2
      omega
  refine ⟨(srv us 0 ⟨[], []⟩).1.owners, s.P, hwords, hright, hshort, honce, fun m hm => ?_, hrt, fun j hj q hq hf => ?_, fun j hj y hy hl hr => ⟨fun how => ?_, fun how => ?_⟩, hsum, fun k m => ?_, fun z hz => ?_, fun m hm => ?_, fun j hj => ?_, ?_⟩
  · obtain ⟨u, rfl, hu⟩ := hU m hm; omega
  · dsimp only at hj hq hf ⊢
    have hm := List.getElem_mem hj
    obtain ⟨u, hu, hul⟩ := hU _ hm
    obtain ⟨p, hp, hA, _⟩ := hO u hul
    have hp' : s.P[(s.order[j]'hj).toNat]? = some p := by rw [hu, Int.toNat_natCast]; exact hp
    obtain ⟨c1, c2⟩ := hmem _ hm p hp' _ (List.getElem_mem hq) hf
    refine ⟨c1, ?_⟩
    rw [c2, hst j hj p hp', hA]
    congr 1
    have := (plcA_words (hok u hul)).2 q (by rw [← hu]; exact hq)
    simp only [← hu] at this ⊢
    exact (this (fa_emp hf)).2
  · dsimp only at hj hy ⊢
    have hm := List.getElem_mem hj
    obtain ⟨u, hu, hul⟩ := hU _ hm
    have hne := emp_ne hr
    have hf : faL y.ref.toList = true := by rw [faL_own hne, how]; rfl
    have hy' : y ∈ (us[u]'hul).lines := by rw [← uLn_at hul, ← hu]; exact hy
    obtain ⟨r1, r2⟩ := dn u hul (by rw [List.take_length, ← hu]; exact hm) y hy' hl hr hf
    obtain ⟨v, hv, hvl⟩ := hU _ r2
    obtain ⟨i2, hi2, e2, x, hx, hfx, hxe⟩ := srv_new us 0 ⟨[], []⟩ a2 _ r1 rfl
    have hiv : i2 = v := by omega
    subst hiv
    obtain ⟨p, hp, -⟩ := hO i2 hvl
    obtain ⟨c1, c2⟩ := hmem _ r2 p (by rw [hv, Int.toNat_natCast]; exact hp) x (by rw [hv, uLn_at hvl]; exact hx) hfx
    rw [hxe] at c1 c2
    refine ⟨c1, ?_⟩
    rw [c2]
    unfold plcP
    rw [ownerL_all hf]
    dsimp only
    rw [hv, Int.toNat_natCast, hp]
  · dsimp only at hj hy ⊢
    have hm := List.getElem_mem hj
    obtain ⟨u, hu, hul⟩ := hU _ hm
    obtain ⟨p, hp, hA, _⟩ := hO u hul
    have hp' : s.P[(s.order[j]'hj).toNat]? = some p := by rw [hu, Int.toNat_natCast]; exact hp
    have hne := emp_ne hr
    have hf : faL y.ref.toList = false := by rw [faL_own hne, how]; rfl
    have hown := (w5 _ (by rw [List.drop_zero]; exact hm)).1 y hy hl hr hf p hp'
    have huP : u < s.P.length := by rw [way.len]; exact hul
    have hk := hok u hul
    have ep := plcA_ok hk
    rw [hA, ep] at hown
    rw [ep] at hk
    have key := whr_plc (uLn us u) 0 [] 0 (sumN s.P (s.order.take j)) y.ref.toList hk hown rfl hne
    unfold plcP
    rw [hu, Int.toNat_natCast, ownerL_own hf huP]
    dsimp only
    rw [Int.toNat_natCast, hp]
    dsimp only
    rw [key, hst j hj p hp', hA, ep]; omega
  · unfold plcP
    split
    · rename_i p hp
      have := way.good.pts p (List.mem_of_getElem? hp)
      have h2 := this.2.2.1
      have h3 := this.2.2.2.2 k
      have h4 := this.2.2.2.1
      omega
    · omega
  · dsimp only at hz
    unfold sptL at hz
    obtain ⟨m, hm, hz⟩ := List.mem_flatMap.1 hz
    obtain ⟨u, rfl, hu⟩ := hU m hm
    obtain ⟨p, hp, -⟩ := hO u hu
    rw [Int.toNat_natCast, hp, List.getElem?_eq_getElem hu] at hz
    dsimp only at hz
    unfold spt1 at hz
    obtain ⟨x, hx, rfl⟩ := List.mem_map.1 hz
    obtain ⟨hx1, hx2⟩ := List.mem_filter.1 hx
    have := way.good.pts p (List.mem_of_getElem? hp)
    have h3 := this.2.2.2.2 x.lab.toList
    have hw := hrt _ hm x (by rw [uLn_at hu]; exact hx1)
    have hs := (nm_size (wrgL_lab hw (fa_emp hx2)).1).1
    refine ⟨?_, ?_, hs⟩
    · dsimp only; omega
    · dsimp only; omega
  · obtain ⟨u, rfl, hu⟩ := hU m hm
    exact (plcA_right (hok u hu)).1
  · dsimp only at hj ⊢
    have hmon : ∀ l : List Int, (∀ m ∈ l, m ∈ s.order) → 0 ≤ sumN s.P l := fun l hl => by have := hlen l hl; omega
    have h1 := hmon (s.order.take j) (fun m hm => List.mem_of_mem_take hm)
    have h2 := hmon (s.order.drop j) (fun m hm => List.mem_of_mem_drop hm)
    have h3 := sumN_append s.P (s.order.take j) (s.order.drop j)
    rw [List.take_append_drop] at h3
    have h4 := hlen s.order (fun _ h => h)
    rw [← hwords] at h4
    omega
  · have h4 := hlen s.order (fun _ h => h)
    rw [← hwords] at h4
    exact h4.symm
end Go.Proofs.Yticbejfdldehcab
