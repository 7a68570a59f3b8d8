/-
  LkF, LkG, LkW0.
-/
import Derived.Test.YtlkoidkdeopgjaaGreatDoorkf
import Derived.Test.YtlkoidkdeopgjaaGreatDoorkg
import Derived.Test.YtlkoidkdeopgjaaGreatDooryReg
import Derived.Maps.AppendAt
import Derived.Laws.AppendOwnNone
set_option maxHeartbeats 4000000
set_option maxRecDepth 100000
namespace Go.Proofs.YtlkoidkdeopgjaaGreatDoor
open Go.RowKit Go.Maps
set_option linter.unusedSimpArgs false
set_option linter.unusedVariables false
def cntP (P : List (Pt × Nat)) : Nat := (P.filter fun p => p.1.put).length
theorem cntP_le (P : List (Pt × Nat)) : cntP P ≤ P.length := List.length_filter_le _ _
theorem cntP_set : ∀ (P : List (Pt × Nat)) (i : Nat) (h : i < P.length) (q : Pt × Nat), (P[i]'h).1.put = false → q.1.put = true → cntP (P.set i q) = cntP P + 1
 | [], i, h, _, _, _ => by simp at h
 | x :: P, 0, h, q, h1, h2 => by simp at h1; simp [cntP, h1, h2]
 | x :: P, i + 1, h, q, h1, h2 => by
   have ih := cntP_set P i (by simpa using h) q (by simpa using h1) h2
   unfold cntP at ih ⊢
   rw [List.set_cons_succ, List.filter_cons, List.filter_cons]
   split <;> simp [ih]
structure Good (s : Ls) (O : Nmd) : Prop where
 len : s.P.length ≤ 400
 cnt : s.order.length = cntP s.P
 f0 : 0 ≤ s.fin
 f1 : s.fin ≤ 65536 * s.order.length
 pts : ∀ p ∈ s.P, 0 ≤ p.1.n ∧ p.1.n ≤ 65536 ∧ 0 ≤ p.1.start ∧ p.1.start ≤ 26214400 ∧ ∀ k, 0 ≤ atA p.1.A k ∧ atA p.1.A k ≤ 65536
 own : ∀ k, hasA O k = true → 0 ≤ atA O k ∧ atA O k < s.P.length
 ord : ∀ i ∈ s.order, 0 ≤ i ∧ i < s.P.length
theorem Good.small {s : Ls} {O : Nmd} (h : Good s O) : s.order.length ≤ 400 ∧ s.fin ≤ 26214400 := by
 have a := h.cnt
 have b := cntP_le s.P
 have c := h.len
 have d := h.f1
 omega
theorem putL_len (s : Ls) (n : Nat) : (putL s n).P.length = s.P.length := by
 unfold putL; split
 · split <;> simp
 · rfl
theorem putL_bs (s : Ls) (n : Nat) : (putL s n).P.map (·.2) = s.P.map (·.2) := by
 unfold putL; split
 · rename_i p e
   split
   · rfl
   · have hn : n < s.P.length := (List.getElem?_eq_some_iff.1 e).1
     have hp : s.P[n] = p := (List.getElem?_eq_some_iff.1 e).2
     show (s.P.set n _).map _ = _
     rw [List.map_set]
     apply List.ext_getElem?
     intro i
     by_cases hi : n = i
     · subst hi; rw [List.getElem?_set_self (by simpa using hn), List.getElem?_map, e]; rfl
     · rw [List.getElem?_set_ne hi]
 · rfl
theorem putL_good {s : Ls} {O : Nmd} (h : Good s O) {n : Nat} (hn : n < s.P.length) : Good (putL s n) O := by
 by_cases hp : (s.P[n]'hn).1.put = true
 · rw [putL_yes hn hp]; exact h
 · replace hp : (s.P[n]'hn).1.put = false := by simpa using hp
   rw [putL_no hn hp]
   obtain ⟨sm1, sm2⟩ := h.small
   have hq := h.pts _ (List.getElem_mem hn)
   refine ⟨by simpa using h.len, ?_, ?_, ?_, fun p hp' => ?_, fun k hk => by simpa using h.own k hk, fun i hi => ?_⟩
   · show (s.order ++ [(n : Int)]).length = _
     rw [cntP_set s.P n hn _ hp rfl, List.length_append, h.cnt]; rfl
   · show 0 ≤ s.fin + _; have := h.f0; omega
   · show s.fin + _ ≤ 65536 * ((s.order ++ [(n : Int)]).length : Nat)
     have := h.f1
     rw [List.length_append]; simp; omega
   · rcases List.mem_or_eq_of_mem_set hp' with hp' | rfl
     · exact h.pts p hp'
     · exact ⟨hq.1, hq.2.1, h.f0, sm2, hq.2.2.2.2⟩
   · rcases List.mem_append.1 hi with hi | hi
     · have := h.ord i hi; simp; exact this
     · simp at hi; subst hi; simp; omega
def fndL (O : Nmd) (n : Nat) (s : Ls) (k : List UInt8) : Ls × Int × Bool :=
 if (ownerL O s.P n k).2 = true then
   (putL s (ownerL O s.P n k).1.toNat, (match (putL s (ownerL O s.P n k).1.toNat).P[(ownerL O s.P n k).1.toNat]? with | some p => p.1.start + atA p.1.A k | none => 0), true)
 else (s, 0, false)
theorem ownerL_in {O : Nmd} {s : Ls} {n : Nat} {k : List UInt8} (h : Good s O) (hn : n < s.P.length) (ht : (ownerL O s.P n k).2 = true) : 0 ≤ (ownerL O s.P n k).1 ∧ (ownerL O s.P n k).1 < s.P.length := by
 by_cases hf : faL k = true
 · rw [ownerL_all hf] at ht ⊢; exact h.own k ht
 · rw [ownerL_own (by simpa using hf) hn]; simp; omega
def FInv (c : Lf) (kb nb n : Nat) (bs : List Nat) (s : Ls) (vo : Value) (u : World) : Prop := LkAt c s vo u ∧ Good s c.O ∧ n < s.P.length ∧ s.P.map (·.2) = bs ∧ Box u kb [.pointer (some ⟨c.pk, 0, none⟩)] ∧ Box u nb [.int .i64 n] ∧ vo.ownBlock ≠ some kb ∧ vo.ownBlock ≠ some nb
def FFoot (c : Lf) (kb nb : Nat) (bs : List Nat) (vo : Value) (k : Nat) : Prop := k = c.pk ∨ k = c.ow ∨ c.vp.ownBlock = some k ∨ vo.ownBlock = some k ∨ k ∈ bs ∨ k = kb ∨ k = nb
theorem ffoot_lt {c : Lf} {kb nb n : Nat} {bs : List Nat} (s : Ls) (vo : Value) (u : World) (k : Nat) (h : FInv c kb nb n bs s vo u) (hk : FFoot c kb nb bs vo k) : k < u.heap.size := by
 obtain ⟨⟨hB, hM, hP, hO, _⟩, _, _, hbs, b1, b2, _, _⟩ := h
 rcases hk with rfl | rfl | hk | hk | hk | rfl | rfl
 · exact hB.1
 · exact hM.lt
 · exact (hP.1.lt k hk).2
 · exact (hO.lt k hk).2
 · rw [← hbs] at hk
   obtain ⟨p, hp, rfl⟩ := List.mem_map.1 hk
   exact (hP.2 p hp).1.lt
 · exact b1.1
 · exact b2.1
theorem finv_kpt {c : Lf} {kb nb n : Nat} {bs : List Nat} (s : Ls) (vo : Value) (u u' : World) (h : FInv c kb nb n bs s vo u) (k : Kpt (fun x => ¬ FFoot c kb nb bs vo x) u u') : FInv c kb nb n bs s vo u' := by
 obtain ⟨⟨hB, hM, hP, hO, h1, h2, h3⟩, hg, hn, hbs, b1, b2, h4, h5⟩ := h
 refine ⟨⟨hB.kpt k (fun h => h (.inl rfl)), hM.kpt k (fun h => h (.inr (.inl rfl))), ⟨own_kpt hP.1 k (fun x hx h => h (.inr (.inr (.inl hx)))), fun p hp => ⟨(hP.2 p hp).1.kpt k (fun h => h (.inr (.inr (.inr (.inr (.inl (hbs ▸ List.mem_map_of_mem hp))))))), (hP.2 p hp).2⟩⟩, own_kpt hO k (fun x hx h => h (.inr (.inr (.inr (.inl hx))))), h1, h2, h3⟩, hg, hn, hbs, b1.kpt k (fun h => h (.inr (.inr (.inr (.inr (.inr (.inl rfl))))))), b2.kpt k (fun h => h (.inr (.inr (.inr (.inr (.inr (.inr rfl))))))), h4, h5⟩
theorem finder1_any (c : Lf) (kb nb n : Nat) (bs : List Nat) (hk1 : kb ≠ c.pk) (hk2 : c.vp.ownBlock ≠ some kb) (hn1 : nb ≠ c.pk) (hn2 : c.vp.ownBlock ≠ some nb) (s : Ls) (vo : Value) (u : World) (x : ByteArray) (h : FInv c kb nb n bs s vo u) (hx : nm x = true) :
   Calls Tryz.prog 117 #[.string x, .pointer (some ⟨kb, 0, none⟩), .pointer (some ⟨nb, 0, none⟩)] u fun e u' => e = .returned (.tuple #[.int .i64 (fndL c.O n s x.toList).2.1, .bool (fndL c.O n s x.toList).2.2]) ∧ 0 ≤ (fndL c.O n s x.toList).2.1 ∧ ∃ g', FInv c kb nb n bs (fndL c.O n s x.toList).1 g' u' ∧ Kpt (FFoot c kb nb bs vo) u u' ∧ ∀ k, FFoot c kb nb bs g' k → FFoot c kb nb bs vo k ∨ u.heap.size ≤ k := by
 have HI := zH h
 obtain ⟨hL, hG, hn, hbs, b1, b2, h4, h5⟩ := h
 have hsz : x.size ≤ maxLen := Nat.le_trans (nm_size hx).1 (by unfold maxLen; omega)
 have OA := owner_any c s vo u x n hL hn hsz
 have p1 := b1.2.1 0 _ rfl
 have p2 := b2.2.1 0 _ rfl
 by_cases ht : (ownerL c.O s.P n x.toList).2 = true
 · obtain ⟨o0, o1⟩ := ownerL_in hG hn ht
   have hfn : fndL c.O n s x.toList = (putL s (ownerL c.O s.P n x.toList).1.toNat, (match (putL s (ownerL c.O s.P n x.toList).1.toNat).P[(ownerL c.O s.P n x.toList).1.toNat]? with | some p => p.1.start + atA p.1.A x.toList | none => 0), true) := by unfold fndL; rw [if_pos ht]
   rw [ht] at OA
   obtain ⟨m, hm⟩ : ∃ m : Nat, (ownerL c.O s.P n x.toList).1 = m := ⟨(ownerL c.O s.P n x.toList).1.toNat, by omega⟩
   rw [hm] at OA o0 o1 hfn
   rw [Int.toNat_natCast] at hfn
   have hm1 : m < s.P.length := by omega
   have hm2 : m < (putL s m).P.length := by rw [putL_len]; exact hm1
   rw [List.getElem?_eq_getElem hm2] at hfn
   dsimp only at hfn
   obtain ⟨sm1, sm2⟩ := hG.small
   have hq := hG.pts _ (List.getElem_mem hm1)
   have PA := put_any c s vo u m hL hm1 hG.f0 (by omega) hq.1 hq.2.1 (by omega)
   have hG2 := putL_good hG hm1
   have hq2 := hG2.pts _ (List.getElem_mem hm2)
   have QA := fun vo' u' h => placeL_any c (putL s m) vo' u' x m h hm2 hsz hq2.2.2.1 (by omega) (hq2.2.2.2.2 _).1 (hq2.2.2.2.2 _).2
   have r0 : 0 ≤ ((putL s m).P[m]'hm2).1.start + atA ((putL s m).P[m]'hm2).1.A x.toList := by have := hq2.2.2.1; have := (hq2.2.2.2.2 x.toList).1; omega
   have HG2 := zH hG2
   have hb2 := zH ((putL_bs s m).trans hbs)
   have hn3 : n < (putL s m).P.length := by rw [putL_len]; exact hn
   rw [hfn]
   dsimp only
   generalize ((putL s m).P[m]'hm2).1.start + atA ((putL s m).P[m]'hm2).1.A x.toList = V at *
   generalize putL s m = s' at *
   clear hq hq2 hfn hm hG2 hG hL
   go_enter Tryz.func117, Tryz.ntmps117
   go_wp2_with fail
   refine OA.mono ?_
   rintro e w1 ⟨rfl, hw⟩
   subst w1
   go_wp2_with fail
   refine PA.mono ?_
   rintro e w2 ⟨rfl, vo', l2, k2, f2⟩
   have B1 := b1.kpt k2 (fun h => by rcases h with h | h | h; exact hk1 h; exact hk2 h; exact h4 h)
   have B2 := b2.kpt k2 (fun h => by rcases h with h | h | h; exact hn1 h; exact hn2 h; exact h5 h)
   have n4 : vo'.ownBlock ≠ some kb := fun h => by rcases f2 _ h with h | h; exact h4 h; have := b1.1; omega
   have n5 : vo'.ownBlock ≠ some nb := fun h => by rcases f2 _ h with h | h; exact h5 h; have := b2.1; omega
   have F2 : Hid (FInv c kb nb n bs s' vo' w2) := ⟨l2, uI HG2, hn3, uI hb2, B1, B2, n4, n5⟩
   have K2 : Hid (Kpt (FFoot c kb nb bs vo) u w2) := k2.mono (fun k hk => by rcases hk with h | h | h; exact .inl h; exact .inr (.inr (.inl h)); exact .inr (.inr (.inr (.inl h))))
   have E2 : Hid (∀ k, FFoot c kb nb bs vo' k → FFoot c kb nb bs vo k ∨ u.heap.size ≤ k) := fun k hk => by
     rcases hk with h | h | h | h | h | h | h
     · exact .inl (.inl h)
     · exact .inl (.inr (.inl h))
     · exact .inl (.inr (.inr (.inl h)))
     · rcases f2 k h with h | h
       · exact .inl (.inr (.inr (.inr (.inl h))))
       · exact .inr h
     · exact .inl (.inr (.inr (.inr (.inr (.inl h)))))
     · exact .inl (.inr (.inr (.inr (.inr (.inr (.inl h))))))
     · exact .inl (.inr (.inr (.inr (.inr (.inr (.inr h))))))
   have QB := QA vo' w2 l2
   have q1 := B1.2.1 0 _ rfl
   clear l2 k2 f2 B1 B2 n4 n5 QA PA OA p1 p2
   go_wp2_with fail
   refine QB.mono ?_
   rintro e w3 ⟨rfl, q, rfl⟩
   have F3 := zH (finv_kpt s' vo' w2 (w2.drewN q) (uI F2) ((Kpt.refl _ _).drewN q))
   have K3 := zH ((uI K2).drewN q)
   go_wp2_with fail
   go_ret2
   exact ⟨rfl, r0, vo', uI F3, uI K3, uI E2⟩
 · replace ht : (ownerL c.O s.P n x.toList).2 = false := by simpa using ht
   have hfn : fndL c.O n s x.toList = (s, 0, false) := by unfold fndL; rw [if_neg (by simp [ht])]
   rw [hfn]
   rw [ht] at OA
   clear hfn hL hG
   go_enter Tryz.func117, Tryz.ntmps117
   go_wp2_with fail
   refine OA.mono ?_
   rintro e w1 ⟨rfl, hw⟩
   subst w1
   go_wp2_with fail
   go_ret2
   exact ⟨rfl, Int.le_refl _, vo, uI HI, Kpt.refl _ _, fun k hk => .inl hk⟩
end Go.Proofs.YtlkoidkdeopgjaaGreatDoor
namespace Go.Proofs.YtlkoidkdeopgjaaGreatDoor
open Go.RowKit Go.Maps
set_option linter.unusedSimpArgs false
set_option linter.unusedVariables false
theorem finder_any (pk n : Nat) (w : World) : Calls Tryz.prog 84 #[.pointer (some ⟨pk, 0, none⟩), .int .i64 n] w fun e w' => e = .returned (.func (.func 117) #[] #[.pointer (some ⟨w.heap.size, 0, none⟩), .pointer (some ⟨w.heap.size + 1, 0, none⟩)]) ∧ w' = (w.alloc (.cells #[.pointer (some ⟨pk, 0, none⟩)] 102)).alloc (.cells #[.int .i64 n] 3) := by
 go_enter Tryz.func84, Tryz.ntmps84
 go_wp2_with fail
 go_ret
 exact ⟨rfl, rfl⟩
end Go.Proofs.YtlkoidkdeopgjaaGreatDoor
namespace Go.Proofs.YtlkoidkdeopgjaaGreatDoor
open Go.RowKit Go.Maps
set_option linter.unusedSimpArgs false
set_option linter.unusedVariables false
def wrdL (us : List Un) (O : Nmd) : Nat → Nat → Ls → List Int → (List Int × Int × Int) × Ls
 | 0, _, s, out => ((out, 0, 0), s)
 | f + 1, i, s, out =>
   match s.order[i]? with
   | none => ((out, 0, 0), s)
   | some m =>
     match s.P[m.toNat]?, us[m.toNat]? with
     | some p, some u =>
       if p.1.start + p.1.n ≤ 65536 then
         (if (rsv (fndL O m.toNat) u.lines 0 s []).1.2.1 = 0 then wrdL us O f (i + 1) (rsv (fndL O m.toNat) u.lines 0 s []).2 (out ++ (encA (rsv (fndL O m.toNat) u.lines 0 s []).1.1).1)
         else (([], (rsv (fndL O m.toNat) u.lines 0 s []).1.2.1, m), (rsv (fndL O m.toNat) u.lines 0 s []).2))
       else (([], 4, m), s)
     | _, _ => ((out, 0, 0), s)
section
variable {us : List Un} {O : Nmd} {f i m : Nat} {s : Ls} {out : List Int}
theorem wrd_end (h : s.order.length ≤ i) : wrdL us O f i s out = ((out, 0, 0), s) := by
 cases f with
 | zero => rfl
 | succ f => rw [wrdL, List.getElem?_eq_none h]
theorem wrd_much (hi : s.order[i]? = some (m : Int)) (hp : m < s.P.length) (hu : m < us.length) (h : 65536 < (s.P[m]'hp).1.start + (s.P[m]'hp).1.n) : wrdL us O (f + 1) i s out = (([], 4, (m : Int)), s) := by
 rw [wrdL, hi]
 simp only [Int.toNat_natCast]
 rw [List.getElem?_eq_getElem hp, List.getElem?_eq_getElem hu]
 dsimp only
 rw [if_neg (by omega)]
theorem wrd_bad (hi : s.order[i]? = some (m : Int)) (hp : m < s.P.length) (hu : m < us.length) (h : (s.P[m]'hp).1.start + (s.P[m]'hp).1.n ≤ 65536) (hr : (rsv (fndL O m) (us[m]'hu).lines 0 s []).1.2.1 ≠ 0) : wrdL us O (f + 1) i s out = (([], (rsv (fndL O m) (us[m]'hu).lines 0 s []).1.2.1, (m : Int)), (rsv (fndL O m) (us[m]'hu).lines 0 s []).2) := by
 rw [wrdL, hi]
 simp only [Int.toNat_natCast]
 rw [List.getElem?_eq_getElem hp, List.getElem?_eq_getElem hu]
 dsimp only
 rw [if_pos h, if_neg hr]
theorem wrd_next (hi : s.order[i]? = some (m : Int)) (hp : m < s.P.length) (hu : m < us.length) (h : (s.P[m]'hp).1.start + (s.P[m]'hp).1.n ≤ 65536) (hr : (rsv (fndL O m) (us[m]'hu).lines 0 s []).1.2.1 = 0) : wrdL us O (f + 1) i s out = wrdL us O f (i + 1) (rsv (fndL O m) (us[m]'hu).lines 0 s []).2 (out ++ (encA (rsv (fndL O m) (us[m]'hu).lines 0 s []).1.1).1) := by
 rw [wrdL, hi]
 simp only [Int.toNat_natCast]
 rw [List.getElem?_eq_getElem hp, List.getElem?_eq_getElem hu]
 dsimp only
 rw [if_pos h, if_pos hr]
end
theorem append_lies_at {P : Program} {w : World} {ops : Array Oper} {rest : List Oper} {o : Oper} {a : Act} {Q : Exit → Act → World → Prop} (hgd : o.guard = none) (s x : Operand) (t : TypeId)
   (ho : o.op = .call { callee := .builtin .append, args := #[s, x], argTypes := #[t, t] })
   (base : Nat) (e : TypeId) (i : TypeInfo) (z : Value) (size bytes : Nat) (ht : P.underlying t = some (.slice e)) (hi : P.info? e = some i) (hz : i.zero = some z)
   (hsize : i.size = size) (hby : i.bytes = bytes) (hzs : z.cells.size = size) (hsz : 0 < size)
   (v : Value) (n : Nat) (xs : List Value) (hs : a.eval s = v) (hown : w.ownsRow base e size v n xs)
   (vx : Value) (m : Nat) (news : List Value) (hx : a.eval x = vx) (hl : Lies w size vx m news) (h1 : ∀ u ∈ news, u.oneCell' = true)
   (h63 : n + m ≤ maxLen) (hbytes : (n + m) * bytes ≤ 140737488355328) (hbase : base ≤ w.heap.size)
   (h : ∀ v' w', w'.ownsRow base e size v' (n + m) (xs ++ news) → w.grownBy w' v.ownBlock → (v'.ownBlock = v.ownBlock ∨ v'.ownBlock = some w.heap.size) → wpList P ops Q rest (a.put o.dst v') w') : wpList P ops Q (o :: rest) a w := by
 rcases hl.src with ⟨rfl, rfl, rfl⟩ | ⟨ad, cap, rfl, hlen, hc⟩
 · exact wpList_append_own_none hgd s x t ho base e i size ht hi v n xs hs hown hx (h v w (by simpa using hown) (World.grownBy.refl _ _) (.inl rfl))
 · exact wpList_append_own_at w hgd s x t ho base e i z size bytes ht hi hz hsize hby hzs hsz v n xs hs hown ad m cap news hx hlen hc h1 h63 hbytes hbase fun v' w' k1 k2 _ k4 => h v' w' k1 k2 k4
structure MetW (c : Lf) (bs : List Nat) (B0 : Nat) (w : World) (vo : Value) (R : (List Ins × Int × Nat) × Ls) (vi vo' : Value) (fb : Nat) (W : World) : Prop where
 ins : Inss W vi R.1.1
 lk : LkAt c R.2 vo' W
 good : Good R.2 c.O
 bsn : R.2.P.map (·.2) = bs
 kpt : Kpt (FFoot c c.pk c.pk bs vo) w W
 foot : ∀ k, FFoot c c.pk c.pk bs vo' k → FFoot c c.pk c.pk bs vo k ∨ w.heap.size ≤ k
 box : Box W fb [.int .i64 0, .int .i64 0]
 fb0 : w.heap.size ≤ fb
 fbn : ¬ FFoot c c.pk c.pk bs vo' fb
 fbi : ∀ k, vi.ownBlock = some k → R.1.1 ≠ [] → k ≠ fb
end Go.Proofs.YtlkoidkdeopgjaaGreatDoor
