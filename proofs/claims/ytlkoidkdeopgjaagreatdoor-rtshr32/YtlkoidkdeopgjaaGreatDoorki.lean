/-
  LkW1, LkW.
-/
import Derived.Test.YtlkoidkdeopgjaaGreatDoorkh
set_option maxHeartbeats 4000000
set_option maxRecDepth 100000
namespace Go.Proofs.YtlkoidkdeopgjaaGreatDoor
open Go.RowKit Go.Maps
set_option linter.unusedSimpArgs false
set_option linter.unusedVariables false
def ResRet (c : Lf) (bs : List Nat) (vo : Value) (KB : Nat) (U : World) (R : (List Ins × Int × Nat) × Ls) (e : Ending) (U' : World) : Prop :=
 ∃ vi gh, e = .returned (.tuple #[vi, .agg #[.int .i64 R.1.2.1, .int .i64 R.1.2.2]]) ∧ Inss U' vi R.1.1 ∧ (∀ k, vi.ownBlock = some k → U.heap.size ≤ k ∧ ¬ FFoot c c.pk c.pk bs gh k) ∧ LkAt c R.2 gh U' ∧ Good R.2 c.O ∧ R.2.P.map (·.2) = bs ∧ Kpt (fun k => FFoot c c.pk c.pk bs vo k ∨ k = KB ∨ k = KB + 1) U U' ∧ ∀ k, FFoot c c.pk c.pk bs gh k → FFoot c c.pk c.pk bs vo k ∨ U.heap.size ≤ k ∨ k = KB ∨ k = KB + 1
theorem foot_in {c : Lf} {KB NB : Nat} {bs : List Nat} {vo : Value} {k : Nat} (h : FFoot c c.pk c.pk bs vo k) : FFoot c KB NB bs vo k := by
 rcases h with h | h | h | h | h | h | h
 · exact .inl h
 · exact .inr (.inl h)
 · exact .inr (.inr (.inl h))
 · exact .inr (.inr (.inr (.inl h)))
 · exact .inr (.inr (.inr (.inr (.inl h))))
 · exact .inl h
 · exact .inl h
theorem foot_out {c : Lf} {KB NB : Nat} {bs : List Nat} {vo : Value} {k : Nat} (h : FFoot c KB NB bs vo k) : FFoot c c.pk c.pk bs vo k ∨ k = KB ∨ k = NB := by
 rcases h with h | h | h | h | h | h | h
 · exact .inl (.inl h)
 · exact .inl (.inr (.inl h))
 · exact .inl (.inr (.inr (.inl h)))
 · exact .inl (.inr (.inr (.inr (.inl h))))
 · exact .inl (.inr (.inr (.inr (.inr (.inl h)))))
 · exact .inr (.inl h)
 · exact .inr (.inr h)
theorem resolve_at (c : Lf) (bs : List Nat) (m KB : Nat) (s : Ls) (vo : Value) (U : World) (lines : List Ln) (v : Value) (hL : LkAt c s vo U) (hG : Good s c.O) (hm : m < s.P.length) (hbs : s.P.map (·.2) = bs) (b1 : Box U KB [.pointer (some ⟨c.pk, 0, none⟩)]) (b2 : Box U (KB + 1) [.int .i64 m]) (n1 : ¬ FFoot c c.pk c.pk bs vo KB) (n2 : ¬ FFoot c c.pk c.pk bs vo (KB + 1))
   (hl : Lns U v lines) (hr : ∀ x ∈ lines, wrgL x = 0) (hmuch : lines.length ≤ 40000) (hv : ∀ b, v.ownBlock = some b → lines ≠ [] → ¬ FFoot c c.pk c.pk bs vo b ∧ b ≠ KB ∧ b ≠ KB + 1) :
   Calls Tryz.prog 83 #[v, .func (.func 117) #[] #[.pointer (some ⟨KB, 0, none⟩), .pointer (some ⟨KB + 1, 0, none⟩)]] U fun e U' => ResRet c bs vo KB U (rsv (fndL c.O m) lines 0 s []) e U' := by
 have FI : FInv c KB (KB + 1) m bs s vo U := ⟨hL, hG, hm, hbs, b1, b2, fun h => n1 (.inr (.inr (.inr (.inl h)))), fun h => n2 (.inr (.inr (.inr (.inl h))))⟩
 have RA := resolveL_any (FInv c KB (KB + 1) m bs) (FFoot c KB (KB + 1) bs) (fndL c.O m) KB (KB + 1) ffoot_lt finv_kpt (fun s g u x h hn => finder1_any c KB (KB + 1) m bs (fun h => n1 (.inl h)) (fun h => n1 (.inr (.inr (.inl h)))) (fun h => n2 (.inl h)) (fun h => n2 (.inr (.inr (.inl h)))) s g u x h hn) lines v U s vo hl hr hmuch FI (fun b hb hne hx => by
   obtain ⟨h1, h2, h3⟩ := hv b hb hne
   rcases foot_out hx with h | h | h
   · exact h1 h
   · exact h2 h
   · exact h3 h)
 refine RA.mono ?_
 rintro e U' ⟨vi, gh, he, i4, o4, j4, k4, f4⟩
 refine ⟨vi, gh, he, i4, fun k hk => ⟨(o4 k hk).1, fun h => (o4 k hk).2 (foot_in h)⟩, j4.1, j4.2.1, j4.2.2.2.1, k4.mono (fun k h => foot_out h), fun k hk => ?_⟩
 rcases f4 k (foot_in hk) with h | h
 · rcases foot_out h with h | h | h
   · exact .inl h
   · exact .inr (.inr (.inl h))
   · exact .inr (.inr (.inr h))
 · exact .inr (.inl h)
theorem lk_kpt1 {c : Lf} {bs : List Nat} {s : Ls} {vo : Value} {u u' : World} (h : LkAt c s vo u) (hbs : s.P.map (·.2) = bs) (k : Kpt (fun x => ¬ FFoot c c.pk c.pk bs vo x) u u') : LkAt c s vo u' := by
 obtain ⟨hB, hM, hP, hO, h1, h2, h3⟩ := h
 exact ⟨hB.kpt k (fun h => h (.inl rfl)), hM.kpt k (fun h => h (.inr (.inl rfl))), ⟨own_kpt hP.1 k (fun x hx h => h (.inr (.inr (.inl hx)))), fun p hp => ⟨(hP.2 p hp).1.kpt k (fun h => h (.inr (.inr (.inr (.inr (.inl (hbs ▸ List.mem_map_of_mem hp))))))), (hP.2 p hp).2⟩⟩, own_kpt hO k (fun x hx h => h (.inr (.inr (.inr (.inl hx))))), h1, h2, h3⟩
theorem lk_lt1 {c : Lf} {bs : List Nat} {s : Ls} {vo : Value} {u : World} {k : Nat} (h : LkAt c s vo u) (hbs : s.P.map (·.2) = bs) (hk : FFoot c c.pk c.pk bs vo k) : k < u.heap.size := by
 obtain ⟨hB, hM, hP, hO, _⟩ := h
 rcases hk with rfl | rfl | hk | hk | hk | rfl | rfl
 · exact hB.1
 · exact hM.lt
 · exact (hP.1.lt k hk).2
 · exact (hO.lt k hk).2
 · rw [← hbs] at hk
   obtain ⟨p, hp, rfl⟩ := List.mem_map.1 hk
   exact (hP.2 p hp).1.lt
 · exact hB.1
 · exact hB.1
theorem inss_lt {w : World} {v : Value} {l : List Ins} (h : Inss w v l) (hne : l ≠ []) {k : Nat} (hk : v.ownBlock = some k) : k < w.heap.size := by
 obtain ⟨ao, cap, rfl, -, h2⟩ := h.at
 obtain ⟨b, o, rfl, h3, -⟩ := h2 hne
 obtain rfl : b = k := Option.some.inj hk
 exact h3
section
variable {c : Lf} {bs : List Nat} {vo gh vi : Value} {KB fb : Nat} {V0 U w4 : World} {R : (List Ins × Int × Nat) × Ls}
theorem met_late (kU : Kpt (fun _ => False) V0 U) (hKB : V0.heap.size ≤ KB) (i4 : Inss w4 vi R.1.1) (l4 : LkAt c R.2 gh w4) (g4 : Good R.2 c.O) (s4 : R.2.P.map (·.2) = bs) (k4 : Kpt (fun k => FFoot c c.pk c.pk bs vo k ∨ k = KB ∨ k = KB + 1) U w4) (f4 : ∀ k, FFoot c c.pk c.pk bs gh k → FFoot c c.pk c.pk bs vo k ∨ U.heap.size ≤ k ∨ k = KB ∨ k = KB + 1) :
    MetW c bs 0 V0 vo R vi gh w4.heap.size (w4.alloc (.cells #[.int .i64 0, .int .i64 0] 83)) := by
  have sU := kU.size
  have s2 := k4.size
  exact { ins := i4.step (below_a _ _), lk := lk_kpt1 l4 s4 (Kpt.of (below_a _ _)), good := g4, bsn := s4
          kpt := (kU.trans k4 (Z := FFoot c c.pk c.pk bs vo) (fun _ h => h.elim) (fun k hk h => by rcases hk with h1 | h1 | h1; exact h1; omega; omega)).trans (Kpt.of (X := fun _ => False) (below_a _ _)) (fun _ h => h) (fun _ h _ => h.elim)
          foot := fun k hk => by rcases f4 k hk with h | h | h | h; exact .inl h; right; omega; right; omega; right; omega
          box := Box.new _ _ _, fb0 := by omega
          fbn := fun h => by have := lk_lt1 l4 s4 h; omega
          fbi := fun k hk hne e => by have := inss_lt i4 hne hk; omega }
theorem met_early (kU : Kpt (fun _ => False) V0 U) (hKB : V0.heap.size ≤ KB) (hfb0 : V0.heap.size ≤ fb) (hfb1 : fb < U.heap.size) (hfn1 : fb ≠ KB) (hfn2 : fb ≠ KB + 1) (hfv : ¬ FFoot c c.pk c.pk bs vo fb) (bU : Box U fb [.int .i64 0, .int .i64 0]) (i4 : Inss w4 vi R.1.1) (o4 : ∀ k, vi.ownBlock = some k → U.heap.size ≤ k) (l4 : LkAt c R.2 gh w4) (g4 : Good R.2 c.O) (s4 : R.2.P.map (·.2) = bs) (k4 : Kpt (fun k => FFoot c c.pk c.pk bs vo k ∨ k = KB ∨ k = KB + 1) U w4) (f4 : ∀ k, FFoot c c.pk c.pk bs gh k → FFoot c c.pk c.pk bs vo k ∨ U.heap.size ≤ k ∨ k = KB ∨ k = KB + 1) :
    MetW c bs 0 V0 vo R vi gh fb w4 := by
  have sU := kU.size
  exact { ins := i4, lk := l4, good := g4, bsn := s4
          kpt := kU.trans k4 (Z := FFoot c c.pk c.pk bs vo) (fun _ h => h.elim) (fun k hk h => by rcases hk with h1 | h1 | h1; exact h1; omega; omega)
          foot := fun k hk => by rcases f4 k hk with h | h | h | h; exact .inl h; right; omega; right; omega; right; omega
          box := bU.kpt k4 (fun h => by rcases h with h | h | h; exact hfv h; exact hfn1 h; exact hfn2 h)
          fb0 := hfb0
          fbn := fun h => by rcases f4 _ h with h | h | h | h; exact hfv h; omega; exact hfn1 h; exact hfn2 h
          fbi := fun k hk _ e => by have := o4 k hk; omega }
end
end Go.Proofs.YtlkoidkdeopgjaaGreatDoor
namespace Go.Proofs.YtlkoidkdeopgjaaGreatDoor
open Go.RowKit Go.Maps
set_option linter.unusedSimpArgs false
set_option linter.unusedVariables false
def WrdRet (c : Lf) (bs : List Nat) (w : World) (vo : Value) (R : (List Int × Int × Int) × Ls) (e : Ending) (w' : World) : Prop :=
 ∃ vr vo', e = .returned (.tuple #[vr, .agg #[.int .i64 R.1.2.1, .int .i64 R.1.2.2]]) ∧ Ints w' vr R.1.1 ∧ (∀ k, vr.ownBlock = some k → w.heap.size ≤ k ∧ ¬ FFoot c c.pk c.pk bs vo' k) ∧ LkAt c R.2 vo' w' ∧ Good R.2 c.O ∧ R.2.P.map (·.2) = bs ∧ Kpt (FFoot c c.pk c.pk bs vo) w w' ∧ ∀ k, FFoot c c.pk c.pk bs vo' k → FFoot c c.pk c.pk bs vo k ∨ w.heap.size ≤ k
theorem Kpt.set2 (w : World) (c : Nat) (a b : Value) : Kpt (fun k => k = c) w ((w.setCell ⟨c, 0, none⟩ a).setCell ⟨c, 1, none⟩ b) := (Kpt.setCell (X := fun k => k = c) _ _ rfl).trans (Kpt.setCell (X := fun k => k = c) _ _ rfl) (fun _ h => h) (fun _ h _ => h)
theorem reg_meet5 {G R : Value → Value → Value → Nat → World → Prop} {p : Prop} (h1 : (∀ vc vo vm g W, R vc vo vm g W → G vc vo vm g W) → p) (h2 : ∀ vc vo vm g W, R vc vo vm g W → G vc vo vm g W) : p := h1 h2
theorem enc_len6 : ∀ (l : List Ins) (k : Nat) (acc : List Int), acc.length ≤ 65536 → (enc l k acc).1.length ≤ 65536
 | [], k, acc, h => by rw [enc_nil]; exact h
 | i :: l, k, acc, h => by
   by_cases a : wrg i = 0
   · by_cases b : (acc ++ ws i).length ≤ 65536
     · rw [enc_next a b]; exact enc_len6 l (k + 1) _ b
     · rw [enc_much a (by omega)]; simp
   · rw [enc_bad a]; simp
theorem lies_kpt {X : Nat → Prop} {w w' : World} {s n : Nat} {v : Value} {cs : List Value} (h : Lies w s v n cs) (k : Kpt X w w') (hx : ∀ b, v.ownBlock = some b → n ≠ 0 → ¬ X b) : Lies w' s v n cs := by
 obtain ⟨h1, ao, cap, rfl, h3, h4, h6, h5⟩ := h
 refine ⟨h1, ao, cap, rfl, h3, h4, h6, fun hn => ?_⟩
 obtain ⟨b, off, rfl, hb, hc⟩ := h5 hn
 exact ⟨b, off, rfl, Nat.lt_of_lt_of_le hb k.size, fun j hj => by rw [k.cell hb (hx b rfl hn)]; exact hc j hj⟩
theorem lk_kpt {c : Lf} {bs : List Nat} {s : Ls} {vo : Value} {u u' : World} (h : LkAt c s vo u) (hbs : s.P.map (·.2) = bs) (k : Kpt (fun x => ¬ FFoot c c.pk c.pk bs vo x) u u') : LkAt c s vo u' := by
 obtain ⟨hB, hM, hP, hO, h1, h2, h3⟩ := h
 exact ⟨hB.kpt k (fun h => h (.inl rfl)), hM.kpt k (fun h => h (.inr (.inl rfl))), ⟨own_kpt hP.1 k (fun x hx h => h (.inr (.inr (.inl hx)))), fun p hp => ⟨(hP.2 p hp).1.kpt k (fun h => h (.inr (.inr (.inr (.inr (.inl (hbs ▸ List.mem_map_of_mem hp))))))), (hP.2 p hp).2⟩⟩, own_kpt hO k (fun x hx h => h (.inr (.inr (.inr (.inl hx))))), h1, h2, h3⟩
theorem lk_lt {c : Lf} {bs : List Nat} {s : Ls} {vo : Value} {u : World} {k : Nat} (h : LkAt c s vo u) (hbs : s.P.map (·.2) = bs) (hk : FFoot c c.pk c.pk bs vo k) : k < u.heap.size := by
 obtain ⟨hB, hM, hP, hO, _⟩ := h
 rcases hk with rfl | rfl | hk | hk | hk | rfl | rfl
 · exact hB.1
 · exact hM.lt
 · exact (hP.1.lt k hk).2
 · exact (hO.lt k hk).2
 · rw [← hbs] at hk
   obtain ⟨p, hp, rfl⟩ := List.mem_map.1 hk
   exact (hP.2 p hp).1.lt
 · exact hB.1
 · exact hB.1
theorem words_anyL (c : Lf) (bs : List Nat) (w0 : World) (us : List Un) (hU : Uns w0 c.vu us) (w : World) (hbw : Below w0.heap.size w0 w) (s0 : Ls) (vo0 : Value) (n0 : Nat) (hlk : LkAt c s0 vo0 w) (hg0 : Good s0 c.O) (hbs : s0.P.map (·.2) = bs) (hul : us.length = s0.P.length) (hn0 : n0 < s0.P.length) (hor : s0.order = []) (hrt : ∀ u ∈ us, u.lines.length ≤ 40000 ∧ ∀ x ∈ u.lines, wrgL x = 0) (hft : ∀ k, FFoot c c.pk c.pk bs vo0 k → w0.heap.size ≤ k) :
   Calls Tryz.prog 63 #[.pointer (some ⟨c.pk, 0, none⟩), .int .i64 n0] w fun e w' => WrdRet c bs w vo0 (wrdL us c.O 400 0 (putL s0 n0) []) e w' := by
 obtain ⟨i0, hi0, hz0, hz1, hz2⟩ := info_parts Tryz.infoInt
 have F00 := zH (Box.new w #[.int .i64 0, .int .i64 0] 83)
 have KA0 := zH (below_a w (.cells #[.int .i64 0, .int .i64 0] 83))
 have nf0 : ¬ FFoot c c.pk c.pk bs vo0 w.heap.size := fun h => by have := lk_lt hlk hbs h; omega
 have L0 := zH (lk_kpt hlk hbs (Kpt.of (uI KA0)))
 obtain ⟨sm1, sm2⟩ := hg0.small
 have hq := hg0.pts _ (List.getElem_mem hn0)
 have PA := put_any c s0 vo0 _ n0 (uI L0) hn0 hg0.f0 (by omega) hq.1 hq.2.1 (by omega)
 have hG1 := putL_good hg0 hn0
 have hb1 := (putL_bs s0 n0).trans hbs
 have hl1 := putL_len s0 n0
 generalize putL s0 n0 = s1 at *
 generalize hR : wrdL us c.O 400 0 s1 [] = R
 have HR := zH hR
 clear hR hq L0
 go_enter Tryz.func63, Tryz.ntmps63
 go_wp2_with fail
 refine PA.mono ?_
 rintro e w1 ⟨rfl, vo1, l1, k1, f1⟩
 have px : ∀ k, PutX c vo0 k → FFoot c c.pk c.pk bs vo0 k := fun k hk => by
   rcases hk with h | h | h
   · exact .inl h
   · exact .inr (.inr (.inl h))
   · exact .inr (.inr (.inr (.inl h)))
 have FE1 : Hid (∀ k, FFoot c c.pk c.pk bs vo1 k → FFoot c c.pk c.pk bs vo0 k ∨ w.heap.size + 1 ≤ k) := fun k hk => by
   rcases hk with h | h | h | h | h | h | h
   · exact .inl (.inl h)
   · exact .inl (.inr (.inl h))
   · exact .inl (.inr (.inr (.inl h)))
   · rcases f1 k h with h | h
     · exact .inl (.inr (.inr (.inr (.inl h))))
     · right; simpa using h
   · exact .inl (.inr (.inr (.inr (.inr (.inl h)))))
   · exact .inl (.inl h)
   · exact .inl (.inl h)
 have F1 := zH ((uI F00).kpt (k1.mono px) nf0)
 have KW1 := zH ((Kpt.of (X := FFoot c c.pk c.pk bs vo0) (uI KA0)).trans (k1.mono px) (Z := FFoot c c.pk c.pk bs vo0) (fun _ h => h) (fun _ h _ => h))
 have L1 := zH l1
 clear l1 k1 f1 PA F00 KA0
 go_wp2_with fail
 go_loopg [6, 7] 400 (fun g vr ii wr => ∃ (i : Nat) (s : Ls) (vo : Value) (out : List Int), i ≤ 400 ∧ g = 400 - i ∧ ii = .int .i64 i ∧ out.length ≤ 65536 * i ∧ s.P.length = s0.P.length ∧ Hid (wr.ownsRow (w.heap.size + 1) 3 1 vr out.length (out.map int1)) ∧ Hid (∀ k, vr.ownBlock = some k → ¬ FFoot c c.pk c.pk bs vo k) ∧ Hid (LkAt c s vo wr) ∧ Hid (Good s c.O) ∧ Hid (s.P.map (·.2) = bs) ∧ Hid (Box wr w.heap.size [.int .i64 0, .int .i64 0]) ∧ Hid (Kpt (FFoot c c.pk c.pk bs vo0) w wr) ∧ Hid (∀ k, FFoot c c.pk c.pk bs vo k → FFoot c c.pk c.pk bs vo0 k ∨ w.heap.size + 1 ≤ k) ∧ Hid (wrdL us c.O (400 - i) i s out = R))
 case atStart => exact ⟨0, s1, vo1, [], by decide, rfl, rfl, by simp, hl1, World.ownsRow_nil _ _ _ _, (fun k h => by cases h), L1, hG1, hb1, F1, KW1, FE1, HR⟩
 case round =>
   obtain ⟨i, s, vo, out, hi4, hg, rfl, hol, hsl, HOut, HOn, HL, HG, HBS, HFB, HKW, HFE, HE⟩ := hrel
   clear L1 F1 KW1 FE1 HR hG1 hb1 hl1 s1 vo1
   obtain ⟨⟨lB, lM, lP, lO, -, -, -⟩, gd⟩ := And.intro (uI HL) (uI HG)
   have b0 := lB.2.1 0 _ rfl
   have b1 := lB.2.1 1 _ rfl
   have b3 := lB.2.1 3 _ rfl
   obtain ⟨oo, oc, hvo⟩ := own_slice lO
   rw [hvo] at b3
   obtain ⟨s4, s5⟩ := gd.small
   have hfw := (uI HFB).1
   by_cases hlt : i < s.order.length
   · have OI : Ints wr vo s.order := Lies.owned lO
     rw [hvo] at OI
     obtain ⟨ao', cap', he', -, hoat⟩ := OI.at
     injection he' with he1 he2 he3
     subst he1
     obtain ⟨ob, oof, rfl, hobl, hocell⟩ := hoat (by intro h; rw [h] at hlt; simp at hlt)
     have co := hocell i hlt
     have hom := gd.ord _ (List.getElem_mem hlt)
     obtain ⟨m, hm⟩ : ∃ m : Nat, s.order[i] = m := ⟨s.order[i].toNat, by omega⟩
     rw [hm] at co hom
     have hoi : s.order[i]? = some (m : Int) := by rw [List.getElem?_eq_getElem hlt, hm]
     have hmP : m < s.P.length := by omega
     have hmU : m < us.length := by omega
     obtain ⟨pg, pc, hvp, -, -, -, hpcs⟩ := lP.at (by intro h; rw [h] at hmP; simp at hmP)
     rw [hvp] at b1
     obtain ⟨-, e1, -, e3⟩ := hpcs m hmP
     have hq := gd.pts _ (List.getElem_mem hmP)
     have hsum : 0 ≤ (s.P[m]'hmP).1.start + (s.P[m]'hmP).1.n ∧ (s.P[m]'hmP).1.start + (s.P[m]'hmP).1.n ≤ 30000000 := by omega
     clear lM lP lO hoat hocell he2 he3 hpcs OI
     obtain ⟨f0, f1⟩ := (uI HFB).at2
     have f2 := (uI HFB).2.2
     have nfw : ¬ FFoot c c.pk c.pk bs vo w.heap.size := fun h => by
       rcases (uI HFE) _ h with h | h
       · exact nf0 h
       · omega
     by_cases hmu : (s.P[m]'hmP).1.start + (s.P[m]'hmP).1.n ≤ 65536
     · have hUm := hU
       obtain ⟨uo, uc, hvu, -, huat⟩ := hUm
       obtain ⟨ub, uof, uf, rfl, hubl, hucell⟩ := huat (by intro h; rw [h] at hmU; simp at hmU)
       obtain ⟨-, u1, uL⟩ := hucell m hmU
       obtain ⟨lo, lc, hul2, -, -⟩ := uL.at
       rw [hul2] at u1 uL
       have hrm := hrt _ (List.getElem_mem hmU)
       have hll := hrm.1
       have HRL := zH hrm.2
       have HLn := zH uL
       have HEM : Hid (wrdL us c.O ((400 - (i + 1)) + 1) i s out = R) := by show _ = R; rw [show (400 - (i + 1)) + 1 = 400 - i by omega]; exact uI HE
       have WN := fun h => wrd_next (us := us) (O := c.O) (f := 400 - (i + 1)) (out := out) hoi hmP hmU hmu h
       have WB := fun h => wrd_bad (us := us) (O := c.O) (f := 400 - (i + 1)) (out := out) hoi hmP hmU hmu h
       rw [uI HEM] at WN WB
       have HWN := zH WN
       have HWB := zH WB
       generalize (us[m]'hmU).lines = lines at *
       clear hrm uL hucell huat WN WB HE HEM
       have hvpb : c.vp.ownBlock = some pg := by rw [hvp]; rfl
       have pgl := (uI HL).2.2.1.1.lt pg hvpb
       generalize (s.P[m]'hmP).1.start = st at *
       generalize (s.P[m]'hmP).1.n = nw at *
       rw [hvu] at b0
       have hm0 : m < s0.P.length := by omega
       have HUL := zH hul
       have HSL := zH hsl
       clear hul hsl
       go_wp2_with fail
       go_quiet (fail)
       go_wp2_with fail
       have CW : (∀ b o, b < w0.heap.size → (wr.drewN nq).drew.cell? ⟨b, o, none⟩ = w0.cell? ⟨b, o, none⟩) ∧ (wr.drewN nq).drew.cell? ⟨c.pk, 0, none⟩ = some (.slice (some ⟨ub, uof, none⟩) us.length uc) := by
         refine ⟨fun b o hb => ?_, b0⟩
         have h1 := (uI HKW).cell (b := b) (o := o) (by have := hbw.size; omega) (fun h => by have := hft _ h; omega)
         exact h1.trans (hbw.cell (p := ⟨b, o, none⟩) hb)
       refine reg_start (fun W => (∀ b o, b < w0.heap.size → W.cell? ⟨b, o, none⟩ = w0.cell? ⟨b, o, none⟩) ∧ W.cell? ⟨c.pk, 0, none⟩ = some (.slice (some ⟨ub, uof, none⟩) us.length uc)) (by kernel_rfl) ?_
       refine reg_seg 0 10 8 (by kernel_rfl) (by decide) (by kernel_rfl) (by kernel_rfl) (fun _ _ _ _ _ h => h) ?_
       simp only [List.take_succ_cons, List.take_zero, List.drop_succ_cons, List.drop_zero]
       repeat (refine wpSteady_step (fun K hK => ?_); go_simp; first | (refine steady_of ?_ (fun W hW => ?_) (hK _ ?_); rotate_left; (obtain ⟨hcW, hpW⟩ := hW; go_simp; first | done | rfl); clear hK K) | (refine hK _ ?_; clear hK K))
       refine wpSteady_nil ?_
       have KB0 : Hid (Below w0.heap.size w0 (wr.drewN nq).drew) := (hbw.trans ((uI HKW).below hbw.size hft)).trans ⟨rfl, rfl, rfl, Nat.le_refl _, fun _ _ => rfl⟩
       have LV0 : Hid (LkAt c s vo (wr.drewN nq).drew) := lk_kpt (uI HL) (uI HBS) (((Kpt.refl _ _).drewN nq).drew)
       have KV0 : Hid (Kpt (fun _ => False) wr (wr.drewN nq).drew) := ((Kpt.refl _ _).drewN nq).drew
       have SV0 : (wr.drewN nq).drew.heap.size = wr.heap.size := rfl
       have hCl : ∀ U s' vo', Below w0.heap.size w0 U → LkAt c s' vo' U → (∀ b o, b < w0.heap.size → U.cell? ⟨b, o, none⟩ = w0.cell? ⟨b, o, none⟩) ∧ U.cell? ⟨c.pk, 0, none⟩ = some (.slice (some ⟨ub, uof, none⟩) us.length uc) := fun U s' vo' hb hl => ⟨fun b o hb' => hb.cell (p := ⟨b, o, none⟩) hb', by rw [← hvu]; exact hl.1.2.1 0 _ rfl⟩
       have hftv : ∀ k, FFoot c c.pk c.pk bs vo k → w0.heap.size ≤ k := fun k hk => by
         rcases (uI HFE) k hk with h | h
         · exact hft k h
         · have := hbw.size; omega
       have hlb : ∀ b, (Value.slice lo lines.length lc).ownBlock = some b → lines ≠ [] → b < w0.heap.size := by
         intro b hb hne
         obtain ⟨a', c', h1, -, h2⟩ := (uI HLn).at
         injection h1 with h1 h3 h4
         subst h1
         obtain ⟨b', o', rfl, h5, -⟩ := h2 hne
         obtain rfl : b' = b := Option.some.inj hb
         exact h5
       have RES := fun KB U hL b1 b2 n1 n2 hl hv => resolve_at c bs m KB s vo U lines (.slice lo lines.length lc) hL (uI HG) hmP (uI HBS) b1 b2 n1 n2 hl (uI HRL) hll hv
       unfold ResRet at RES
       generalize rsv (fndL c.O m) lines 0 s [] = Rz at *
       obtain ⟨⟨Lz, ez, kz⟩, sz⟩ := Rz
       dsimp only at RES HWN HWB
       have HCl := zH hCl
       have HFT := zH hftv
       have HLB := zH hlb
       clear hCl hftv hlb b1 b3 e1 e3 co u1
       generalize (wr.drewN nq).drew = V0 at *
       have nft : Hid (∀ k, V0.heap.size ≤ k → ¬ FFoot c c.pk c.pk bs vo k) := fun k hk h => by have := lk_lt (uI LV0) (uI HBS) h; omega
       have w0V : w0.heap.size ≤ V0.heap.size := (uI KB0).size
       have SV := zH SV0
       clear SV0
       apply reg_meet5 (R := fun _ => MetW c bs 0 V0 vo ((Lz, ez, kz), sz))
       · intro hrest
         refine reg_two 10 15 7 (by kernel_rfl) (by kernel_rfl) CW ?_ ?_
         · simp only [List.take_succ_cons, List.take_zero, List.drop_succ_cons, List.drop_zero]
           go_wp2_with fail
           refine (finder_any c.pk m V0).mono ?_
           rintro e U1 ⟨rfl, hU1⟩
           have KU1 : Below V0.heap.size V0 U1 := by rw [hU1]; exact bt (below_a _ _) (below_a _ _)
           have BX1 : Box U1 V0.heap.size [.pointer (some ⟨c.pk, 0, none⟩)] := by rw [hU1]; exact (Box.new V0 #[.pointer (some ⟨c.pk, 0, none⟩)] 102).step (below_a _ _)
           have BX2 : Box U1 (V0.heap.size + 1) [.int .i64 m] := by rw [hU1]; have := Box.new (V0.alloc (.cells #[.pointer (some ⟨c.pk, 0, none⟩)] 102)) #[.int .i64 m] 3; simp only [World.size_alloc] at this; exact this
           have SU1 : U1.heap.size = V0.heap.size + 1 + 1 := by rw [hU1]; simp
           have LU1 := lk_kpt (uI LV0) (uI HBS) (Kpt.of KU1)
           have KW1 : Below w0.heap.size w0 U1 := (uI KB0).trans (KU1.mono w0V)
           have H1 := zH (And.intro KU1 (And.intro BX1 (And.intro BX2 (And.intro LU1 KW1))))
           clear hU1 KU1 BX1 BX2 LU1 KW1
           go_wp2_with fail
           first | refine next_nil ?_ | refine next_go ?_
           refine reg_two 11 15 6 (by kernel_rfl) (by kernel_rfl) ((uI HCl) U1 s vo (uI H1).2.2.2.2 (uI H1).2.2.2.1) ?_ ?_
           · simp only [List.take_succ_cons, List.take_zero, List.drop_succ_cons, List.drop_zero]
             go_wp2_with fail
             refine (RES (V0.heap.size) U1 ((uI H1).2.2.2.1) ((uI H1).2.1) ((uI H1).2.2.1) ((uI nft) _ (by omega)) ((uI nft) _ (by omega)) (Lns.step (uI HLn) ((uI H1).2.2.2.2)) (fun b hb hne => by have h1 := (uI HLB) b hb hne; exact ⟨fun hx => by have := (uI HFT) b hx; omega, by omega, by omega⟩)).mono ?_
             rintro e w4 ⟨vi, gh, rfl, i4, o4, l4, g4, s4', k4, f4⟩
             have KW4 : Below w0.heap.size w0 w4 := (uI H1).2.2.2.2.trans (k4.below (B := w0.heap.size) (by omega) (fun k hk => by rcases hk with h | h | h; exact (uI HFT) k h; omega; omega))
             have C4 := zH ((uI HCl) w4 sz gh KW4 l4)
             have MT := zH (met_late (R := ((Lz, ez, kz), sz)) (Kpt.of (uI H1).1) (Nat.le_refl _) i4 l4 g4 s4' k4 f4)
             clear i4 o4 l4 g4 s4' k4 f4 KW4
             go_wp2_with fail
             first | refine next_nil ?_ | refine next_go ?_
             refine reg_seg 12 3 3 (by kernel_rfl) (by decide) (by kernel_rfl) (by kernel_rfl) (fun _ _ _ _ _ h => h) ?_
             simp only [List.take_succ_cons, List.take_zero, List.drop_succ_cons, List.drop_zero]
             repeat (refine wpSteady_step (fun K hK => ?_); go_simp; first | (refine steady_of ?_ (fun W hW => ?_) (hK _ ?_); rotate_left; (obtain ⟨hcW, hpW⟩ := hW; go_simp; first | done | rfl); clear hK K) | (refine hK _ ?_; clear hK K))
             refine wpSteady_nil ?_
             refine reg_one 15 2 (by kernel_rfl) (by kernel_rfl) (uI C4) ?_
             simp only [List.take_succ_cons, List.take_zero, List.drop_succ_cons, List.drop_zero]
             go_wp2_with fail
             first | refine next_nil ?_ | refine next_go ?_
             generalize w4.alloc (.cells #[.int .i64 0, .int .i64 0] 83) = W5 at *
             generalize w4.heap.size = g5 at *
             generalize Value.func (.func 117) #[] #[.pointer (some ⟨V0.heap.size, 0, none⟩), .pointer (some ⟨V0.heap.size + 1, 0, none⟩)] = vc
             exact hrest vc _ _ _ _ (uI MT)
           · simp only [List.take_succ_cons, List.take_zero, List.drop_succ_cons, List.drop_zero]
             go_wp2_with fail
             first | refine next_nil ?_ | refine next_go ?_
             have KA := zH (below_a U1 (.cells #[.int .i64 0, .int .i64 0] 83))
             have LU2 := zH (lk_kpt (uI H1).2.2.2.1 (uI HBS) (Kpt.of (uI KA)))
             have KW2 := zH ((uI H1).2.2.2.2.trans ((uI KA).mono (uI H1).2.2.2.2.size))
             have B1 := zH ((uI H1).2.1.step (uI KA))
             have B2 := zH ((uI H1).2.2.1.step (uI KA))
             have BF := zH (Box.new U1 #[.int .i64 0, .int .i64 0] 83)
             have S2 : (U1.alloc (.cells #[.int .i64 0, .int .i64 0] 83)).heap.size = V0.heap.size + 3 := by simp [SU1]
             have KV2 := zH ((Kpt.of (X := fun _ => False) (uI H1).1).trans (Kpt.of (X := fun _ => False) (uI KA)) (Z := fun _ => False) (fun _ h => h) (fun _ h _ => h))
             rw [SU1] at BF
             refine reg_one 11 5 (by kernel_rfl) (by kernel_rfl) ((uI HCl) _ s vo (uI KW2) (uI LU2)) ?_
             simp only [List.take_succ_cons, List.take_zero, List.drop_succ_cons, List.drop_zero]
             go_wp2_with fail
             generalize U1.alloc (.cells #[.int .i64 0, .int .i64 0] 83) = U2 at *
             refine (RES (V0.heap.size) U2 (uI LU2) (uI B1) (uI B2) ((uI nft) _ (by omega)) ((uI nft) _ (by omega)) (Lns.step (uI HLn) (uI KW2)) (fun b hb hne => by have h1 := (uI HLB) b hb hne; exact ⟨fun hx => by have := (uI HFT) b hx; omega, by omega, by omega⟩)).mono ?_
             rintro e w4 ⟨vi, gh, rfl, i4, o4, l4, g4, s4', k4, f4⟩
             have KW4 : Below w0.heap.size w0 w4 := (uI KW2).trans (k4.below (B := w0.heap.size) (by omega) (fun k hk => by rcases hk with h | h | h; exact (uI HFT) k h; omega; omega))
             have C4 := zH ((uI HCl) w4 sz gh KW4 l4)
             have MT := zH (met_early (R := ((Lz, ez, kz), sz)) (uI KV2) (Nat.le_refl _) (by omega) (by omega) (by omega) (by omega) ((uI nft) _ (by omega)) (uI BF) i4 (fun k hk => (o4 k hk).1) l4 g4 s4' k4 f4)
             clear i4 o4 l4 g4 s4' k4 f4 KW4
             go_wp2_with fail
             first | refine next_nil ?_ | refine next_go ?_
             refine reg_seg 12 3 2 (by kernel_rfl) (by decide) (by kernel_rfl) (by kernel_rfl) (fun _ _ _ _ _ h => h) ?_
             simp only [List.take_succ_cons, List.take_zero, List.drop_succ_cons, List.drop_zero]
             repeat (refine wpSteady_step (fun K hK => ?_); go_simp; first | (refine steady_of ?_ (fun W hW => ?_) (hK _ ?_); rotate_left; (obtain ⟨hcW, hpW⟩ := hW; go_simp; first | done | rfl); clear hK K) | (refine hK _ ?_; clear hK K))
             refine wpSteady_nil ?_
             generalize U1.heap.size = g5 at *
             generalize Value.func (.func 117) #[] #[.pointer (some ⟨V0.heap.size, 0, none⟩), .pointer (some ⟨V0.heap.size + 1, 0, none⟩)] = vc
             exact hrest vc _ _ _ _ (uI MT)
         · simp only [List.take_succ_cons, List.take_zero, List.drop_succ_cons, List.drop_zero]
           go_wp2_with fail
           first | refine next_nil ?_ | refine next_go ?_
           have KA := zH (below_a V0 (.cells #[.int .i64 0, .int .i64 0] 83))
           have LA := zH (lk_kpt (uI LV0) (uI HBS) (Kpt.of (uI KA)))
           have KWA := zH ((uI KB0).trans ((uI KA).mono w0V))
           have BF := zH (Box.new V0 #[.int .i64 0, .int .i64 0] 83)
           have SA := zH (show (V0.alloc (.cells #[.int .i64 0, .int .i64 0] 83)).heap.size = V0.heap.size + 1 by simp)
           refine reg_one 10 6 (by kernel_rfl) (by kernel_rfl) ((uI HCl) _ s vo (uI KWA) (uI LA)) ?_
           simp only [List.take_succ_cons, List.take_zero, List.drop_succ_cons, List.drop_zero]
           go_wp2_with fail
           generalize V0.alloc (.cells #[.int .i64 0, .int .i64 0] 83) = A1 at *
           refine (finder_any c.pk m A1).mono ?_
           rintro e U2 ⟨rfl, hU1⟩
           have KU1 : Below A1.heap.size A1 U2 := by rw [hU1]; exact bt (below_a _ _) (below_a _ _)
           have B1 := zH (show Box U2 A1.heap.size [.pointer (some ⟨c.pk, 0, none⟩)] by rw [hU1]; exact (Box.new A1 #[.pointer (some ⟨c.pk, 0, none⟩)] 102).step (below_a _ _))
           have B2 := zH (show Box U2 (A1.heap.size + 1) [.int .i64 m] by rw [hU1]; have := Box.new (A1.alloc (.cells #[.pointer (some ⟨c.pk, 0, none⟩)] 102)) #[.int .i64 m] 3; simp only [World.size_alloc] at this; exact this)
           have SU1 := zH (show U2.heap.size = A1.heap.size + 1 + 1 by rw [hU1]; simp)
           have LU2 := zH (lk_kpt (uI LA) (uI HBS) (Kpt.of KU1))
           have KW2 := zH ((uI KWA).trans (KU1.mono (uI KWA).size))
           have KV2 := zH ((Kpt.of (X := fun _ => False) (uI KA)).trans (Kpt.of (X := fun _ => False) KU1) (Z := fun _ => False) (fun _ h => h) (fun _ h _ => h))
           have BF2 := zH ((uI BF).step (KU1.mono (Nat.le_refl _)))
           clear hU1 KU1
           go_wp2_with fail
           first | refine next_nil ?_ | refine next_go ?_
           refine reg_one 11 5 (by kernel_rfl) (by kernel_rfl) ((uI HCl) _ s vo (uI KW2) (uI LU2)) ?_
           simp only [List.take_succ_cons, List.take_zero, List.drop_succ_cons, List.drop_zero]
           go_wp2_with fail
           have sA := uI SA
           have sU := uI SU1
           have RR := RES (A1.heap.size) U2 (uI LU2) (uI B1) (uI B2) ((uI nft) _ (by omega)) ((uI nft) _ (by omega)) (Lns.step (uI HLn) (uI KW2)) (fun b hb hne => by have h1 := (uI HLB) b hb hne; exact ⟨fun hx => by have := (uI HFT) b hx; omega, by omega, by omega⟩)
           refine RR.mono ?_
           rintro e w4 ⟨vi, gh, rfl, i4, o4, l4, g4, s4', k4, f4⟩
           have KW4 : Below w0.heap.size w0 w4 := (uI KW2).trans (k4.below (B := w0.heap.size) (by omega) (fun k hk => by rcases hk with h | h | h; exact (uI HFT) k h; omega; omega))
           have C4 := zH ((uI HCl) w4 sz gh KW4 l4)
           have MT := zH (met_early (R := ((Lz, ez, kz), sz)) (uI KV2) (show V0.heap.size ≤ A1.heap.size by omega) (Nat.le_refl _) (by omega) (by omega) (by omega) ((uI nft) _ (by omega)) (uI BF2) i4 (fun k hk => (o4 k hk).1) l4 g4 s4' k4 f4)
           clear i4 o4 l4 g4 s4' k4 f4 KW4 sA sU RR
           go_wp2_with fail
           first | refine next_nil ?_ | refine next_go ?_
           refine reg_seg 12 3 2 (by kernel_rfl) (by decide) (by kernel_rfl) (by kernel_rfl) (fun _ _ _ _ _ h => h) ?_
           simp only [List.take_succ_cons, List.take_zero, List.drop_succ_cons, List.drop_zero]
           repeat (refine wpSteady_step (fun K hK => ?_); go_simp; first | (refine steady_of ?_ (fun W hW => ?_) (hK _ ?_); rotate_left; (obtain ⟨hcW, hpW⟩ := hW; go_simp; first | done | rfl); clear hK K) | (refine hK _ ?_; clear hK K))
           refine wpSteady_nil ?_
           generalize Value.func (.func 117) #[] #[.pointer (some ⟨A1.heap.size, 0, none⟩), .pointer (some ⟨A1.heap.size + 1, 0, none⟩)] = vc
           generalize V0.heap.size = g5 at *
           exact hrest vc _ _ _ _ (uI MT)
       · intro vc vi vo2 fb W MT
         have KW5 : Below w0.heap.size w0 W := (uI KB0).trans (MT.kpt.below (B := w0.heap.size) w0V (fun k hk => (uI HFT) k hk))
         have C5 := zH ((uI HCl) W sz vo2 KW5 MT.lk)
         have KW6 := zH KW5
         obtain ⟨g0, g1⟩ := MT.box.at2
         have g2 := MT.box.2.2
         have MT2 := zH MT
         clear MT KW5
         refine reg_one 16 1 (by kernel_rfl) (by kernel_rfl) (uI C5) ?_
         simp only [List.take_succ_cons, List.take_zero, List.drop_succ_cons, List.drop_zero]
         go_wp2_with fail
         first | refine next_nil ?_ | refine next_go ?_
         refine reg_one 17 0 (by kernel_rfl) (by kernel_rfl) (uI C5) ?_
         simp only [List.take_succ_cons, List.take_zero, List.drop_succ_cons, List.drop_zero]
         go_wp2_with fail
         first | refine next_nil ?_ | refine next_go ?_
         have B6 := zH (show Box ((W.setCell ⟨fb, 0, none⟩ (.int .i64 ez)).setCell ⟨fb, 1, none⟩ (.int .i64 kz)) fb [.int .i64 ez, .int .i64 kz] from ((uI MT2).box.set (j := 0) (u := .int .i64 ez) (by simp)).set (j := 1) (by simp))
         have KS : Kpt (fun k => k = fb) W ((W.setCell ⟨fb, 0, none⟩ (.int .i64 ez)).setCell ⟨fb, 1, none⟩ (.int .i64 kz)) := Kpt.set2 _ _ _ _
         have L6 := zH (lk_kpt (uI MT2).lk (uI MT2).bsn (KS.mono (fun k hk => by rw [hk]; exact (uI MT2).fbn)))
         have KW7 := zH ((uI KW6).trans (KS.below (uI KW6).size (fun k hk => by have := (uI MT2).fb0; omega)))
         have KV6 := zH ((uI MT2).kpt.trans KS (Z := FFoot c c.pk c.pk bs vo) (fun _ h => h) (fun k hk h => by have := (uI MT2).fb0; omega))
         have HKS := zH KS
         refine reg_end (by kernel_rfl) ((uI HCl) _ sz vo2 (uI KW7) (uI L6)) ?_
         clear g0 g1 g2 KS C5 KW6
         generalize ((W.setCell ⟨fb, 0, none⟩ (.int .i64 ez)).setCell ⟨fb, 1, none⟩ (.int .i64 kz)) = W6 at *
         obtain ⟨g0, g1⟩ := (uI B6).at2
         have g2 := (uI B6).2.2
         by_cases hez : ez = 0
         · subst hez
           have I6 := zH (show Inss W6 vi Lz from lies_kpt (uI MT2).ins (uI HKS) (fun b hb hn h => (uI MT2).fbi b hb (fun h0 => hn (by rw [show Lz = [] from h0]; rfl)) h))
           have ZL : (encA Lz).1.length ≤ 65536 := enc_len6 Lz 0 [] (by simp)
           have EA := encode_any Lz vi W6 (uI I6)
           have HN := zH ((uI HWN) rfl)
           generalize encA Lz = Z at *
           obtain ⟨zs, z1, z2⟩ := Z
           dsimp only at EA HN ZL
           go_wp2_with fail
           refine EA.mono ?_
           rintro e w8 ⟨v8, rfl, i8, o8, k8⟩
           have O8 := zH (own_kpt (own_kpt (own_kpt (uI HOut) (uI KV0) (fun _ _ h => h)) (uI KV6) (uI HOn)) (Kpt.of (X := fun _ => False) k8) (fun _ _ h => h))
           have I8 := zH i8
           have K8 := zH k8
           have HO8 := zH o8
           clear i8 k8 o8 EA
           have sz8 : w.heap.size + 1 ≤ w8.heap.size := by
             have h1 := uI SV
             have h2 := (uI KV6).size
             have h3 := (uI K8).size
             omega
           go_wp2_with (at_builtin; refine append_lies_at rfl (.tmp 79) (.tmp 80) 43 rfl (w.heap.size + 1) 3 i0 (.int .i64 0) 1 8 Tryz.underlying43 hi0 hz0 hz1 hz2 rfl (by decide) _ _ _ rfl ((uI O8).alloc _) _ zs.length (zs.map int1) rfl (Lies.step (uI I8) (below_a _ _)) (by intro u hu; obtain ⟨x, -, rfl⟩ := List.mem_map.1 hu; rfl) (by unfold maxLen; omega) (by omega) (by simp; omega) ?_; intro v9 w9 n1 n2 n3; have N1 := zH n1; have N2 := zH n2; have N3 := zH n3; clear n1 n2 n3)
           have KA9 := zH (((Kpt.of (X := fun k => u6.ownBlock = some k) (uI K8)).trans (Kpt.of (X := fun k => u6.ownBlock = some k) (below_a _ _)) (Z := fun k => u6.ownBlock = some k) (fun _ h => h) (fun _ h _ => h)).trans (Kpt.grown (X := fun k => u6.ownBlock = some k) (uI N2) (fun _ h => h)) (Z := fun k => u6.ownBlock = some k) (fun _ h => h) (fun _ h _ => h))
           go_roundg (400 - (i + 1))
           case measure => omega
           have mt := uI MT2
           have hsv := uI SV
           have nu : ∀ k, u6.ownBlock = some k → ¬ FFoot c c.pk c.pk bs vo2 k := fun k hk h => by
             rcases mt.foot k h with h1 | h1
             · exact (uI HOn) k hk h1
             · have := ((uI HOut).lt k hk).2; omega
           have s6 := (uI K8).size
           have fe : ∀ k, FFoot c c.pk c.pk bs vo2 k → FFoot c c.pk c.pk bs vo0 k ∨ w.heap.size + 1 ≤ k := fun k h => by
             rcases mt.foot k h with h1 | h1
             · exact (uI HFE) k h1
             · right; omega
           refine ⟨i + 1, sz, vo2, out ++ zs, by omega, rfl, by simp, by simp only [List.length_append]; omega, ?_, ?_, ?_, lk_kpt (uI L6) mt.bsn ((uI KA9).mono nu), mt.good, mt.bsn, ?_, ?_, fe, (uI HN).symm⟩
           · have h1 := congrArg List.length (mt.bsn.trans hbs.symm); simpa using h1
           · have h1 := uI N1
             rw [← List.map_append, ← List.length_append] at h1
             exact h1
           · intro k hk h
             rcases (uI N3) with h1 | h1
             · exact nu k (h1 ▸ hk) h
             · have h2 := lk_lt (uI L6) mt.bsn h
               rw [h1] at hk
               have h3 := Option.some.inj hk
               simp only [World.size_alloc] at h3
               omega
           · exact (((uI HFB).kpt (uI KV0) (fun h => h)).kpt (uI KV6) nfw).kpt (uI KA9) (fun h => by have := ((uI HOut).lt _ h).1; omega)
           · exact (((uI HKW).trans (uI KV0) (Z := FFoot c c.pk c.pk bs vo0) (fun _ h => h) (fun _ h _ => h.elim)).trans (uI KV6) (Z := FFoot c c.pk c.pk bs vo0) (fun _ h => h) (fun k hk h => by rcases (uI HFE) k hk with h1 | h1; exact h1; omega)).trans (uI KA9) (fun _ h => h) (fun k hk h => by have := ((uI HOut).lt _ hk).1; omega)
         · have F6 := ((uI HFB).kpt (uI KV0) (fun h => h)).kpt (uI KV6) nfw
           obtain ⟨f0, f1⟩ := F6.at2
           have f2 := F6.2.2
           have hRs := (uI HWB) hez
           clear F6 HWN HWB
           subst hRs
           go_wp2_with fail
           go_region_with fail
           all_goals go_wp2_with fail
           refine bodyPost_ret (v := .tuple #[.slice none 0 0, .agg #[.int .i64 ez, .int .i64 m]]) (by simp [results, Tryz.results63, go_sem, f0, f1, f2]) rfl ?_
           unfold WrdRet
           have mt := uI MT2
           have hsv := uI SV
           have nfw2 : ¬ FFoot c c.pk c.pk bs vo2 w.heap.size := fun h => by
             rcases mt.foot _ h with h1 | h1
             · exact nfw h1
             · omega
           have KS : Kpt (fun k => k = w.heap.size) W6 ((W6.setCell ⟨w.heap.size, 0, none⟩ (.int .i64 ez)).setCell ⟨w.heap.size, 1, none⟩ (.int .i64 m)).drew := (Kpt.set2 _ _ _ _).drew
           have KV := (((uI HKW).trans (uI KV0) (Z := FFoot c c.pk c.pk bs vo0) (fun _ h => h) (fun _ h _ => h.elim)).trans (uI KV6) (Z := FFoot c c.pk c.pk bs vo0) (fun _ h => h) (fun k hk h => by rcases (uI HFE) k hk with h1 | h1; exact h1; omega))
           exact ⟨_, vo2, rfl, Lies.nil _ _, (fun k h => by cases h), lk_kpt (uI L6) mt.bsn (KS.mono (fun k hk => by rw [hk]; exact nfw2)), mt.good, mt.bsn, KV.trans KS (fun _ h => h) (fun k hk h => by omega), fun k hk => by
             rcases mt.foot k hk with h | h
             · rcases (uI HFE) k h with h1 | h1
               · exact .inl h1
               · right; omega
             · right; omega⟩
     · have hRs : R = (([], 4, (m : Int)), s) := by
         rw [← uI HE, show 400 - i = (400 - (i + 1)) + 1 by omega, wrd_much hoi hmP hmU (by omega)]
       subst hRs
       have hm2 : 65536 < (s.P[m]'hmP).1.start + (s.P[m]'hmP).1.n := by omega
       clear HE hmu
       generalize (s.P[m]'hmP).1.start = st at *
       generalize (s.P[m]'hmP).1.n = nw at *
       go_wp2_with fail
       go_quiet (fail)
       go_wp2_with fail
       refine bodyPost_ret (v := .tuple #[.slice none 0 0, .agg #[.int .i64 4, .int .i64 m]]) (by simp [results, Tryz.results63, go_sem, f0, f1, f2]) rfl ?_
       unfold WrdRet
       have KS : ∀ q, Kpt (fun k => k = w.heap.size) wr (((wr.drewN q).setCell ⟨w.heap.size, 0, none⟩ (.int .i64 4)).setCell ⟨w.heap.size, 1, none⟩ (.int .i64 m)) := fun q => ((Kpt.refl (fun k => k = w.heap.size) wr).drewN q).trans (Kpt.set2 _ _ _ _) (fun _ h => h) (fun _ h _ => h)
       exact ⟨_, vo, rfl, Lies.nil _ _, (fun k h => by cases h), lk_kpt (uI HL) (uI HBS) ((KS _).mono (fun k hk => by rw [hk]; exact nfw)), uI HG, uI HBS, (uI HKW).trans (KS _) (fun _ h => h) (fun k hk h => by omega), fun k hk => by
         rcases (uI HFE) _ hk with h | h
         · exact .inl h
         · right; omega⟩
   · have hRs : R = ((out, 0, 0), s) := by rw [← uI HE, wrd_end (by omega)]
     subst hRs
     obtain ⟨f0, f1⟩ := (uI HFB).at2
     have f2 := (uI HFB).2.2
     have nfw : ¬ FFoot c c.pk c.pk bs vo w.heap.size := fun h => by
       rcases (uI HFE) _ h with h | h
       · exact nf0 h
       · omega
     clear HE lM lP lO b0 b1
     go_wp2_with fail
     refine bodyPost_ret (v := .tuple #[u6, .agg #[.int .i64 0, .int .i64 0]]) (by simp [results, Tryz.results63, go_sem, f0, f1, f2]) rfl ?_
     unfold WrdRet
     have KS : Kpt (fun k => k = w.heap.size) wr ((wr.setCell ⟨w.heap.size, 0, none⟩ (.int .i64 0)).setCell ⟨w.heap.size, 1, none⟩ (.int .i64 0)) := Kpt.set2 _ _ _ _
     exact ⟨_, vo, rfl, Lies.owned (own_kpt (uI HOut) KS (fun k hk h => by have := ((uI HOut).lt k hk).1; omega)), (fun k h => ⟨Nat.le_of_succ_le ((uI HOut).lt k h).1, (uI HOn) k h⟩), lk_kpt (uI HL) (uI HBS) (KS.mono (fun k hk => by rw [hk]; exact nfw)), uI HG, uI HBS, (uI HKW).trans KS (fun _ h => h) (fun k hk h => by omega), fun k hk => by
         rcases (uI HFE) _ hk with h | h
         · exact .inl h
         · right; omega⟩
end Go.Proofs.YtlkoidkdeopgjaaGreatDoor
