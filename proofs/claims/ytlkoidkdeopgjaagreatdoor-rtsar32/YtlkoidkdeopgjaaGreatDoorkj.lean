/-
  LkX, LkT, LkY.
-/
import Derived.Test.YtlkoidkdeopgjaaGreatDoorkh
import Derived.Test.YtlkoidkdeopgjaaGreatDoorki
import Derived.Test.YtlkoidkdeopgjaaGreatDooryShelf
set_option maxHeartbeats 4000000
set_option maxRecDepth 100000
namespace Go.Proofs.YtlkoidkdeopgjaaGreatDoor
open Go.RowKit Go.Maps
set_option linter.unusedSimpArgs false
set_option linter.unusedVariables false
def er (s : Ls) : Ls := ⟨s.P.map (fun p => (p.1, 0)), s.order, s.fin⟩
theorem er_put (s : Ls) (n : Nat) : putL (er s) n = er (putL s n) := by
 unfold putL er
 rw [List.getElem?_map]
 cases h : s.P[n]? with
 | none => rfl
 | some p =>
   simp only [Option.map_some]
   by_cases hp : p.1.put = true
   · rw [if_pos hp, if_pos hp]
   · rw [if_neg hp, if_neg hp]; simp [List.map_set]
theorem er_owner (O : Nmd) (P : List (Pt × Nat)) (n : Nat) (k : List UInt8) : ownerL O (P.map (fun p => (p.1, 0))) n k = ownerL O P n k := by
 unfold ownerL
 split
 · rfl
 · rw [List.getElem?_map]; cases P[n]? <;> rfl
theorem er_fnd (O : Nmd) (n : Nat) (s : Ls) (k : List UInt8) : fndL O n (er s) k = (er (fndL O n s k).1, (fndL O n s k).2) := by
 unfold fndL
 rw [show (er s).P = s.P.map (fun p => (p.1, 0)) from rfl, er_owner, er_put]
 split
 · refine Prod.ext rfl (Prod.ext ?_ rfl)
   dsimp only
   rw [show (er (putL s (ownerL O s.P n k).1.toNat)).P = (putL s (ownerL O s.P n k).1.toNat).P.map (fun p => (p.1, 0)) from rfl, List.getElem?_map]
   cases (putL s (ownerL O s.P n k).1.toNat).P[(ownerL O s.P n k).1.toNat]? <;> rfl
 · rfl
theorem rsv_map {σ τ : Type} {fnd : σ → List UInt8 → σ × Int × Bool} {fnd' : τ → List UInt8 → τ × Int × Bool} (f : σ → τ) (h : ∀ s k, fnd' (f s) k = (f (fnd s k).1, (fnd s k).2)) : ∀ (l : List Ln) (k : Nat) (s : σ) (acc : List Ins), rsv fnd' l k (f s) acc = ((rsv fnd l k s acc).1, f (rsv fnd l k s acc).2)
 | [], _, _, _ => rfl
 | x :: l, k, s, acc => by
   unfold rsv
   rw [h]
   dsimp only
   split
   · exact rsv_map f h l _ _ _
   · split
     · exact rsv_map f h l _ _ _
     · split
       · exact rsv_map f h l _ _ _
       · rfl
theorem er_wrd (us : List Un) (O : Nmd) : ∀ (f i : Nat) (s : Ls) (out : List Int), wrdL us O f i (er s) out = ((wrdL us O f i s out).1, er (wrdL us O f i s out).2)
 | 0, _, _, _ => rfl
 | f + 1, i, s, out => by
   unfold wrdL
   rw [show (er s).order = s.order from rfl]
   cases h : s.order[i]? with
   | none => rfl
   | some m =>
     dsimp only
     rw [show (er s).P = s.P.map (fun p => (p.1, 0)) from rfl, List.getElem?_map]
     cases h1 : s.P[m.toNat]? with
     | none => rfl
     | some p =>
       cases h2 : us[m.toNat]? with
       | none => rfl
       | some u =>
         simp only [Option.map_some]
         rw [rsv_map er (er_fnd O m.toNat)]
         dsimp only
         split
         · split
           · exact er_wrd us O f _ _ _
           · rfl
         · rfl
structure Im where
 words : List Int
 units : List Int
 spots : List (ByteArray × Int)
def spt1 (l : List Ln) (p : Pt) : List (ByteArray × Int) := (l.filter fun x => fa x.lab).map fun x => (x.lab, p.start + atA p.A x.lab.toList)
def sptL (us : List Un) (P : List (Pt × Nat)) (order : List Int) : List (ByteArray × Int) :=
 order.flatMap fun n => match us[n.toNat]?, P[n.toNat]? with | some u, some p => spt1 u.lines p.1 | _, _ => []
def im0 : Im := ⟨[], [], []⟩
def wrdS (us : List Un) (S : Sv) (entry : List UInt8) : (List Int × Int × Int) × Ls := wrdL us S.owners 400 0 (putL ⟨S.parts.map (fun p => (p, 0)), [], 0⟩ (atA S.owners entry).toNat) []
def imL (us : List Un) (R : (List Int × Int × Int) × Ls) : Im × Int × Int := if R.1.2.1 = 0 then (⟨R.1.1, R.2.order, sptL us R.2.P R.2.order⟩, 0, 0) else (im0, R.1.2.1, R.1.2.2)
def linkL (us : List Un) (entry : List UInt8) : Im × Int × Int :=
 if us.length ≤ 400 then
   (if (srv us 0 ⟨[], []⟩).2.1 = 0 then
     (if hasA (srv us 0 ⟨[], []⟩).1.owners entry = true then imL us (wrdS us (srv us 0 ⟨[], []⟩).1 entry) else (im0, 6, us.length))
    else (im0, (srv us 0 ⟨[], []⟩).2.1, (srv us 0 ⟨[], []⟩).2.2))
 else (im0, 5, 0)
theorem er_spt (us : List Un) (s : Ls) : sptL us (er s).P (er s).order = sptL us s.P s.order := by
 unfold sptL er
 dsimp only
 congr 1
 funext n
 rw [List.getElem?_map]
 cases us[n.toNat]? <;> cases s.P[n.toNat]? <;> rfl
theorem wrdS_of (us : List Un) (S : Sv) (entry : List UInt8) (P : List (Pt × Nat)) (h : P.map (·.1) = S.parts) : imL us (wrdL us S.owners 400 0 (putL ⟨P, [], 0⟩ (atA S.owners entry).toNat) []) = imL us (wrdS us S entry) := by
 unfold wrdS
 have e : (⟨S.parts.map (fun p => (p, 0)), [], 0⟩ : Ls) = er ⟨P, [], 0⟩ := by unfold er; rw [← h]; simp
 rw [e, er_put, er_wrd]
 unfold imL
 dsimp only
 rw [er_spt]
 rfl
end Go.Proofs.YtlkoidkdeopgjaaGreatDoor
namespace Go.Proofs.YtlkoidkdeopgjaaGreatDoor
open Go.RowKit Go.Maps
set_option linter.unusedSimpArgs false
set_option linter.unusedVariables false
theorem Tryz.infoSpot : (Tryz.prog.info? 157).map (fun i => (i.zero, i.size, i.bytes)) = some (some (.agg #[.string ⟨#[]⟩, .int .i64 0]), 2, 24) := by kernel_rfl
theorem clone_anyL (s : ByteArray) (w : World) (h : s.size ≤ 32) : Calls Tryz.prog 87 #[.string s] w fun e w' => e = .returned (.string s) ∧ Below w.heap.size w w' := by
 have C := fun w => Tryz.stringslite_Clone s w (by omega)
 go_enter Tryz.func87, Tryz.ntmps87
 go_wp2_with fail
 refine (C _).mono ?_
 rintro e w1 ⟨rfl, k1⟩
 go_wp2_with fail
 go_ret
 exact ⟨rfl, k1⟩
def cellsS (x : ByteArray × Int) : List Value := [.string x.1, .int .i64 x.2]
def Spts (w : World) (v : Value) (l : List (ByteArray × Int)) : Prop := Lies w 2 v l.length (l.flatMap cellsS)
theorem cellsS_one (x : ByteArray × Int) : ∀ u ∈ cellsS x, u.oneCell' = true := by intro u hu; simp [cellsS] at hu; rcases hu with rfl | rfl <;> rfl
theorem spt1_yes {x : Ln} {l : List Ln} {p : Pt} (h : fa x.lab = true) : spt1 (x :: l) p = (x.lab, p.start + atA p.A x.lab.toList) :: spt1 l p := by unfold spt1; rw [List.filter_cons, if_pos h, List.map_cons]
theorem spt1_no {x : Ln} {l : List Ln} {p : Pt} (h : fa x.lab = false) : spt1 (x :: l) p = spt1 l p := by unfold spt1; rw [List.filter_cons, if_neg (by simp [h])]
theorem sptL_cons {us : List Un} {P : List (Pt × Nat)} {m : Nat} {o : List Int} (hu : m < us.length) (hp : m < P.length) : sptL us P ((m : Int) :: o) = spt1 (us[m]'hu).lines (P[m]'hp).1 ++ sptL us P o := by
 unfold sptL
 rw [List.flatMap_cons, Int.toNat_natCast, List.getElem?_eq_getElem hu, List.getElem?_eq_getElem hp]
theorem own_spot {u : World} {B : Nat} {v : Value} {P : List (ByteArray × Int)} {p : ByteArray × Int} {n : Nat} {cs : List Value} (h : u.ownsRow B 157 2 v n cs) (e : cs = P.flatMap cellsS ++ cellsS p) (hn : n = P.length + 1) : u.ownsRow B 157 2 v (P ++ [p]).length ((P ++ [p]).flatMap cellsS) := by
 have h1 : (P ++ [p]).length = n := by rw [hn]; simp
 rw [h1, List.flatMap_append]
 rw [e] at h
 simpa using h
def SptRet (w : World) (L : List (ByteArray × Int)) (e : Ending) (w' : World) : Prop := ∃ v, e = .returned v ∧ Spts w' v L ∧ (∀ k, v.ownBlock = some k → w.heap.size ≤ k) ∧ Below w.heap.size w w'
theorem spots_any (c : Lf) (bs : List Nat) (w0 : World) (us : List Un) (hU : Uns w0 c.vu us) (w : World) (hbw : Below w0.heap.size w0 w) (s : Ls) (vo : Value) (hlk : LkAt c s vo w) (hg : Good s c.O) (hbs : s.P.map (·.2) = bs) (hul : us.length = s.P.length) (hrt : ∀ u ∈ us, u.lines.length ≤ 40000 ∧ ∀ x ∈ u.lines, wrgL x = 0) :
   Calls Tryz.prog 64 #[.pointer (some ⟨c.pk, 0, none⟩)] w fun e w' => SptRet w (sptL us s.P s.order) e w' := by
 obtain ⟨i0, hi0, hz0, hz1, hz2⟩ := info_parts Tryz.infoSpot
 have b0 := hlk.1.2.1 0 _ rfl
 have b3 := hlk.1.2.1 3 _ rfl
 have hpk := hlk.1.1
 obtain ⟨oo, oc, hvo⟩ := own_slice hlk.2.2.2.1
 have OI : Ints w vo s.order := Lies.owned hlk.2.2.2.1
 rw [hvo] at b3 OI
 obtain ⟨uo, uc, hvu, humax, huat⟩ := hU
 rw [hvu] at b0
 have HUA := zH huat
 obtain ⟨sm1, sm2⟩ := hg.small
 have HLK := zH hlk
 have HG := zH hg
 have HRT := zH hrt
 have hw0 := hbw.size
 obtain ⟨ao', cap', he', -, hoat⟩ := OI.at
 injection he' with he1 he2 he3
 subst he1
 have HOA := zH hoat
 clear huat hlk hg hrt OI hoat he2 he3
 generalize hR : sptL us s.P s.order = R
 have HR : Hid ([] ++ sptL us s.P (s.order.drop 0) = R) := hR
 clear hR
 go_enter Tryz.func64, Tryz.ntmps64
 go_wp2_with fail
 go_loopg [3, 13] s.order.length (fun g vr ii wr => ∃ (i : Nat) (out : List (ByteArray × Int)), i ≤ s.order.length ∧ g = s.order.length - i ∧ ii = .int .i64 i ∧ out.length ≤ 40000 * i ∧ Hid (wr.ownsRow w.heap.size 157 2 vr out.length (out.flatMap cellsS)) ∧ Hid (Below w.heap.size w wr) ∧ Hid (out ++ sptL us s.P (s.order.drop i) = R))
 case atStart => exact ⟨0, [], Nat.zero_le _, rfl, rfl, by simp, World.ownsRow_nil _ _ _ _, Below.refl _ _, HR⟩
 case round =>
   obtain ⟨i, out, hi4, hg, rfl, hol, HOut, HB, HE⟩ := hrel
   clear HR
   by_cases hlt : i < s.order.length
   · obtain ⟨ob, oof, rfl, hobl, hocell⟩ := (uI HOA) (by intro h; rw [h] at hlt; simp at hlt)
     have co := cell_keep (uI HB) hobl (hocell i hlt)
     have hom := (uI HG).ord _ (List.getElem_mem hlt)
     obtain ⟨m, hm⟩ : ∃ m : Nat, s.order[i] = m := ⟨s.order[i].toNat, by omega⟩
     rw [hm] at co hom
     have hmP : m < s.P.length := by omega
     have hmU : m < us.length := by omega
     obtain ⟨ub, uof, uf, rfl, hubl, hucell⟩ := (uI HUA) (by intro h; rw [h] at hmU; simp at hmU)
     obtain ⟨-, u1, uL⟩ := hucell m hmU
     obtain ⟨lo, lc, hul2, hlmax, hlat⟩ := uL.at
     rw [hul2] at u1
     have kb0 := cell_keep (uI HB) hpk b0
     have u1' := cell_keep (uI HB) (by omega) (cell_keep hbw hubl u1)
     have hrm := (uI HRT) _ (List.getElem_mem hmU)
     have hll := hrm.1
     have HRL := zH hrm.2
     have HLA := zH hlat
     have HE2 : Hid (out ++ (spt1 ((us[m]'hmU).lines.drop 0) (s.P[m]'hmP).1 ++ sptL us s.P (s.order.drop (i + 1))) = R) := by
       show _ = R
       rw [← uI HE, drop_at s.order i hlt, hm, sptL_cons hmU hmP]; rfl
     have hq := (uI HG).pts _ (List.getElem_mem hmP)
     have PL := fun u x h hx => placeL_any c s vo u x m h hmP hx hq.2.2.1 (by omega) (hq.2.2.2.2 _).1 (hq.2.2.2.2 _).2
     generalize (s.P[m]'hmP).1 = pt at *
     generalize (us[m]'hmU).lines = lines at *
     clear hucell hlat uL hrm HE u1 hocell
     have hm' : (m : Int) < (us.length : Int) := by omega
     go_wp2_with fail
     go_loopg [3, 26] lines.length (fun g vr ii ws => ∃ (k : Nat) (out2 : List (ByteArray × Int)), k ≤ lines.length ∧ g = lines.length - k ∧ ii = .int .i64 k ∧ out2.length ≤ 40000 * i + k ∧ Hid (ws.ownsRow w.heap.size 157 2 vr out2.length (out2.flatMap cellsS)) ∧ Hid (Below w.heap.size w ws) ∧ Hid (out2 ++ (spt1 (lines.drop k) pt ++ sptL us s.P (s.order.drop (i + 1))) = R))
     case atStart => exact ⟨0, out, Nat.zero_le _, rfl, rfl, by omega, HOut, HB, HE2⟩
     case round =>
       obtain ⟨k, out2, hk, hgk, rfl, hol2, HOut2, HB2, HE3⟩ := hrel
       clear HE2 HOut HB co u1' kb0
       by_cases hkl : k < lines.length
       · obtain ⟨b2, off2, rfl, hbw2, hc2⟩ := (uI HLA) (by intro h; rw [h] at hkl; simp at hkl)
         obtain ⟨d0, d1, d2, d3, d4, d5⟩ := hc2 k hkl
         have keep : ∀ {o : Nat} {x : Value}, w0.cell? ⟨b2, o, none⟩ = some x → wr.cell? ⟨b2, o, none⟩ = some x := fun h => cell_keep (uI HB2) (by omega) (cell_keep hbw hbw2 h)
         replace d0 := keep d0
         replace d1 := keep d1
         replace d2 := keep d2
         replace d3 := keep d3
         replace d4 := keep d4
         replace d5 := keep d5
         have hd := zH (drop_at lines k hkl)
         have hwx := zH ((uI HRL) lines[k] (List.getElem_mem hkl))
         generalize lines[k] = x at *
         obtain ⟨lab, ⟨o, d, sr, mm⟩, ref⟩ := x
         clear hc2 keep
         dsimp only at *
         have BX := zH (Box.new wr #[.string lab, .int .i64 o, .int .i64 d, .int .i64 sr, .int .i64 mm, .string ref] 75)
         have KA := zH (below_a wr (.cells #[.string lab, .int .i64 o, .int .i64 d, .int .i64 sr, .int .i64 mm, .string ref] 75))
         have KB := zH (bt (uI HB2) (uI KA))
         have p0 := (uI BX).2.1 0 _ rfl
         have FA := fun w => forAll_any lab w
         have sws := (uI HB2).size
         by_cases hf : fa lab = true
         · rw [hf] at FA
           have hsz : lab.size ≤ 32 := by
             have he : emp lab = false := by unfold fa at hf; simp at hf; exact hf.1
             exact (nm_size (wrgL_lab (uI hwx) he).1).1
           have HE4 : Hid ((out2 ++ [(lab, pt.start + atA pt.A lab.toList)]) ++ (spt1 (lines.drop (k + 1)) pt ++ sptL us s.P (s.order.drop (i + 1))) = R) := by
             show _ = R
             rw [← uI HE3, uI hd, spt1_yes hf]; simp
           have CL := fun w => clone_anyL lab w hsz
           have PL2 := fun u h => PL u lab h (by unfold maxLen; omega)
           generalize pt.start + atA pt.A lab.toList = V at *
           clear HE3 hd PL
           go_wp2_with fail
           refine (FA _).mono ?_
           rintro e w1 ⟨rfl, hw⟩
           subst w1
           go_wp2_with fail
           have LS := zH (lk_kpt (uI HLK) hbs (Kpt.of (uI KB)))
           have O1 := zH ((uI HOut2).alloc (.cells #[.string lab, .int .i64 o, .int .i64 d, .int .i64 sr, .int .i64 mm, .string ref] 75))
           have hlb : wr.heap.size < (wr.alloc (.cells #[.string lab, .int .i64 o, .int .i64 d, .int .i64 sr, .int .i64 mm, .string ref] 75)).heap.size := by simp
           have hls : (wr.alloc (.cells #[.string lab, .int .i64 o, .int .i64 d, .int .i64 sr, .int .i64 mm, .string ref] 75)).heap.size = wr.heap.size + 1 := by simp
           clear d0 d1 d2 d3 d4 d5 FA BX KA
           generalize wr.alloc (.cells #[.string lab, .int .i64 o, .int .i64 d, .int .i64 sr, .int .i64 mm, .string ref] 75) = W1 at *
           refine reg_start (fun W => W.cell? ⟨wr.heap.size, 0, none⟩ = some (.string lab)) (by kernel_rfl) ?_
           refine reg_seg 0 3 10 (by kernel_rfl) (by decide) (by kernel_rfl) (by kernel_rfl) (fun _ _ _ _ _ h => h) ?_
           simp only [List.take_succ_cons, List.take_zero, List.drop_succ_cons, List.drop_zero]
           repeat (refine wpSteady_step (fun K hK => ?_); go_simp; first | (refine steady_of ?_ (fun W hW => ?_) (hK _ ?_); rotate_left; (obtain hcW := hW; go_simp; first | done | rfl); clear hK K) | (refine hK _ ?_; clear hK K))
           refine wpSteady_nil ?_
           refine reg_seg 4 4 6 (by kernel_rfl) (by decide) (by kernel_rfl) (by kernel_rfl) (fun _ _ _ _ _ h => h) ?_
           simp only [List.take_succ_cons, List.take_zero, List.drop_succ_cons, List.drop_zero]
           repeat (refine wpSteady_step (fun K hK => ?_); go_simp; first | (refine steady_of ?_ (fun W hW => ?_) (hK _ ?_); rotate_left; (obtain hcW := hW; go_simp; first | done | rfl); clear hK K) | (refine hK _ ?_; clear hK K))
           refine wpSteady_nil ?_
           refine reg_one 3 5 (by kernel_rfl) (by kernel_rfl) p0 ?_
           simp only [List.take_succ_cons, List.take_zero, List.drop_succ_cons, List.drop_zero]
           go_wp2_with fail
           refine (CL _).mono ?_
           rintro e w2 ⟨rfl, k2'⟩
           have k2 : Below W1.heap.size W1 w2 := ⟨k2'.os, k2'.tape, k2'.output, k2'.size, k2'.block⟩
           clear k2'
           have p2 := cell_keep k2 hlb p0
           have LS2 := zH (lk_kpt (uI LS) hbs (Kpt.of k2))
           have O2 := zH (own_kpt (uI O1) (Kpt.of (X := fun _ => False) k2) (fun _ _ h => h))
           have KB2 := zH (bt (uI KB) k2)
           have s2 := k2.size
           clear k2
           go_wp2_with fail
           first | refine next_nil ?_ | refine next_go ?_
           refine reg_one 8 4 (by kernel_rfl) (by kernel_rfl) p2 ?_
           simp only [List.take_succ_cons, List.take_zero, List.drop_succ_cons, List.drop_zero]
           go_wp2_with fail
           refine (PL2 w2 (uI LS2)).mono ?_
           rintro e w3 ⟨rfl, q, rfl⟩
           have KB3 : Hid (Below w.heap.size w (w2.drewN q)) := (uI KB2).trans ⟨rfl, rfl, rfl, Nat.le_refl _, fun _ _ => rfl⟩
           have O3 := zH (own_kpt (uI O2) ((Kpt.refl (fun _ => False) w2).drewN q) (fun _ _ h => h))
           have p3 : (w2.drewN q).cell? ⟨wr.heap.size, 0, none⟩ = some (.string lab) := p2
           have s3 : (w2.drewN q).heap.size = w2.heap.size := rfl
           generalize w2.drewN q = W3 at *
           go_wp2_with fail
           first | refine next_nil ?_ | refine next_go ?_
           refine reg_seg 9 1 3 (by kernel_rfl) (by decide) (by kernel_rfl) (by kernel_rfl) (fun _ _ _ _ _ h => h) ?_
           simp only [List.take_succ_cons, List.take_zero, List.drop_succ_cons, List.drop_zero]
           repeat (refine wpSteady_step (fun K hK => ?_); go_simp; first | (refine steady_of ?_ (fun W hW => ?_) (hK _ ?_); rotate_left; (obtain hcW := hW; go_simp; first | done | rfl); clear hK K) | (refine hK _ ?_; clear hK K))
           refine wpSteady_nil ?_
           refine reg_one 10 2 (by kernel_rfl) (by kernel_rfl) p3 ?_
           simp only [List.take_succ_cons, List.take_zero, List.drop_succ_cons, List.drop_zero]
           go_wp2_with fail
           first | refine next_nil ?_ | refine next_go ?_
           have p4 := cell_keep (below_a W3 (.cells #[.string lab, .int .i64 V] 157)) (by omega) p3
           refine reg_one 11 1 (by kernel_rfl) (by kernel_rfl) p4 ?_
           simp only [List.take_succ_cons, List.take_zero, List.drop_succ_cons, List.drop_zero]
           refine wpList_append_lies _ rfl (.tmp 33) (.tmp 43) 79 rfl w.heap.size 157 i0 (.agg #[.string ⟨#[]⟩, .int .i64 0]) 2 24 Tryz.underlying79 hi0 hz0 hz1 hz2 rfl (by decide) _ _ _ rfl ((uI O3).alloc _) ⟨_, 0, none⟩ 1 1 (cellsS (lab, V)) rfl rfl (cells_c1 _ (cellsS (lab, V)) _ _ s3.symm) (cellsS_one _) (by decide) (by unfold maxLen; omega) (by omega) (by simp; omega) _ rfl ?_
           intro g cap3 w4 own4 grow4 hloc hgl
           have KG : Kpt (fun x => u3.ownBlock = some x) W3 w4 := (Kpt.of (X := fun _ => False) (below_a W3 (.cells #[.string lab, .int .i64 V] 157))).trans (Kpt.grown (X := fun x => u3.ownBlock = some x) grow4 (fun _ h => h)) (fun _ h => h.elim) (fun _ h _ => h)
           have hown : ∀ x, u3.ownBlock = some x → w.heap.size ≤ x ∧ x < wr.heap.size := fun x h => (uI HOut2).lt x h
           have p5 : w4.cell? ⟨wr.heap.size, 0, none⟩ = some (.string lab) := by rw [KG.cell (by omega) (fun h => by have := hown _ h; omega)]; exact p3
           have KB4 := zH ((uI KB3).trans (KG.below (by omega) (fun x h => (hown x h).1)))
           have O4 := zH (own_spot own4 rfl rfl)
           clear own4 grow4 hloc hgl KG hown
           go_wp2_with fail
           first | refine next_nil ?_ | refine next_go ?_
           refine reg_one 12 0 (by kernel_rfl) (by kernel_rfl) p5 ?_
           simp only [List.take_succ_cons, List.take_zero, List.drop_succ_cons, List.drop_zero]
           go_wp2_with fail
           first | refine next_nil ?_ | refine next_go ?_
           refine reg_end (by kernel_rfl) p5 ?_
           clear p0 p2 p3 p4 p5 LS LS2 O1 O2 O3 KB KB2 KB3
           go_wp2_with fail
           go_roundg (lines.length - (k + 1))
           case measure => omega
           case rel => exact ⟨k + 1, _, by omega, rfl, by go_num, by simp; omega, O4, KB4, HE4⟩
         · replace hf : fa lab = false := by simpa using hf
           rw [hf] at FA
           have HE4 : Hid (out2 ++ (spt1 (lines.drop (k + 1)) pt ++ sptL us s.P (s.order.drop (i + 1))) = R) := by
             show _ = R
             rw [← uI HE3, uI hd, spt1_no hf]
           have O1 := zH ((uI HOut2).alloc (.cells #[.string lab, .int .i64 o, .int .i64 d, .int .i64 sr, .int .i64 mm, .string ref] 75))
           clear HE3 hd
           go_wp2_with fail
           refine (FA _).mono ?_
           rintro e w1 ⟨rfl, hw⟩
           subst w1
           go_wp2_with fail
           go_roundg (lines.length - (k + 1))
           case measure => omega
           case rel => exact ⟨k + 1, _, by omega, rfl, by go_num, by omega, O1, KB, HE4⟩
       · have hkl2 : k = lines.length := by omega
         subst hkl2
         have HE4 : Hid (out2 ++ sptL us s.P (s.order.drop (i + 1)) = R) := by
           show _ = R
           rw [← uI HE3, List.drop_length]; rfl
         clear HE3
         go_wp2_with fail
         go_roundg (s.order.length - (i + 1))
         case measure => omega
         case rel => exact ⟨i + 1, _, by omega, rfl, by go_num, by omega, HOut2, HB2, HE4⟩
   · have hil : i = s.order.length := by omega
     have hRs : R = out := by rw [← uI HE, hil, List.drop_length]; simp [sptL]
     subst hRs
     clear HE
     go_wp2_with fail
     go_ret
     exact ⟨_, rfl, Lies.owned (uI HOut), fun x h => ((uI HOut).lt x h).1, uI HB⟩
end Go.Proofs.YtlkoidkdeopgjaaGreatDoor
namespace Go.Proofs.YtlkoidkdeopgjaaGreatDoor
open Go.RowKit Go.Maps
set_option linter.unusedSimpArgs false
set_option linter.unusedVariables false
theorem atA_mem {A : Nmd} {k : List UInt8} (h : hasA A k = true) : (k, atA A k) ∈ A := by
 unfold hasA at h
 unfold atA
 cases e : A.find? (fun p => p.1 == k) with
 | none =>
   rw [List.find?_eq_none] at e
   rw [List.any_eq_true] at h
   obtain ⟨p, hp, hk⟩ := h
   exact absurd hk (e p hp)
 | some p =>
   have h1 := List.mem_of_find?_eq_some e
   have h2 := List.find?_some e
   simp only [beq_iff_eq] at h2
   subst h2
   exact h1
theorem atA_none {A : Nmd} {k : List UInt8} (h : hasA A k = false) : atA A k = 0 := by
 unfold hasA at h
 unfold atA
 rw [List.any_eq_false] at h
 rw [List.find?_eq_none.2 (fun p hp => h p hp)]
theorem plc_in : ∀ (l : List Ln) (k : Nat) (A : Nmd) (n : Int), 0 ≤ n → n ≤ 65536 → (∀ p ∈ A, 0 ≤ p.2 ∧ p.2 ≤ 65536) → (∀ p ∈ (plc l k A n).1, 0 ≤ p.2 ∧ p.2 ≤ 65536) ∧ 0 ≤ (plc l k A n).2.1 ∧ (plc l k A n).2.1 ≤ 65536
 | [], _, _, _, h1, h2, h => ⟨h, h1, h2⟩
 | x :: l, k, A, n, h1, h2, h => by
   by_cases hw : wrgL x = 0
   · by_cases he : emp x.lab = true
     · by_cases ht : n + lng x.i.o ≤ 65536
       · rw [plc_ins hw he ht]
         exact plc_in l _ _ _ (by have := lng_in x.i.o; omega) ht h
       · rw [plc_much hw he (by omega)]; simp
     · replace he : emp x.lab = false := by simpa using he
       by_cases ht : hasA A x.lab.toList = true
       · rw [plc_taken hw he ht]; simp
       · replace ht : hasA A x.lab.toList = false := by simpa using ht
         rw [plc_label hw he ht]
         refine plc_in l _ _ _ h1 h2 fun p hp => ?_
         rcases List.mem_append.1 hp with hp | hp
         · exact h p hp
         · simp at hp; subst hp; exact ⟨h1, h2⟩
   · rw [plc_bad hw]; simp
theorem plcA_in (l : List Ln) : (∀ p ∈ (plcA l).1, 0 ≤ p.2 ∧ p.2 ≤ 65536) ∧ 0 ≤ (plcA l).2.1 ∧ (plcA l).2.1 ≤ 65536 := by
 unfold plcA
 by_cases hm : l.length ≤ 40000
 · rw [if_pos hm]; exact plc_in _ _ _ _ (by decide) (by decide) (by simp)
 · rw [if_neg hm]; simp
theorem atA_in {A : Nmd} (h : ∀ p ∈ A, 0 ≤ p.2 ∧ p.2 ≤ 65536) (k : List UInt8) : 0 ≤ atA A k ∧ atA A k ≤ 65536 := by
 by_cases e : hasA A k = true
 · exact h _ (atA_mem e)
 · rw [atA_none (by simpa using e)]; omega
theorem owns_old : ∀ (l : List Ln) (n : Int) (O O' : Nmd), owns l n O = some O' → ∀ k, hasA O k = true → hasA O' k = true ∧ atA O' k = atA O k
 | [], _, O, O', h, k, hk => by simp [owns] at h; subst h; exact ⟨hk, rfl⟩
 | x :: l, n, O, O', h, k, hk => by
   by_cases hf : fa x.lab = true
   · by_cases ht : hasA O x.lab.toList = true
     · rw [owns_taken hf ht] at h; cases h
     · replace ht : hasA O x.lab.toList = false := by simpa using ht
       rw [owns_next hf ht] at h
       have e : (x.lab.toList == k) = false := by
         rw [beq_eq_false_iff_ne]; intro e; rw [e, hk] at ht; cases ht
       obtain ⟨h1, h2⟩ := owns_old l n _ _ h k (by rw [hasA_snoc, hk]; rfl)
       exact ⟨h1, by rw [h2, atA_snoc_other e]⟩
   · rw [owns_skip (by simpa using hf)] at h; exact owns_old l n _ _ h k hk
theorem owns_new : ∀ (l : List Ln) (n : Int) (O O' : Nmd), owns l n O = some O' → ∀ k, hasA O' k = true → hasA O k = false → atA O' k = n ∧ ∃ x ∈ l, fa x.lab = true ∧ x.lab.toList = k
 | [], _, O, O', h, k, hk, hn => by simp [owns] at h; subst h; rw [hk] at hn; cases hn
 | x :: l, n, O, O', h, k, hk, hn => by
   by_cases hf : fa x.lab = true
   · by_cases ht : hasA O x.lab.toList = true
     · rw [owns_taken hf ht] at h; cases h
     · replace ht : hasA O x.lab.toList = false := by simpa using ht
       rw [owns_next hf ht] at h
       by_cases e : x.lab.toList = k
       · subst e
         obtain ⟨h1, h2⟩ := owns_old l n _ _ h x.lab.toList (by rw [hasA_snoc]; simp)
         exact ⟨by rw [h2, atA_snoc_new ht], x, List.mem_cons_self, hf, rfl⟩
       · obtain ⟨h1, y, hy, h2⟩ := owns_new l n _ _ h k hk (by rw [hasA_snoc, hn]; simp [e])
         exact ⟨h1, y, List.mem_cons_of_mem _ hy, h2⟩
   · rw [owns_skip (by simpa using hf)] at h
     obtain ⟨h1, y, hy, h2⟩ := owns_new l n _ _ h k hk hn
     exact ⟨h1, y, List.mem_cons_of_mem _ hy, h2⟩
theorem srv_split {u : Un} {l : List Un} {n : Nat} {s : Sv} (h : (srv (u :: l) n s).2.1 = 0) : (plcA u.lines).2.2.1 = 0 ∧ ∃ O, owns u.lines n s.owners = some O ∧ srv (u :: l) n s = srv l (n + 1) ⟨s.parts ++ [⟨(plcA u.lines).1, (plcA u.lines).2.1, false, 0⟩], O⟩ := by
 by_cases e : (plcA u.lines).2.2.1 = 0
 · cases o : owns u.lines n s.owners with
   | none => rw [srv_taken e o] at h; simp at h
   | some O => exact ⟨e, O, rfl, srv_next e o⟩
 · rw [srv_bad e] at h; exact absurd h e
def ptOf (u : Un) : Pt := ⟨(plcA u.lines).1, (plcA u.lines).2.1, false, 0⟩
theorem srv_parts : ∀ (l : List Un) (n : Nat) (s : Sv), (srv l n s).2.1 = 0 → (srv l n s).1.parts = s.parts ++ l.map ptOf ∧ (∀ u ∈ l, (plcA u.lines).2.2.1 = 0)
 | [], n, s, _ => by simp [srv]
 | u :: l, n, s, h => by
   obtain ⟨h1, O, h2, h3⟩ := srv_split h
   rw [h3] at h ⊢
   obtain ⟨h4, h5⟩ := srv_parts l _ _ h
   refine ⟨by rw [h4]; simp [ptOf], fun v hv => ?_⟩
   rcases List.mem_cons.1 hv with rfl | hv
   · exact h1
   · exact h5 v hv
theorem srv_old : ∀ (l : List Un) (n : Nat) (s : Sv), (srv l n s).2.1 = 0 → ∀ k, hasA s.owners k = true → hasA (srv l n s).1.owners k = true ∧ atA (srv l n s).1.owners k = atA s.owners k
 | [], n, s, _, k, hk => ⟨hk, rfl⟩
 | u :: l, n, s, h, k, hk => by
   obtain ⟨h1, O, h2, h3⟩ := srv_split h
   rw [h3] at h ⊢
   obtain ⟨h4, h5⟩ := owns_old _ _ _ _ h2 k hk
   obtain ⟨h6, h7⟩ := srv_old l _ _ h k h4
   exact ⟨h6, h7.trans h5⟩
theorem srv_new : ∀ (l : List Un) (n : Nat) (s : Sv), (srv l n s).2.1 = 0 → ∀ k, hasA (srv l n s).1.owners k = true → hasA s.owners k = false → ∃ (i : Nat) (hi : i < l.length), atA (srv l n s).1.owners k = ((n + i : Nat) : Int) ∧ ∃ x ∈ (l[i]'hi).lines, fa x.lab = true ∧ x.lab.toList = k
 | [], n, s, _, k, hk, hn => by simp [srv] at hk; rw [hk] at hn; cases hn
 | u :: l, n, s, h, k, hk, hn => by
   obtain ⟨h1, O, h2, h3⟩ := srv_split h
   rw [h3] at h hk ⊢
   by_cases ho : hasA O k = true
   · obtain ⟨h4, h5⟩ := owns_new _ _ _ _ h2 k ho hn
     obtain ⟨h6, h7⟩ := srv_old l _ _ h k ho
     exact ⟨0, by simp, by rw [h7]; exact h4, h5⟩
   · obtain ⟨i, hi, h4, h5⟩ := srv_new l _ _ h k hk (by simpa using ho)
     exact ⟨i + 1, by simpa using hi, by rw [h4]; congr 1; omega, h5⟩
theorem srv_good {us : List Un} (hm : us.length ≤ 400) (h : (srv us 0 ⟨[], []⟩).2.1 = 0) {P : List (Pt × Nat)} (hP : P.map (·.1) = (srv us 0 ⟨[], []⟩).1.parts) : Good ⟨P, [], 0⟩ (srv us 0 ⟨[], []⟩).1.owners ∧ P.length = us.length := by
 obtain ⟨h1, h2⟩ := srv_parts us 0 ⟨[], []⟩ h
 have hl : P.length = us.length := by have := congrArg List.length (hP.trans h1); simpa using this
 have hput : ∀ p ∈ P, ∃ u ∈ us, p.1 = ptOf u := by
   intro p hp
   have : p.1 ∈ P.map (·.1) := List.mem_map_of_mem hp
   rw [hP, h1] at this
   simp only [List.nil_append, List.mem_map] at this
   obtain ⟨u, hu, e⟩ := this
   exact ⟨u, hu, e.symm⟩
 refine ⟨⟨by show P.length ≤ 400; omega, ?_, by show (0 : Int) ≤ 0; omega, by show (0 : Int) ≤ _; simp, ?_, ?_, by simp⟩, hl⟩
 · show 0 = cntP P
   unfold cntP
   rw [List.filter_eq_nil_iff.2 (fun p hp => by obtain ⟨u, _, e⟩ := hput p hp; rw [e]; simp [ptOf])]; rfl
 · intro p hp
   obtain ⟨u, _, e⟩ := hput p hp
   have hq := plcA_in u.lines
   rw [e]
   exact ⟨hq.2.1, hq.2.2, by show (0 : Int) ≤ 0; omega, by show (0 : Int) ≤ _; omega, fun k => atA_in hq.1 k⟩
 · intro k hk
   obtain ⟨i, hi, e, _⟩ := srv_new us 0 ⟨[], []⟩ h k hk rfl
   rw [e]
   show _ ∧ _ < ((P.length : Nat) : Int)
   omega
end Go.Proofs.YtlkoidkdeopgjaaGreatDoor
