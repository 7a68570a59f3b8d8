/-
  (*linker).spots.
-/
import Derived.Test.YtodfjomglgmffaaGreatDoorLkW
import Derived.Test.YtodfjomglgmffaaGreatDoorLkXz
import Derived.Test.YtodfjomglgmffaaGreatDoorShelf
namespace Go.Proofs.YtodfjomglgmffaaGreatDoor
open Go.RowKit Go.Maps
set_option linter.unusedSimpArgs false
set_option linter.unusedVariables false

theorem Tryz.infoSpot : (Tryz.prog.info? 114).map (fun i => (i.zero, i.size, i.bytes)) = some (some (.agg #[.string ⟨#[]⟩, .int .i64 0]), 2, 24) := by kernel_rfl
theorem clone_anyL (s : ByteArray) (w : World) (h : s.size ≤ 32) : Calls Tryz.prog 52 #[.string s] w fun e w' => e = .returned (.string s) ∧ Below w.heap.size w w' := by
  have C := fun w => Tryz.stringslite_Clone s w (by omega)
  go_enter Tryz.func52, Tryz.ntmps52
  go_wp2_with fail
  refine (C _).mono ?_
  rintro e w1 ⟨rfl, k1⟩
  go_wp2_with fail
  go_ret
  exact ⟨rfl, k1⟩
/-- Labels and where they lie, in memory. -/
def cellsS (x : ByteArray × Int) : List Value := [.string x.1, .int .i64 x.2]
def Spts (w : World) (v : Value) (l : List (ByteArray × Int)) : Prop := Lies w 2 v l.length (l.flatMap cellsS)
theorem cellsS_one (x : ByteArray × Int) : ∀ u ∈ cellsS x, u.oneCell' = true := by intro u hu; simp [cellsS] at hu; rcases hu with rfl | rfl <;> rfl
theorem spt1_yes {x : Ln} {l : List Ln} {p : Pt} (h : fa x.lab = true) : spt1 (x :: l) p = (x.lab, p.start + atA p.A x.lab.toList) :: spt1 l p := by unfold spt1; rw [List.filter_cons, if_pos h, List.map_cons]
theorem spt1_no {x : Ln} {l : List Ln} {p : Pt} (h : fa x.lab = false) : spt1 (x :: l) p = spt1 l p := by unfold spt1; rw [List.filter_cons, if_neg (by simp [h])]
theorem sptL_cons {us : List Un} {P : List (Pt × Nat)} {m : Nat} {o : List Int} (hu : m < us.length) (hp : m < P.length) : sptL us P ((m : Int) :: o) = spt1 (us[m]'hu).lines (P[m]'hp).1 ++ sptL us P o := by
  unfold sptL
  rw [List.flatMap_cons, Int.toNat_natCast, List.getElem?_eq_getElem hu, List.getElem?_eq_getElem hp]
theorem own_spot {u : World} {B : Nat} {v : Value} {P : List (ByteArray × Int)} {p : ByteArray × Int} {n : Nat} {cs : List Value} (h : u.ownsRow B 114 2 v n cs) (e : cs = P.flatMap cellsS ++ cellsS p) (hn : n = P.length + 1) : u.ownsRow B 114 2 v (P ++ [p]).length ((P ++ [p]).flatMap cellsS) := by
  have h1 : (P ++ [p]).length = n := by rw [hn]; simp
  rw [h1, List.flatMap_append]
  rw [e] at h
  simpa using h
/-- What spots hands back. -/
def SptRet (w : World) (L : List (ByteArray × Int)) (e : Ending) (w' : World) : Prop := ∃ v, e = .returned v ∧ Spts w' v L ∧ (∀ k, v.ownBlock = some k → w.heap.size ≤ k) ∧ Below w.heap.size w w'

set_option maxRecDepth 100000 in
set_option maxHeartbeats 8000000 in
theorem spots_any (c : Lf) (bs : List Nat) (w0 : World) (us : List Un) (hU : Uns w0 c.vu us) (w : World) (hbw : Below w0.heap.size w0 w) (s : Ls) (vo : Value) (hlk : LkAt c s vo w) (hg : Good s c.O) (hbs : s.P.map (·.2) = bs) (hul : us.length = s.P.length) (hrt : ∀ u ∈ us, u.lines.length ≤ 40000 ∧ ∀ x ∈ u.lines, wrgL x = 0) :
    Calls Tryz.prog 24 #[.pointer (some ⟨c.pk, 0, none⟩)] w fun e w' => SptRet w (sptL us s.P s.order) e w' := by
  obtain ⟨i0, hi0, hz0, hz1, hz2⟩ := info_parts Tryz.infoSpot
  have b0 := hlk.1.2.1 0 _ rfl
  have b3 := hlk.1.2.1 3 _ rfl
  have hpk := hlk.1.1
  obtain ⟨oo, oc, hvo⟩ := own_slice hlk.2.2.2.1
  have OI : Ints w vo s.order := Lies.owned hlk.2.2.2.1
  rw [hvo] at b3 OI
  obtain ⟨uo, uc, hvu, humax, huat⟩ := hU
  rw [hvu] at b0
  have HUA := hideI huat
  obtain ⟨sm1, sm2⟩ := hg.small
  have HLK := hideI hlk
  have HG := hideI hg
  have HRT := hideI hrt
  have hw0 := hbw.size
  obtain ⟨ao', cap', he', -, hoat⟩ := OI.at
  injection he' with he1 he2 he3
  subst he1
  have HOA := hideI hoat
  clear huat hlk hg hrt OI hoat he2 he3
  generalize hR : sptL us s.P s.order = R
  have HR : Hid ([] ++ sptL us s.P (s.order.drop 0) = R) := hR
  clear hR
  go_enter Tryz.func24, Tryz.ntmps24
  go_wp2_with fail
  go_loopg [3, 13] s.order.length (fun g vr ii wr => ∃ (i : Nat) (out : List (ByteArray × Int)), i ≤ s.order.length ∧ g = s.order.length - i ∧ ii = .int .i64 i ∧ out.length ≤ 40000 * i ∧ Hid (wr.ownsRow w.heap.size 114 2 vr out.length (out.flatMap cellsS)) ∧ Hid (Below w.heap.size w wr) ∧ Hid (out ++ sptL us s.P (s.order.drop i) = R))
  case atStart => exact ⟨0, [], Nat.zero_le _, rfl, rfl, by simp, World.ownsRow_nil _ _ _ _, Below.refl _ _, HR⟩
  case round =>
    obtain ⟨i, out, hi4, hg, rfl, hol, HOut, HB, HE⟩ := hrel
    clear HR
    by_cases hlt : i < s.order.length
    · obtain ⟨ob, oof, rfl, hobl, hocell⟩ := (unhideI HOA) (by intro h; rw [h] at hlt; simp at hlt)
      have co := cell_keep (unhideI HB) hobl (hocell i hlt)
      have hom := (unhideI HG).ord _ (List.getElem_mem hlt)
      obtain ⟨m, hm⟩ : ∃ m : Nat, s.order[i] = m := ⟨s.order[i].toNat, by omega⟩
      rw [hm] at co hom
      have hmP : m < s.P.length := by omega
      have hmU : m < us.length := by omega
      obtain ⟨ub, uof, uf, rfl, hubl, hucell⟩ := (unhideI HUA) (by intro h; rw [h] at hmU; simp at hmU)
      obtain ⟨-, u1, uL⟩ := hucell m hmU
      obtain ⟨lo, lc, hul2, hlmax, hlat⟩ := uL.at
      rw [hul2] at u1
      have kb0 := cell_keep (unhideI HB) hpk b0
      have u1' := cell_keep (unhideI HB) (by omega) (cell_keep hbw hubl u1)
      have hrm := (unhideI HRT) _ (List.getElem_mem hmU)
      have hll := hrm.1
      have HRL := hideI hrm.2
      have HLA := hideI hlat
      have HE2 : Hid (out ++ (spt1 ((us[m]'hmU).lines.drop 0) (s.P[m]'hmP).1 ++ sptL us s.P (s.order.drop (i + 1))) = R) := by
        show _ = R
        rw [← unhideI HE, drop_at s.order i hlt, hm, sptL_cons hmU hmP]; rfl
      have hq := (unhideI HG).pts _ (List.getElem_mem hmP)
      have PL := fun u x h hx => placeL_any c s vo u x m h hmP hx hq.2.2.1 (by omega) (hq.2.2.2.2 _).1 (hq.2.2.2.2 _).2
      generalize (s.P[m]'hmP).1 = pt at *
      generalize (us[m]'hmU).lines = lines at *
      clear hucell hlat uL hrm HE u1 hocell
      have hm' : (m : Int) < (us.length : Int) := by omega
      go_wp2_with fail
      go_loopg [3, 26] lines.length (fun g vr ii ws => ∃ (k : Nat) (out2 : List (ByteArray × Int)), k ≤ lines.length ∧ g = lines.length - k ∧ ii = .int .i64 k ∧ out2.length ≤ 40000 * i + k ∧ Hid (ws.ownsRow w.heap.size 114 2 vr out2.length (out2.flatMap cellsS)) ∧ Hid (Below w.heap.size w ws) ∧ Hid (out2 ++ (spt1 (lines.drop k) pt ++ sptL us s.P (s.order.drop (i + 1))) = R))
      case atStart => exact ⟨0, out, Nat.zero_le _, rfl, rfl, by omega, HOut, HB, HE2⟩
      case round =>
        obtain ⟨k, out2, hk, hgk, rfl, hol2, HOut2, HB2, HE3⟩ := hrel
        clear HE2 HOut HB co u1' kb0
        by_cases hkl : k < lines.length
        · obtain ⟨b2, off2, rfl, hbw2, hc2⟩ := (unhideI HLA) (by intro h; rw [h] at hkl; simp at hkl)
          obtain ⟨d0, d1, d2, d3, d4, d5⟩ := hc2 k hkl
          have keep : ∀ {o : Nat} {x : Value}, w0.cell? ⟨b2, o, none⟩ = some x → wr.cell? ⟨b2, o, none⟩ = some x := fun h => cell_keep (unhideI HB2) (by omega) (cell_keep hbw hbw2 h)
          replace d0 := keep d0
          replace d1 := keep d1
          replace d2 := keep d2
          replace d3 := keep d3
          replace d4 := keep d4
          replace d5 := keep d5
          have hd := hideI (drop_at lines k hkl)
          have hwx := hideI ((unhideI HRL) lines[k] (List.getElem_mem hkl))
          generalize lines[k] = x at *
          obtain ⟨lab, ⟨o, d, sr, mm⟩, ref⟩ := x
          clear hc2 keep
          dsimp only at *
          have BX := hideI (Box.new wr #[.string lab, .int .i64 o, .int .i64 d, .int .i64 sr, .int .i64 mm, .string ref] 40)
          have KA := hideI (below_a wr (.cells #[.string lab, .int .i64 o, .int .i64 d, .int .i64 sr, .int .i64 mm, .string ref] 40))
          have KB := hideI (bt (unhideI HB2) (unhideI KA))
          have p0 := (unhideI BX).2.1 0 _ rfl
          have FA := fun w => forAll_any lab w
          have sws := (unhideI HB2).size
          by_cases hf : fa lab = true
          · rw [hf] at FA
            have hsz : lab.size ≤ 32 := by
              have he : emp lab = false := by unfold fa at hf; simp at hf; exact hf.1
              exact (nm_size (wrgL_lab (unhideI hwx) he).1).1
            have HE4 : Hid ((out2 ++ [(lab, pt.start + atA pt.A lab.toList)]) ++ (spt1 (lines.drop (k + 1)) pt ++ sptL us s.P (s.order.drop (i + 1))) = R) := by
              show _ = R
              rw [← unhideI HE3, unhideI hd, spt1_yes hf]; simp
            have CL := fun w => clone_anyL lab w hsz
            have PL2 := fun u h => PL u lab h (by unfold maxLen; omega)
            generalize pt.start + atA pt.A lab.toList = V at *
            clear HE3 hd PL
            go_wp2_with fail
            refine (FA _).mono ?_
            rintro e w1 ⟨rfl, hw⟩
            subst w1
            go_wp2_with fail
            have LS := hideI (lk_kpt (unhideI HLK) hbs (Kpt.of (unhideI KB)))
            have O1 := hideI ((unhideI HOut2).alloc (.cells #[.string lab, .int .i64 o, .int .i64 d, .int .i64 sr, .int .i64 mm, .string ref] 40))
            have hlb : wr.heap.size < (wr.alloc (.cells #[.string lab, .int .i64 o, .int .i64 d, .int .i64 sr, .int .i64 mm, .string ref] 40)).heap.size := by simp
            have hls : (wr.alloc (.cells #[.string lab, .int .i64 o, .int .i64 d, .int .i64 sr, .int .i64 mm, .string ref] 40)).heap.size = wr.heap.size + 1 := by simp
            clear d0 d1 d2 d3 d4 d5 FA BX KA
            generalize wr.alloc (.cells #[.string lab, .int .i64 o, .int .i64 d, .int .i64 sr, .int .i64 mm, .string ref] 40) = W1 at *
            refine reg_start (fun W => W.cell? ⟨wr.heap.size, 0, none⟩ = some (.string lab)) (by kernel_rfl) ?_
            refine reg_seg 0 3 10 (by kernel_rfl) (by decide) (by kernel_rfl) (by kernel_rfl) (fun _ _ _ _ _ h => h) ?_
            simp only [List.take_succ_cons, List.take_zero, List.drop_succ_cons, List.drop_zero]
            repeat (refine wpSteady_step (fun K hK => ?_); go_simp; first | (refine steady_of ?_ (fun W hW => ?_) (hK _ ?_); rotate_left; (obtain hcW := hW; go_simp; first | done | rfl); clear hK K) | (refine hK _ ?_; clear hK K))
            refine wpSteady_nil ?_
            refine reg_seg 4 4 6 (by kernel_rfl) (by decide) (by kernel_rfl) (by kernel_rfl) (fun _ _ _ _ _ h => h) ?_
            simp only [List.take_succ_cons, List.take_zero, List.drop_succ_cons, List.drop_zero]
            repeat (refine wpSteady_step (fun K hK => ?_); go_simp; first | (refine steady_of ?_ (fun W hW => ?_) (hK _ ?_); rotate_left; (obtain hcW := hW; go_simp; first | done | rfl); clear hK K) | (refine hK _ ?_; clear hK K))
            refine wpSteady_nil ?_
            refine reg_one 3 5 (by kernel_rfl) (by kernel_rfl) p0 ?_
            simp only [List.take_succ_cons, List.take_zero, List.drop_succ_cons, List.drop_zero]
            go_wp2_with fail
            refine (CL _).mono ?_
            rintro e w2 ⟨rfl, k2'⟩
            have k2 : Below W1.heap.size W1 w2 := ⟨k2'.os, k2'.tape, k2'.output, k2'.size, k2'.block⟩
            clear k2'
            have p2 := cell_keep k2 hlb p0
            have LS2 := hideI (lk_kpt (unhideI LS) hbs (Kpt.of k2))
            have O2 := hideI (own_kpt (unhideI O1) (Kpt.of (X := fun _ => False) k2) (fun _ _ h => h))
            have KB2 := hideI (bt (unhideI KB) k2)
            have s2 := k2.size
            clear k2
            go_wp2_with fail
            first | refine next_nil ?_ | refine next_go ?_
            refine reg_one 8 4 (by kernel_rfl) (by kernel_rfl) p2 ?_
            simp only [List.take_succ_cons, List.take_zero, List.drop_succ_cons, List.drop_zero]
            go_wp2_with fail
            refine (PL2 w2 (unhideI LS2)).mono ?_
            rintro e w3 ⟨rfl, q, rfl⟩
            have KB3 : Hid (Below w.heap.size w (w2.drewN q)) := (unhideI KB2).trans ⟨rfl, rfl, rfl, Nat.le_refl _, fun _ _ => rfl⟩
            have O3 := hideI (own_kpt (unhideI O2) ((Kpt.refl (fun _ => False) w2).drewN q) (fun _ _ h => h))
            have p3 : (w2.drewN q).cell? ⟨wr.heap.size, 0, none⟩ = some (.string lab) := p2
            have s3 : (w2.drewN q).heap.size = w2.heap.size := rfl
            generalize w2.drewN q = W3 at *
            go_wp2_with fail
            first | refine next_nil ?_ | refine next_go ?_
            refine reg_seg 9 1 3 (by kernel_rfl) (by decide) (by kernel_rfl) (by kernel_rfl) (fun _ _ _ _ _ h => h) ?_
            simp only [List.take_succ_cons, List.take_zero, List.drop_succ_cons, List.drop_zero]
            repeat (refine wpSteady_step (fun K hK => ?_); go_simp; first | (refine steady_of ?_ (fun W hW => ?_) (hK _ ?_); rotate_left; (obtain hcW := hW; go_simp; first | done | rfl); clear hK K) | (refine hK _ ?_; clear hK K))
            refine wpSteady_nil ?_
            refine reg_one 10 2 (by kernel_rfl) (by kernel_rfl) p3 ?_
            simp only [List.take_succ_cons, List.take_zero, List.drop_succ_cons, List.drop_zero]
            go_wp2_with fail
            first | refine next_nil ?_ | refine next_go ?_
            have p4 := cell_keep (below_a W3 (.cells #[.string lab, .int .i64 V] 114)) (by omega) p3
            refine reg_one 11 1 (by kernel_rfl) (by kernel_rfl) p4 ?_
            simp only [List.take_succ_cons, List.take_zero, List.drop_succ_cons, List.drop_zero]
            refine wpList_append_lies _ rfl (.tmp 33) (.tmp 43) 42 rfl w.heap.size 114 i0 (.agg #[.string ⟨#[]⟩, .int .i64 0]) 2 24 Tryz.underlying42 hi0 hz0 hz1 hz2 rfl (by decide) _ _ _ rfl ((unhideI O3).alloc _) ⟨_, 0, none⟩ 1 1 (cellsS (lab, V)) rfl rfl (cells_c1 _ (cellsS (lab, V)) _ _ s3.symm) (cellsS_one _) (by decide) (by unfold maxLen; omega) (by omega) (by simp; omega) _ rfl ?_
            intro g cap3 w4 own4 grow4 hloc hgl
            have KG : Kpt (fun x => u3.ownBlock = some x) W3 w4 := (Kpt.of (X := fun _ => False) (below_a W3 (.cells #[.string lab, .int .i64 V] 114))).trans (Kpt.grown (X := fun x => u3.ownBlock = some x) grow4 (fun _ h => h)) (fun _ h => h.elim) (fun _ h _ => h)
            have hown : ∀ x, u3.ownBlock = some x → w.heap.size ≤ x ∧ x < wr.heap.size := fun x h => (unhideI HOut2).lt x h
            have p5 : w4.cell? ⟨wr.heap.size, 0, none⟩ = some (.string lab) := by rw [KG.cell (by omega) (fun h => by have := hown _ h; omega)]; exact p3
            have KB4 := hideI ((unhideI KB3).trans (KG.below (by omega) (fun x h => (hown x h).1)))
            have O4 := hideI (own_spot own4 rfl rfl)
            clear own4 grow4 hloc hgl KG hown
            go_wp2_with fail
            first | refine next_nil ?_ | refine next_go ?_
            refine reg_one 12 0 (by kernel_rfl) (by kernel_rfl) p5 ?_
            simp only [List.take_succ_cons, List.take_zero, List.drop_succ_cons, List.drop_zero]
            go_wp2_with fail
            first | refine next_nil ?_ | refine next_go ?_
            refine reg_end (by kernel_rfl) p5 ?_
            clear p0 p2 p3 p4 p5 LS LS2 O1 O2 O3 KB KB2 KB3
            go_wp2_with fail
            go_roundg (lines.length - (k + 1))
            case measure => omega
            case rel => exact ⟨k + 1, _, by omega, rfl, by go_num, by simp; omega, O4, KB4, HE4⟩
          · replace hf : fa lab = false := by simpa using hf
            rw [hf] at FA
            have HE4 : Hid (out2 ++ (spt1 (lines.drop (k + 1)) pt ++ sptL us s.P (s.order.drop (i + 1))) = R) := by
              show _ = R
              rw [← unhideI HE3, unhideI hd, spt1_no hf]
            have O1 := hideI ((unhideI HOut2).alloc (.cells #[.string lab, .int .i64 o, .int .i64 d, .int .i64 sr, .int .i64 mm, .string ref] 40))
            clear HE3 hd
            go_wp2_with fail
            refine (FA _).mono ?_
            rintro e w1 ⟨rfl, hw⟩
            subst w1
            go_wp2_with fail
            go_roundg (lines.length - (k + 1))
            case measure => omega
            case rel => exact ⟨k + 1, _, by omega, rfl, by go_num, by omega, O1, KB, HE4⟩
        · have hkl2 : k = lines.length := by omega
          subst hkl2
          have HE4 : Hid (out2 ++ sptL us s.P (s.order.drop (i + 1)) = R) := by
            show _ = R
            rw [← unhideI HE3, List.drop_length]; rfl
          clear HE3
          go_wp2_with fail
          go_roundg (s.order.length - (i + 1))
          case measure => omega
          case rel => exact ⟨i + 1, _, by omega, rfl, by go_num, by omega, HOut2, HB2, HE4⟩
    · have hil : i = s.order.length := by omega
      have hRs : R = out := by rw [← unhideI HE, hil, List.drop_length]; simp [sptL]
      subst hRs
      clear HE
      go_wp2_with fail
      go_ret
      exact ⟨_, rfl, Lies.owned (unhideI HOut), fun x h => ((unhideI HOut).lt x h).1, unhideI HB⟩
end Go.Proofs.YtodfjomglgmffaaGreatDoor
