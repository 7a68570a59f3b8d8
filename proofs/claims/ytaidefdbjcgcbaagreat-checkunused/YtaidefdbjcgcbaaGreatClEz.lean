/-
  Programs as a whole: a variable of all.
-/
import Derived.Test.YtaidefdbjcgcbaaGreatCnWz
namespace Go.Proofs.YtaidefdbjcgcbaaGreat
open Go.RowKit Go.Maps Go.Great
set_option linter.unusedSimpArgs false
set_option linter.unusedVariables false

def cnW (l : List Ex) : Int := (cnEs l).2
theorem cnW_cons (x : Ex) (xs : List Ex) : cnW (x :: xs) = if (cnE x).2.2.2 ≠ 0 then (cnE x).2.2.2 else cnW xs := by
  unfold cnW
  rw [cnEs_cons]
  split
  · rfl
  · split
    · rfl
    · rename_i h1 h2
      simpa using Eq.symm (by simpa using h2)
/-- What a variable of all makes: the fault; behind none, the names. -/
def AvR (H : Nat) (w0 : World) (nb vb fb nv nf : Nat) (E : Nev) (g : Gb) (R X : Int) (e : Ending) (w' : World) : Prop := e = .returned (.int .i64 R) ∧ Below H w0 w' ∧ (R = 0 → Ng H w0 w' nb vb fb (nv + 1) nf (E.addV g) X)
set_option maxRecDepth 100000 in
set_option maxHeartbeats 1000000 in
theorem addV_no {H : Nat} {w0 w : World} {nb vb fb nv nf : Nat} {E : Nev} {wd : Int} (h : Ng H w0 w nb vb fb nv nf E wd) (g : Gb) (kv : Value) (hn : g.nm.size ≤ maxLen) (ht : E.taken g.nm = true) (X : Int) :
    Calls Tryz.prog 11 #[.pointer (some ⟨nb, 0, none⟩), .agg #[.int .i64 g.b, .bool g.s, .string g.nm, .int .i64 g.size, kv]] w fun e w' => AvR H w0 nb vb fb nv nf E g 7 X e w' := by
  have ka := below_a w (.cells #[.int .i64 g.b, .bool g.s, .string g.nm, .int .i64 g.size, kv] 37)
  have S := hideI (h.step ka)
  have CT := taken_any (h.step ka) g.nm hn
  rw [ht] at CT
  have CT := hideI CT
  clear h ka ht
  go_enter Tryz.func11, Tryz.ntmps11
  go_wp2_with fail
  refine (unhideI CT).mono ?_
  rintro e w1 ⟨rfl, k1⟩
  have K := hideI ((unhideI S).step k1).k
  clear CT S k1
  go_wp2_with fail
  go_ret
  exact ⟨rfl, unhideI K, fun e => by cases e⟩
set_option maxRecDepth 100000 in
set_option maxHeartbeats 2000000 in
theorem addV_yes {H : Nat} {w0 w : World} {nb vb fb nv nf : Nat} {E : Nev} {wd : Int} (h : Ng H w0 w nb vb fb nv nf E wd) (g : Gb) (gd : GbG g) (ka : Option Addr) (kc : Nat) (hx : ExL H w (.slice ka g.init.length kc) g.init) (hn : g.nm.size ≤ maxLen) (hl : nv < maxLen) (ht : E.taken g.nm = false) (hwd : 0 ≤ wd ∧ wd ≤ 8000) (X : Int) (hX : X = wd + max 1 g.size * wds g.b) :
    Calls Tryz.prog 11 #[.pointer (some ⟨nb, 0, none⟩), .agg #[.int .i64 g.b, .bool g.s, .string g.nm, .int .i64 g.size, .slice ka g.init.length kc]] w fun e w' => AvR H w0 nb vb fb nv nf E g (if 8000 < X then 4 else cnW g.init) X e w' := by
  have k0 := below_a w (.cells #[.int .i64 g.b, .bool g.s, .string g.nm, .int .i64 g.size, .slice ka g.init.length kc] 37)
  have S := hideI (h.step k0)
  have BX := hideI (BoxC.new w #[.int .i64 g.b, .bool g.s, .string g.nm, .int .i64 g.size, .slice ka g.init.length kc] 37 (by decide))
  have CT := taken_any (h.step k0) g.nm hn
  rw [ht] at CT
  have CT := hideI CT
  have HX := hideI ((hx.step (k0.mono h.le)).step (Below.refl _ _))
  have HLE := hideI (Nat.le_trans h.le k0.size)
  obtain ⟨gb, gn, ⟨gz1, gz2⟩, gl, ge⟩ := gd
  obtain ⟨-, -, -, hmax, -⟩ := hx.at
  unfold maxLen at hmax
  have GE := hideI ge
  have HNB := hideI h.bx.lt
  have CW := hideI (fun w => twords_any g.b g.s w gb)
  obtain ⟨hq1, hq2⟩ := wds_ge g.b
  obtain ⟨R, hR⟩ : ∃ R, R = if 8000 < X then 4 else cnW g.init := ⟨_, rfl⟩
  rw [← hR]
  have HR := hideI hR
  have HXX := hideI hX
  have HQ := hideI (And.intro hq1 hq2)
  have HGZ := hideI (And.intro gz1 gz2)
  have HWD := hideI hwd
  clear h k0 ht hx gb gn gl ge hR hX hq1 hq2 gz1 gz2 hwd
  obtain ⟨b, s, nm, size, init⟩ := g
  dsimp only at *
  go_enter Tryz.func11, Tryz.ntmps11
  go_wp2_with fail
  refine (unhideI CT).mono ?_
  rintro e w1 ⟨rfl, k1⟩
  have S1 := hideI ((unhideI S).step k1)
  have BX1 := hideI ((unhideI BX).step k1)
  have HX1 := hideI ((unhideI HX).step (k1.mono (unhideI HLE)))
  clear CT S k1 BX HX HLE
  go_wp2_with fail
  have S2 := hideI ((unhideI S1).step (Below.refl _ _).drew)
  have BX2 := hideI ((unhideI BX1).step (Below.refl _ _).drew)
  have HX2 := hideI ((unhideI HX1).step ((Below.refl _ _).drew))
  have hsb := (unhideI S1).bx.lt
  clear S1 BX1 HX1
  have a0 := box_cells (unhideI S2).bx 0 _ rfl
  obtain ⟨c0, c1, c2, c3, c4⟩ := five_at (unhideI BX2).box
  refine reg_start (fun W => W.cell? ⟨nb, 0, none⟩ = some (.map (some vb)) ∧ W.cell? ⟨w.heap.size, 0, none⟩ = some (.int .i64 b) ∧ W.cell? ⟨w.heap.size, 1, none⟩ = some (.bool s) ∧ W.cell? ⟨w.heap.size, 2, none⟩ = some (.string nm) ∧ W.cell? ⟨w.heap.size, 3, none⟩ = some (.int .i64 size)) (by kernel_rfl) ?_
  generalize w1.drew = W8 at *
  have CL := hideI (show W8.cell? ⟨nb, 0, none⟩ = some (.map (some vb)) ∧ W8.cell? ⟨w.heap.size, 0, none⟩ = some (.int .i64 b) ∧ W8.cell? ⟨w.heap.size, 1, none⟩ = some (.bool s) ∧ W8.cell? ⟨w.heap.size, 2, none⟩ = some (.string nm) ∧ W8.cell? ⟨w.heap.size, 3, none⟩ = some (.int .i64 size) from ⟨a0, c0, c1, c2, c3⟩)
  clear a0 c0 c1 c2 c3 c4
  refine reg_seg 0 12 1 (by kernel_rfl) (by decide) (by kernel_rfl) (by kernel_rfl) (fun _ _ _ _ _ h => h) ?_
  simp only [List.take_succ_cons, List.take_zero, List.drop_succ_cons, List.drop_zero]
  repeat (refine wpSteady_step (fun K hK => ?_); go_simp; first | (refine steady_of ?_ (fun W hW => ?_) (hK _ ?_); rotate_left; (obtain ⟨d0, d1, d2, d3, d4⟩ := hW; go_simp; first | done | rfl); clear hK K) | (refine hK _ ?_; clear hK K))
  refine wpSteady_nil ?_
  refine reg_one 12 0 (by kernel_rfl) (by kernel_rfl) (unhideI CL) ?_
  simp only [List.take_succ_cons, List.take_zero, List.drop_succ_cons, List.drop_zero]
  go_wp2_with (at_mapUpdate; refine wpList_putVv rfl (.tmp 16) (.tmp 18) (.tmp 24) 44 77 rfl Tryz.underlying44 vb nv _ rfl (unhideI S2).v hl nm rfl hn (encV (b, s, decide (0 < size))) rfl ?_; intro w9 m9 g9; have S9 := hideI ((unhideI S2).addV (g := ⟨b, s, nm, size, init⟩) m9 g9); have B9 := hideI ((unhideI BX2).grown (unhideI S2).v g9); have HX9 := hideI ((unhideI HX2).step (grown_below (Below.refl _ _) (unhideI S2).le (unhideI S2).hv g9)); clear m9 g9)
  first | refine next_nil ?_ | refine next_go ?_
  have b1 := box_cells (unhideI S9).bx 0 _ rfl
  obtain ⟨e0, e1, e2, e3, e4⟩ := five_at (unhideI B9).box
  refine reg_end (by kernel_rfl) ⟨b1, e0, e1, e2, e3⟩ ?_
  clear b1 e0 e1 e2 e3 e4 CL S2 BX2 HX2 hsb
  go_wp2_with fail
  clear CT
  have CL := hideI (fun (W : World) (D : BoxC W w.heap.size #[.int .i64 b, .bool s, .string nm, .int .i64 size, .slice ka init.length kc] 37) => (⟨box_cells D 0 _ rfl, box_cells D 1 _ rfl, box_cells D 3 _ rfl⟩ : W.cell? ⟨w.heap.size, 0, none⟩ = some (.int .i64 b) ∧ W.cell? ⟨w.heap.size, 1, none⟩ = some (.bool s) ∧ W.cell? ⟨w.heap.size, 3, none⟩ = some (.int .i64 size)))
  refine reg_start (fun W => W.cell? ⟨w.heap.size, 0, none⟩ = some (.int .i64 b) ∧ W.cell? ⟨w.heap.size, 1, none⟩ = some (.bool s) ∧ W.cell? ⟨w.heap.size, 3, none⟩ = some (.int .i64 size)) (by kernel_rfl) ?_
  have S10 := hideI ((unhideI S9).step (Below.refl _ _).drew)
  have B10 := hideI ((unhideI B9).step (Below.refl _ _).drew)
  have HX10 := hideI ((unhideI HX9).step ((Below.refl _ _).drew))
  clear S9 B9 HX9
  generalize w9.drew = W10 at *
  refine reg_seg 0 3 12 (by kernel_rfl) (by decide) (by kernel_rfl) (by kernel_rfl) (fun _ _ _ _ _ h => h) ?_
  simp only [List.take_succ_cons, List.take_zero, List.drop_succ_cons, List.drop_zero]
  repeat (refine wpSteady_step (fun K hK => ?_); go_simp; first | (refine steady_of ?_ (fun W hW => ?_) (hK _ ?_); rotate_left; (obtain ⟨d0, d1, d2⟩ := hW; go_simp; first | done | rfl); clear hK K) | (refine hK _ ?_; clear hK K))
  refine wpSteady_nil ?_
  refine reg_seg 4 5 7 (by kernel_rfl) (by decide) (by kernel_rfl) (by kernel_rfl) (fun _ _ _ _ _ h => h) ?_
  simp only [List.take_succ_cons, List.take_zero, List.drop_succ_cons, List.drop_zero]
  repeat (refine wpSteady_step (fun K hK => ?_); go_simp; first | (refine steady_of ?_ (fun W hW => ?_) (hK _ ?_); rotate_left; (obtain ⟨d0, d1, d2⟩ := hW; go_simp; first | done | rfl); clear hK K) | (refine hK _ ?_; clear hK K))
  refine wpSteady_nil ?_
  refine reg_two 3 9 6 (by kernel_rfl) (by kernel_rfl) (unhideI CL _ (unhideI B10)) ?_ ?_
  all_goals simp only [List.take_succ_cons, List.take_zero, List.drop_succ_cons, List.drop_zero]
  · have c2 := box_cells (unhideI S10).bx 2 _ rfl
    have hsb := (unhideI S10).bx.lt
    go_wp2_with fail
    first | refine next_nil ?_ | refine next_go ?_
    refine reg_one 9 5 (by kernel_rfl) (by kernel_rfl) (unhideI CL _ (unhideI B10)) ?_
    simp only [List.take_succ_cons, List.take_zero, List.drop_succ_cons, List.drop_zero]
    go_wp2_with fail
    refine (unhideI CW _).mono ?_
    rintro e w13 ⟨rfl, k13⟩
    have S13 := hideI ((unhideI S10).step k13)
    have B13 := hideI ((unhideI B10).step k13)
    have HX13 := hideI ((unhideI HX10).step (k13.mono (unhideI S10).le))
    clear c2 hsb k13 S10 B10 HX10
    go_wp2_with fail
    first | refine next_nil ?_ | refine next_go ?_
    have MQ : (1 ≤ max 1 size ∧ max 1 size ≤ 8000) ∧ 1 ≤ wds b ∧ wds b ≤ 4 := ⟨by have := unhideI HGZ; omega, (unhideI HQ).1, (unhideI HQ).2⟩
    generalize max 1 size = MX at *
    generalize wds b = q at *
    have mq1 : 0 ≤ MX * q := Int.mul_nonneg (by omega) (by omega)
    have mq2 : MX * q ≤ 8000 * 4 := Int.mul_le_mul MQ.1.2 MQ.2.2 (by omega) (by omega)
    have hwd := unhideI HWD
    refine reg_seg 10 1 4 (by kernel_rfl) (by decide) (by kernel_rfl) (by kernel_rfl) (fun _ _ _ _ _ h => h) ?_
    simp only [List.take_succ_cons, List.take_zero, List.drop_succ_cons, List.drop_zero]
    repeat (refine wpSteady_step (fun K hK => ?_); go_simp; first | (refine steady_of ?_ (fun W hW => ?_) (hK _ ?_); rotate_left; (obtain ⟨d0, d1, d2⟩ := hW; go_simp; first | done | rfl); clear hK K) | (refine hK _ ?_; clear hK K))
    refine wpSteady_nil ?_
    refine reg_one 11 3 (by kernel_rfl) (by kernel_rfl) (unhideI CL _ (unhideI B13)) ?_
    simp only [List.take_succ_cons, List.take_zero, List.drop_succ_cons, List.drop_zero]
    go_wp2_with fail
    first | refine next_nil ?_ | refine next_go ?_
    refine reg_seg 12 2 1 (by kernel_rfl) (by decide) (by kernel_rfl) (by kernel_rfl) (fun _ _ _ _ _ h => h) ?_
    simp only [List.take_succ_cons, List.take_zero, List.drop_succ_cons, List.drop_zero]
    repeat (refine wpSteady_step (fun K hK => ?_); go_simp; first | (refine steady_of ?_ (fun W hW => ?_) (hK _ ?_); rotate_left; (obtain ⟨d0, d1, d2⟩ := hW; go_simp; first | done | rfl); clear hK K) | (refine hK _ ?_; clear hK K))
    refine wpSteady_nil ?_
    have c2 := box_cells (unhideI S13).bx 2 _ rfl
    have hsb := (unhideI S13).bx.lt
    have hsf := (unhideI S13).bx.box.2.2
    refine reg_one 14 0 (by kernel_rfl) (by kernel_rfl) (unhideI CL _ (unhideI B13)) ?_
    simp only [List.take_succ_cons, List.take_zero, List.drop_succ_cons, List.drop_zero]
    go_wp2_with fail
    first | refine next_nil ?_ | refine next_go ?_
    clear c2 hsb hsf
    have S14 := (unhideI S13).store (wd + MX * q)
    have B14 := hideI ((unhideI B13).other (b' := nb) (j := 2) (u := .int .i64 (wd + MX * q)) (Ne.symm (Nat.ne_of_lt (unhideI HNB))))
    have HX14 := hideI ((unhideI HX13).step (show Below H w13 (w13.setCell ⟨nb, 2, none⟩ (.int .i64 (wd + MX * q))) from Below.setCell (Below.refl _ _) (unhideI S13).hn _))
    generalize w13.setCell ⟨nb, 2, none⟩ (.int .i64 (wd + MX * q)) = W14 at *
    rw [← unhideI HXX] at S14
    have S15 := hideI S14
    clear S14 S13 B13 HX13
    refine reg_end (by kernel_rfl) (unhideI CL _ (unhideI B14)) ?_
    clear CL CW mq1 mq2 MQ hwd HXX
    have c2 := box_cells (unhideI S15).bx 2 _ rfl
    have hsb := (unhideI S15).bx.lt
    obtain ⟨e0, e1, e2, e3, e4⟩ := five_at (unhideI B14).box
    have hsw := (unhideI B14).lt
    by_cases h8 : 8000 < X
    · obtain rfl : R = 4 := (unhideI HR).trans (if_pos h8)
      go_wp2_with fail
      go_ret
      exact ⟨rfl, (unhideI S15).k, fun e => by cases e⟩
    have HE0 := hideI (show cnW (init.drop 0) = R from ((unhideI HR).trans (if_neg h8)).symm)
    clear HR
    go_wp2_with fail
    go_loopg [47] init.length (fun g t wr => ∃ (i : Nat), i ≤ init.length ∧ g = init.length - i ∧ t = .int .i64 (i : Int) ∧ Hid (Below W14.heap.size W14 wr) ∧ Hid (cnW (init.drop i) = R))
    case atStart => exact ⟨0, Nat.zero_le _, rfl, rfl, hideI (Below.refl _ _), HE0⟩
    case round =>
      clear HE0 c2 hsb e0 e1 e2 e3 e4 hsw
      obtain ⟨i, hi, hg, rfl, HC, HE⟩ := hrel
      generalize wr = V0 at *
      by_cases hlt : i < init.length
      · have hne : init ≠ [] := by intro h; rw [h] at hlt; simp at hlt
        have hxw : ExL H V0 (.slice ka init.length kc) init := (unhideI HX14).step ((unhideI HC).mono (unhideI S15).le)
        obtain ⟨ao', cap', e1, -, hat⟩ := hxw.at
        injection e1 with e1 _ e2
        subst e1 e2
        obtain ⟨b1, o1, rfl, hb1, hbw, hc1⟩ := hat hne
        obtain ⟨kv, hk, hf, x0, x1, x2, x3, x4, x5⟩ := hc1 i hlt
        obtain ⟨ak, ck, rfl, -, -⟩ := hk.at
        have hiI : (i : Int) < (init.length : Int) := by omega
        have hi0 : (0 : Int) ≤ (i : Int) := by omega
        have HD := hideI (show init.drop i = init[i] :: init.drop (i + 1) from List.drop_eq_getElem_cons hlt)
        have k2 := below_a V0 (.cells #[.int .i64 init[i].k, .int .u64 init[i].n, .int .i64 init[i].b, .bool init[i].s, .string init[i].nm, .slice ak init[i].kids.length ck] 57)
        have hle2 := Nat.le_trans (unhideI S15).le (unhideI HC).size
        obtain ⟨⟨V, vb', vs, HW, -⟩, -⟩ := wfC init[i] (unhideI GE _ (List.getElem_mem hlt)) (nmE_of _ _ _ _ hk hf)
        have CA := hideI (HW _ _ _ (hk.step (k2.mono hle2)) (Nat.le_trans hle2 k2.size))
        have KA := hideI (bT (unhideI HC) k2)
        rw [unhideI HD, cnW_cons] at HE
        clear hat hc1 hxw hk HW k2 HD hf HC hle2
        generalize init[i] = y at *
        generalize (cnE y).2.2.2 = er at *
        go_wp2_with fail
        refine (unhideI CA).mono ?_
        rintro e V1 ⟨rfl, k1⟩
        have K1 := hideI (bT (unhideI KA) k1)
        clear CA k1 KA
        by_cases he : er = 0
        · subst he
          go_wp2_with fail
          go_roundg (init.length - (i + 1))
          case measure => omega
          case rel =>
            have h2 := unhideI HE
            rw [if_neg (by simp)] at h2
            exact ⟨i + 1, by omega, rfl, by go_num, hideI (bT (unhideI K1) (below_a _ _)), hideI h2⟩
        · have ee : (er == 0) = false := beq_eq_false_iff_ne.2 he
          have h2 := unhideI HE
          rw [if_pos he] at h2
          subst h2
          go_wp2_with fail
          go_ret
          exact ⟨rfl, ((unhideI S15).step (bT (unhideI K1) (below_a _ _))).k, fun e => absurd e he⟩
      · have hiI : ¬ (i : Int) < (init.length : Int) := by omega
        have h2 := unhideI HE
        rw [List.drop_eq_nil_of_le (by omega)] at h2
        obtain rfl : R = 0 := by rw [← h2]; unfold cnW; rw [cnEs_nil]
        go_wp2_with fail
        go_ret
        exact ⟨rfl, ((unhideI S15).step (unhideI HC)).k, fun _ => (unhideI S15).step (unhideI HC)⟩
  · go_wp2_with fail
    refine (unhideI CW _).mono ?_
    rintro e w13 ⟨rfl, k13⟩
    have S13 := hideI ((unhideI S10).step k13)
    have B13 := hideI ((unhideI B10).step k13)
    have HX13 := hideI ((unhideI HX10).step (k13.mono (unhideI S10).le))
    clear k13 S10 B10 HX10
    go_wp2_with fail
    first | refine next_nil ?_ | refine next_go ?_
    have MQ : (1 ≤ max 1 size ∧ max 1 size ≤ 8000) ∧ 1 ≤ wds b ∧ wds b ≤ 4 := ⟨by have := unhideI HGZ; omega, (unhideI HQ).1, (unhideI HQ).2⟩
    generalize max 1 size = MX at *
    generalize wds b = q at *
    have mq1 : 0 ≤ MX * q := Int.mul_nonneg (by omega) (by omega)
    have mq2 : MX * q ≤ 8000 * 4 := Int.mul_le_mul MQ.1.2 MQ.2.2 (by omega) (by omega)
    have hwd := unhideI HWD
    refine reg_seg 10 1 5 (by kernel_rfl) (by decide) (by kernel_rfl) (by kernel_rfl) (fun _ _ _ _ _ h => h) ?_
    simp only [List.take_succ_cons, List.take_zero, List.drop_succ_cons, List.drop_zero]
    repeat (refine wpSteady_step (fun K hK => ?_); go_simp; first | (refine steady_of ?_ (fun W hW => ?_) (hK _ ?_); rotate_left; (obtain ⟨d0, d1, d2⟩ := hW; go_simp; first | done | rfl); clear hK K) | (refine hK _ ?_; clear hK K))
    refine wpSteady_nil ?_
    have c2 := box_cells (unhideI S13).bx 2 _ rfl
    have hsb := (unhideI S13).bx.lt
    refine reg_one 3 4 (by kernel_rfl) (by kernel_rfl) (unhideI CL _ (unhideI B13)) ?_
    simp only [List.take_succ_cons, List.take_zero, List.drop_succ_cons, List.drop_zero]
    go_wp2_with fail
    first | refine next_nil ?_ | refine next_go ?_
    clear c2 hsb
    refine reg_one 11 3 (by kernel_rfl) (by kernel_rfl) (unhideI CL _ (unhideI B13)) ?_
    simp only [List.take_succ_cons, List.take_zero, List.drop_succ_cons, List.drop_zero]
    go_wp2_with fail
    first | refine next_nil ?_ | refine next_go ?_
    refine reg_seg 12 2 1 (by kernel_rfl) (by decide) (by kernel_rfl) (by kernel_rfl) (fun _ _ _ _ _ h => h) ?_
    simp only [List.take_succ_cons, List.take_zero, List.drop_succ_cons, List.drop_zero]
    repeat (refine wpSteady_step (fun K hK => ?_); go_simp; first | (refine steady_of ?_ (fun W hW => ?_) (hK _ ?_); rotate_left; (obtain ⟨d0, d1, d2⟩ := hW; go_simp; first | done | rfl); clear hK K) | (refine hK _ ?_; clear hK K))
    refine wpSteady_nil ?_
    have c2 := box_cells (unhideI S13).bx 2 _ rfl
    have hsb := (unhideI S13).bx.lt
    have hsf := (unhideI S13).bx.box.2.2
    refine reg_one 14 0 (by kernel_rfl) (by kernel_rfl) (unhideI CL _ (unhideI B13)) ?_
    simp only [List.take_succ_cons, List.take_zero, List.drop_succ_cons, List.drop_zero]
    go_wp2_with fail
    first | refine next_nil ?_ | refine next_go ?_
    clear c2 hsb hsf
    have S14 := (unhideI S13).store (wd + MX * q)
    have B14 := hideI ((unhideI B13).other (b' := nb) (j := 2) (u := .int .i64 (wd + MX * q)) (Ne.symm (Nat.ne_of_lt (unhideI HNB))))
    have HX14 := hideI ((unhideI HX13).step (show Below H w13 (w13.setCell ⟨nb, 2, none⟩ (.int .i64 (wd + MX * q))) from Below.setCell (Below.refl _ _) (unhideI S13).hn _))
    generalize w13.setCell ⟨nb, 2, none⟩ (.int .i64 (wd + MX * q)) = W14 at *
    rw [← unhideI HXX] at S14
    have S15 := hideI S14
    clear S14 S13 B13 HX13
    refine reg_end (by kernel_rfl) (unhideI CL _ (unhideI B14)) ?_
    clear CL CW mq1 mq2 MQ hwd HXX
    have c2 := box_cells (unhideI S15).bx 2 _ rfl
    have hsb := (unhideI S15).bx.lt
    obtain ⟨e0, e1, e2, e3, e4⟩ := five_at (unhideI B14).box
    have hsw := (unhideI B14).lt
    by_cases h8 : 8000 < X
    · obtain rfl : R = 4 := (unhideI HR).trans (if_pos h8)
      go_wp2_with fail
      go_ret
      exact ⟨rfl, (unhideI S15).k, fun e => by cases e⟩
    have HE0 := hideI (show cnW (init.drop 0) = R from ((unhideI HR).trans (if_neg h8)).symm)
    clear HR
    go_wp2_with fail
    go_loopg [47] init.length (fun g t wr => ∃ (i : Nat), i ≤ init.length ∧ g = init.length - i ∧ t = .int .i64 (i : Int) ∧ Hid (Below W14.heap.size W14 wr) ∧ Hid (cnW (init.drop i) = R))
    case atStart => exact ⟨0, Nat.zero_le _, rfl, rfl, hideI (Below.refl _ _), HE0⟩
    case round =>
      clear HE0 c2 hsb e0 e1 e2 e3 e4 hsw
      obtain ⟨i, hi, hg, rfl, HC, HE⟩ := hrel
      generalize wr = V0 at *
      by_cases hlt : i < init.length
      · have hne : init ≠ [] := by intro h; rw [h] at hlt; simp at hlt
        have hxw : ExL H V0 (.slice ka init.length kc) init := (unhideI HX14).step ((unhideI HC).mono (unhideI S15).le)
        obtain ⟨ao', cap', e1, -, hat⟩ := hxw.at
        injection e1 with e1 _ e2
        subst e1 e2
        obtain ⟨b1, o1, rfl, hb1, hbw, hc1⟩ := hat hne
        obtain ⟨kv, hk, hf, x0, x1, x2, x3, x4, x5⟩ := hc1 i hlt
        obtain ⟨ak, ck, rfl, -, -⟩ := hk.at
        have hiI : (i : Int) < (init.length : Int) := by omega
        have hi0 : (0 : Int) ≤ (i : Int) := by omega
        have HD := hideI (show init.drop i = init[i] :: init.drop (i + 1) from List.drop_eq_getElem_cons hlt)
        have k2 := below_a V0 (.cells #[.int .i64 init[i].k, .int .u64 init[i].n, .int .i64 init[i].b, .bool init[i].s, .string init[i].nm, .slice ak init[i].kids.length ck] 57)
        have hle2 := Nat.le_trans (unhideI S15).le (unhideI HC).size
        obtain ⟨⟨V, vb', vs, HW, -⟩, -⟩ := wfC init[i] (unhideI GE _ (List.getElem_mem hlt)) (nmE_of _ _ _ _ hk hf)
        have CA := hideI (HW _ _ _ (hk.step (k2.mono hle2)) (Nat.le_trans hle2 k2.size))
        have KA := hideI (bT (unhideI HC) k2)
        rw [unhideI HD, cnW_cons] at HE
        clear hat hc1 hxw hk HW k2 HD hf HC hle2
        generalize init[i] = y at *
        generalize (cnE y).2.2.2 = er at *
        go_wp2_with fail
        refine (unhideI CA).mono ?_
        rintro e V1 ⟨rfl, k1⟩
        have K1 := hideI (bT (unhideI KA) k1)
        clear CA k1 KA
        by_cases he : er = 0
        · subst he
          go_wp2_with fail
          go_roundg (init.length - (i + 1))
          case measure => omega
          case rel =>
            have h2 := unhideI HE
            rw [if_neg (by simp)] at h2
            exact ⟨i + 1, by omega, rfl, by go_num, hideI (bT (unhideI K1) (below_a _ _)), hideI h2⟩
        · have ee : (er == 0) = false := beq_eq_false_iff_ne.2 he
          have h2 := unhideI HE
          rw [if_pos he] at h2
          subst h2
          go_wp2_with fail
          go_ret
          exact ⟨rfl, ((unhideI S15).step (bT (unhideI K1) (below_a _ _))).k, fun e => absurd e he⟩
      · have hiI : ¬ (i : Int) < (init.length : Int) := by omega
        have h2 := unhideI HE
        rw [List.drop_eq_nil_of_le (by omega)] at h2
        obtain rfl : R = 0 := by rw [← h2]; unfold cnW; rw [cnEs_nil]
        go_wp2_with fail
        go_ret
        exact ⟨rfl, ((unhideI S15).step (unhideI HC)).k, fun _ => (unhideI S15).step (unhideI HC)⟩
end Go.Proofs.YtaidefdbjcgcbaaGreat

/-
  Programs as a whole: the names that every program has.
-/
namespace Go.Proofs.YtaidefdbjcgcbaaGreat
open Go.RowKit Go.Maps Go.Great
set_option linter.unusedSimpArgs false
set_option linter.unusedVariables false

section
variable {w : World} {ops : Array Oper} {rest : List Oper} {o : Oper} {a : Act} {Q : Exit → Act → World → Prop}
set_option maxRecDepth 100000 in
theorem wpList_putVi (hg : o.guard = none) (m x v : Operand) (t e : TypeId) (hop : o.op = Op.insert t m x v) (ht : Tryz.prog.underlying t = some (.map 9 e)) (b n : Nat) (f : ByteArray → Option Value) (hm : a.eval m = .map (some b)) (hM : Mv w b n f) (hl : n < maxLen) (s : ByteArray) (hx : a.eval x = .string s) (hs : s.size ≤ maxLen) (y : Value) (hv : a.eval v = y)
    (hK : ∀ w', Mv w' b (n + 1) (putV f s y) → w.grownBy w' (some b) → wpList Tryz.prog ops Q rest (a.put o.dst undef) w') : wpList Tryz.prog ops Q (o :: rest) a w := by
  obtain ⟨D, h1, h2⟩ := hM
  refine wpList_plain hg fun K' hK' => ?_
  obtain ⟨w', hrun, r1, r2⟩ := h1.update Tryz.keySV ht hl (Go.WideMaps.keyOf_string_mk Tryz.underlying9 hs) (val := y) (d := .held y) (ps := []) rfl
  unfold Oper.wp
  simp [execOp, hop, hm, hx, hv, hrun, Result.andThen]
  exact hK' _ _ (hK w' (Mv.put h1.isMap h2 r1) r2)
end
/-- The names that every program has. -/
def NwR (w : World) (e : Ending) (w' : World) : Prop := ∃ vb fb, e = .returned (.agg #[.map (some vb), .map (some fb), .int .i64 0]) ∧ Mv w' vb 0 (fun k => (ev0.v k).map encV) ∧ (∃ g, Mv w' fb 2 g ∧ ∀ k, FnV (ev0.f k) (g k)) ∧ vb ≠ fb ∧ w.heap.size ≤ vb ∧ w.heap.size ≤ fb ∧ Below w.heap.size w w'
set_option maxRecDepth 100000 in
set_option maxHeartbeats 2000000 in
theorem newNames_any (w : World) : Calls Tryz.prog 10 #[] w (NwR w) := by
  have hmm := @run_makeMap Tryz.prog
  go_enter Tryz.func10, Tryz.ntmps10
  go_wp2_with fail
  clear hmm
  have k1 := below_a w (.cells #[.map none, .map none, .int .i64 0] 47)
  have s1 := World.heap_alloc_size w (.cells #[.map none, .map none, .int .i64 0] 47)
  have BX := BoxC.new w #[.map none, .map none, .int .i64 0] 47 (by decide)
  generalize w.alloc (.cells #[.map none, .map none, .int .i64 0] 47) = W1 at *
  have M1 := Mv.made W1
  have k2 := bT k1 (below_a W1 (.map #[] 0))
  have BX := BX.step (below_a W1 (.map #[] 0))
  have s2 := World.heap_alloc_size W1 (.map #[] 0)
  rw [s1] at s2 M1
  generalize W1.alloc (.map #[] 0) = W2 at *
  have M2 := Mv.made W2
  have k3 := bT k2 (below_a W2 (.map #[] 0))
  have BX := BX.step (below_a W2 (.map #[] 0))
  have M1 := M1.step (below_a W2 (.map #[] 0))
  have s3 := World.heap_alloc_size W2 (.map #[] 0)
  rw [s2] at s3 M2
  generalize W2.alloc (.map #[] 0) = W3 at *
  refine (ci16_any _).mono ?_
  rintro e w4 ⟨rfl, k4⟩
  have BX4 := BX.step k4
  have MV4 := M1.step k4
  have MF4 := M2.step k4
  have K4 := bT k3 k4
  have hs4 := k4.size
  clear k1 k2 k3 k4 BX M1 M2
  have BX5 := hideI (fun o => BX4.step (below_a w4 o))
  have MV5 := hideI (fun o => MV4.step (below_a w4 o))
  have MF5 := hideI (fun o => MF4.step (below_a w4 o))
  have K5 := hideI (fun o => bT K4 (below_a w4 o))
  have hS := hideI (And.intro s3 hs4)
  clear BX4 MV4 MF4 K4 s1 s2 s3 hs4
  go_wp2_with (refine wpList_putVi rfl (.tmp 2) (.const (.string ⟨#[112, 117, 116]⟩)) (.tmp 6) 45 41 rfl Tryz.underlying45 (w.heap.size + 1 + 1) 0 _ rfl (unhideI MF5 _) (by decide) ⟨#[112, 117, 116]⟩ rfl (by decide) (.agg #[.string ⟨#[]⟩, .int .i64 0, .bool false, .slice (some ⟨w4.heap.size, 0, none⟩) 1 1, .slice none 0 0]) rfl ?_; intro w6 m6 g6; have BX6 := hideI ((unhideI BX5 _).grown (unhideI MF5 _) g6); have MV6 := hideI ((unhideI MV5 _).blk (g6.block (w.heap.size + 1) (unhideI MV5 _).lt (fun e => by injection e with e; omega))); have K6 := hideI (grown_below (unhideI K5 _) (by have := (unhideI K5 (.map #[] 0)).size; have := (unhideI hS); simp at *; omega) (by omega) g6); have MF6 := hideI m6; clear m6 g6 BX5 MV5 MF5 K5)
  refine (ci16_any _).mono ?_
  rintro e w7 ⟨rfl, k7⟩
  have BX7 := hideI ((unhideI BX6).step k7)
  have MV7 := hideI ((unhideI MV6).step k7)
  have MF7 := hideI ((unhideI MF6).step k7)
  have K7 := hideI (bT (unhideI K6) k7)
  have hs7 := (unhideI MF7).lt
  clear BX6 MV6 MF6 K6 k7
  go_wp2_with (refine wpList_putVi rfl (.tmp 2) (.const (.string ⟨#[103, 101, 116]⟩)) (.tmp 8) 45 41 rfl Tryz.underlying45 (w.heap.size + 1 + 1) 1 _ rfl (unhideI MF7) (by decide) ⟨#[103, 101, 116]⟩ rfl (by decide) (.agg #[.string ⟨#[]⟩, .int .i64 16, .bool true, .slice none 0 0, .slice none 0 0]) rfl ?_; intro w8 m8 g8; have BX8 := hideI ((unhideI BX7).grown (unhideI MF7) g8); have MV8 := hideI ((unhideI MV7).blk (g8.block (w.heap.size + 1) (unhideI MV7).lt (fun e => by injection e with e; omega))); have K8 := hideI (grown_below (unhideI K7) (by have := (unhideI K7).size; omega) (by omega) g8); have MF8 := hideI m8; clear m8 g8 BX7 MV7 MF7 K7; obtain ⟨z0, z1, z2⟩ := (unhideI BX8).box.at3; have zf := (unhideI BX8).box.2.2; have zl := (unhideI BX8).lt)
  have V := unhideI MV8
  have F := unhideI MF8
  have K := unhideI K8
  obtain ⟨p0, p1, p2⟩ := ((unhideI BX8).box.three (.map (some (w.heap.size + 1))) (.map (some (w.heap.size + 1 + 1))) (.int .i64 0)).at3
  have e1 : w.heap.size + 1 ≠ w.heap.size := by omega
  have e2 : w.heap.size + 1 + 1 ≠ w.heap.size := by omega
  refine bodyPost_ret (v := .agg #[.map (some (w.heap.size + 1)), .map (some (w.heap.size + 1 + 1)), .int .i64 0]) (by simp [results, Tryz.results10, go_sem, p0, p1, p2]) rfl ⟨w.heap.size + 1, w.heap.size + 1 + 1, rfl, ((V.setCell e1).setCell e1).setCell e1, ⟨_, ((F.setCell e2).setCell e2).setCell e2, fun k => ?_⟩, by omega, by omega, by omega, below_3 K (Nat.le_refl _) _ _ _⟩
  show FnV (if k = nGet then some (16, true, 0) else if k = nPut then some (0, false, 1) else none) (if k = nGet then some _ else if k = nPut then some _ else none)
  split
  · exact ⟨_, _, _, _, _, _, rfl⟩
  · split
    · exact ⟨_, _, _, _, _, _, rfl⟩
    · exact rfl
end Go.Proofs.YtaidefdbjcgcbaaGreat
