/-
  Routines: the document's names.
-/
import Derived.Test.YtodfjomglgmffaaGreatDoorRtUz
import Derived.Test.YtodfjomglgmffaaGreatDoorLkXz
namespace Go.Proofs.YtodfjomglgmffaaGreatDoor
open Go.RowKit Go.Maps
set_option linter.unusedSimpArgs false
set_option linter.unusedVariables false

theorem names_row {w : World} {v : Value} (h : Lies w 1 v 24 (nmL.map encStr)) : ∃ nb no cap, v = .slice (some ⟨nb, no, none⟩) 24 cap ∧ nb < w.heap.size ∧ ∀ j, j < 24 → w.cell? ⟨nb, no + j, none⟩ = some (.string (sb (nmAt j))) := by
  obtain ⟨-, ao, cap, rfl, hc1, hc2, -, hat⟩ := h
  obtain ⟨nb, no, rfl, hnb, hcell⟩ := hat (by omega)
  refine ⟨nb, no, cap, rfl, hnb, fun j hj => ?_⟩
  rw [hcell j (by omega), List.getElem?_map]
  unfold nmAt
  rw [List.getD_eq_getElem?_getD, List.getElem?_eq_getElem (show j < nmL.length by rw [nmL_len]; omega)]
  rfl
set_option maxHeartbeats 1000000 in
theorem same6_yes (va vb : Value) (w : World) (ha : Lies w 1 va 24 (nmL.map encStr)) (hb : Lies w 1 vb 24 (nmL.map encStr)) :
    Calls Tryz.prog 5 #[va, vb] w fun e w' => e = .returned (.bool true) ∧ Below w.heap.size w w' := by
  obtain ⟨b1, o1, c1, rfl, h1, d1⟩ := names_row ha
  obtain ⟨b2, o2, c2, rfl, h2, d2⟩ := names_row hb
  have HA := hideI d1
  have HB := hideI d2
  clear ha hb d1 d2
  go_enter Tryz.func5, Tryz.ntmps5
  go_wp2_with fail
  go_loopg [13] 24 (fun g t wr => ∃ (i q : Nat), i ≤ 24 ∧ g = 24 - i ∧ t = .int .i64 i ∧ wr = w.drewN q)
  case atStart => exact ⟨0, 0, Nat.zero_le _, rfl, rfl, rfl⟩
  case round =>
    obtain ⟨i, q, hi, rfl, rfl, rfl⟩ := hrel
    by_cases hlt : i < 24
    · have x0 := unhideI HA i hlt
      have y0 := unhideI HB i hlt
      have hiI : (i : Int) < 24 := by omega
      generalize nmAt i = y at *
      go_wp2_with fail
      go_quiet (fail)
      go_wp2_with fail
      go_roundg (24 - (i + 1))
      case measure => omega
      case rel => exact ⟨i + 1, _, by omega, rfl, by go_num, rfl⟩
    · have hiI : ¬ (i : Int) < 24 := by omega
      go_wp2_with fail
      go_ret
      exact ⟨rfl, bdr (Below.refl _ _) _⟩
/-- Whether a name is one of them, and what its text then is. -/
theorem rtxt_in (s : List UInt8) (h : s ∈ nmL) : (rtxt s).2 = 0 := by
  have : ∀ s ∈ nmL, (rtxt s).2 = 0 := by decide +kernel
  exact this s h
theorem rtxt_out (s : List UInt8) (h : s ∉ nmL) : rtxt s = ([], 7) := by
  unfold rtxt
  cases hx : kix (prt s).1 with
  | none => rfl
  | some i =>
    exfalso
    obtain ⟨hi, hk⟩ := kix_some hx
    rcases prL_in s szL with e | ⟨n, hn, e, hs⟩
    · have e' : prt s = ([], 0) := e
      rw [e', show kix ([], 0).1 = none by decide] at hx
      cases hx
    · have e' : prt s = (Lib.trimSuffix s (dgs n), n) := e
      rw [e'] at hk
      have hsuf : dgs n <:+ s := List.isSuffixOf_iff_suffix.1 hs
      obtain ⟨p, hp⟩ := hsuf
      have ht : Lib.trimSuffix s (dgs n) = p := by
        unfold Lib.trimSuffix
        rw [if_pos hs, ← hp]
        simp
      have hs2 : s = kdn i ++ dgs n := by rw [hk]; show s = Lib.trimSuffix s (dgs n) ++ dgs n; rw [ht, hp]
      apply h
      unfold nmL
      rw [List.mem_flatMap]
      exact ⟨i, List.mem_range.2 hi, by unfold nms; rw [List.mem_map]; exact ⟨n, hn, hs2.symm⟩⟩
theorem any_mem (s : List UInt8) : (nmL.any fun x => x == s) = decide (s ∈ nmL) := by
  rw [Bool.eq_iff_iff, List.any_eq_true, decide_eq_true_eq]
  constructor
  · rintro ⟨x, hx, e⟩
    have := beq_iff_eq.1 e
    subst this
    exact hx
  · intro h
    exact ⟨s, h, beq_iff_eq.2 rfl⟩
end Go.Proofs.YtodfjomglgmffaaGreatDoor

/-
  Routines: the document's names, walked.
-/
namespace Go.Proofs.YtodfjomglgmffaaGreatDoor
open Go.RowKit Go.Maps
set_option linter.unusedSimpArgs false
set_option linter.unusedVariables false

/-- The names of the first i kinds, and k of the next one's. -/
def nmK (i k : Nat) : List (List UInt8) := (List.range i).flatMap nms ++ (nms i).take k
theorem nmK_succ (i k : Nat) (hk : k < 3) : nmK i (k + 1) = nmK i k ++ [kdn i ++ dgs (szL.getD k 0)] := by
  unfold nmK
  rw [nms_take i k hk, List.append_assoc]
theorem nmK_three (i : Nat) : nmK i 3 = nmK (i + 1) 0 := by
  unfold nmK
  rw [List.range_succ, List.flatMap_append]
  simp [nms, szL]
theorem nmK_len (i k : Nat) : (nmK i k).length ≤ 3 * i + 3 := by
  unfold nmK
  rw [List.length_append, fl_len, List.length_take, nms_len, List.length_range]
  omega
theorem nmK_all : nmK 8 0 = nmL := by unfold nmK nmL; simp
theorem eight_at (u : World) (T : TypeId) (i : Nat) (hi : i < 8) : (u.alloc (.cells #[.string ⟨#[109, 117, 108]⟩, .string ⟨#[115, 97, 114]⟩, .string ⟨#[115, 100, 105, 118]⟩, .string ⟨#[115, 104, 108]⟩, .string ⟨#[115, 104, 114]⟩, .string ⟨#[115, 114, 101, 109]⟩, .string ⟨#[117, 100, 105, 118]⟩, .string ⟨#[117, 114, 101, 109]⟩] T)).cell? ⟨u.heap.size, i, none⟩ = some (.string (sb (kdn i))) := by
  match i, hi with
  | 0, _ => simp; rfl
  | 1, _ => simp; rfl
  | 2, _ => simp; rfl
  | 3, _ => simp; rfl
  | 4, _ => simp; rfl
  | 5, _ => simp; rfl
  | 6, _ => simp; rfl
  | 7, _ => simp; rfl
theorem three_at (u : World) (T : TypeId) (i : Nat) (hi : i < 3) : (u.alloc (.cells #[.string ⟨#[49]⟩, .string ⟨#[50]⟩, .string ⟨#[52]⟩] T)).cell? ⟨u.heap.size, i, none⟩ = some (.string (sb (dgs (szL.getD i 0)))) := by
  match i, hi with
  | 0, _ => simp; rfl
  | 1, _ => simp; rfl
  | 2, _ => simp; rfl
theorem three_keep {P : Nat → Value} {W w5 : World} {o : Obj} {b : Nat} {v v5 : Value} (h : v.ownBlock ≠ some b ∧ b < W.heap.size ∧ ∀ k, k < 3 → W.cell? ⟨b, k, none⟩ = some (P k)) (g : (W.alloc o).grownBy w5 v.ownBlock) (hv : v5.ownBlock = v.ownBlock ∨ v5.ownBlock = some (W.alloc o).heap.size) :
    v5.ownBlock ≠ some b ∧ b < w5.heap.size ∧ ∀ k, k < 3 → w5.cell? ⟨b, k, none⟩ = some (P k) := by
  have hb : b < (W.alloc o).heap.size := by simp; omega
  refine ⟨fun e => ?_, Nat.lt_of_lt_of_le hb g.size, fun k hk => ?_⟩
  · rcases hv with h1 | h1
    · rw [h1] at e; exact h.1 e
    · rw [h1] at e; injection e with e; omega
  · have h2 := g.block b hb (fun e => h.1 e.symm)
    have h3 := (below_a W o).cell (p := ⟨b, k, none⟩) h.2.1
    rw [← h.2.2 k hk, ← h3]
    unfold World.cell?
    simp only [h2]
set_option maxRecDepth 100000 in
set_option maxHeartbeats 4000000 in
theorem names6_any (w : World) : Calls Tryz.prog 6 #[] w fun e w' => ∃ v, e = .returned v ∧ Lies w' 1 v 24 (nmL.map encStr) ∧ Below w.heap.size w w' := by
  obtain ⟨i0, hi, hz0, hz1, hz2⟩ := info_parts Tryz.infoStrR
  go_enter Tryz.func6, Tryz.ntmps6
  go_wp2_with fail
  have C8 := hideI (fun i hi => eight_at w 9 i hi)
  have K1 := hideI (below_a w (.cells #[.string ⟨#[109, 117, 108]⟩, .string ⟨#[115, 97, 114]⟩, .string ⟨#[115, 100, 105, 118]⟩, .string ⟨#[115, 104, 108]⟩, .string ⟨#[115, 104, 114]⟩, .string ⟨#[115, 114, 101, 109]⟩, .string ⟨#[117, 100, 105, 118]⟩, .string ⟨#[117, 114, 101, 109]⟩] 9))
  have hs1 : (w.alloc (.cells #[.string ⟨#[109, 117, 108]⟩, .string ⟨#[115, 97, 114]⟩, .string ⟨#[115, 100, 105, 118]⟩, .string ⟨#[115, 104, 108]⟩, .string ⟨#[115, 104, 114]⟩, .string ⟨#[115, 114, 101, 109]⟩, .string ⟨#[117, 100, 105, 118]⟩, .string ⟨#[117, 114, 101, 109]⟩] 9)).heap.size = w.heap.size + 1 := by simp
  have S1 := hideI hs1
  clear hs1
  generalize w.alloc (.cells #[.string ⟨#[109, 117, 108]⟩, .string ⟨#[115, 97, 114]⟩, .string ⟨#[115, 100, 105, 118]⟩, .string ⟨#[115, 104, 108]⟩, .string ⟨#[115, 104, 114]⟩, .string ⟨#[115, 114, 101, 109]⟩, .string ⟨#[117, 100, 105, 118]⟩, .string ⟨#[117, 114, 101, 109]⟩] 9) = w1 at *
  go_loopg [1, 8] 8 (fun gm vn t wr => ∃ (i : Nat), i ≤ 8 ∧ gm = 8 - i ∧ t = .int .i64 (i : Int) ∧ Hid (wr.ownsRow w1.heap.size 9 1 vn (nmK i 0).length ((nmK i 0).map encStr)) ∧ Hid (Below w1.heap.size w1 wr))
  case atStart => exact ⟨0, Nat.zero_le _, rfl, rfl, World.ownsRow_nil _ _ _ _, Below.refl _ _⟩
  case round =>
    obtain ⟨i, hi8, hgm, rfl, HO, HB⟩ := hrel
    generalize wr = W0 at *
    have hw1 := unhideI S1
    have hW0 := (unhideI HB).size
    by_cases hlt : i < 8
    · have x0 : W0.cell? ⟨w.heap.size, i, none⟩ = some (.string (sb (kdn i))) := cell_keep (unhideI HB) (by show w.heap.size < w1.heap.size; omega) (unhideI C8 i hlt)
      have hiI : (i : Int) < 8 := by omega
      have hi0 : (0 : Int) ≤ (i : Int) := by omega
      have hkl := kdn_len i hlt
      have C3 := hideI (fun k hk => three_at W0 9 k hk)
      have kb := below_a W0 (.cells #[.string ⟨#[49]⟩, .string ⟨#[50]⟩, .string ⟨#[52]⟩] 9)
      have HB2 := hideI ((unhideI HB).trans (kb.mono hW0))
      have HO2 := hideI (own_step (unhideI HO) kb)
      have hs2 : (W0.alloc (.cells #[.string ⟨#[49]⟩, .string ⟨#[50]⟩, .string ⟨#[52]⟩] 9)).heap.size = W0.heap.size + 1 := by simp
      have S2 := hideI hs2
      have N3 := hideI (nmK_three i)
      have HOB := hideI (fun b hb => ((unhideI HO).lt b hb).2)
      clear hw1 HO HB kb hs2
      go_wp2_with fail
      clear x0
      generalize W0.alloc (.cells #[.string ⟨#[49]⟩, .string ⟨#[50]⟩, .string ⟨#[52]⟩] 9) = W2 at *
      have hnl := nmK_len i
      have NS := hideI (fun k hk => nmK_succ i k hk)
      go_loopg [1, 14] 3 (fun gm vn t wr => ∃ (k : Nat), k ≤ 3 ∧ gm = 3 - k ∧ t = .int .i64 (k : Int) ∧ Hid (wr.ownsRow w1.heap.size 9 1 vn (nmK i k).length ((nmK i k).map encStr)) ∧ Hid ((vn.ownBlock ≠ some W0.heap.size ∧ W0.heap.size < wr.heap.size ∧ ∀ k, k < 3 → wr.cell? ⟨W0.heap.size, k, none⟩ = some (.string (sb (dgs (szL.getD k 0))))) ∧ Below w1.heap.size w1 wr))
      case atStart => exact ⟨0, Nat.zero_le _, rfl, rfl, HO2, ⟨fun e => by have := (unhideI HOB _ e); omega, by have := unhideI S2; omega, unhideI C3⟩, unhideI HB2⟩
      case round =>
        obtain ⟨k, hk, hgk, rfl, HOk, HBk⟩ := hrel
        generalize wr = W3 at *
        have hw2 := unhideI S2
        have hw3 := (unhideI HBk).1.2.1
        have hw4 := (unhideI HBk).2.size
        by_cases hlk : k < 3
        · have y0 : W3.cell? ⟨W0.heap.size, k, none⟩ = some (.string (sb (dgs (szL.getD k 0)))) := (unhideI HBk).1.2.2 k hlk
          have hkI : (k : Int) < 3 := by omega
          have hk0 : (0 : Int) ≤ (k : Int) := by omega
          have NT := hideI (unhideI NS k hlk)
          have hnk := hnl k
          generalize szL.getD k 0 = sz at *
          generalize nmK i k = nk at *
          have hdl := dgs_len sz
          have hcat : ¬ 9223372036854775807 < (sb (kdn i)).size + (sb (dgs sz)).size := by rw [sb_size, sb_size]; omega
          have HCT := hideI (sb_cat (kdn i) (dgs sz))
          have NT2 := hideI (show (nmK i (k + 1)).map encStr = nk.map encStr ++ [.string (sb (kdn i) ++ sb (dgs sz))] ∧ (nmK i (k + 1)).length = nk.length + 1 by rw [unhideI NT, List.map_append, unhideI HCT]; exact ⟨rfl, by simp⟩)
          clear NT HCT
          generalize sb (kdn i) = kb at *
          generalize sb (dgs sz) = db at *
          go_wp2_with (at_builtin; refine wpList_append_own_at _ rfl (.tmp 18) (.tmp 22) 22 rfl w1.heap.size 9 i0 (.string ⟨#[]⟩) 1 16 Tryz.underlying22 hi hz0 hz1 hz2 rfl (by decide) _ _ _ rfl ((unhideI HOk).alloc _) ⟨_, 0, none⟩ 1 1 [.string (kb ++ db)] rfl rfl (bt_c1 _ _ _) (by intro u hu; simp at hu; subst hu; rfl) (by unfold maxLen; omega) (by omega) (by simp; omega) ?_; intro v5 w5 own5 grow5 _ at5; have O5 := hideI own5; have K5 := hideI (below_own ((unhideI HBk).2.alloc (by omega) _) (by simp; omega) ((unhideI HOk).alloc _) grow5); have N5 := hideI (three_keep (unhideI HBk).1 grow5 at5); clear own5 grow5 at5)
          go_roundg (3 - (k + 1))
          case measure => omega
          case rel =>
            refine ⟨k + 1, by omega, rfl, by go_num, ?_, unhideI N5, unhideI K5⟩
            rw [(unhideI NT2).1, (unhideI NT2).2]
            exact O5
        · have hkI : ¬ (k : Int) < 3 := by omega
          have HKE := hideI (show k = 3 by omega)
          go_wp2_with fail
          go_roundg (8 - (i + 1))
          case measure => omega
          case rel =>
            refine ⟨i + 1, by omega, rfl, by go_num, ?_, (unhideI HBk).2⟩
            have o3 := unhideI HOk
            rw [unhideI HKE, unhideI N3] at o3
            exact o3
    · have hiI : ¬ (i : Int) < 8 := by omega
      have HKE := hideI (show i = 8 by omega)
      go_wp2_with fail
      go_ret
      have o3 := unhideI HO
      rw [unhideI HKE, nmK_all, nmL_len] at o3
      exact ⟨_, rfl, Lies.owned o3, btR (unhideI K1) (unhideI HB)⟩
end Go.Proofs.YtodfjomglgmffaaGreatDoor

/-
  Routines: each text is read, and each routine is linked: closed.
-/
namespace Go.Proofs.YtodfjomglgmffaaGreatDoor
open Go.RowKit
set_option linter.unusedSimpArgs false
set_option linter.unusedVariables false

def lkOk (R : Im × Int × Int) : Bool := R.2.1 == 0 && decide (0 < R.1.words.length)
theorem each_reads : ((List.range 24).all fun j => (readA (rtxt (nmAt j)).1).2.1 == 0 && ((rtxt (nmAt j)).2 == 0)) = true := by kernel_rfl
theorem each_links : ((List.range 24).all fun j => lkOk (linkL unL (nmAt j))) = true := by kernel_rfl
theorem one_reads (j : Nat) (h : j < 24) : (readA (rtxt (nmAt j)).1).2.1 = 0 ∧ (rtxt (nmAt j)).2 = 0 := by
  have := List.all_eq_true.1 each_reads j (List.mem_range.2 h)
  simpa using this
theorem one_links (j : Nat) (h : j < 24) : (linkL unL (nmAt j)).2.1 = 0 ∧ 0 < (linkL unL (nmAt j)).1.words.length := by
  have := List.all_eq_true.1 each_links j (List.mem_range.2 h)
  unfold lkOk at this
  simpa using this
theorem uns_unL {W : World} {B : Nat} {v : Value} {f : Nat → Value} (h : UnAt W B v 24 f) : Uns W v unL := by
  have hlen := unL_len
  obtain ⟨-, ao, cap, rfl, h3, h4, -, h5⟩ := Lies.owned h.own
  refine ⟨ao, cap, by rw [hlen], by rw [hlen]; unfold maxLen; omega, fun _ => ?_⟩
  obtain ⟨b, off, rfl, hb, hc⟩ := h5 (by omega)
  refine ⟨b, off, f, rfl, hb, fun j hj => ?_⟩
  rw [hlen] at hj
  have e2 : unL[j]'(by rw [hlen]; omega) = ⟨sb (nmAt j), lnAt j⟩ := by
    have e1 := unL_at j hj
    rw [List.getElem?_eq_getElem (by rw [hlen]; omega)] at e1
    exact Option.some.inj e1
  rw [e2]
  obtain ⟨q1, q2⟩ := ucs_at f 24 j hj
  refine ⟨?_, ?_, h.lns j hj⟩
  · rw [hc (j * 2) (by omega)]; exact q1
  · rw [Nat.add_assoc, hc (j * 2 + 1) (by omega)]; exact q2
end Go.Proofs.YtodfjomglgmffaaGreatDoor
