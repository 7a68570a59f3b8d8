/-
  pairlegallaw6.RtAll, walked.
-/
import Derived.Test.YthlgloiocdcaoaaGreatDoorRtI
import Derived.Test.YthlgloiocdcaoaaGreatDoorLkL
namespace Go.Proofs.YthlgloiocdcaoaaGreatDoor
open Go.RowKit Go.Maps
set_option linter.unusedSimpArgs false
set_option linter.unusedVariables false

theorem Tryz.infoLn6 : (Tryz.prog.info? 40).map (fun i => (i.zero, i.size, i.bytes)) = some (some (.agg #[.string ⟨#[]⟩, .int .i64 0, .int .i64 0, .int .i64 0, .int .i64 0, .string ⟨#[]⟩]), 6, 64) := by kernel_rfl
theorem own_new (u : World) (cs : Array Value) (T : TypeId) (s n : Nat) (h : cs.size = n * s) (hn : n ≤ maxLen) : (u.alloc (.cells cs T)).ownsRow u.heap.size T s (.slice (some ⟨u.heap.size, 0, none⟩) n n) n cs.toList := by
  refine ⟨by simpa using h, .inr ⟨u.heap.size, n, cs, rfl, Nat.le_refl _, heapNewR _ _, Nat.le_refl _, hn, h, ?_⟩⟩
  rw [← h]
  exact List.take_of_length_le (by simp)
theorem six_cR (u : World) (a b c d e f : Value) (T : TypeId) (B : Nat) (hB : B = u.heap.size) : ∀ (j : Nat) z, [a, b, c, d, e, f][j]? = some z → (u.alloc (.cells #[a, b, c, d, e, f] T)).cell? ((⟨B, 0, none⟩ : Addr).add j) = some z := by
  subst hB
  intro j z hj
  match j, hj with
  | 0, hj => simp at hj; subst hj; simp [Addr.add]
  | 1, hj => simp at hj; subst hj; simp [Addr.add]
  | 2, hj => simp at hj; subst hj; simp [Addr.add]
  | 3, hj => simp at hj; subst hj; simp [Addr.add]
  | 4, hj => simp at hj; subst hj; simp [Addr.add]
  | 5, hj => simp at hj; subst hj; simp [Addr.add]
theorem callL_succ (k : Nat) : callL (k + 1) = callL k ++ [⟨⟨#[]⟩, ⟨26, 0, 0, 0⟩, sb (nmAt k)⟩] := by unfold callL; rw [List.range_succ, List.map_append]; rfl
theorem callL_len (k : Nat) : (callL k).length = k + 1 := by unfold callL; simp
theorem unL_len : unL.length = 24 := by unfold unL; rw [List.length_map, nmL_len]
theorem unL_at (j : Nat) (h : j < 24) : unL[j]? = some ⟨sb (nmAt j), lnAt j⟩ := by
  unfold unL lnAt nmAt
  rw [List.getElem?_map, List.getD_eq_getElem?_getD, List.getElem?_eq_getElem (show j < nmL.length by rw [nmL_len]; omega)]
  rfl
theorem uns_all {W : World} {B : Nat} {v x : Value} {f : Nat → Value} {nm : ByteArray} {ls : List Ln} (ho : W.ownsRow B 36 2 v 25 (ucs 24 f ++ [.string nm, x])) (hl : ∀ j, j < 24 → Lns W (f j) (lnAt j)) (hx : Lns W x ls) : Uns W v (unL ++ [⟨nm, ls⟩]) := by
  have hlen : (unL ++ [(⟨nm, ls⟩ : Un)]).length = 25 := by rw [List.length_append, unL_len]; rfl
  obtain ⟨-, ao, cap, rfl, h3, h4, -, h5⟩ := Lies.owned ho
  refine ⟨ao, cap, by rw [hlen], by rw [hlen]; unfold maxLen; omega, fun _ => ?_⟩
  obtain ⟨b, off, rfl, hb, hc⟩ := h5 (by omega)
  refine ⟨b, off, fun j => if j = 24 then x else f j, rfl, hb, fun j hj => ?_⟩
  rw [hlen] at hj
  have hul := ucs_len 24 f
  by_cases e : j = 24
  · subst e
    have e1 : (unL ++ [(⟨nm, ls⟩ : Un)])[24]? = some ⟨nm, ls⟩ := by rw [List.getElem?_append_right (by rw [unL_len]; omega), unL_len]; rfl
    have e2 : (unL ++ [(⟨nm, ls⟩ : Un)])[24]'(by rw [hlen]; omega) = ⟨nm, ls⟩ := by rw [List.getElem?_eq_getElem (by rw [hlen]; omega)] at e1; exact Option.some.inj e1
    rw [e2]
    refine ⟨?_, ?_, by simpa using hx⟩
    · rw [hc (24 * 2) (by omega), List.getElem?_append_right (by omega), hul]; rfl
    · rw [Nat.add_assoc, hc (24 * 2 + 1) (by omega), List.getElem?_append_right (by omega), hul]; rfl
  · have hj2 : j < 24 := by omega
    have e1 : (unL ++ [(⟨nm, ls⟩ : Un)])[j]? = some ⟨sb (nmAt j), lnAt j⟩ := by rw [List.getElem?_append_left (by rw [unL_len]; omega)]; exact unL_at j hj2
    have e2 : (unL ++ [(⟨nm, ls⟩ : Un)])[j]'(by rw [hlen]; omega) = ⟨sb (nmAt j), lnAt j⟩ := by rw [List.getElem?_eq_getElem (by rw [hlen]; omega)] at e1; exact Option.some.inj e1
    rw [e2]
    obtain ⟨q1, q2⟩ := ucs_at f 24 j hj2
    refine ⟨?_, ?_, by show Lns W (if j = 24 then x else f j) (lnAt j); rw [if_neg e]; exact hl j hj2⟩
    · rw [hc (j * 2) (by omega), List.getElem?_append_left (by omega)]; exact q1
    · rw [Nat.add_assoc, hc (j * 2 + 1) (by omega), List.getElem?_append_left (by omega)]; show _ = some (if j = 24 then x else f j); rw [if_neg e]; exact q2
theorem own_sliceR {w : World} {B e s n : Nat} {v : Value} {cs : List Value} (h : w.ownsRow B e s v n cs) : ∃ ao cap, v = .slice ao n cap := by
  rcases h.2 with ⟨hv, h0⟩ | ⟨g, cap, cur, hv, _⟩
  · exact ⟨none, 0, by rw [hv, h0]⟩
  · exact ⟨_, _, hv⟩
theorem main_list : (⟨#[109, 97, 105, 110]⟩ : ByteArray).toList = [109, 97, 105, 110] := by rw [ByteArray.toList_eq]
set_option maxRecDepth 100000 in
set_option maxHeartbeats 4000000 in
theorem rtAll_any (w : World) (G : Ga w) : Calls Tryz.prog 4 #[] w fun e w' => e = .returned (.bool true) ∧ Below w.heap.size w w' := by
  obtain ⟨i0, hi, hz0, hz1, hz2⟩ := info_parts Tryz.infoLn6
  obtain ⟨j0, hj, hy0, hy1, hy2⟩ := info_parts Tryz.infoUnit
  have k0 := below_a w (.cells #[.string ⟨#[109, 97, 105, 110]⟩, .int .i64 0, .int .i64 0, .int .i64 0, .int .i64 0, .string ⟨#[]⟩] 40)
  have OL := hideI (own_new w #[.string ⟨#[109, 97, 105, 110]⟩, .int .i64 0, .int .i64 0, .int .i64 0, .int .i64 0, .string ⟨#[]⟩] 40 6 1 rfl (by unfold maxLen; omega))
  have NA := hideI (names_any _ (G.step k0).z)
  have HG0 := hideI (G.step k0)
  have HG := hideI G
  have K0 := hideI k0
  have hs0 : (w.alloc (.cells #[.string ⟨#[109, 97, 105, 110]⟩, .int .i64 0, .int .i64 0, .int .i64 0, .int .i64 0, .string ⟨#[]⟩] 40)).heap.size = w.heap.size + 1 := by simp
  have HS0 := hideI hs0
  clear G k0 hs0
  go_enter Tryz.func4, Tryz.ntmps4
  go_wp2_with fail
  generalize w.alloc (.cells #[.string ⟨#[109, 97, 105, 110]⟩, .int .i64 0, .int .i64 0, .int .i64 0, .int .i64 0, .string ⟨#[]⟩] 40) = w0 at *
  refine (unhideI NA).mono ?_
  rintro e w1 ⟨v, rfl, ln, k1, hvn⟩
  rw [nmL_len] at ln
  have O1 := hideI (own_step (unhideI OL) k1)
  have K1 := hideI (btR (unhideI K0) k1)
  have HG1 := hideI ((unhideI HG0).step k1)
  obtain ⟨nb, no, cap, rfl, hnb, LN⟩ : ∃ nb no cap, v = .slice (some ⟨nb, no, none⟩) 24 cap ∧ nb < w1.heap.size ∧ Hid (Lies w1 1 (.slice (some ⟨nb, no, none⟩) 24 cap) 24 (nmL.map encStr)) := by
    have ln2 := ln
    obtain ⟨-, ao, cap, rfl, hc1, hc2, -, hat⟩ := ln
    obtain ⟨nb, no, rfl, hnb, -⟩ := hat (by omega)
    exact ⟨nb, no, cap, rfl, hnb, ln2⟩
  have hnw : w.heap.size < nb := by
    have a := hvn nb rfl
    have c := unhideI HS0
    omega
  have hs1 := (unhideI K1).size
  clear NA k1 hvn ln OL HS0 HG0 K0
  go_wp2_with fail
  go_loopg [1, 10] 24 (fun gm vl t wr => ∃ (k : Nat), k ≤ 24 ∧ gm = 24 - k ∧ t = .int .i64 (k : Int) ∧ Hid (wr.ownsRow w.heap.size 40 6 vl (k + 1) ((callL k).flatMap cellsL)) ∧ Hid (vl.ownBlock ≠ some nb ∧ nb < wr.heap.size) ∧ Hid (Lies wr 1 (.slice (some ⟨nb, no, none⟩) 24 cap) 24 (nmL.map encStr)) ∧ Hid (Below w.heap.size w wr))
  case atStart => exact ⟨0, Nat.zero_le _, rfl, rfl, O1, ⟨by simp [Value.ownBlock]; omega, hnb⟩, LN, K1⟩
  case round =>
    obtain ⟨k, hk, hgm, rfl, HO, HN, HL, HB⟩ := hrel
    clear O1 LN K1
    generalize wr = W0 at *
    by_cases hlt : k < 24
    · have cn : W0.cell? ⟨nb, no + k, none⟩ = some (.string (sb (nmAt k))) := by
        obtain ⟨-, ao, cp, e1, -, -, -, hat⟩ := unhideI HL
        obtain ⟨nb', no', e2, -, hcell⟩ := hat (by omega)
        injection e1 with e1 _ _
        rw [← e1] at e2
        injection e2 with e2
        injection e2 with e2 e3 _
        subst e2 e3
        rw [hcell k (by omega), List.getElem?_map]
        unfold nmAt
        rw [List.getD_eq_getElem?_getD, List.getElem?_eq_getElem (show k < nmL.length by rw [nmL_len]; omega)]
        rfl
      have hkI : (k : Int) < 24 := by omega
      have hk0 : (0 : Int) ≤ (k : Int) := by omega
      have hnI := (unhideI HN).2
      have hw0 := (unhideI HB).size
      have hcl := callL_len k
      have CS := hideI (callL_succ k)
      go_wp2_with (at_builtin; (refine wpList_append_own_at _ rfl (.tmp 14) (.tmp 18) 30 rfl w.heap.size 40 i0 (.agg #[.string ⟨#[]⟩, .int .i64 0, .int .i64 0, .int .i64 0, .int .i64 0, .string ⟨#[]⟩]) 6 64 Tryz.underlying30 hi hz0 hz1 hz2 rfl (by decide) _ _ _ rfl ((unhideI HO).alloc _) ⟨_, 0, none⟩ 1 1 (cellsL ⟨⟨#[]⟩, ⟨26, 0, 0, 0⟩, sb (nmAt k)⟩) rfl rfl (six_cR _ _ _ _ _ _ _ _ _ (by simp)) (by intro u hu; simp [cellsL] at hu; rcases hu with rfl | rfl | rfl | rfl <;> rfl) (by unfold maxLen; omega) (by omega) (by simp; omega) ?_; intro v5 w5 own5 grow5 _ at5; have O5 := hideI own5; have N5 : Hid (v5.ownBlock ≠ some nb ∧ nb < w5.heap.size) := ⟨fun e => by rcases at5 with h | h <;> rw [h] at e; exact (unhideI HN).1 e; injection e with e; simp at e; omega, Nat.lt_of_lt_of_le hnI (Nat.le_trans (by simp) grow5.size)⟩; have L5 := hideI (lies_grown (Lies.step (unhideI HL) (below_a W0 _)) grow5 (fun _ b hb e => by simp [Value.ownBlock] at hb; subst hb; exact (unhideI HN).1 e)); have K5 := hideI (below_own ((unhideI HB).alloc (by omega) _) (by simp; omega) ((unhideI HO).alloc _) grow5); clear own5 grow5 at5))
      go_roundg (24 - (k + 1))
      case measure => omega
      case rel =>
        refine ⟨k + 1, by omega, rfl, by go_num, ?_, N5, L5, K5⟩
        rw [unhideI CS, List.flatMap_append]
        exact O5
    · have hkI : ¬ (k : Int) < 24 := by omega
      have hke : k = 24 := by omega
      have O2 := unhideI HO
      rw [hke] at O2
      obtain ⟨la, lc, rfl⟩ := own_sliceR O2
      have HO2 := hideI O2
      have HLB := hideI (fun b hb => (O2.lt b hb).2)
      have UA := hideI (units_any W0 ((unhideI HG).step (unhideI HB)))
      have hw0 := (unhideI HB).size
      have AL := hideI all_links
      clear HO O2 HL HN HG1 hke
      go_wp2_with fail
      refine (unhideI UA).mono ?_
      rintro e w3 ⟨vu, f, rfl, ua, k3⟩
      have HU := hideI ua
      have O3 := hideI (own_step (unhideI HO2) k3)
      have K3 := hideI (btR (unhideI HB) k3)
      have hs3 := k3.size
      obtain ⟨ua', uc, rfl⟩ := own_sliceR ua.own
      clear UA k3 ua HO2 HB
      go_wp2_with (at_builtin; (refine wpList_append_own_at _ rfl (.tmp 22) (.tmp 25) 28 rfl W0.heap.size 36 j0 (.agg #[.string ⟨#[]⟩, .slice none 0 0]) 2 40 Tryz.underlying28 hj hy0 hy1 hy2 rfl (by decide) _ _ _ rfl ((unhideI HU).own.alloc _) ⟨_, 0, none⟩ 1 1 [.string ⟨#[]⟩, .slice la (24 + 1) lc] rfl rfl (two_c1 _ _ _ _ _ (by simp)) (by intro u hu; simp at hu; rcases hu with rfl | rfl <;> rfl) (by unfold maxLen; omega) (by omega) (by simp; omega) ?_; intro v5 w5 own5 grow5 _ at5; have HUN := hideI (uns_all own5 (fun j hj => lies_grown (Lies.step ((unhideI HU).lns j hj) (below_a w3 _)) grow5 (fun hz b hb => ((unhideI HU).far j hj hz b hb).2)) (lies_grown (Lies.step (Lies.owned (unhideI O3)) (below_a w3 _)) grow5 (fun _ b hb e => by have q1 := unhideI HLB b hb; have q2 := ((unhideI HU).own.lt b e).1; omega))); have K5 := hideI (below_own ((unhideI K3).alloc (by omega) _) (by simp; omega) ((unhideI HU).low (B' := w.heap.size) (by omega) |>.own.alloc _) grow5); clear own5 grow5 at5))
      have LK := hideI (link_any2 allU _ ⟨#[109, 97, 105, 110]⟩ w5 (unhideI HUN) (by decide))
      rw [main_list] at LK
      unfold LinkRet2 at LK
      have al := unhideI AL
      generalize linkL allU [109, 97, 105, 110] = R at *
      obtain ⟨⟨zs, os, sp⟩, er, ef⟩ := R
      unfold allOk at al
      simp only [Bool.and_eq_true, decide_eq_true_eq, beq_iff_eq] at al
      obtain ⟨⟨a1, a2⟩, a3⟩ := al
      subst a1
      have hzI : (zs.length : Int) < 32768 := by omega
      have hoI : ((os.length : Int) == 25) = true := by rw [a3]; rfl
      dsimp only at LK
      clear AL HUN HU O3 HLB a2 a3 K3
      refine (unhideI LK).mono ?_
      rintro e w6 ⟨vw, vx, vs, rfl, i1, i2, i3, k6, -⟩
      have K6 := hideI (btR (unhideI K5) k6)
      obtain ⟨b1, o1, rfl, -, -⟩ := i1.at
      obtain ⟨b2, o2, rfl, -, -⟩ := i2.at
      obtain ⟨-, sa, sc, rfl, -⟩ := i3
      have BI := hideI ((Box.new w6 #[.slice b1 zs.length o1, .slice b2 os.length o2, .slice sa sp.length sc] 44).step (below_a _ (.cells #[.int .i64 0, .int .i64 ef] 32)))
      have BF := hideI (Box.new (w6.alloc (.cells #[.slice b1 zs.length o1, .slice b2 os.length o2, .slice sa sp.length sc] 44)) #[.int .i64 0, .int .i64 ef] 32)
      simp only [World.size_alloc] at BF
      have K7 := hideI (btR (unhideI K6) (btR (below_a w6 (.cells #[.slice b1 zs.length o1, .slice b2 os.length o2, .slice sa sp.length sc] 44)) (below_a _ (.cells #[.int .i64 0, .int .i64 ef] 32))))
      obtain ⟨f0, f1⟩ := (unhideI BF).at2
      obtain ⟨q0, q1, q2⟩ := (unhideI BI).at3
      clear LK k6 K5 K6 i1 i2
      go_wp2_with fail
      go_ret
      exact ⟨rfl, unhideI K7⟩
end Go.Proofs.YthlgloiocdcaoaaGreatDoor
