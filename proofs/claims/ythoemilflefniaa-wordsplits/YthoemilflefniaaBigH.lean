/-
  The document's answer, chapter 1: Split.
-/
import Derived.Test.YthoemilflefniaaBigG
import Derived.Test.YthoemilflefniaaPlain2
namespace Go.Proofs.Ythoemilflefniaa
open Go.RowKit
set_option linter.unusedSimpArgs false
set_option linter.unusedVariables false

/-- What is left of a number behind k words of sixteen bits. -/
def dv (N : Int) : Nat → Int
  | 0 => N
  | k + 1 => dv N k / 65536
def wl (N : Int) (k : Nat) : List Int := (List.range k).map fun i => dv N i % 65536
theorem wl_succ (N : Int) (k : Nat) : (wl N (k + 1)).map int1 = (wl N k).map int1 ++ [.int .i64 (dv N k % 65536)] := by
  unfold wl
  rw [List.range_succ, List.map_append, List.map_append]
  rfl
theorem wl_len (N : Int) (k : Nat) : (wl N k).length = k := by simp [wl]
theorem dv_u {N : Int} (h : U N) : ∀ k, U (dv N k)
  | 0 => h
  | k + 1 => by have := dv_u h k; unfold U at *; simp only [dv]; omega
theorem own_tn2 {w w' : World} {B n p r : Nat} {v : Value} {cs : List Value} (h : w.ownsRow B 3 1 v n cs) (k : Tn2 p r w w') (hp : IntAt w p) (hr : IntAt w r) : w'.ownsRow B 3 1 v n cs := by
  refine ⟨h.1, ?_⟩
  rcases h.2 with hn | ⟨g, cap, cur, rfl, hb, hg, q⟩
  · exact .inl hn
  · refine .inr ⟨g, cap, cur, rfl, hb, ?_, q⟩
    rw [k.block g (Array.getElem?_eq_some_iff.1 hg).1 ?_ ?_]; exact hg
    · rintro rfl
      obtain ⟨s, u, e⟩ := hp
      rw [hg] at e
      simp at e
    · rintro rfl
      obtain ⟨s, u, e⟩ := hr
      rw [hg] at e
      simp at e
theorem own_ty {w : World} {B n : Nat} {v : Value} {cs : List Value} (h : w.ownsRow B 3 1 v n cs) (g : Nat) (hg : v.ownBlock = some g) : ∃ c, w.heap[g]? = some (.cells c 3 (0, 0)) := by
  rcases h.2 with ⟨rfl, _⟩ | ⟨g', cap, cur, rfl, hb, hh, q⟩
  · cases hg
  · cases hg
    exact ⟨cur, hh⟩
theorem Big.grown {w w' : World} {B n p : Nat} {v : Value} {cs : List Value} {z : Int} (h : Big w p z) (ho : w.ownsRow B 3 1 v n cs) (k : w.grownBy w' v.ownBlock) : Big w' p z := by
  have hl := h.lt
  obtain ⟨u, e1, L, hR, hI⟩ := h
  have ne : ∀ b T c f, T ≠ 3 → w.heap[b]? = some (.cells c T f) → some b ≠ v.ownBlock := by
    intro b T c f hT hb he
    obtain ⟨c', e⟩ := own_ty ho b he.symm
    rw [hb] at e
    injection e with e
    injection e with _ e _
    exact hT e
  refine ⟨u, by rw [k.block p hl (ne p _ _ _ (by decide) e1)]; exact e1, L, ?_, hI⟩
  rcases hR with hR | ⟨d, cap, cs, fz, g1, g2, g3, g4, g5⟩
  · exact .inl hR
  · exact .inr ⟨d, cap, cs, fz, g1, g2, g3, by rw [k.block d (Array.getElem?_eq_some_iff.1 g4).1 (ne d _ _ _ (by decide) g4)]; exact g4, g5⟩
theorem below_tn2 {B p r : Nat} {a w w' : World} (h : Below B a w) (k : Tn2 p r w w') (hp : B ≤ p) (hr : B ≤ r) (hB : B ≤ w.heap.size) : Below B a w' := h.trans (k.below hp hr hB)
/-- How many words. -/
def kw (W : Int) : Nat := if W = 64 then 4 else if W = 32 then 2 else 1
set_option maxRecDepth 100000 in
set_option maxHeartbeats 4000000 in
theorem rsplit_any (x W : Int) (w : World) (h : IsW W) (hx : U x) :
    Calls Try.prog 28 #[.int .u64 x, .int .i64 W] w fun e w' => Below w.heap.size w w' ∧ ∃ v, e = .returned (.tuple #[v, .int .i64 0]) ∧ Ints w' v (wl (cut W x) (kw W)) := by
  obtain ⟨i0, hi, hz0, hz1, hz2⟩ := info_parts (show (Try.prog.info? 3).map (fun i => (i.zero, i.size, i.bytes)) = some (some (.int .i64 0), 1, 8) by kernel_rfl)
  obtain ⟨kb, hkb, hk64, hmd⟩ : ∃ kb : Nat, W = kb ∧ kb ≤ 64 ∧ md W = 2 ^ kb := by
    rcases h with rfl | rfl | rfl | rfl
    · exact ⟨8, rfl, by decide, rfl⟩
    · exact ⟨16, rfl, by decide, rfl⟩
    · exact ⟨32, rfl, by decide, rfl⟩
    · exact ⟨64, rfl, by decide, rfl⟩
  obtain ⟨kq, hkq, hkk⟩ : ∃ kq : Nat, W.tdiv 16 = (kq : Int) ∧ ((kw W = 1 ∧ kq ≤ 1) ∨ (kw W = kq ∧ kq ≤ 4)) ∧ 1 ≤ kw W := by
    rcases h with rfl | rfl | rfl | rfl
    · exact ⟨0, by decide, .inl ⟨rfl, by decide⟩, by decide⟩
    · exact ⟨1, by decide, .inl ⟨rfl, by decide⟩, by decide⟩
    · exact ⟨2, by decide, .inr ⟨rfl, by decide⟩, by decide⟩
    · exact ⟨4, by decide, .inr ⟨rfl, by decide⟩, by decide⟩
  have uN := u_cut h x
  have hc : x % 2 ^ kb = cut W x := by unfold cut; rw [hmd]
  have RW := hide (fun v => rwidth_yes W h v)
  have HW1 := isW_le h
  have HM := hide hmd
  obtain ⟨p1, p2⟩ := p64 hk64
  have HC := hide hc
  obtain ⟨hx0, hx1⟩ := hx
  have FD := hide (divOk_short (n1 := (x.natAbs : Int)) (n2 := 2 ^ kb) (by omega) (Int.lt_of_le_of_lt p2 big6.2) p1 (.inr (.inl (by omega))))
  have uD := hide (fun k => dv_u uN k)
  obtain ⟨N, hN⟩ : ∃ N, N = cut W x := ⟨_, rfl⟩
  rw [← hN] at HC uN uD ⊢
  clear h hmd hc hN
  subst hkb
  generalize hWd : (kb : Int) = W at *
  have HWD := hide hWd
  clear hWd
  go_enter Try.func28, Try.ntmps28
  go_wp2_with fail
  refine (unhide RW _).mono ?_
  rintro e w1 ⟨rfl, k1⟩
  have K1 := hide k1
  clear k1
  go_wp2_with fail
  refine (whole_any x w1 ⟨hx0, hx1⟩).mono ?_
  rintro e w2 ⟨rfl, k2, b2⟩
  have K2 := hide k2
  have B2 := hide b2
  clear k2 b2
  go_wp2_with fail
  have FT := fit_any w1.heap.size x kb w2 (unhide B2) hk64 (by omega) (unhide FD)
  rw [unhide HC, unhide HWD] at FT
  refine FT.mono ?_
  clear FT
  rintro e w3 ⟨rfl, k3⟩
  have K3 := hide k3
  clear k3
  go_wp2_with fail
  refine (whole_any N w3 uN).mono ?_
  rintro e w4 ⟨rfl, k4, b4⟩
  have K4 := hide ((unhide K1).trans (((unhide K2).mono (unhide K1).size).trans (((unhide K3).mono (Nat.le_trans (unhide K1).size (unhide K2).size)).trans (k4.mono (Nat.le_trans (Nat.le_trans (unhide K1).size (unhide K2).size) (unhide K3).size)))))
  have B4 := hide b4
  have hP : w.heap.size ≤ w3.heap.size := Nat.le_trans (Nat.le_trans (unhide K1).size (unhide K2).size) (unhide K3).size
  clear k4 b4 K1 K2 K3 B2 FD RW
  generalize w3.heap.size = P at *
  go_wp2_with fail
  go_loopg [7, 8] (kw W) (fun g o t wr => ∃ k : Nat, k ≤ kw W ∧ g = kw W - k ∧ t = .int .i64 k ∧ Hid (wr.ownsRow w.heap.size 3 1 o k ((wl N k).map int1)) ∧ Hid (Big wr P (dv N k)) ∧ Hid (Below w.heap.size w wr))
  case atStart => exact ⟨0, Nat.zero_le _, rfl, rfl, World.ownsRow_nil _ _ _ _, B4, K4⟩
  case round =>
    obtain ⟨k, hk, hg, rfl, hO, hB, hK⟩ := hrel
    clear B4 K4
    have ud := unhide uD k
    unfold U at ud
    have sK := (unhide hK).size
    by_cases k0 : k = 0
    · have b0 : ((k : Int) == 0) = true := by rw [k0]; rfl
      have hlt : k < kw W := by omega
      clear k0
      go_wp2_with fail
      have HN := hide (Big.new wr)
      have KN := hide (below_a wr (.cells #[.bool false, .slice none 0 0] 61))
      have hsz : (wr.alloc (.cells #[.bool false, .slice none 0 0] 61)).heap.size = wr.heap.size + 1 := by simp
      have lP := (unhide hB).lt
      generalize wr.alloc (.cells #[.bool false, .slice none 0 0] 61) = W1 at *
      refine (two_any 16 W1 (by decide)).mono ?_
      rintro e w2 ⟨rfl, k2, b2⟩
      rw [hsz] at b2
      have K2 := hide k2
      have B2 := hide b2
      have s2 := (unhide K2).size
      clear k2 b2
      go_wp2_with fail
      have IP := hide (((unhide hB).int.step (unhide KN)).step (unhide K2))
      have IR := hide ((unhide HN).int.step (unhide K2))
      have ND := hide (divOk_short (n1 := ((dv N k).natAbs : Int)) (n2 := (((2 : Int) ^ 16).natAbs : Int)) (by omega) (by decide) (by decide) (.inr (.inr (by decide))))
      refine (divmod_any P P (wr.heap.size + 1) wr.heap.size (dv N k) (2 ^ 16) w2 (unhide IP) (unhide IR) (((unhide hB).step (unhide KN)).step (unhide K2)) (unhide B2) (by omega) (unhide ND) (by omega) (by decide) (by decide)).mono ?_
      rintro e w3 ⟨rfl, k3, b3, c3⟩
      have K3 := hide k3
      have s3 := (unhide K3).size
      have B3 := hide (show Big w3 P (dv N (k + 1)) from b3)
      have C3 := hide (show Big w3 wr.heap.size (dv N k % 65536) from c3)
      have O3 := hide (own_tn2 (own_step (own_step (unhide hO) (unhide KN)) (unhide K2)) (unhide K3) (unhide IP) (unhide IR))
      have L3 := hide (below_tn2 ((unhide hK).trans (((unhide KN).mono (by omega)).trans ((unhide K2).mono (by omega)))) (unhide K3) (by omega) (by omega) (by omega))
      clear k3 b3 c3
      go_wp2_with fail
      have IA := hide (int_any wr.heap.size (dv N k % 65536) w3 (unhide C3) ⟨by omega, by omega⟩)
      refine (unhide IA).mono ?_
      rintro e w4 ⟨rfl, rfl⟩
      clear IA
      go_wp2_with (at_builtin; refine wpList_append_own _ rfl (.tmp 34) (.tmp 37) 43 rfl w.heap.size 3 i0 (.int .i64 0) 1 8 Try.underlying43 hi hz0 hz1 hz2 rfl (by decide) _ _ _ rfl ((unhide O3).alloc _) ⟨_, 0, none⟩ 1 1 [.int .i64 (dv N k % 65536)] rfl rfl (one_c1 _ _ _) (one_c2 _ _) (by unfold maxLen; omega) (by omega) (by simp; omega) ?_; intro v5 w5 own5 grow5 _; have O5 := hide (show w5.ownsRow w.heap.size 3 1 v5 (k + 1) ((wl N (k + 1)).map int1) by rw [wl_succ]; exact own5); have B5 := hide (((unhide B3).step (below_a _ _)).grown ((unhide O3).alloc _) grow5); have L5 := hide (below_own ((unhide L3).alloc (by omega) _) (by simp; omega) ((unhide O3).alloc _) grow5); clear own5 grow5)
      go_roundg (kw W - (k + 1))
      case measure => omega
      case rel => exact ⟨k + 1, by omega, rfl, by go_num, O5, B5, L5⟩
    · have b0 : ((k : Int) == 0) = false := beq_eq_false_iff_ne.2 (by omega)
      by_cases hlt : k < kw W
      · have b1 : decide ((k : Int) < (kq : Int)) = true := decide_eq_true (by omega)
        go_wp2_with fail
        have HN := hide (Big.new wr)
        have KN := hide (below_a wr (.cells #[.bool false, .slice none 0 0] 61))
        have hsz : (wr.alloc (.cells #[.bool false, .slice none 0 0] 61)).heap.size = wr.heap.size + 1 := by simp
        have lP := (unhide hB).lt
        generalize wr.alloc (.cells #[.bool false, .slice none 0 0] 61) = W1 at *
        refine (two_any 16 W1 (by decide)).mono ?_
        rintro e w2 ⟨rfl, k2, b2⟩
        rw [hsz] at b2
        have K2 := hide k2
        have B2 := hide b2
        have s2 := (unhide K2).size
        clear k2 b2
        go_wp2_with fail
        have IP := hide (((unhide hB).int.step (unhide KN)).step (unhide K2))
        have IR := hide ((unhide HN).int.step (unhide K2))
        have ND := hide (divOk_short (n1 := ((dv N k).natAbs : Int)) (n2 := (((2 : Int) ^ 16).natAbs : Int)) (by omega) (by decide) (by decide) (.inr (.inr (by decide))))
        refine (divmod_any P P (wr.heap.size + 1) wr.heap.size (dv N k) (2 ^ 16) w2 (unhide IP) (unhide IR) (((unhide hB).step (unhide KN)).step (unhide K2)) (unhide B2) (by omega) (unhide ND) (by omega) (by decide) (by decide)).mono ?_
        rintro e w3 ⟨rfl, k3, b3, c3⟩
        have K3 := hide k3
        have s3 := (unhide K3).size
        have B3 := hide (show Big w3 P (dv N (k + 1)) from b3)
        have C3 := hide (show Big w3 wr.heap.size (dv N k % 65536) from c3)
        have O3 := hide (own_tn2 (own_step (own_step (unhide hO) (unhide KN)) (unhide K2)) (unhide K3) (unhide IP) (unhide IR))
        have L3 := hide (below_tn2 ((unhide hK).trans (((unhide KN).mono (by omega)).trans ((unhide K2).mono (by omega)))) (unhide K3) (by omega) (by omega) (by omega))
        clear k3 b3 c3
        go_wp2_with fail
        have IA := hide (int_any wr.heap.size (dv N k % 65536) w3 (unhide C3) ⟨by omega, by omega⟩)
        refine (unhide IA).mono ?_
        rintro e w4 ⟨rfl, rfl⟩
        clear IA
        go_wp2_with (at_builtin; refine wpList_append_own _ rfl (.tmp 34) (.tmp 37) 43 rfl w.heap.size 3 i0 (.int .i64 0) 1 8 Try.underlying43 hi hz0 hz1 hz2 rfl (by decide) _ _ _ rfl ((unhide O3).alloc _) ⟨_, 0, none⟩ 1 1 [.int .i64 (dv N k % 65536)] rfl rfl (one_c1 _ _ _) (one_c2 _ _) (by unfold maxLen; omega) (by omega) (by simp; omega) ?_; intro v5 w5 own5 grow5 _; have O5 := hide (show w5.ownsRow w.heap.size 3 1 v5 (k + 1) ((wl N (k + 1)).map int1) by rw [wl_succ]; exact own5); have B5 := hide (((unhide B3).step (below_a _ _)).grown ((unhide O3).alloc _) grow5); have L5 := hide (below_own ((unhide L3).alloc (by omega) _) (by simp; omega) ((unhide O3).alloc _) grow5); clear own5 grow5)
        go_roundg (kw W - (k + 1))
        case measure => omega
        case rel => exact ⟨k + 1, by omega, rfl, by go_num, O5, B5, L5⟩
      · have b1 : decide ((k : Int) < (kq : Int)) = false := decide_eq_false (by omega)
        have hkk2 : k = kw W := by omega
        have OI := hide (show Ints wr _ (wl N k) by
          have := Lies.owned (unhide hO)
          unfold Ints
          rw [wl_len]
          exact this)
        rw [hkk2] at OI
        clear hkk2
        go_wp2_with fail
        go_ret2
        exact ⟨unhide hK, _, rfl, unhide OI⟩
end Go.Proofs.Ythoemilflefniaa
