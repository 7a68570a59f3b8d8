/-
  pairlegalref2.Wrong: what is wrong with an instruction.
-/
import Derived.Test.YtjlbenbfmookoaaRefFz
import Derived.Test.YtjlbenbfmookoaaInsE2
namespace Go.Proofs.Ytjlbenbfmookoaa
open Go.RowKit
set_option linter.unusedSimpArgs false
set_option linter.unusedVariables false

theorem fsb_some {o : Int} (h : kn o = true) : (fsb o).toList.isEmpty = false := by
  rw [ByteArray.toList_eq]
  rcases kinds o h with rfl | rfl | rfl | rfl | rfl | rfl | rfl | rfl | rfl | rfl | rfl | rfl | rfl | rfl | rfl | rfl | rfl | rfl | rfl | rfl | rfl | rfl | rfl | rfl | rfl | rfl | rfl | rfl | rfl | rfl | rfl | rfl | rfl <;> rfl
theorem fsb_none {o : Int} (h : kn o = false) : (fsb o).toList.isEmpty = true := by
  have : fsb o = ⟨#[]⟩ := by unfold fsb fs; rw [if_neg (by simp [h])]
  rw [this, ByteArray.toList_eq]; rfl
theorem inR_no {x t : Int} (h : x < 0 ∨ t < x) : inR x t = false := by unfold inR; simp; omega
theorem inR_yes {x t : Int} (h0 : ¬ x < 0) (h1 : ¬ t < x) : inR x t = true := by unfold inR; simp; omega
theorem fourways (a : Bool) (x t : Int) : (a = true ∧ x < 0) ∨ (a = true ∧ ¬ x < 0 ∧ t < x) ∨ a = false ∨ (a = true ∧ ¬ x < 0 ∧ ¬ t < x) := by cases a <;> simp <;> omega

set_option maxHeartbeats 8000000 in
theorem rwrong_any (i : Ins) (w : World) : Calls Try.prog 64 #[agg i] w fun e w' => e = .returned (.int .i64 (wrg i)) ∧ Below w.heap.size w w' := by
  obtain ⟨o, d, s, m⟩ := i
  unfold agg
  dsimp only
  have B0 := hideI (Box.new w #[.int .i64 o, .int .i64 d, .int .i64 s, .int .i64 m] 49)
  have HD := among_d o
  have HS := among_s o
  have HM := among_i o
  by_cases hk : kn o = true
  · have h0 := fsb_some hk
    have key : ∀ b, bad ⟨o, d, s, m⟩ = b → wrg ⟨o, d, s, m⟩ = (if b = true then (3 : Int) else 0) := by
      intro b hb
      unfold wrg
      dsimp only
      rw [if_pos hk, hb]
    clear hk
    rcases fourways (hD o) d 7 with ⟨ha, xa⟩ | ⟨ha, ya, xa⟩ | ha | ⟨ha, ya, xa⟩
    · have ra := inR_no (x := d) (t := 7) (.inl xa)
      rw [key true (by unfold bad; simp [ha, ra])]
      rw [if_pos rfl]
      clear key ra
      go_enter Try.func64, Try.ntmps64
      go_wp2_with fail
      refine (fields_any _ _).mono ?_
      rintro e w0 ⟨rfl, k0⟩
      have B1 := hideI ((unhideI B0).step k0)
      have K1 := hideI (bt (below_a _ _) k0)
      clear k0
      obtain ⟨p0, p1, p2, p3⟩ := (unhideI B1).at4
      go_wp2_with fail
      clear p0 p1 p2 p3
      refine (has_any _ _ _).mono ?_
      rintro e w1 ⟨rfl, k1⟩
      have B2 := hideI ((unhideI B1).step k1)
      have K2 := hideI (bt (unhideI K1) k1)
      clear k1
      obtain ⟨p0, p1, p2, p3⟩ := (unhideI B2).at4
      go_wp2_with fail
      go_ret
      exact ⟨rfl, unhideI K2⟩
    · have ra := inR_no (x := d) (t := 7) (.inr xa)
      rw [key true (by unfold bad; simp [ha, ra])]
      rw [if_pos rfl]
      clear key ra
      go_enter Try.func64, Try.ntmps64
      go_wp2_with fail
      refine (fields_any _ _).mono ?_
      rintro e w0 ⟨rfl, k0⟩
      have B1 := hideI ((unhideI B0).step k0)
      have K1 := hideI (bt (below_a _ _) k0)
      clear k0
      obtain ⟨p0, p1, p2, p3⟩ := (unhideI B1).at4
      go_wp2_with fail
      clear p0 p1 p2 p3
      refine (has_any _ _ _).mono ?_
      rintro e w1 ⟨rfl, k1⟩
      have B2 := hideI ((unhideI B1).step k1)
      have K2 := hideI (bt (unhideI K1) k1)
      clear k1
      obtain ⟨p0, p1, p2, p3⟩ := (unhideI B2).at4
      go_wp2_with fail
      go_ret
      exact ⟨rfl, unhideI K2⟩
    · skip
      rcases fourways (hS o) s 7 with ⟨hb, xb⟩ | ⟨hb, yb, xb⟩ | hb | ⟨hb, yb, xb⟩
      · have rb := inR_no (x := s) (t := 7) (.inl xb)
        rw [key true (by unfold bad; simp [hb, rb])]
        rw [if_pos rfl]
        clear key rb
        go_enter Try.func64, Try.ntmps64
        go_wp2_with fail
        refine (fields_any _ _).mono ?_
        rintro e w0 ⟨rfl, k0⟩
        have B1 := hideI ((unhideI B0).step k0)
        have K1 := hideI (bt (below_a _ _) k0)
        clear k0
        obtain ⟨p0, p1, p2, p3⟩ := (unhideI B1).at4
        go_wp2_with fail
        clear p0 p1 p2 p3
        refine (has_any _ _ _).mono ?_
        rintro e w1 ⟨rfl, k1⟩
        have B2 := hideI ((unhideI B1).step k1)
        have K2 := hideI (bt (unhideI K1) k1)
        clear k1
        obtain ⟨p0, p1, p2, p3⟩ := (unhideI B2).at4
        go_wp2_with fail
        clear p0 p1 p2 p3
        refine (has_any _ _ _).mono ?_
        rintro e w2 ⟨rfl, k2⟩
        have B3 := hideI ((unhideI B2).step k2)
        have K3 := hideI (bt (unhideI K2) k2)
        clear k2
        obtain ⟨p0, p1, p2, p3⟩ := (unhideI B3).at4
        go_wp2_with fail
        go_ret
        exact ⟨rfl, unhideI K3⟩
      · have rb := inR_no (x := s) (t := 7) (.inr xb)
        rw [key true (by unfold bad; simp [hb, rb])]
        rw [if_pos rfl]
        clear key rb
        go_enter Try.func64, Try.ntmps64
        go_wp2_with fail
        refine (fields_any _ _).mono ?_
        rintro e w0 ⟨rfl, k0⟩
        have B1 := hideI ((unhideI B0).step k0)
        have K1 := hideI (bt (below_a _ _) k0)
        clear k0
        obtain ⟨p0, p1, p2, p3⟩ := (unhideI B1).at4
        go_wp2_with fail
        clear p0 p1 p2 p3
        refine (has_any _ _ _).mono ?_
        rintro e w1 ⟨rfl, k1⟩
        have B2 := hideI ((unhideI B1).step k1)
        have K2 := hideI (bt (unhideI K1) k1)
        clear k1
        obtain ⟨p0, p1, p2, p3⟩ := (unhideI B2).at4
        go_wp2_with fail
        clear p0 p1 p2 p3
        refine (has_any _ _ _).mono ?_
        rintro e w2 ⟨rfl, k2⟩
        have B3 := hideI ((unhideI B2).step k2)
        have K3 := hideI (bt (unhideI K2) k2)
        clear k2
        obtain ⟨p0, p1, p2, p3⟩ := (unhideI B3).at4
        go_wp2_with fail
        go_ret
        exact ⟨rfl, unhideI K3⟩
      · skip
        rcases fourways (hI o) m 65535 with ⟨hc, xc⟩ | ⟨hc, yc, xc⟩ | hc | ⟨hc, yc, xc⟩
        · have rc := inR_no (x := m) (t := 65535) (.inl xc)
          rw [key true (by unfold bad; simp [hc, rc])]
          rw [if_pos rfl]
          clear key rc
          go_enter Try.func64, Try.ntmps64
          go_wp2_with fail
          refine (fields_any _ _).mono ?_
          rintro e w0 ⟨rfl, k0⟩
          have B1 := hideI ((unhideI B0).step k0)
          have K1 := hideI (bt (below_a _ _) k0)
          clear k0
          obtain ⟨p0, p1, p2, p3⟩ := (unhideI B1).at4
          go_wp2_with fail
          clear p0 p1 p2 p3
          refine (has_any _ _ _).mono ?_
          rintro e w1 ⟨rfl, k1⟩
          have B2 := hideI ((unhideI B1).step k1)
          have K2 := hideI (bt (unhideI K1) k1)
          clear k1
          obtain ⟨p0, p1, p2, p3⟩ := (unhideI B2).at4
          go_wp2_with fail
          clear p0 p1 p2 p3
          refine (has_any _ _ _).mono ?_
          rintro e w2 ⟨rfl, k2⟩
          have B3 := hideI ((unhideI B2).step k2)
          have K3 := hideI (bt (unhideI K2) k2)
          clear k2
          obtain ⟨p0, p1, p2, p3⟩ := (unhideI B3).at4
          go_wp2_with fail
          clear p0 p1 p2 p3
          refine (has_any _ _ _).mono ?_
          rintro e w3 ⟨rfl, k3⟩
          have B4 := hideI ((unhideI B3).step k3)
          have K4 := hideI (bt (unhideI K3) k3)
          clear k3
          obtain ⟨p0, p1, p2, p3⟩ := (unhideI B4).at4
          go_wp2_with fail
          go_ret
          exact ⟨rfl, unhideI K4⟩
        · have rc := inR_no (x := m) (t := 65535) (.inr xc)
          rw [key true (by unfold bad; simp [hc, rc])]
          rw [if_pos rfl]
          clear key rc
          go_enter Try.func64, Try.ntmps64
          go_wp2_with fail
          refine (fields_any _ _).mono ?_
          rintro e w0 ⟨rfl, k0⟩
          have B1 := hideI ((unhideI B0).step k0)
          have K1 := hideI (bt (below_a _ _) k0)
          clear k0
          obtain ⟨p0, p1, p2, p3⟩ := (unhideI B1).at4
          go_wp2_with fail
          clear p0 p1 p2 p3
          refine (has_any _ _ _).mono ?_
          rintro e w1 ⟨rfl, k1⟩
          have B2 := hideI ((unhideI B1).step k1)
          have K2 := hideI (bt (unhideI K1) k1)
          clear k1
          obtain ⟨p0, p1, p2, p3⟩ := (unhideI B2).at4
          go_wp2_with fail
          clear p0 p1 p2 p3
          refine (has_any _ _ _).mono ?_
          rintro e w2 ⟨rfl, k2⟩
          have B3 := hideI ((unhideI B2).step k2)
          have K3 := hideI (bt (unhideI K2) k2)
          clear k2
          obtain ⟨p0, p1, p2, p3⟩ := (unhideI B3).at4
          go_wp2_with fail
          clear p0 p1 p2 p3
          refine (has_any _ _ _).mono ?_
          rintro e w3 ⟨rfl, k3⟩
          have B4 := hideI ((unhideI B3).step k3)
          have K4 := hideI (bt (unhideI K3) k3)
          clear k3
          obtain ⟨p0, p1, p2, p3⟩ := (unhideI B4).at4
          go_wp2_with fail
          go_ret
          exact ⟨rfl, unhideI K4⟩
        · skip
          rw [key false (by unfold bad; simp [ha, hb, hc])]
          rw [if_neg (by decide)]
          clear key
          go_enter Try.func64, Try.ntmps64
          go_wp2_with fail
          refine (fields_any _ _).mono ?_
          rintro e w0 ⟨rfl, k0⟩
          have B1 := hideI ((unhideI B0).step k0)
          have K1 := hideI (bt (below_a _ _) k0)
          clear k0
          obtain ⟨p0, p1, p2, p3⟩ := (unhideI B1).at4
          go_wp2_with fail
          clear p0 p1 p2 p3
          refine (has_any _ _ _).mono ?_
          rintro e w1 ⟨rfl, k1⟩
          have B2 := hideI ((unhideI B1).step k1)
          have K2 := hideI (bt (unhideI K1) k1)
          clear k1
          obtain ⟨p0, p1, p2, p3⟩ := (unhideI B2).at4
          go_wp2_with fail
          clear p0 p1 p2 p3
          refine (has_any _ _ _).mono ?_
          rintro e w2 ⟨rfl, k2⟩
          have B3 := hideI ((unhideI B2).step k2)
          have K3 := hideI (bt (unhideI K2) k2)
          clear k2
          obtain ⟨p0, p1, p2, p3⟩ := (unhideI B3).at4
          go_wp2_with fail
          clear p0 p1 p2 p3
          refine (has_any _ _ _).mono ?_
          rintro e w3 ⟨rfl, k3⟩
          have B4 := hideI ((unhideI B3).step k3)
          have K4 := hideI (bt (unhideI K3) k3)
          clear k3
          obtain ⟨p0, p1, p2, p3⟩ := (unhideI B4).at4
          go_wp2_with fail
          go_ret
          exact ⟨rfl, unhideI K4⟩
        · have rc := inR_yes yc xc
          rw [key false (by unfold bad; simp [ha, hb, rc])]
          rw [if_neg (by decide)]
          clear key
          go_enter Try.func64, Try.ntmps64
          go_wp2_with fail
          refine (fields_any _ _).mono ?_
          rintro e w0 ⟨rfl, k0⟩
          have B1 := hideI ((unhideI B0).step k0)
          have K1 := hideI (bt (below_a _ _) k0)
          clear k0
          obtain ⟨p0, p1, p2, p3⟩ := (unhideI B1).at4
          go_wp2_with fail
          clear p0 p1 p2 p3
          refine (has_any _ _ _).mono ?_
          rintro e w1 ⟨rfl, k1⟩
          have B2 := hideI ((unhideI B1).step k1)
          have K2 := hideI (bt (unhideI K1) k1)
          clear k1
          obtain ⟨p0, p1, p2, p3⟩ := (unhideI B2).at4
          go_wp2_with fail
          clear p0 p1 p2 p3
          refine (has_any _ _ _).mono ?_
          rintro e w2 ⟨rfl, k2⟩
          have B3 := hideI ((unhideI B2).step k2)
          have K3 := hideI (bt (unhideI K2) k2)
          clear k2
          obtain ⟨p0, p1, p2, p3⟩ := (unhideI B3).at4
          go_wp2_with fail
          clear p0 p1 p2 p3
          refine (has_any _ _ _).mono ?_
          rintro e w3 ⟨rfl, k3⟩
          have B4 := hideI ((unhideI B3).step k3)
          have K4 := hideI (bt (unhideI K3) k3)
          clear k3
          obtain ⟨p0, p1, p2, p3⟩ := (unhideI B4).at4
          go_wp2_with fail
          go_ret
          exact ⟨rfl, unhideI K4⟩
      · have rb := inR_yes yb xb
        rcases fourways (hI o) m 65535 with ⟨hc, xc⟩ | ⟨hc, yc, xc⟩ | hc | ⟨hc, yc, xc⟩
        · have rc := inR_no (x := m) (t := 65535) (.inl xc)
          rw [key true (by unfold bad; simp [hc, rc])]
          rw [if_pos rfl]
          clear key rc
          go_enter Try.func64, Try.ntmps64
          go_wp2_with fail
          refine (fields_any _ _).mono ?_
          rintro e w0 ⟨rfl, k0⟩
          have B1 := hideI ((unhideI B0).step k0)
          have K1 := hideI (bt (below_a _ _) k0)
          clear k0
          obtain ⟨p0, p1, p2, p3⟩ := (unhideI B1).at4
          go_wp2_with fail
          clear p0 p1 p2 p3
          refine (has_any _ _ _).mono ?_
          rintro e w1 ⟨rfl, k1⟩
          have B2 := hideI ((unhideI B1).step k1)
          have K2 := hideI (bt (unhideI K1) k1)
          clear k1
          obtain ⟨p0, p1, p2, p3⟩ := (unhideI B2).at4
          go_wp2_with fail
          clear p0 p1 p2 p3
          refine (has_any _ _ _).mono ?_
          rintro e w2 ⟨rfl, k2⟩
          have B3 := hideI ((unhideI B2).step k2)
          have K3 := hideI (bt (unhideI K2) k2)
          clear k2
          obtain ⟨p0, p1, p2, p3⟩ := (unhideI B3).at4
          go_wp2_with fail
          clear p0 p1 p2 p3
          refine (has_any _ _ _).mono ?_
          rintro e w3 ⟨rfl, k3⟩
          have B4 := hideI ((unhideI B3).step k3)
          have K4 := hideI (bt (unhideI K3) k3)
          clear k3
          obtain ⟨p0, p1, p2, p3⟩ := (unhideI B4).at4
          go_wp2_with fail
          go_ret
          exact ⟨rfl, unhideI K4⟩
        · have rc := inR_no (x := m) (t := 65535) (.inr xc)
          rw [key true (by unfold bad; simp [hc, rc])]
          rw [if_pos rfl]
          clear key rc
          go_enter Try.func64, Try.ntmps64
          go_wp2_with fail
          refine (fields_any _ _).mono ?_
          rintro e w0 ⟨rfl, k0⟩
          have B1 := hideI ((unhideI B0).step k0)
          have K1 := hideI (bt (below_a _ _) k0)
          clear k0
          obtain ⟨p0, p1, p2, p3⟩ := (unhideI B1).at4
          go_wp2_with fail
          clear p0 p1 p2 p3
          refine (has_any _ _ _).mono ?_
          rintro e w1 ⟨rfl, k1⟩
          have B2 := hideI ((unhideI B1).step k1)
          have K2 := hideI (bt (unhideI K1) k1)
          clear k1
          obtain ⟨p0, p1, p2, p3⟩ := (unhideI B2).at4
          go_wp2_with fail
          clear p0 p1 p2 p3
          refine (has_any _ _ _).mono ?_
          rintro e w2 ⟨rfl, k2⟩
          have B3 := hideI ((unhideI B2).step k2)
          have K3 := hideI (bt (unhideI K2) k2)
          clear k2
          obtain ⟨p0, p1, p2, p3⟩ := (unhideI B3).at4
          go_wp2_with fail
          clear p0 p1 p2 p3
          refine (has_any _ _ _).mono ?_
          rintro e w3 ⟨rfl, k3⟩
          have B4 := hideI ((unhideI B3).step k3)
          have K4 := hideI (bt (unhideI K3) k3)
          clear k3
          obtain ⟨p0, p1, p2, p3⟩ := (unhideI B4).at4
          go_wp2_with fail
          go_ret
          exact ⟨rfl, unhideI K4⟩
        · skip
          rw [key false (by unfold bad; simp [ha, rb, hc])]
          rw [if_neg (by decide)]
          clear key
          go_enter Try.func64, Try.ntmps64
          go_wp2_with fail
          refine (fields_any _ _).mono ?_
          rintro e w0 ⟨rfl, k0⟩
          have B1 := hideI ((unhideI B0).step k0)
          have K1 := hideI (bt (below_a _ _) k0)
          clear k0
          obtain ⟨p0, p1, p2, p3⟩ := (unhideI B1).at4
          go_wp2_with fail
          clear p0 p1 p2 p3
          refine (has_any _ _ _).mono ?_
          rintro e w1 ⟨rfl, k1⟩
          have B2 := hideI ((unhideI B1).step k1)
          have K2 := hideI (bt (unhideI K1) k1)
          clear k1
          obtain ⟨p0, p1, p2, p3⟩ := (unhideI B2).at4
          go_wp2_with fail
          clear p0 p1 p2 p3
          refine (has_any _ _ _).mono ?_
          rintro e w2 ⟨rfl, k2⟩
          have B3 := hideI ((unhideI B2).step k2)
          have K3 := hideI (bt (unhideI K2) k2)
          clear k2
          obtain ⟨p0, p1, p2, p3⟩ := (unhideI B3).at4
          go_wp2_with fail
          clear p0 p1 p2 p3
          refine (has_any _ _ _).mono ?_
          rintro e w3 ⟨rfl, k3⟩
          have B4 := hideI ((unhideI B3).step k3)
          have K4 := hideI (bt (unhideI K3) k3)
          clear k3
          obtain ⟨p0, p1, p2, p3⟩ := (unhideI B4).at4
          go_wp2_with fail
          go_ret
          exact ⟨rfl, unhideI K4⟩
        · have rc := inR_yes yc xc
          rw [key false (by unfold bad; simp [ha, rb, rc])]
          rw [if_neg (by decide)]
          clear key
          go_enter Try.func64, Try.ntmps64
          go_wp2_with fail
          refine (fields_any _ _).mono ?_
          rintro e w0 ⟨rfl, k0⟩
          have B1 := hideI ((unhideI B0).step k0)
          have K1 := hideI (bt (below_a _ _) k0)
          clear k0
          obtain ⟨p0, p1, p2, p3⟩ := (unhideI B1).at4
          go_wp2_with fail
          clear p0 p1 p2 p3
          refine (has_any _ _ _).mono ?_
          rintro e w1 ⟨rfl, k1⟩
          have B2 := hideI ((unhideI B1).step k1)
          have K2 := hideI (bt (unhideI K1) k1)
          clear k1
          obtain ⟨p0, p1, p2, p3⟩ := (unhideI B2).at4
          go_wp2_with fail
          clear p0 p1 p2 p3
          refine (has_any _ _ _).mono ?_
          rintro e w2 ⟨rfl, k2⟩
          have B3 := hideI ((unhideI B2).step k2)
          have K3 := hideI (bt (unhideI K2) k2)
          clear k2
          obtain ⟨p0, p1, p2, p3⟩ := (unhideI B3).at4
          go_wp2_with fail
          clear p0 p1 p2 p3
          refine (has_any _ _ _).mono ?_
          rintro e w3 ⟨rfl, k3⟩
          have B4 := hideI ((unhideI B3).step k3)
          have K4 := hideI (bt (unhideI K3) k3)
          clear k3
          obtain ⟨p0, p1, p2, p3⟩ := (unhideI B4).at4
          go_wp2_with fail
          go_ret
          exact ⟨rfl, unhideI K4⟩
    · have ra := inR_yes ya xa
      rcases fourways (hS o) s 7 with ⟨hb, xb⟩ | ⟨hb, yb, xb⟩ | hb | ⟨hb, yb, xb⟩
      · have rb := inR_no (x := s) (t := 7) (.inl xb)
        rw [key true (by unfold bad; simp [hb, rb])]
        rw [if_pos rfl]
        clear key rb
        go_enter Try.func64, Try.ntmps64
        go_wp2_with fail
        refine (fields_any _ _).mono ?_
        rintro e w0 ⟨rfl, k0⟩
        have B1 := hideI ((unhideI B0).step k0)
        have K1 := hideI (bt (below_a _ _) k0)
        clear k0
        obtain ⟨p0, p1, p2, p3⟩ := (unhideI B1).at4
        go_wp2_with fail
        clear p0 p1 p2 p3
        refine (has_any _ _ _).mono ?_
        rintro e w1 ⟨rfl, k1⟩
        have B2 := hideI ((unhideI B1).step k1)
        have K2 := hideI (bt (unhideI K1) k1)
        clear k1
        obtain ⟨p0, p1, p2, p3⟩ := (unhideI B2).at4
        go_wp2_with fail
        clear p0 p1 p2 p3
        refine (has_any _ _ _).mono ?_
        rintro e w2 ⟨rfl, k2⟩
        have B3 := hideI ((unhideI B2).step k2)
        have K3 := hideI (bt (unhideI K2) k2)
        clear k2
        obtain ⟨p0, p1, p2, p3⟩ := (unhideI B3).at4
        go_wp2_with fail
        go_ret
        exact ⟨rfl, unhideI K3⟩
      · have rb := inR_no (x := s) (t := 7) (.inr xb)
        rw [key true (by unfold bad; simp [hb, rb])]
        rw [if_pos rfl]
        clear key rb
        go_enter Try.func64, Try.ntmps64
        go_wp2_with fail
        refine (fields_any _ _).mono ?_
        rintro e w0 ⟨rfl, k0⟩
        have B1 := hideI ((unhideI B0).step k0)
        have K1 := hideI (bt (below_a _ _) k0)
        clear k0
        obtain ⟨p0, p1, p2, p3⟩ := (unhideI B1).at4
        go_wp2_with fail
        clear p0 p1 p2 p3
        refine (has_any _ _ _).mono ?_
        rintro e w1 ⟨rfl, k1⟩
        have B2 := hideI ((unhideI B1).step k1)
        have K2 := hideI (bt (unhideI K1) k1)
        clear k1
        obtain ⟨p0, p1, p2, p3⟩ := (unhideI B2).at4
        go_wp2_with fail
        clear p0 p1 p2 p3
        refine (has_any _ _ _).mono ?_
        rintro e w2 ⟨rfl, k2⟩
        have B3 := hideI ((unhideI B2).step k2)
        have K3 := hideI (bt (unhideI K2) k2)
        clear k2
        obtain ⟨p0, p1, p2, p3⟩ := (unhideI B3).at4
        go_wp2_with fail
        go_ret
        exact ⟨rfl, unhideI K3⟩
      · skip
        rcases fourways (hI o) m 65535 with ⟨hc, xc⟩ | ⟨hc, yc, xc⟩ | hc | ⟨hc, yc, xc⟩
        · have rc := inR_no (x := m) (t := 65535) (.inl xc)
          rw [key true (by unfold bad; simp [hc, rc])]
          rw [if_pos rfl]
          clear key rc
          go_enter Try.func64, Try.ntmps64
          go_wp2_with fail
          refine (fields_any _ _).mono ?_
          rintro e w0 ⟨rfl, k0⟩
          have B1 := hideI ((unhideI B0).step k0)
          have K1 := hideI (bt (below_a _ _) k0)
          clear k0
          obtain ⟨p0, p1, p2, p3⟩ := (unhideI B1).at4
          go_wp2_with fail
          clear p0 p1 p2 p3
          refine (has_any _ _ _).mono ?_
          rintro e w1 ⟨rfl, k1⟩
          have B2 := hideI ((unhideI B1).step k1)
          have K2 := hideI (bt (unhideI K1) k1)
          clear k1
          obtain ⟨p0, p1, p2, p3⟩ := (unhideI B2).at4
          go_wp2_with fail
          clear p0 p1 p2 p3
          refine (has_any _ _ _).mono ?_
          rintro e w2 ⟨rfl, k2⟩
          have B3 := hideI ((unhideI B2).step k2)
          have K3 := hideI (bt (unhideI K2) k2)
          clear k2
          obtain ⟨p0, p1, p2, p3⟩ := (unhideI B3).at4
          go_wp2_with fail
          clear p0 p1 p2 p3
          refine (has_any _ _ _).mono ?_
          rintro e w3 ⟨rfl, k3⟩
          have B4 := hideI ((unhideI B3).step k3)
          have K4 := hideI (bt (unhideI K3) k3)
          clear k3
          obtain ⟨p0, p1, p2, p3⟩ := (unhideI B4).at4
          go_wp2_with fail
          go_ret
          exact ⟨rfl, unhideI K4⟩
        · have rc := inR_no (x := m) (t := 65535) (.inr xc)
          rw [key true (by unfold bad; simp [hc, rc])]
          rw [if_pos rfl]
          clear key rc
          go_enter Try.func64, Try.ntmps64
          go_wp2_with fail
          refine (fields_any _ _).mono ?_
          rintro e w0 ⟨rfl, k0⟩
          have B1 := hideI ((unhideI B0).step k0)
          have K1 := hideI (bt (below_a _ _) k0)
          clear k0
          obtain ⟨p0, p1, p2, p3⟩ := (unhideI B1).at4
          go_wp2_with fail
          clear p0 p1 p2 p3
          refine (has_any _ _ _).mono ?_
          rintro e w1 ⟨rfl, k1⟩
          have B2 := hideI ((unhideI B1).step k1)
          have K2 := hideI (bt (unhideI K1) k1)
          clear k1
          obtain ⟨p0, p1, p2, p3⟩ := (unhideI B2).at4
          go_wp2_with fail
          clear p0 p1 p2 p3
          refine (has_any _ _ _).mono ?_
          rintro e w2 ⟨rfl, k2⟩
          have B3 := hideI ((unhideI B2).step k2)
          have K3 := hideI (bt (unhideI K2) k2)
          clear k2
          obtain ⟨p0, p1, p2, p3⟩ := (unhideI B3).at4
          go_wp2_with fail
          clear p0 p1 p2 p3
          refine (has_any _ _ _).mono ?_
          rintro e w3 ⟨rfl, k3⟩
          have B4 := hideI ((unhideI B3).step k3)
          have K4 := hideI (bt (unhideI K3) k3)
          clear k3
          obtain ⟨p0, p1, p2, p3⟩ := (unhideI B4).at4
          go_wp2_with fail
          go_ret
          exact ⟨rfl, unhideI K4⟩
        · skip
          rw [key false (by unfold bad; simp [ra, hb, hc])]
          rw [if_neg (by decide)]
          clear key
          go_enter Try.func64, Try.ntmps64
          go_wp2_with fail
          refine (fields_any _ _).mono ?_
          rintro e w0 ⟨rfl, k0⟩
          have B1 := hideI ((unhideI B0).step k0)
          have K1 := hideI (bt (below_a _ _) k0)
          clear k0
          obtain ⟨p0, p1, p2, p3⟩ := (unhideI B1).at4
          go_wp2_with fail
          clear p0 p1 p2 p3
          refine (has_any _ _ _).mono ?_
          rintro e w1 ⟨rfl, k1⟩
          have B2 := hideI ((unhideI B1).step k1)
          have K2 := hideI (bt (unhideI K1) k1)
          clear k1
          obtain ⟨p0, p1, p2, p3⟩ := (unhideI B2).at4
          go_wp2_with fail
          clear p0 p1 p2 p3
          refine (has_any _ _ _).mono ?_
          rintro e w2 ⟨rfl, k2⟩
          have B3 := hideI ((unhideI B2).step k2)
          have K3 := hideI (bt (unhideI K2) k2)
          clear k2
          obtain ⟨p0, p1, p2, p3⟩ := (unhideI B3).at4
          go_wp2_with fail
          clear p0 p1 p2 p3
          refine (has_any _ _ _).mono ?_
          rintro e w3 ⟨rfl, k3⟩
          have B4 := hideI ((unhideI B3).step k3)
          have K4 := hideI (bt (unhideI K3) k3)
          clear k3
          obtain ⟨p0, p1, p2, p3⟩ := (unhideI B4).at4
          go_wp2_with fail
          go_ret
          exact ⟨rfl, unhideI K4⟩
        · have rc := inR_yes yc xc
          rw [key false (by unfold bad; simp [ra, hb, rc])]
          rw [if_neg (by decide)]
          clear key
          go_enter Try.func64, Try.ntmps64
          go_wp2_with fail
          refine (fields_any _ _).mono ?_
          rintro e w0 ⟨rfl, k0⟩
          have B1 := hideI ((unhideI B0).step k0)
          have K1 := hideI (bt (below_a _ _) k0)
          clear k0
          obtain ⟨p0, p1, p2, p3⟩ := (unhideI B1).at4
          go_wp2_with fail
          clear p0 p1 p2 p3
          refine (has_any _ _ _).mono ?_
          rintro e w1 ⟨rfl, k1⟩
          have B2 := hideI ((unhideI B1).step k1)
          have K2 := hideI (bt (unhideI K1) k1)
          clear k1
          obtain ⟨p0, p1, p2, p3⟩ := (unhideI B2).at4
          go_wp2_with fail
          clear p0 p1 p2 p3
          refine (has_any _ _ _).mono ?_
          rintro e w2 ⟨rfl, k2⟩
          have B3 := hideI ((unhideI B2).step k2)
          have K3 := hideI (bt (unhideI K2) k2)
          clear k2
          obtain ⟨p0, p1, p2, p3⟩ := (unhideI B3).at4
          go_wp2_with fail
          clear p0 p1 p2 p3
          refine (has_any _ _ _).mono ?_
          rintro e w3 ⟨rfl, k3⟩
          have B4 := hideI ((unhideI B3).step k3)
          have K4 := hideI (bt (unhideI K3) k3)
          clear k3
          obtain ⟨p0, p1, p2, p3⟩ := (unhideI B4).at4
          go_wp2_with fail
          go_ret
          exact ⟨rfl, unhideI K4⟩
      · have rb := inR_yes yb xb
        rcases fourways (hI o) m 65535 with ⟨hc, xc⟩ | ⟨hc, yc, xc⟩ | hc | ⟨hc, yc, xc⟩
        · have rc := inR_no (x := m) (t := 65535) (.inl xc)
          rw [key true (by unfold bad; simp [hc, rc])]
          rw [if_pos rfl]
          clear key rc
          go_enter Try.func64, Try.ntmps64
          go_wp2_with fail
          refine (fields_any _ _).mono ?_
          rintro e w0 ⟨rfl, k0⟩
          have B1 := hideI ((unhideI B0).step k0)
          have K1 := hideI (bt (below_a _ _) k0)
          clear k0
          obtain ⟨p0, p1, p2, p3⟩ := (unhideI B1).at4
          go_wp2_with fail
          clear p0 p1 p2 p3
          refine (has_any _ _ _).mono ?_
          rintro e w1 ⟨rfl, k1⟩
          have B2 := hideI ((unhideI B1).step k1)
          have K2 := hideI (bt (unhideI K1) k1)
          clear k1
          obtain ⟨p0, p1, p2, p3⟩ := (unhideI B2).at4
          go_wp2_with fail
          clear p0 p1 p2 p3
          refine (has_any _ _ _).mono ?_
          rintro e w2 ⟨rfl, k2⟩
          have B3 := hideI ((unhideI B2).step k2)
          have K3 := hideI (bt (unhideI K2) k2)
          clear k2
          obtain ⟨p0, p1, p2, p3⟩ := (unhideI B3).at4
          go_wp2_with fail
          clear p0 p1 p2 p3
          refine (has_any _ _ _).mono ?_
          rintro e w3 ⟨rfl, k3⟩
          have B4 := hideI ((unhideI B3).step k3)
          have K4 := hideI (bt (unhideI K3) k3)
          clear k3
          obtain ⟨p0, p1, p2, p3⟩ := (unhideI B4).at4
          go_wp2_with fail
          go_ret
          exact ⟨rfl, unhideI K4⟩
        · have rc := inR_no (x := m) (t := 65535) (.inr xc)
          rw [key true (by unfold bad; simp [hc, rc])]
          rw [if_pos rfl]
          clear key rc
          go_enter Try.func64, Try.ntmps64
          go_wp2_with fail
          refine (fields_any _ _).mono ?_
          rintro e w0 ⟨rfl, k0⟩
          have B1 := hideI ((unhideI B0).step k0)
          have K1 := hideI (bt (below_a _ _) k0)
          clear k0
          obtain ⟨p0, p1, p2, p3⟩ := (unhideI B1).at4
          go_wp2_with fail
          clear p0 p1 p2 p3
          refine (has_any _ _ _).mono ?_
          rintro e w1 ⟨rfl, k1⟩
          have B2 := hideI ((unhideI B1).step k1)
          have K2 := hideI (bt (unhideI K1) k1)
          clear k1
          obtain ⟨p0, p1, p2, p3⟩ := (unhideI B2).at4
          go_wp2_with fail
          clear p0 p1 p2 p3
          refine (has_any _ _ _).mono ?_
          rintro e w2 ⟨rfl, k2⟩
          have B3 := hideI ((unhideI B2).step k2)
          have K3 := hideI (bt (unhideI K2) k2)
          clear k2
          obtain ⟨p0, p1, p2, p3⟩ := (unhideI B3).at4
          go_wp2_with fail
          clear p0 p1 p2 p3
          refine (has_any _ _ _).mono ?_
          rintro e w3 ⟨rfl, k3⟩
          have B4 := hideI ((unhideI B3).step k3)
          have K4 := hideI (bt (unhideI K3) k3)
          clear k3
          obtain ⟨p0, p1, p2, p3⟩ := (unhideI B4).at4
          go_wp2_with fail
          go_ret
          exact ⟨rfl, unhideI K4⟩
        · skip
          rw [key false (by unfold bad; simp [ra, rb, hc])]
          rw [if_neg (by decide)]
          clear key
          go_enter Try.func64, Try.ntmps64
          go_wp2_with fail
          refine (fields_any _ _).mono ?_
          rintro e w0 ⟨rfl, k0⟩
          have B1 := hideI ((unhideI B0).step k0)
          have K1 := hideI (bt (below_a _ _) k0)
          clear k0
          obtain ⟨p0, p1, p2, p3⟩ := (unhideI B1).at4
          go_wp2_with fail
          clear p0 p1 p2 p3
          refine (has_any _ _ _).mono ?_
          rintro e w1 ⟨rfl, k1⟩
          have B2 := hideI ((unhideI B1).step k1)
          have K2 := hideI (bt (unhideI K1) k1)
          clear k1
          obtain ⟨p0, p1, p2, p3⟩ := (unhideI B2).at4
          go_wp2_with fail
          clear p0 p1 p2 p3
          refine (has_any _ _ _).mono ?_
          rintro e w2 ⟨rfl, k2⟩
          have B3 := hideI ((unhideI B2).step k2)
          have K3 := hideI (bt (unhideI K2) k2)
          clear k2
          obtain ⟨p0, p1, p2, p3⟩ := (unhideI B3).at4
          go_wp2_with fail
          clear p0 p1 p2 p3
          refine (has_any _ _ _).mono ?_
          rintro e w3 ⟨rfl, k3⟩
          have B4 := hideI ((unhideI B3).step k3)
          have K4 := hideI (bt (unhideI K3) k3)
          clear k3
          obtain ⟨p0, p1, p2, p3⟩ := (unhideI B4).at4
          go_wp2_with fail
          go_ret
          exact ⟨rfl, unhideI K4⟩
        · have rc := inR_yes yc xc
          rw [key false (by unfold bad; simp [ra, rb, rc])]
          rw [if_neg (by decide)]
          clear key
          go_enter Try.func64, Try.ntmps64
          go_wp2_with fail
          refine (fields_any _ _).mono ?_
          rintro e w0 ⟨rfl, k0⟩
          have B1 := hideI ((unhideI B0).step k0)
          have K1 := hideI (bt (below_a _ _) k0)
          clear k0
          obtain ⟨p0, p1, p2, p3⟩ := (unhideI B1).at4
          go_wp2_with fail
          clear p0 p1 p2 p3
          refine (has_any _ _ _).mono ?_
          rintro e w1 ⟨rfl, k1⟩
          have B2 := hideI ((unhideI B1).step k1)
          have K2 := hideI (bt (unhideI K1) k1)
          clear k1
          obtain ⟨p0, p1, p2, p3⟩ := (unhideI B2).at4
          go_wp2_with fail
          clear p0 p1 p2 p3
          refine (has_any _ _ _).mono ?_
          rintro e w2 ⟨rfl, k2⟩
          have B3 := hideI ((unhideI B2).step k2)
          have K3 := hideI (bt (unhideI K2) k2)
          clear k2
          obtain ⟨p0, p1, p2, p3⟩ := (unhideI B3).at4
          go_wp2_with fail
          clear p0 p1 p2 p3
          refine (has_any _ _ _).mono ?_
          rintro e w3 ⟨rfl, k3⟩
          have B4 := hideI ((unhideI B3).step k3)
          have K4 := hideI (bt (unhideI K3) k3)
          clear k3
          obtain ⟨p0, p1, p2, p3⟩ := (unhideI B4).at4
          go_wp2_with fail
          go_ret
          exact ⟨rfl, unhideI K4⟩
  · have hk' : kn o = false := by simpa using hk
    have h0 := fsb_none hk'
    rw [wr_no (i := ⟨o, d, s, m⟩) hk']
    clear hk hk'
    go_enter Try.func64, Try.ntmps64
    go_wp2_with fail
    refine (fields_any _ _).mono ?_
    rintro e w0 ⟨rfl, k0⟩
    have K1 := hideI (bt (below_a _ _) k0)
    go_wp2_with fail
    go_ret
    exact ⟨rfl, unhideI K1⟩
end Go.Proofs.Ytjlbenbfmookoaa
