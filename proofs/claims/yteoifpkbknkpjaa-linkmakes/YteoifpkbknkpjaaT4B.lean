/-
  The document's answer on lines: Wrong.
-/
import Derived.Test.YteoifpkbknkpjaaR4Cz
import Derived.Test.YteoifpkbknkpjaaRefW
namespace Go.Proofs.Yteoifpkbknkpjaa
open Go.RowKit
set_option linter.unusedSimpArgs false
set_option linter.unusedVariables false

theorem isZ_iff (o d s m : Int) : isZ ⟨o, d, s, m⟩ = true ↔ o = 0 ∧ d = 0 ∧ s = 0 ∧ m = 0 := by unfold isZ; simp [and_assoc]
set_option maxRecDepth 100000 in
set_option maxHeartbeats 4000000 in
theorem wrong4_any (x : Ln) (w : World) : Calls Try.prog 39 #[aggL x] w fun e w' => e = .returned (.int .i64 (wrgL x)) ∧ Below w.heap.size w w' := by
  obtain ⟨lab, ⟨o, d, s, m⟩, ref⟩ := x
  have B0 := hideI (Box.new w #[.string lab, .int .i64 o, .int .i64 d, .int .i64 s, .int .i64 m, .string ref] 54)
  have K0 := hideI (below_a w (.cells #[.string lab, .int .i64 o, .int .i64 d, .int .i64 s, .int .i64 m, .string ref] 54))
  unfold aggL wrgL emp
  dsimp only
  by_cases h1 : lab.toList.isEmpty = false
  · rw [if_pos h1]
    by_cases h2 : nm lab = true
    · rw [if_pos h2]
      by_cases hr : ref.toList.isEmpty = true
      · by_cases ho : o = 0
        · by_cases hd : d = 0
          · by_cases hs : s = 0
            · by_cases hm : m = 0
              · rw [if_pos ⟨hr, (isZ_iff o d s m).2 ⟨ho, hd, hs, hm⟩⟩]
                subst ho hd hs hm
                have NA := named4_any lab
                go_enter Try.func39, Try.ntmps39
                go_wp2_with fail
                refine (NA _).mono ?_
                rintro e w1 ⟨rfl, k1⟩
                rw [h2]
                have BU := (unhideI B0).step k1
                have K1 := hideI (bt (unhideI K0) k1)
                have c0 := BU.2.1 0 _ rfl
                have c1 := BU.2.1 1 _ rfl
                have c2 := BU.2.1 2 _ rfl
                have c3 := BU.2.1 3 _ rfl
                have c4 := BU.2.1 4 _ rfl
                have c5 := BU.2.1 5 _ rfl
                clear BU k1 NA
                go_wp2_with fail
                go_ret
                exact ⟨rfl, unhideI K1⟩
              · rw [if_neg (fun e => hm ((isZ_iff o d s m).1 e.2).2.2.2)]
                have hm' : (m != 0) = true := by simpa using hm
                subst ho hd hs
                clear hm
                have NA := named4_any lab
                go_enter Try.func39, Try.ntmps39
                go_wp2_with fail
                refine (NA _).mono ?_
                rintro e w1 ⟨rfl, k1⟩
                rw [h2]
                have BU := (unhideI B0).step k1
                have K1 := hideI (bt (unhideI K0) k1)
                have c0 := BU.2.1 0 _ rfl
                have c1 := BU.2.1 1 _ rfl
                have c2 := BU.2.1 2 _ rfl
                have c3 := BU.2.1 3 _ rfl
                have c4 := BU.2.1 4 _ rfl
                have c5 := BU.2.1 5 _ rfl
                clear BU k1 NA
                go_wp2_with fail
                go_ret
                exact ⟨rfl, unhideI K1⟩
            · rw [if_neg (fun e => hs ((isZ_iff o d s m).1 e.2).2.2.1)]
              have hs' : (s != 0) = true := by simpa using hs
              subst ho hd
              clear hs
              have NA := named4_any lab
              go_enter Try.func39, Try.ntmps39
              go_wp2_with fail
              refine (NA _).mono ?_
              rintro e w1 ⟨rfl, k1⟩
              rw [h2]
              have BU := (unhideI B0).step k1
              have K1 := hideI (bt (unhideI K0) k1)
              have c0 := BU.2.1 0 _ rfl
              have c1 := BU.2.1 1 _ rfl
              have c2 := BU.2.1 2 _ rfl
              have c3 := BU.2.1 3 _ rfl
              have c4 := BU.2.1 4 _ rfl
              have c5 := BU.2.1 5 _ rfl
              clear BU k1 NA
              go_wp2_with fail
              go_ret
              exact ⟨rfl, unhideI K1⟩
          · rw [if_neg (fun e => hd ((isZ_iff o d s m).1 e.2).2.1)]
            have hd' : (d != 0) = true := by simpa using hd
            subst ho
            clear hd
            have NA := named4_any lab
            go_enter Try.func39, Try.ntmps39
            go_wp2_with fail
            refine (NA _).mono ?_
            rintro e w1 ⟨rfl, k1⟩
            rw [h2]
            have BU := (unhideI B0).step k1
            have K1 := hideI (bt (unhideI K0) k1)
            have c0 := BU.2.1 0 _ rfl
            have c1 := BU.2.1 1 _ rfl
            have c2 := BU.2.1 2 _ rfl
            have c3 := BU.2.1 3 _ rfl
            have c4 := BU.2.1 4 _ rfl
            have c5 := BU.2.1 5 _ rfl
            clear BU k1 NA
            go_wp2_with fail
            go_ret
            exact ⟨rfl, unhideI K1⟩
        · rw [if_neg (fun e => ho ((isZ_iff o d s m).1 e.2).1)]
          have ho' : (o != 0) = true := by simpa using ho
          clear ho
          have NA := named4_any lab
          go_enter Try.func39, Try.ntmps39
          go_wp2_with fail
          refine (NA _).mono ?_
          rintro e w1 ⟨rfl, k1⟩
          rw [h2]
          have BU := (unhideI B0).step k1
          have K1 := hideI (bt (unhideI K0) k1)
          have c0 := BU.2.1 0 _ rfl
          have c1 := BU.2.1 1 _ rfl
          have c2 := BU.2.1 2 _ rfl
          have c3 := BU.2.1 3 _ rfl
          have c4 := BU.2.1 4 _ rfl
          have c5 := BU.2.1 5 _ rfl
          clear BU k1 NA
          go_wp2_with fail
          go_ret
          exact ⟨rfl, unhideI K1⟩
      · rw [if_neg (fun e => hr e.1)]
        replace hr : ref.toList.isEmpty = false := by simpa using hr
        have NA := named4_any lab
        go_enter Try.func39, Try.ntmps39
        go_wp2_with fail
        refine (NA _).mono ?_
        rintro e w1 ⟨rfl, k1⟩
        rw [h2]
        have BU := (unhideI B0).step k1
        have K1 := hideI (bt (unhideI K0) k1)
        have c0 := BU.2.1 0 _ rfl
        have c1 := BU.2.1 1 _ rfl
        have c2 := BU.2.1 2 _ rfl
        have c3 := BU.2.1 3 _ rfl
        have c4 := BU.2.1 4 _ rfl
        have c5 := BU.2.1 5 _ rfl
        clear BU k1 NA
        go_wp2_with fail
        go_ret
        exact ⟨rfl, unhideI K1⟩
    · rw [if_neg h2]
      replace h2 : nm lab = false := by simpa using h2
      have NA := named4_any lab
      go_enter Try.func39, Try.ntmps39
      go_wp2_with fail
      refine (NA _).mono ?_
      rintro e w1 ⟨rfl, k1⟩
      rw [h2]
      have BU := (unhideI B0).step k1
      have K1 := hideI (bt (unhideI K0) k1)
      have c0 := BU.2.1 0 _ rfl
      have c1 := BU.2.1 1 _ rfl
      have c2 := BU.2.1 2 _ rfl
      have c3 := BU.2.1 3 _ rfl
      have c4 := BU.2.1 4 _ rfl
      have c5 := BU.2.1 5 _ rfl
      clear BU k1 NA
      go_wp2_with fail
      go_ret
      exact ⟨rfl, unhideI K1⟩
  · rw [if_neg h1]
    replace h1 : lab.toList.isEmpty = true := by simpa using h1
    have WA := fun w => rwrong_any ⟨o, d, s, m⟩ w
    unfold agg at WA
    dsimp only at WA
    generalize wrg ⟨o, d, s, m⟩ = R at *
    by_cases h3 : R ≠ 0
    · rw [if_pos h3]
      have h3' : (R != 0) = true := by simpa using h3
      clear h3
      go_enter Try.func39, Try.ntmps39
      go_wp2_with fail
      refine (WA _).mono ?_
      rintro e w1 ⟨rfl, k1⟩
      have B1 := hideI ((unhideI B0).step k1)
      have K1 := hideI (bt (unhideI K0) k1)
      have BU := unhideI B1
      have c0 := BU.2.1 0 _ rfl
      have c1 := BU.2.1 1 _ rfl
      have c2 := BU.2.1 2 _ rfl
      have c3 := BU.2.1 3 _ rfl
      have c4 := BU.2.1 4 _ rfl
      have c5 := BU.2.1 5 _ rfl
      clear BU k1 WA
      go_wp2_with fail
      go_ret
      exact ⟨rfl, unhideI K1⟩
    · rw [if_neg h3]
      obtain rfl : R = 0 := Classical.not_not.1 h3
      clear h3
      by_cases hr : ref.toList.isEmpty = true
      · rw [if_pos hr]
        go_enter Try.func39, Try.ntmps39
        go_wp2_with fail
        refine (WA _).mono ?_
        rintro e w1 ⟨rfl, k1⟩
        have B1 := hideI ((unhideI B0).step k1)
        have K1 := hideI (bt (unhideI K0) k1)
        have BU := unhideI B1
        have c0 := BU.2.1 0 _ rfl
        have c1 := BU.2.1 1 _ rfl
        have c2 := BU.2.1 2 _ rfl
        have c3 := BU.2.1 3 _ rfl
        have c4 := BU.2.1 4 _ rfl
        have c5 := BU.2.1 5 _ rfl
        clear BU k1 WA
        go_wp2_with fail
        go_ret
        exact ⟨rfl, unhideI K1⟩
      · rw [if_neg hr]
        replace hr : ref.toList.isEmpty = false := by simpa using hr
        by_cases h4 : nm ref = true
        · rw [if_pos h4]
          by_cases h5 : may o = true
          · by_cases hm : m = 0
            · rw [if_pos ⟨h5, hm⟩]
              subst hm
              go_enter Try.func39, Try.ntmps39
              go_wp2_with fail
              refine (WA _).mono ?_
              rintro e w1 ⟨rfl, k1⟩
              have B1 := hideI ((unhideI B0).step k1)
              have K1 := hideI (bt (unhideI K0) k1)
              have BU := unhideI B1
              have c0 := BU.2.1 0 _ rfl
              have c1 := BU.2.1 1 _ rfl
              have c2 := BU.2.1 2 _ rfl
              have c3 := BU.2.1 3 _ rfl
              have c4 := BU.2.1 4 _ rfl
              have c5 := BU.2.1 5 _ rfl
              clear BU k1 WA
              have NA := named4_any ref
              go_wp2_with fail
              refine (NA _).mono ?_
              rintro e w2 ⟨rfl, k2⟩
              rw [h4]
              have BU := (unhideI B1).step k2
              have B2 := hideI BU
              have K2 := hideI (bt (unhideI K1) k2)
              clear c0 c1 c2 c3 c4 c5
              have c0 := BU.2.1 0 _ rfl
              have c1 := BU.2.1 1 _ rfl
              have c2 := BU.2.1 2 _ rfl
              have c3 := BU.2.1 3 _ rfl
              have c4 := BU.2.1 4 _ rfl
              have c5 := BU.2.1 5 _ rfl
              clear BU k2 NA
              have MA := refers4_any o
              go_wp2_with fail
              refine (MA _).mono ?_
              rintro e w3 ⟨rfl, k3⟩
              rw [h5]
              have BU := (unhideI B2).step k3
              have K3 := hideI (bt (unhideI K2) k3)
              clear c0 c1 c2 c3 c4 c5
              have c0 := BU.2.1 0 _ rfl
              have c1 := BU.2.1 1 _ rfl
              have c2 := BU.2.1 2 _ rfl
              have c3 := BU.2.1 3 _ rfl
              have c4 := BU.2.1 4 _ rfl
              have c5 := BU.2.1 5 _ rfl
              clear BU k3 MA
              go_wp2_with fail
              go_ret
              exact ⟨rfl, unhideI K3⟩
            · rw [if_neg (fun e => hm e.2)]
              have hm' : (m != 0) = true := by simpa using hm
              clear hm
              go_enter Try.func39, Try.ntmps39
              go_wp2_with fail
              refine (WA _).mono ?_
              rintro e w1 ⟨rfl, k1⟩
              have B1 := hideI ((unhideI B0).step k1)
              have K1 := hideI (bt (unhideI K0) k1)
              have BU := unhideI B1
              have c0 := BU.2.1 0 _ rfl
              have c1 := BU.2.1 1 _ rfl
              have c2 := BU.2.1 2 _ rfl
              have c3 := BU.2.1 3 _ rfl
              have c4 := BU.2.1 4 _ rfl
              have c5 := BU.2.1 5 _ rfl
              clear BU k1 WA
              have NA := named4_any ref
              go_wp2_with fail
              refine (NA _).mono ?_
              rintro e w2 ⟨rfl, k2⟩
              rw [h4]
              have BU := (unhideI B1).step k2
              have B2 := hideI BU
              have K2 := hideI (bt (unhideI K1) k2)
              clear c0 c1 c2 c3 c4 c5
              have c0 := BU.2.1 0 _ rfl
              have c1 := BU.2.1 1 _ rfl
              have c2 := BU.2.1 2 _ rfl
              have c3 := BU.2.1 3 _ rfl
              have c4 := BU.2.1 4 _ rfl
              have c5 := BU.2.1 5 _ rfl
              clear BU k2 NA
              have MA := refers4_any o
              go_wp2_with fail
              refine (MA _).mono ?_
              rintro e w3 ⟨rfl, k3⟩
              rw [h5]
              have BU := (unhideI B2).step k3
              have K3 := hideI (bt (unhideI K2) k3)
              clear c0 c1 c2 c3 c4 c5
              have c0 := BU.2.1 0 _ rfl
              have c1 := BU.2.1 1 _ rfl
              have c2 := BU.2.1 2 _ rfl
              have c3 := BU.2.1 3 _ rfl
              have c4 := BU.2.1 4 _ rfl
              have c5 := BU.2.1 5 _ rfl
              clear BU k3 MA
              go_wp2_with fail
              go_ret
              exact ⟨rfl, unhideI K3⟩
          · rw [if_neg (fun e => h5 e.1)]
            replace h5 : may o = false := by simpa using h5
            go_enter Try.func39, Try.ntmps39
            go_wp2_with fail
            refine (WA _).mono ?_
            rintro e w1 ⟨rfl, k1⟩
            have B1 := hideI ((unhideI B0).step k1)
            have K1 := hideI (bt (unhideI K0) k1)
            have BU := unhideI B1
            have c0 := BU.2.1 0 _ rfl
            have c1 := BU.2.1 1 _ rfl
            have c2 := BU.2.1 2 _ rfl
            have c3 := BU.2.1 3 _ rfl
            have c4 := BU.2.1 4 _ rfl
            have c5 := BU.2.1 5 _ rfl
            clear BU k1 WA
            have NA := named4_any ref
            go_wp2_with fail
            refine (NA _).mono ?_
            rintro e w2 ⟨rfl, k2⟩
            rw [h4]
            have BU := (unhideI B1).step k2
            have B2 := hideI BU
            have K2 := hideI (bt (unhideI K1) k2)
            clear c0 c1 c2 c3 c4 c5
            have c0 := BU.2.1 0 _ rfl
            have c1 := BU.2.1 1 _ rfl
            have c2 := BU.2.1 2 _ rfl
            have c3 := BU.2.1 3 _ rfl
            have c4 := BU.2.1 4 _ rfl
            have c5 := BU.2.1 5 _ rfl
            clear BU k2 NA
            have MA := refers4_any o
            go_wp2_with fail
            refine (MA _).mono ?_
            rintro e w3 ⟨rfl, k3⟩
            rw [h5]
            have BU := (unhideI B2).step k3
            have K3 := hideI (bt (unhideI K2) k3)
            clear c0 c1 c2 c3 c4 c5
            have c0 := BU.2.1 0 _ rfl
            have c1 := BU.2.1 1 _ rfl
            have c2 := BU.2.1 2 _ rfl
            have c3 := BU.2.1 3 _ rfl
            have c4 := BU.2.1 4 _ rfl
            have c5 := BU.2.1 5 _ rfl
            clear BU k3 MA
            go_wp2_with fail
            go_ret
            exact ⟨rfl, unhideI K3⟩
        · rw [if_neg h4]
          replace h4 : nm ref = false := by simpa using h4
          go_enter Try.func39, Try.ntmps39
          go_wp2_with fail
          refine (WA _).mono ?_
          rintro e w1 ⟨rfl, k1⟩
          have B1 := hideI ((unhideI B0).step k1)
          have K1 := hideI (bt (unhideI K0) k1)
          have BU := unhideI B1
          have c0 := BU.2.1 0 _ rfl
          have c1 := BU.2.1 1 _ rfl
          have c2 := BU.2.1 2 _ rfl
          have c3 := BU.2.1 3 _ rfl
          have c4 := BU.2.1 4 _ rfl
          have c5 := BU.2.1 5 _ rfl
          clear BU k1 WA
          have NA := named4_any ref
          go_wp2_with fail
          refine (NA _).mono ?_
          rintro e w2 ⟨rfl, k2⟩
          rw [h4]
          have BU := (unhideI B1).step k2
          have B2 := hideI BU
          have K2 := hideI (bt (unhideI K1) k2)
          clear c0 c1 c2 c3 c4 c5
          have c0 := BU.2.1 0 _ rfl
          have c1 := BU.2.1 1 _ rfl
          have c2 := BU.2.1 2 _ rfl
          have c3 := BU.2.1 3 _ rfl
          have c4 := BU.2.1 4 _ rfl
          have c5 := BU.2.1 5 _ rfl
          clear BU k2 NA
          go_wp2_with fail
          go_ret
          exact ⟨rfl, unhideI K2⟩
end Go.Proofs.Yteoifpkbknkpjaa
