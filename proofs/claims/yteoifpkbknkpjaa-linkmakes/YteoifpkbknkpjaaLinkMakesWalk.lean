/-
  LinkMakes, walked.
-/
import Derived.Test.YteoifpkbknkpjaaL5D3
import Derived.Test.YteoifpkbknkpjaaL5Mz
import Derived.Test.YteoifpkbknkpjaaLkL
import Derived.Test.YteoifpkbknkpjaaRefI
import Derived.Test.YteoifpkbknkpjaaOpenL
namespace Go.Proofs.Yteoifpkbknkpjaa
open Go.RowKit Go.Maps
set_option linter.unusedSimpArgs false
set_option linter.unusedVariables false

theorem link5_any (us : List Un) (v : Value) (entry : ByteArray) (w : World) (hU : Uns w v us) : Calls Try.prog 5 #[v, .string entry] w fun e w' => LinkRet w (linkL us entry.toList) e w' := by
  rw [← link_same]
  by_cases hc : (chkR us).1 = 0
  · by_cases h2 : entry.toList = []
    · exact link5_none us v entry w hU hc (.inl h2)
    · by_cases h3 : holdU us 0 entry.toList < 0
      · exact link5_none us v entry w hU hc (.inr h3)
      · exact link5_go us v entry w hU hc h2 (by omega)
  · exact link5_bad us v entry w hU hc
set_option maxRecDepth 100000 in
set_option maxHeartbeats 4000000 in
theorem walk_linkMakes (us : List Un) (s : ByteArray) (v : Value) (w : World) (hU : Uns w v us) (_ : ∀ u ∈ us, UnOk u) (hs : s.size ≤ maxLen) :
    Calls Try.prog 3 #[v, .string s] w fun e w' => e = .returned (.bool true) ∧ Below w.heap.size w w' := by
  have HU := hideI hU
  have LA := hideI (link_any us v s w hU hs)
  have LB := hideI (fun W h => link5_any us v s W h)
  unfold LinkRet at LA LB
  have SM := hideI (fun a1 a2 a3 b1 b2 b3 W => same5_yes (linkL us s.toList).1 a1 a2 a3 b1 b2 b3 W)
  generalize linkL us s.toList = R at *
  obtain ⟨⟨zs, os, sp⟩, er, ef⟩ := R
  dsimp only at LA LB SM
  obtain ⟨uo, uc, rfl, -, -⟩ := hU
  go_enter Try.func3, Try.ntmps3
  go_wp2_with fail
  refine (unhideI LA).mono ?_
  rintro e w3 ⟨vw, vu, vs, rfl, i1, i2, i3, k3⟩
  have I1 := hideI i1
  have I2 := hideI i2
  have I3 := hideI i3
  obtain ⟨b1, o1, rfl, m1, -⟩ := i1.at
  obtain ⟨b2, o2, rfl, m2, -⟩ := i2.at
  obtain ⟨-, sa, sc, rfl, -⟩ := i3
  have K3 := hideI k3
  clear k3 i1 i2 LA m1 m2
  have BI4 := hideI ((Box.new w3 #[.slice b1 zs.length o1, .slice b2 os.length o2, .slice sa sp.length sc] 26).step (below_a _ (.cells #[.int .i64 er, .int .i64 ef] 29)))
  have BF4 := hideI (Box.new (w3.alloc (.cells #[.slice b1 zs.length o1, .slice b2 os.length o2, .slice sa sp.length sc] 26)) #[.int .i64 er, .int .i64 ef] 29)
  simp only [World.size_alloc] at BF4
  have KA4 := bt (below_a w3 (.cells #[.slice b1 zs.length o1, .slice b2 os.length o2, .slice sa sp.length sc] 26)) (below_a _ (.cells #[.int .i64 er, .int .i64 ef] 29))
  have K4 := hideI (bt (unhideI K3) KA4)
  have J1 := hideI (Lies.step (unhideI I1) KA4)
  have J2 := hideI (Lies.step (unhideI I2) KA4)
  have J3 := hideI (Lies.step (unhideI I3) KA4)
  clear KA4 I1 I2 I3 K3
  go_wp2_with fail
  generalize (w3.alloc (.cells #[.slice b1 zs.length o1, .slice b2 os.length o2, .slice sa sp.length sc] 26)).alloc (.cells #[.int .i64 er, .int .i64 ef] 29) = w4 at *
  refine (unhideI LB _ ((unhideI HU).step (unhideI K4))).mono ?_
  rintro e w5 ⟨vw', vu', vs', rfl, i1, i2, i3, k5⟩
  have I1 := hideI i1
  have I2 := hideI i2
  have I3 := hideI i3
  obtain ⟨c1, p1, rfl, m1, -⟩ := i1.at
  obtain ⟨c2, p2, rfl, m2, -⟩ := i2.at
  obtain ⟨-, ta, tc, rfl, -⟩ := i3
  clear i1 i2 LB m1 m2
  have BI6 := hideI ((Box.new w5 #[.slice c1 zs.length p1, .slice c2 os.length p2, .slice ta sp.length tc] 26).step (below_a _ (.cells #[.int .i64 er, .int .i64 ef] 29)))
  have BF6 := hideI (Box.new (w5.alloc (.cells #[.slice c1 zs.length p1, .slice c2 os.length p2, .slice ta sp.length tc] 26)) #[.int .i64 er, .int .i64 ef] 29)
  simp only [World.size_alloc] at BF6
  have KA6 := bt (below_a w5 (.cells #[.slice c1 zs.length p1, .slice c2 os.length p2, .slice ta sp.length tc] 26)) (below_a _ (.cells #[.int .i64 er, .int .i64 ef] 29))
  have K6 := hideI (bt (bt (unhideI K4) k5) KA6)
  have G1 := hideI (Lies.step (unhideI J1) (bt k5 KA6))
  have G2 := hideI (Lies.step (unhideI J2) (bt k5 KA6))
  have G3 := hideI (Lies.step (unhideI J3) (bt k5 KA6))
  have H1 := hideI (Lies.step (unhideI I1) KA6)
  have H2 := hideI (Lies.step (unhideI I2) KA6)
  have H3 := hideI (Lies.step (unhideI I3) KA6)
  have BI5 := hideI ((unhideI BI4).step (bt k5 KA6))
  have BF5 := hideI ((unhideI BF4).step (bt k5 KA6))
  obtain ⟨f0, f1⟩ := (unhideI BF5).at2
  obtain ⟨g0, g1⟩ := (unhideI BF6).at2
  obtain ⟨q0, q1, q2⟩ := (unhideI BI5).at3
  obtain ⟨r0, r1, r2⟩ := (unhideI BI6).at3
  clear k5 KA6 J1 J2 J3 I1 I2 I3 K4
  go_wp2_with fail
  refine (unhideI SM _ _ _ _ _ _ _ (unhideI G1) (unhideI H1) (unhideI G2) (unhideI H2) (unhideI G3) (unhideI H3)).mono ?_
  rintro e w7 ⟨rfl, k7⟩
  go_wp2_with fail
  go_ret
  exact ⟨rfl, bt (unhideI K6) k7⟩
end Go.Proofs.Yteoifpkbknkpjaa
