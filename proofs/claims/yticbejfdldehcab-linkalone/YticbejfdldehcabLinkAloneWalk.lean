/-
  LinkAlone, walked.
-/
import Derived.Test.YticbejfdldehcabAlive5
import Derived.Test.YticbejfdldehcabRefS
namespace Go.Proofs.Yticbejfdldehcab
open Go.RowKit Go.Maps
set_option linter.unusedSimpArgs false
set_option linter.unusedVariables false

set_option maxRecDepth 100000 in
set_option maxHeartbeats 4000000 in
theorem walk_linkAlone (l : List Ln) (s : ByteArray) (v : Value) (w : World) (hl : Lns w v l) (_ : ∀ x ∈ l, LnOk x) (hs : s.size ≤ maxLen) :
    Calls Try.prog 7 #[v, .string s] w fun e w' => e = .returned (.bool true) ∧ Below w.heap.size w w' := by
  have HL := hideI hl
  obtain ⟨lo, lc, rfl, -, -⟩ := hl.at
  have LA := fun v w h => link_any [⟨⟨#[]⟩, l⟩] v s w h hs
  unfold LinkRet at LA
  have AA := fun w h => asm_any l (.slice lo l.length lc) w h
  have AL := hideI (link_alone l ⟨#[]⟩ s.toList)
  generalize linkL [⟨⟨#[]⟩, l⟩] s.toList = R at *
  generalize asmA l = Z at *
  obtain ⟨⟨zs, os, sp⟩, er, ef⟩ := R
  obtain ⟨za, ar, af⟩ := Z
  dsimp only at LA AA AL
  clear hl
  go_enter Try.func7, Try.ntmps7
  go_wp2_with fail
  refine (alive5 _).mono ?_
  rintro e w1 ⟨rfl, k1⟩
  go_wp2_with fail
  have HU := hideI (uns_one (a := ⟨⟨#[]⟩, l⟩) (lies_new w1 #[.string ⟨#[]⟩, .slice lo l.length lc] 39 2 1 rfl (by decide)) (Lies.step (unhideI HL) (bt k1 (below_a _ _))))
  have K1 := hideI (bt k1 (below_a w1 (.cells #[.string ⟨#[]⟩, .slice lo l.length lc] 39)))
  generalize w1.alloc (.cells #[.string ⟨#[]⟩, .slice lo l.length lc] 39) = w2 at *
  refine (LA _ _ (unhideI HU)).mono ?_
  rintro e w3 ⟨vw, vu, vs, rfl, i1, i2, i3, k3⟩
  have I1 := hideI i1
  obtain ⟨b1, o1, rfl, m1, -⟩ := i1.at
  obtain ⟨b2, o2, rfl, m2, -⟩ := i2.at
  obtain ⟨-, sa, sc, rfl, -⟩ := i3
  have K3 := hideI (bt (unhideI K1) k3)
  clear k1 k3 i1 i2 LA
  go_wp2_with fail
  have BI4 := hideI ((Box.new w3 #[.slice b1 zs.length o1, .slice b2 os.length o2, .slice sa sp.length sc] 26).step (below_a _ (.cells #[.int .i64 er, .int .i64 ef] 29)))
  have BF4 := hideI (Box.new (w3.alloc (.cells #[.slice b1 zs.length o1, .slice b2 os.length o2, .slice sa sp.length sc] 26)) #[.int .i64 er, .int .i64 ef] 29)
  simp only [World.size_alloc] at BF4
  have KA4 := bt (below_a w3 (.cells #[.slice b1 zs.length o1, .slice b2 os.length o2, .slice sa sp.length sc] 26)) (below_a _ (.cells #[.int .i64 er, .int .i64 ef] 29))
  have K4 := hideI (bt (unhideI K3) KA4)
  have I4 := hideI (Lies.step (unhideI I1) KA4)
  generalize (w3.alloc (.cells #[.slice b1 zs.length o1, .slice b2 os.length o2, .slice sa sp.length sc] 26)).alloc (.cells #[.int .i64 er, .int .i64 ef] 29) = w4 at *
  clear KA4
  refine (AA _ (Lies.step (unhideI HL) (unhideI K4))).mono ?_
  rintro e w5 ⟨vi, rfl, i5, -, k5⟩
  have I5 := hideI i5
  obtain ⟨b5, o5, rfl, m5, -⟩ := i5.at
  have KA5 := bt k5 (below_a w5 (.cells #[.int .i64 ar, .int .i64 af] 29))
  have BI5 := hideI ((unhideI BI4).step KA5)
  have BF5 := hideI ((unhideI BF4).step KA5)
  have BG5 := hideI (Box.new w5 #[.int .i64 ar, .int .i64 af] 29)
  have K5 := hideI (bt (unhideI K4) KA5)
  have I6 := hideI (Lies.step (unhideI I4) KA5)
  have I7 := hideI (Lies.step (unhideI I5) (below_a w5 (.cells #[.int .i64 ar, .int .i64 af] 29)))
  obtain ⟨f0, -⟩ := (unhideI BF5).at2
  obtain ⟨g0, -⟩ := (unhideI BG5).at2
  obtain ⟨q0, -, -⟩ := (unhideI BI5).at3
  clear k5 i5 AA KA5
  by_cases her : er = 0
  · subst her
    obtain ⟨rfl, e2⟩ := (unhideI AL) rfl
    have SM := fun u h1 h2 => same1_yes za (.slice b1 za.length o1) (.slice b5 za.length o5) u h1 h2
    have e2' : zs = za := e2
    subst e2'
    go_wp2_with fail
    refine (SM _ (unhideI I6) (unhideI I7)).mono ?_
    rintro e w6 ⟨rfl, k6⟩
    go_wp2_with fail
    go_ret
    exact ⟨rfl, bt (unhideI K5) k6⟩
  · have her2 : (er != 0) = true := by simpa using her
    go_wp2_with fail
    go_ret
    exact ⟨rfl, unhideI K5⟩
end Go.Proofs.Yticbejfdldehcab
