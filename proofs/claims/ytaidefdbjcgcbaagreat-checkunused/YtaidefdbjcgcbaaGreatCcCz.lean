/-
  Constant expressions: the program's own pieces.
-/
import Derived.Test.YtaidefdbjcgcbaaGreatTyAz
import Derived.Test.YtaidefdbjcgcbaaGreatMemz
import Derived.Test.YtaidefdbjcgcbaaGreatRegz
namespace Go.Proofs.YtaidefdbjcgcbaaGreat
open Go.RowKit
set_option linter.unusedSimpArgs false
set_option linter.unusedVariables false

theorem Box.three {w : World} {b : Nat} {x y z : Value} (h : Box w b [x, y, z]) (u v t : Value) : Box (((w.setCell ⟨b, 0, none⟩ u).setCell ⟨b, 1, none⟩ v).setCell ⟨b, 2, none⟩ t) b [u, v, t] :=
  ((h.set (j := 0) (u := u) (by simp)).set (j := 1) (u := v) (by simp)).set (j := 2) (u := t) (by simp)
theorem below_3 {B b : Nat} {u v : World} (h : Below B u v) (hb : B ≤ b) (a0 a1 a2 : Value) : Below B u (((v.setCell ⟨b, 0, none⟩ a0).setCell ⟨b, 1, none⟩ a1).setCell ⟨b, 2, none⟩ a2) := Below.setCell (below_2 h hb a0 a1) hb _
theorem ci16_any (w : World) : Calls Tryz.prog 25 #[] w fun e w' => e = .returned (.agg #[.int .i64 16, .bool true]) ∧ Below w.heap.size w w' := by
  go_enter Tryz.func25, Tryz.ntmps25
  go_wp2
  exact bodyPost_ret (v := .agg #[.int .i64 16, .bool true]) (by simp [results, Tryz.results25, go_sem]) rfl ⟨rfl, (by repeat (first | exact (Below.refl _ _) | refine Below.setCell ?_ (by first | exact Nat.le_refl _ | (simp; done) | omega | (simp; omega)) _ | refine Below.alloc ?_ (by first | (simp; done) | omega | (simp; omega)) _))⟩
set_option maxHeartbeats 1000000 in
theorem truth_any (c : Bool) (w : World) : Calls Tryz.prog 87 #[.bool c] w fun e w' => e = .returned (.agg #[.int .u64 (if c = true then 1 else 0), .int .i64 16, .bool true]) ∧ Below w.heap.size w w' := by
  have HB := hideI (Box.new w #[.int .u64 0, .int .i64 0, .bool false] 79)
  have KA := hideI (below_a w (.cells #[.int .u64 0, .int .i64 0, .bool false] 79))
  cases c
  all_goals
    go_enter Tryz.func87, Tryz.ntmps87
    go_wp2_with fail
    refine (ci16_any _).mono ?_
    rintro e w1 ⟨rfl, k1⟩
    have B1 := hideI ((unhideI HB).step k1)
    have K1 := hideI (bT (unhideI KA) k1)
    obtain ⟨z0, z1, z2⟩ := (unhideI B1).at3
    have zf := (unhideI B1).2.2
    have hs1 := (unhideI B1).1
    clear HB KA k1
    go_wp2_with fail
  · have P := (unhideI B1).three (.int .u64 0) (.int .i64 16) (.bool true)
    obtain ⟨p0, p1, p2⟩ := P.at3
    exact bodyPost_ret (v := .agg #[.int .u64 0, .int .i64 16, .bool true]) (by simp [results, Tryz.results87, go_sem, p0, p1, p2]) rfl ⟨rfl, below_3 (unhideI K1) (Nat.le_refl _) _ _ _⟩
  · have P := (unhideI B1).three (.int .u64 1) (.int .i64 16) (.bool true)
    obtain ⟨p0, p1, p2⟩ := P.at3
    exact bodyPost_ret (v := .agg #[.int .u64 1, .int .i64 16, .bool true]) (by simp [results, Tryz.results87, go_sem, p0, p1, p2]) rfl ⟨rfl, below_3 (unhideI K1) (Nat.le_refl _) _ _ _⟩
/-- Three blocks of a call's own. -/
structure Tw (w W : World) (a b r : List Value) : Prop where
  d : Below w.heap.size w W
  A : Box W w.heap.size a
  B : Box W (w.heap.size + 1) b
  R : Box W (w.heap.size + 1 + 1) r
theorem Tw.next {w W W' : World} {a b r : List Value} (h : Tw w W a b r) (q : Below W.heap.size W W') : Tw w W' a b r := ⟨bT h.d q, h.A.step q, h.B.step q, h.R.step q⟩
theorem Tw.begin (w : World) (a b r : Array Value) (S T U' : TypeId) : Tw w (((w.alloc (.cells a S)).alloc (.cells b T)).alloc (.cells r U')) a.toList b.toList r.toList := by
  have k1 := below_a w (.cells a S)
  have k2 := below_a (w.alloc (.cells a S)) (.cells b T)
  have k3 := below_a ((w.alloc (.cells a S)).alloc (.cells b T)) (.cells r U')
  have e1 : (w.alloc (.cells a S)).heap.size = w.heap.size + 1 := by simp
  have e2 : ((w.alloc (.cells a S)).alloc (.cells b T)).heap.size = w.heap.size + 1 + 1 := by simp
  refine ⟨bT (bT k1 k2) k3, ((Box.new w a S).step k2).step k3, ?_, ?_⟩
  · have := (Box.new (w.alloc (.cells a S)) b T).step k3
    rwa [e1] at this
  · have := Box.new ((w.alloc (.cells a S)).alloc (.cells b T)) r U'
    rwa [e2] at this
theorem Tw.put {w W : World} {a b : List Value} {x y z : Value} (h : Tw w W a b [x, y, z]) (u v t : Value) : Tw w (((W.setCell ⟨w.heap.size + 1 + 1, 0, none⟩ u).setCell ⟨w.heap.size + 1 + 1, 1, none⟩ v).setCell ⟨w.heap.size + 1 + 1, 2, none⟩ t) a b [u, v, t] :=
  ⟨below_3 h.d (by omega) _ _ _, ((h.A.other (b' := w.heap.size + 1 + 1) (by omega)).other (b' := w.heap.size + 1 + 1) (by omega)).other (b' := w.heap.size + 1 + 1) (by omega), ((h.B.other (b' := w.heap.size + 1 + 1) (by omega)).other (b' := w.heap.size + 1 + 1) (by omega)).other (b' := w.heap.size + 1 + 1) (by omega), h.R.three u v t⟩
set_option maxHeartbeats 1000000 in
theorem wtwo_ok (k n1 y1 n2 y2 V RB : Int) (s1 s2 RS : Bool) (h5 : (k == 25) = false) (h6 : (k == 26) = false)
    (HB : ∀ w : World, Calls Tryz.prog 88 #[.int .i64 k, .int .u64 n1, .int .u64 n2, .agg #[.int .i64 y1, .bool s1], .agg #[.int .i64 y2, .bool s2]] w fun e w' => e = .returned (.tuple #[.int .u64 V, .int .i64 0]) ∧ Below w.heap.size w w')
    (HR : ∀ w : World, Calls Tryz.prog 89 #[.int .i64 k, .agg #[.int .i64 y1, .bool s1], .agg #[.int .i64 y2, .bool s2]] w fun e w' => e = .returned (.agg #[.int .i64 RB, .bool RS]) ∧ Below w.heap.size w w') (w : World) :
    Calls Tryz.prog 50 #[.int .i64 k, .agg #[.int .u64 n1, .int .i64 y1, .bool s1], .agg #[.int .u64 n2, .int .i64 y2, .bool s2]] w fun e w' => e = .returned (.tuple #[.agg #[.int .u64 V, .int .i64 RB, .bool RS], .int .i64 0]) ∧ Below w.heap.size w w' := by
  have HB := hideI HB
  have HR := hideI HR
  have S0 := hideI (Tw.begin w #[.int .u64 n1, .int .i64 y1, .bool s1] #[.int .u64 n2, .int .i64 y2, .bool s2] #[.int .u64 0, .int .i64 0, .bool false] 79 79 79)
  obtain ⟨a0, a1, a2⟩ := (unhideI S0).A.at3
  obtain ⟨c0, c1, c2⟩ := (unhideI S0).B.at3
  have hsA := (unhideI S0).A.1
  have hsB := (unhideI S0).B.1
  generalize hW0 : ((w.alloc (.cells #[.int .u64 n1, .int .i64 y1, .bool s1] 79)).alloc (.cells #[.int .u64 n2, .int .i64 y2, .bool s2] 79)).alloc (.cells #[.int .u64 0, .int .i64 0, .bool false] 79) = W0 at *
  go_enter Tryz.func50, Tryz.ntmps50
  go_wp2_with fail
  refine (unhideI HB _).mono ?_
  rintro e w1 ⟨rfl, k1⟩
  have S1 := hideI ((unhideI S0).next k1)
  clear k1 S0 a0 a1 a2 c0 c1 c2 hsA hsB HB
  obtain ⟨a0, a1, a2⟩ := (unhideI S1).A.at3
  obtain ⟨c0, c1, c2⟩ := (unhideI S1).B.at3
  have hsA := (unhideI S1).A.1
  have hsB := (unhideI S1).B.1
  go_wp2_with fail
  refine (unhideI HR _).mono ?_
  rintro e w2 ⟨rfl, k2⟩
  have SR := hideI ((unhideI S1).next k2)
  clear k2 S1 a0 a1 a2 c0 c1 c2 hsA hsB HR
  obtain ⟨z0, z1, z2⟩ := (unhideI SR).R.at3
  have zf := (unhideI SR).R.2.2
  have zl := (unhideI SR).R.1
  go_wp2_with fail
  obtain ⟨p0, p1, p2⟩ := ((unhideI SR).R.three (.int .u64 V) (.int .i64 RB) (.bool RS)).at3
  exact bodyPost_ret (v := .tuple #[.agg #[.int .u64 V, .int .i64 RB, .bool RS], .int .i64 0]) (by simp [results, Tryz.results50, go_sem, p0, p1, p2]) rfl ⟨rfl, below_3 (unhideI SR).d (by omega) _ _ _⟩
set_option maxHeartbeats 1000000 in
theorem wtwo_bad (k n1 y1 n2 y2 V E : Int) (s1 s2 : Bool) (h5 : (k == 25) = false) (h6 : (k == 26) = false) (hE : E ≠ 0)
    (HB : ∀ w : World, Calls Tryz.prog 88 #[.int .i64 k, .int .u64 n1, .int .u64 n2, .agg #[.int .i64 y1, .bool s1], .agg #[.int .i64 y2, .bool s2]] w fun e w' => e = .returned (.tuple #[.int .u64 V, .int .i64 E]) ∧ Below w.heap.size w w') (w : World) :
    Calls Tryz.prog 50 #[.int .i64 k, .agg #[.int .u64 n1, .int .i64 y1, .bool s1], .agg #[.int .u64 n2, .int .i64 y2, .bool s2]] w fun e w' => e = .returned (.tuple #[.agg #[.int .u64 0, .int .i64 0, .bool false], .int .i64 E]) ∧ Below w.heap.size w w' := by
  have HB := hideI HB
  have hE1 : (E != 0) = true := bne_iff_ne.2 hE
  have hE2 : (E == 0) = false := beq_eq_false_iff_ne.2 hE
  clear hE
  have S0 := hideI (Tw.begin w #[.int .u64 n1, .int .i64 y1, .bool s1] #[.int .u64 n2, .int .i64 y2, .bool s2] #[.int .u64 0, .int .i64 0, .bool false] 79 79 79)
  obtain ⟨a0, a1, a2⟩ := (unhideI S0).A.at3
  obtain ⟨c0, c1, c2⟩ := (unhideI S0).B.at3
  have hsA := (unhideI S0).A.1
  have hsB := (unhideI S0).B.1
  generalize hW0 : ((w.alloc (.cells #[.int .u64 n1, .int .i64 y1, .bool s1] 79)).alloc (.cells #[.int .u64 n2, .int .i64 y2, .bool s2] 79)).alloc (.cells #[.int .u64 0, .int .i64 0, .bool false] 79) = W0 at *
  go_enter Tryz.func50, Tryz.ntmps50
  go_wp2_with fail
  refine (unhideI HB _).mono ?_
  rintro e w1 ⟨rfl, k1⟩
  have SR := hideI ((unhideI S0).next k1)
  clear k1 S0 a0 a1 a2 c0 c1 c2 hsA hsB HB
  obtain ⟨z0, z1, z2⟩ := (unhideI SR).R.at3
  have zf := (unhideI SR).R.2.2
  have zl := (unhideI SR).R.1
  go_wp2_with fail
  obtain ⟨p0, p1, p2⟩ := ((unhideI SR).R.three (.int .u64 0) (.int .i64 0) (.bool false)).at3
  exact bodyPost_ret (v := .tuple #[.agg #[.int .u64 0, .int .i64 0, .bool false], .int .i64 E]) (by simp [results, Tryz.results50, go_sem, p0, p1, p2]) rfl ⟨rfl, below_3 (unhideI SR).d (by omega) _ _ _⟩
set_option maxHeartbeats 1000000 in
theorem wtwo_land (n1 y1 n2 y2 : Int) (s1 s2 c d : Bool) (h1 : (n1 != 0) = c) (h2 : (n2 != 0) = d) (w : World) :
    Calls Tryz.prog 50 #[.int .i64 25, .agg #[.int .u64 n1, .int .i64 y1, .bool s1], .agg #[.int .u64 n2, .int .i64 y2, .bool s2]] w fun e w' => e = .returned (.tuple #[.agg #[.int .u64 (if (c && d) = true then 1 else 0), .int .i64 16, .bool true], .int .i64 0]) ∧ Below w.heap.size w w' := by
  have h1' : (n1 == 0) = !c := by rw [← h1, bne, Bool.not_not]
  have h2' : (n2 == 0) = !d := by rw [← h2, bne, Bool.not_not]
  have TT := hideI truth_any
  cases c <;> cases d
  all_goals
    have S0 := hideI (Tw.begin w #[.int .u64 n1, .int .i64 y1, .bool s1] #[.int .u64 n2, .int .i64 y2, .bool s2] #[.int .u64 0, .int .i64 0, .bool false] 79 79 79)
    obtain ⟨a0, a1, a2⟩ := (unhideI S0).A.at3
    obtain ⟨c0, c1, c2⟩ := (unhideI S0).B.at3
    have hsA := (unhideI S0).A.1
    have hsB := (unhideI S0).B.1
    generalize hW0 : ((w.alloc (.cells #[.int .u64 n1, .int .i64 y1, .bool s1] 79)).alloc (.cells #[.int .u64 n2, .int .i64 y2, .bool s2] 79)).alloc (.cells #[.int .u64 0, .int .i64 0, .bool false] 79) = W0 at *
    go_enter Tryz.func50, Tryz.ntmps50
    go_wp2_with fail
    refine (unhideI TT _ _).mono ?_
    rintro e w1 ⟨rfl, k1⟩
    have SR := hideI ((unhideI S0).next k1)
    clear k1 S0 a0 a1 a2 c0 c1 c2 hsA hsB TT
    obtain ⟨z0, z1, z2⟩ := (unhideI SR).R.at3
    have zf := (unhideI SR).R.2.2
    have zl := (unhideI SR).R.1
    go_wp2_with fail
  all_goals first
    | (obtain ⟨p0, p1, p2⟩ := ((unhideI SR).R.three (.int .u64 0) (.int .i64 16) (.bool true)).at3; exact bodyPost_ret (v := .tuple #[.agg #[.int .u64 0, .int .i64 16, .bool true], .int .i64 0]) (by simp [results, Tryz.results50, go_sem, p0, p1, p2]) rfl ⟨rfl, below_3 (unhideI SR).d (by omega) _ _ _⟩)
    | (obtain ⟨p0, p1, p2⟩ := ((unhideI SR).R.three (.int .u64 1) (.int .i64 16) (.bool true)).at3; exact bodyPost_ret (v := .tuple #[.agg #[.int .u64 1, .int .i64 16, .bool true], .int .i64 0]) (by simp [results, Tryz.results50, go_sem, p0, p1, p2]) rfl ⟨rfl, below_3 (unhideI SR).d (by omega) _ _ _⟩)
set_option maxHeartbeats 1000000 in
theorem wtwo_lor (n1 y1 n2 y2 : Int) (s1 s2 c d : Bool) (h1 : (n1 != 0) = c) (h2 : (n2 != 0) = d) (w : World) :
    Calls Tryz.prog 50 #[.int .i64 26, .agg #[.int .u64 n1, .int .i64 y1, .bool s1], .agg #[.int .u64 n2, .int .i64 y2, .bool s2]] w fun e w' => e = .returned (.tuple #[.agg #[.int .u64 (if (c || d) = true then 1 else 0), .int .i64 16, .bool true], .int .i64 0]) ∧ Below w.heap.size w w' := by
  have h1' : (n1 == 0) = !c := by rw [← h1, bne, Bool.not_not]
  have h2' : (n2 == 0) = !d := by rw [← h2, bne, Bool.not_not]
  have TT := hideI truth_any
  cases c <;> cases d
  all_goals
    have S0 := hideI (Tw.begin w #[.int .u64 n1, .int .i64 y1, .bool s1] #[.int .u64 n2, .int .i64 y2, .bool s2] #[.int .u64 0, .int .i64 0, .bool false] 79 79 79)
    obtain ⟨a0, a1, a2⟩ := (unhideI S0).A.at3
    obtain ⟨c0, c1, c2⟩ := (unhideI S0).B.at3
    have hsA := (unhideI S0).A.1
    have hsB := (unhideI S0).B.1
    generalize hW0 : ((w.alloc (.cells #[.int .u64 n1, .int .i64 y1, .bool s1] 79)).alloc (.cells #[.int .u64 n2, .int .i64 y2, .bool s2] 79)).alloc (.cells #[.int .u64 0, .int .i64 0, .bool false] 79) = W0 at *
    go_enter Tryz.func50, Tryz.ntmps50
    go_wp2_with fail
    refine (unhideI TT _ _).mono ?_
    rintro e w1 ⟨rfl, k1⟩
    have SR := hideI ((unhideI S0).next k1)
    clear k1 S0 a0 a1 a2 c0 c1 c2 hsA hsB TT
    obtain ⟨z0, z1, z2⟩ := (unhideI SR).R.at3
    have zf := (unhideI SR).R.2.2
    have zl := (unhideI SR).R.1
    go_wp2_with fail
  all_goals first
    | (obtain ⟨p0, p1, p2⟩ := ((unhideI SR).R.three (.int .u64 0) (.int .i64 16) (.bool true)).at3; exact bodyPost_ret (v := .tuple #[.agg #[.int .u64 0, .int .i64 16, .bool true], .int .i64 0]) (by simp [results, Tryz.results50, go_sem, p0, p1, p2]) rfl ⟨rfl, below_3 (unhideI SR).d (by omega) _ _ _⟩)
    | (obtain ⟨p0, p1, p2⟩ := ((unhideI SR).R.three (.int .u64 1) (.int .i64 16) (.bool true)).at3; exact bodyPost_ret (v := .tuple #[.agg #[.int .u64 1, .int .i64 16, .bool true], .int .i64 0]) (by simp [results, Tryz.results50, go_sem, p0, p1, p2]) rfl ⟨rfl, below_3 (unhideI SR).d (by omega) _ _ _⟩)
end Go.Proofs.YtaidefdbjcgcbaaGreat

/-
  Constant expressions: the program's own pieces: one kid.
-/
namespace Go.Proofs.YtaidefdbjcgcbaaGreat
open Go.RowKit
set_option linter.unusedSimpArgs false
set_option linter.unusedVariables false

set_option maxHeartbeats 1000000 in
theorem wone_un (k xn xb n1 y1 V B : Int) (xs s1 S : Bool) (nm : ByteArray) (ka : Option Addr) (kl kc : Nat) (h5 : (k == 5) = false)
    (HU : ∀ w : World, Calls Tryz.prog 86 #[.int .i64 k, .int .u64 n1, .agg #[.int .i64 y1, .bool s1]] w fun e w' => e = .returned (.tuple #[.int .u64 V, .agg #[.int .i64 B, .bool S], .int .i64 0]) ∧ Below w.heap.size w w') (w : World) :
    Calls Tryz.prog 49 #[.agg #[.int .i64 k, .int .u64 xn, .int .i64 xb, .bool xs, .string nm, .slice ka kl kc], .agg #[.int .u64 n1, .int .i64 y1, .bool s1]] w fun e w' => e = .returned (.tuple #[.agg #[.int .u64 V, .int .i64 B, .bool S], .int .i64 0]) ∧ Below w.heap.size w w' := by
  have HU := hideI HU
  have S0 := hideI (Tw.begin w #[.int .i64 k, .int .u64 xn, .int .i64 xb, .bool xs, .string nm, .slice ka kl kc] #[.int .u64 n1, .int .i64 y1, .bool s1] #[.int .u64 0, .int .i64 0, .bool false] 57 79 79)
  have a0 := (unhideI S0).A.2.1 0 _ rfl
  have a2 := (unhideI S0).A.2.1 2 _ rfl
  have a3 := (unhideI S0).A.2.1 3 _ rfl
  obtain ⟨c0, c1, c2⟩ := (unhideI S0).B.at3
  have hsA := (unhideI S0).A.1
  have hsB := (unhideI S0).B.1
  generalize hW0 : ((w.alloc (.cells #[.int .i64 k, .int .u64 xn, .int .i64 xb, .bool xs, .string nm, .slice ka kl kc] 57)).alloc (.cells #[.int .u64 n1, .int .i64 y1, .bool s1] 79)).alloc (.cells #[.int .u64 0, .int .i64 0, .bool false] 79) = W0 at *
  go_enter Tryz.func49, Tryz.ntmps49
  go_wp2_with fail
  refine (unhideI HU _).mono ?_
  rintro e w1 ⟨rfl, k1⟩
  have S1 := hideI ((unhideI S0).next k1)
  have ka1 := below_a w1 (.cells #[.int .i64 B, .bool S] 34)
  have SR := hideI ((unhideI S1).next ka1)
  clear k1 S0 a0 a2 a3 c0 c1 c2 hsA hsB HU ka1
  obtain ⟨z0, z1, z2⟩ := (unhideI SR).R.at3
  have zf := (unhideI SR).R.2.2
  have zl := (unhideI SR).R.1
  go_wp2_with fail
  obtain ⟨p0, p1, p2⟩ := ((unhideI SR).R.three (.int .u64 V) (.int .i64 B) (.bool S)).at3
  exact bodyPost_ret (v := .tuple #[.agg #[.int .u64 V, .int .i64 B, .bool S], .int .i64 0]) (by simp [results, Tryz.results49, go_sem, p0, p1, p2]) rfl ⟨rfl, below_3 (unhideI SR).d (by omega) _ _ _⟩
set_option maxHeartbeats 1000000 in
theorem wone_cast (xn xb n1 y1 V : Int) (xs s1 : Bool) (nm : ByteArray) (ka : Option Addr) (kl kc : Nat)
    (HC : ∀ w : World, Calls Tryz.prog 85 #[.int .u64 n1, .agg #[.int .i64 y1, .bool s1], .agg #[.int .i64 xb, .bool xs]] w fun e w' => e = .returned (.int .u64 V) ∧ Below w.heap.size w w') (w : World) :
    Calls Tryz.prog 49 #[.agg #[.int .i64 5, .int .u64 xn, .int .i64 xb, .bool xs, .string nm, .slice ka kl kc], .agg #[.int .u64 n1, .int .i64 y1, .bool s1]] w fun e w' => e = .returned (.tuple #[.agg #[.int .u64 V, .int .i64 xb, .bool xs], .int .i64 0]) ∧ Below w.heap.size w w' := by
  have HC := hideI HC
  obtain ⟨k, hk⟩ : ∃ k : Int, k = 5 := ⟨5, rfl⟩
  rw [← hk]
  have S0 := hideI (Tw.begin w #[.int .i64 k, .int .u64 xn, .int .i64 xb, .bool xs, .string nm, .slice ka kl kc] #[.int .u64 n1, .int .i64 y1, .bool s1] #[.int .u64 0, .int .i64 0, .bool false] 57 79 79)
  have a0 := (unhideI S0).A.2.1 0 _ rfl
  have a2 := (unhideI S0).A.2.1 2 _ rfl
  have a3 := (unhideI S0).A.2.1 3 _ rfl
  obtain ⟨c0, c1, c2⟩ := (unhideI S0).B.at3
  have hsA := (unhideI S0).A.1
  have hsB := (unhideI S0).B.1
  generalize hW0 : ((w.alloc (.cells #[.int .i64 k, .int .u64 xn, .int .i64 xb, .bool xs, .string nm, .slice ka kl kc] 57)).alloc (.cells #[.int .u64 n1, .int .i64 y1, .bool s1] 79)).alloc (.cells #[.int .u64 0, .int .i64 0, .bool false] 79) = W0 at *
  rw [hk] at a0
  subst hk
  go_enter Tryz.func49, Tryz.ntmps49
  go_wp2_with fail
  refine reg_start (fun W => W.cell? ⟨w.heap.size, 2, none⟩ = some (.int .i64 xb) ∧ W.cell? ⟨w.heap.size, 3, none⟩ = some (.bool xs) ∧ W.cell? ⟨w.heap.size + 1, 0, none⟩ = some (.int .u64 n1) ∧ W.cell? ⟨w.heap.size + 1, 1, none⟩ = some (.int .i64 y1) ∧ W.cell? ⟨w.heap.size + 1, 2, none⟩ = some (.bool s1)) (by kernel_rfl) ?_
  have S1 := hideI ((unhideI S0).next (Below.refl _ _).drew)
  clear S0 a0 a2 a3 c0 c1 c2
  generalize W0.drew = W1 at *
  have CL := hideI (fun (W : World) (r : List Value) (s : Tw w W [.int .i64 5, .int .u64 xn, .int .i64 xb, .bool xs, .string nm, .slice ka kl kc] [.int .u64 n1, .int .i64 y1, .bool s1] r) => (⟨s.A.2.1 2 _ rfl, s.A.2.1 3 _ rfl, s.B.2.1 0 _ rfl, s.B.2.1 1 _ rfl, s.B.2.1 2 _ rfl⟩ : W.cell? ⟨w.heap.size, 2, none⟩ = some (.int .i64 xb) ∧ W.cell? ⟨w.heap.size, 3, none⟩ = some (.bool xs) ∧ W.cell? ⟨w.heap.size + 1, 0, none⟩ = some (.int .u64 n1) ∧ W.cell? ⟨w.heap.size + 1, 1, none⟩ = some (.int .i64 y1) ∧ W.cell? ⟨w.heap.size + 1, 2, none⟩ = some (.bool s1)))
  refine reg_seg 0 6 6 (by kernel_rfl) (by decide) (by kernel_rfl) (by kernel_rfl) (fun _ _ _ _ _ h => h) ?_
  simp only [List.take_succ_cons, List.take_zero, List.drop_succ_cons, List.drop_zero]
  repeat (refine wpSteady_step (fun K hK => ?_); go_simp; first | (refine steady_of ?_ (fun W hW => ?_) (hK _ ?_); rotate_left; (obtain ⟨d0, d1, d2, d3, d4⟩ := hW; go_simp; first | done | rfl); clear hK K) | (refine hK _ ?_; clear hK K))
  refine wpSteady_nil ?_
  refine reg_seg 7 2 4 (by kernel_rfl) (by decide) (by kernel_rfl) (by kernel_rfl) (fun _ _ _ _ _ h => h) ?_
  simp only [List.take_succ_cons, List.take_zero, List.drop_succ_cons, List.drop_zero]
  repeat (refine wpSteady_step (fun K hK => ?_); go_simp; first | (refine steady_of ?_ (fun W hW => ?_) (hK _ ?_); rotate_left; (obtain ⟨d0, d1, d2, d3, d4⟩ := hW; go_simp; first | done | rfl); clear hK K) | (refine hK _ ?_; clear hK K))
  refine wpSteady_nil ?_
  refine reg_one 6 3 (by kernel_rfl) (by kernel_rfl) (unhideI CL _ _ (unhideI S1)) ?_
  simp only [List.take_succ_cons, List.take_zero, List.drop_succ_cons, List.drop_zero]
  go_wp2_with fail
  refine (unhideI HC _).mono ?_
  rintro e w2 ⟨rfl, k2⟩
  have SR := hideI ((unhideI S1).next k2)
  clear k2 S1 HC
  obtain ⟨z0, z1, z2⟩ := (unhideI SR).R.at3
  have zf := (unhideI SR).R.2.2
  have zl := (unhideI SR).R.1
  go_wp2_with fail
  first | refine next_nil ?_ | refine next_go ?_
  refine reg_seg 9 1 2 (by kernel_rfl) (by decide) (by kernel_rfl) (by kernel_rfl) (fun _ _ _ _ _ h => h) ?_
  simp only [List.take_succ_cons, List.take_zero, List.drop_succ_cons, List.drop_zero]
  repeat (refine wpSteady_step (fun K hK => ?_); go_simp; first | (refine steady_of ?_ (fun W hW => ?_) (hK _ ?_); rotate_left; (obtain ⟨d0, d1, d2, d3, d4⟩ := hW; go_simp; first | done | rfl); clear hK K) | (refine hK _ ?_; clear hK K))
  refine wpSteady_nil ?_
  refine reg_one 10 1 (by kernel_rfl) (by kernel_rfl) (unhideI CL _ _ (unhideI SR)) ?_
  simp only [List.take_succ_cons, List.take_zero, List.drop_succ_cons, List.drop_zero]
  go_wp2_with fail
  first | refine next_nil ?_ | refine next_go ?_
  have SP := hideI ((unhideI SR).put (.int .u64 V) (.int .i64 xb) (.bool xs))
  obtain ⟨p0, p1, p2⟩ := (unhideI SP).R.at3
  refine reg_one 11 0 (by kernel_rfl) (by kernel_rfl) (unhideI CL _ _ (unhideI SP)) ?_
  simp only [List.take_succ_cons, List.take_zero, List.drop_succ_cons, List.drop_zero]
  go_wp2_with fail
  first | refine next_nil ?_ | refine next_go ?_
  refine reg_end (by kernel_rfl) (unhideI CL _ _ (unhideI SP)) ?_
  go_wp2_with fail
  exact bodyPost_ret (v := .tuple #[.agg #[.int .u64 V, .int .i64 xb, .bool xs], .int .i64 0]) (by simp [results, Tryz.results49, go_sem, p0, p1, p2]) rfl ⟨rfl, (unhideI SP).d⟩
end Go.Proofs.YtaidefdbjcgcbaaGreat
