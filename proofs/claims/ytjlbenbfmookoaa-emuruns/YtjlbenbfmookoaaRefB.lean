/-
  pairlegalref2.Bare: an instruction with its own fields alone.
-/
import Derived.Test.YtjlbenbfmookoaaRefFz
import Derived.Test.YtjlbenbfmookoaaInsE2
namespace Go.Proofs.Ytjlbenbfmookoaa
open Go.RowKit
set_option linter.unusedSimpArgs false
set_option linter.unusedVariables false

/-- The three blocks of Bare: what came, the result, what is made. -/
def Trio (w v : World) (i r u : List Value) : Prop := Box v w.heap.size i ∧ Box v (w.heap.size + 1) r ∧ Box v (w.heap.size + 1 + 1) u ∧ Below w.heap.size w v
theorem Trio.new (w : World) (i r u : Array Value) (T : TypeId) : Trio w (((w.alloc (.cells i T)).alloc (.cells r T)).alloc (.cells u T)) i.toList r.toList u.toList := by
  refine ⟨((Box.new w i T).step (below_a _ _)).step (below_a _ _), ?_, ?_, bt (bt (below_a _ _) (below_a _ _)) (below_a _ _)⟩
  · have := (Box.new (w.alloc (.cells i T)) r T).step (below_a _ (.cells u T))
    simp only [World.size_alloc] at this; exact this
  · have := Box.new ((w.alloc (.cells i T)).alloc (.cells r T)) u T
    simp only [World.size_alloc] at this; exact this
theorem Trio.step {w v v' : World} {i r u : List Value} (h : Trio w v i r u) (k : Below v.heap.size v v') : Trio w v' i r u :=
  ⟨h.1.step k, h.2.1.step k, h.2.2.1.step k, bt h.2.2.2 k⟩
theorem Trio.put {w v : World} {i r u : List Value} (h : Trio w v i r u) (j : Nat) (x : Value) (hj : j < u.length) : Trio w (v.setCell ⟨w.heap.size + 1 + 1, j, none⟩ x) i r (u.set j x) :=
  ⟨h.1.other (by omega), h.2.1.other (by omega), h.2.2.1.set hj, h.2.2.2.setCell (by show w.heap.size ≤ w.heap.size + 1 + 1; omega) _⟩
theorem Trio.facts {w v : World} {i0 i1 i2 i3 r0 r1 r2 r3 u0 u1 u2 u3 : Value} (h : Trio w v [i0, i1, i2, i3] [r0, r1, r2, r3] [u0, u1, u2, u3]) :
    (v.cell? ⟨w.heap.size, 0, none⟩ = some i0 ∧ v.cell? ⟨w.heap.size, 1, none⟩ = some i1 ∧ v.cell? ⟨w.heap.size, 2, none⟩ = some i2 ∧ v.cell? ⟨w.heap.size, 3, none⟩ = some i3) ∧
    (v.cell? ⟨w.heap.size + 1, 0, none⟩ = some r0 ∧ v.cell? ⟨w.heap.size + 1, 1, none⟩ = some r1 ∧ v.cell? ⟨w.heap.size + 1, 2, none⟩ = some r2 ∧ v.cell? ⟨w.heap.size + 1, 3, none⟩ = some r3) ∧
    (v.cell? ⟨w.heap.size + 1 + 1, 0, none⟩ = some u0 ∧ v.cell? ⟨w.heap.size + 1 + 1, 1, none⟩ = some u1 ∧ v.cell? ⟨w.heap.size + 1 + 1, 2, none⟩ = some u2 ∧ v.cell? ⟨w.heap.size + 1 + 1, 3, none⟩ = some u3) ∧
    (∀ j, v.frozen? ⟨w.heap.size + 1, j, none⟩ = false) ∧ (∀ j, v.frozen? ⟨w.heap.size + 1 + 1, j, none⟩ = false) :=
  ⟨h.1.at4, h.2.1.at4, h.2.2.1.at4, h.2.1.2.2, h.2.2.1.2.2⟩

set_option maxHeartbeats 4000000 in
theorem bare_any (i : Ins) (w : World) : Calls Try.prog 65 #[agg i] w fun e w' => e = .returned (agg (bare i)) ∧ Below w.heap.size w w' := by
  obtain ⟨o, d, s, m⟩ := i
  have HD := among_d o
  have HS := among_s o
  have HM := among_i o
  unfold bare agg
  dsimp only
  generalize hD o = a at *
  generalize hS o = b at *
  generalize hI o = c at *
  have T0 := hideI (Trio.new w #[.int .i64 o, .int .i64 d, .int .i64 s, .int .i64 m] #[.int .i64 0, .int .i64 0, .int .i64 0, .int .i64 0] #[.int .i64 o, .int .i64 0, .int .i64 0, .int .i64 0] 49)
  have ne1 : w.heap.size ≠ w.heap.size + 1 := by omega
  have ne2 : w.heap.size ≠ w.heap.size + 1 + 1 := by omega
  have ne3 : w.heap.size + 1 ≠ w.heap.size + 1 + 1 := by omega
  cases a <;> cases b <;> cases c
  · simp only [if_true, Bool.false_eq_true, if_false]
    go_enter Try.func65, Try.ntmps65
    go_wp2_with fail
    refine (has_any _ _ _).mono ?_
    rintro e w1 ⟨rfl, k1⟩
    have T1 := hideI ((unhideI T0).step k1)
    clear k1
    obtain ⟨⟨p0, p1, p2, p3⟩, ⟨q0, q1, q2, q3⟩, ⟨r0, r1, r2, r3⟩, y1, y2⟩ := (unhideI T1).facts
    go_wp2_with fail
    clear p0 p1 p2 p3 q0 q1 q2 q3 r0 r1 r2 r3 y1 y2
    refine (has_any _ _ _).mono ?_
    rintro e w2 ⟨rfl, k2⟩
    have T2 := hideI ((unhideI T1).step k2)
    clear k2
    obtain ⟨⟨p0, p1, p2, p3⟩, ⟨q0, q1, q2, q3⟩, ⟨r0, r1, r2, r3⟩, y1, y2⟩ := (unhideI T2).facts
    go_wp2_with fail
    clear p0 p1 p2 p3 q0 q1 q2 q3 r0 r1 r2 r3 y1 y2
    refine (has_any _ _ _).mono ?_
    rintro e w3 ⟨rfl, k3⟩
    have T3 := hideI ((unhideI T2).step k3)
    clear k3
    obtain ⟨⟨p0, p1, p2, p3⟩, ⟨q0, q1, q2, q3⟩, ⟨r0, r1, r2, r3⟩, y1, y2⟩ := (unhideI T3).facts
    go_wp2_with fail
    exact bodyPost_ret (v := .agg #[.int .i64 o, .int .i64 0, .int .i64 0, .int .i64 0]) (by simp [results, Try.results65, go_sem, p0, p1, p2, p3, q0, q1, q2, q3, r0, r1, r2, r3, y1, y2]) rfl ⟨rfl, (by repeat (first | exact (unhideI T3).2.2.2 | refine Below.setCell ?_ (by first | exact Nat.le_refl _ | (simp; done) | omega | (simp; omega)) _ | refine Below.alloc ?_ (by first | (simp; done) | omega | (simp; omega)) _))⟩
  · simp only [if_true, Bool.false_eq_true, if_false]
    go_enter Try.func65, Try.ntmps65
    go_wp2_with fail
    refine (has_any _ _ _).mono ?_
    rintro e w1 ⟨rfl, k1⟩
    have T1 := hideI ((unhideI T0).step k1)
    clear k1
    obtain ⟨⟨p0, p1, p2, p3⟩, ⟨q0, q1, q2, q3⟩, ⟨r0, r1, r2, r3⟩, y1, y2⟩ := (unhideI T1).facts
    go_wp2_with fail
    clear p0 p1 p2 p3 q0 q1 q2 q3 r0 r1 r2 r3 y1 y2
    refine (has_any _ _ _).mono ?_
    rintro e w2 ⟨rfl, k2⟩
    have T2 := hideI ((unhideI T1).step k2)
    clear k2
    obtain ⟨⟨p0, p1, p2, p3⟩, ⟨q0, q1, q2, q3⟩, ⟨r0, r1, r2, r3⟩, y1, y2⟩ := (unhideI T2).facts
    go_wp2_with fail
    clear p0 p1 p2 p3 q0 q1 q2 q3 r0 r1 r2 r3 y1 y2
    refine (has_any _ _ _).mono ?_
    rintro e w3 ⟨rfl, k3⟩
    have T3 := hideI ((unhideI T2).step k3)
    clear k3
    obtain ⟨⟨p0, p1, p2, p3⟩, ⟨q0, q1, q2, q3⟩, ⟨r0, r1, r2, r3⟩, y1, y2⟩ := (unhideI T3).facts
    go_wp2_with fail
    exact bodyPost_ret (v := .agg #[.int .i64 o, .int .i64 0, .int .i64 0, .int .i64 m]) (by simp [results, Try.results65, go_sem, p0, p1, p2, p3, q0, q1, q2, q3, r0, r1, r2, r3, y1, y2]) rfl ⟨rfl, (by repeat (first | exact (unhideI T3).2.2.2 | refine Below.setCell ?_ (by first | exact Nat.le_refl _ | (simp; done) | omega | (simp; omega)) _ | refine Below.alloc ?_ (by first | (simp; done) | omega | (simp; omega)) _))⟩
  · simp only [if_true, Bool.false_eq_true, if_false]
    go_enter Try.func65, Try.ntmps65
    go_wp2_with fail
    refine (has_any _ _ _).mono ?_
    rintro e w1 ⟨rfl, k1⟩
    have T1 := hideI ((unhideI T0).step k1)
    clear k1
    obtain ⟨⟨p0, p1, p2, p3⟩, ⟨q0, q1, q2, q3⟩, ⟨r0, r1, r2, r3⟩, y1, y2⟩ := (unhideI T1).facts
    go_wp2_with fail
    clear p0 p1 p2 p3 q0 q1 q2 q3 r0 r1 r2 r3 y1 y2
    refine (has_any _ _ _).mono ?_
    rintro e w2 ⟨rfl, k2⟩
    have T2 := hideI ((unhideI T1).step k2)
    clear k2
    obtain ⟨⟨p0, p1, p2, p3⟩, ⟨q0, q1, q2, q3⟩, ⟨r0, r1, r2, r3⟩, y1, y2⟩ := (unhideI T2).facts
    go_wp2_with fail
    clear p0 p1 p2 p3 q0 q1 q2 q3 r0 r1 r2 r3 y1 y2
    refine (has_any _ _ _).mono ?_
    rintro e w3 ⟨rfl, k3⟩
    have T3 := hideI (((unhideI T2).put 2 (.int .i64 s) (by simp)).step k3)
    clear k3
    obtain ⟨⟨p0, p1, p2, p3⟩, ⟨q0, q1, q2, q3⟩, ⟨r0, r1, r2, r3⟩, y1, y2⟩ := (unhideI T3).facts
    go_wp2_with fail
    exact bodyPost_ret (v := .agg #[.int .i64 o, .int .i64 0, .int .i64 s, .int .i64 0]) (by simp [results, Try.results65, go_sem, p0, p1, p2, p3, q0, q1, q2, q3, r0, r1, r2, r3, y1, y2]) rfl ⟨rfl, (by repeat (first | exact (unhideI T3).2.2.2 | refine Below.setCell ?_ (by first | exact Nat.le_refl _ | (simp; done) | omega | (simp; omega)) _ | refine Below.alloc ?_ (by first | (simp; done) | omega | (simp; omega)) _))⟩
  · simp only [if_true, Bool.false_eq_true, if_false]
    go_enter Try.func65, Try.ntmps65
    go_wp2_with fail
    refine (has_any _ _ _).mono ?_
    rintro e w1 ⟨rfl, k1⟩
    have T1 := hideI ((unhideI T0).step k1)
    clear k1
    obtain ⟨⟨p0, p1, p2, p3⟩, ⟨q0, q1, q2, q3⟩, ⟨r0, r1, r2, r3⟩, y1, y2⟩ := (unhideI T1).facts
    go_wp2_with fail
    clear p0 p1 p2 p3 q0 q1 q2 q3 r0 r1 r2 r3 y1 y2
    refine (has_any _ _ _).mono ?_
    rintro e w2 ⟨rfl, k2⟩
    have T2 := hideI ((unhideI T1).step k2)
    clear k2
    obtain ⟨⟨p0, p1, p2, p3⟩, ⟨q0, q1, q2, q3⟩, ⟨r0, r1, r2, r3⟩, y1, y2⟩ := (unhideI T2).facts
    go_wp2_with fail
    clear p0 p1 p2 p3 q0 q1 q2 q3 r0 r1 r2 r3 y1 y2
    refine (has_any _ _ _).mono ?_
    rintro e w3 ⟨rfl, k3⟩
    have T3 := hideI (((unhideI T2).put 2 (.int .i64 s) (by simp)).step k3)
    clear k3
    obtain ⟨⟨p0, p1, p2, p3⟩, ⟨q0, q1, q2, q3⟩, ⟨r0, r1, r2, r3⟩, y1, y2⟩ := (unhideI T3).facts
    go_wp2_with fail
    exact bodyPost_ret (v := .agg #[.int .i64 o, .int .i64 0, .int .i64 s, .int .i64 m]) (by simp [results, Try.results65, go_sem, p0, p1, p2, p3, q0, q1, q2, q3, r0, r1, r2, r3, y1, y2]) rfl ⟨rfl, (by repeat (first | exact (unhideI T3).2.2.2 | refine Below.setCell ?_ (by first | exact Nat.le_refl _ | (simp; done) | omega | (simp; omega)) _ | refine Below.alloc ?_ (by first | (simp; done) | omega | (simp; omega)) _))⟩
  · simp only [if_true, Bool.false_eq_true, if_false]
    go_enter Try.func65, Try.ntmps65
    go_wp2_with fail
    refine (has_any _ _ _).mono ?_
    rintro e w1 ⟨rfl, k1⟩
    have T1 := hideI ((unhideI T0).step k1)
    clear k1
    obtain ⟨⟨p0, p1, p2, p3⟩, ⟨q0, q1, q2, q3⟩, ⟨r0, r1, r2, r3⟩, y1, y2⟩ := (unhideI T1).facts
    go_wp2_with fail
    clear p0 p1 p2 p3 q0 q1 q2 q3 r0 r1 r2 r3 y1 y2
    refine (has_any _ _ _).mono ?_
    rintro e w2 ⟨rfl, k2⟩
    have T2 := hideI (((unhideI T1).put 1 (.int .i64 d) (by simp)).step k2)
    clear k2
    obtain ⟨⟨p0, p1, p2, p3⟩, ⟨q0, q1, q2, q3⟩, ⟨r0, r1, r2, r3⟩, y1, y2⟩ := (unhideI T2).facts
    go_wp2_with fail
    clear p0 p1 p2 p3 q0 q1 q2 q3 r0 r1 r2 r3 y1 y2
    refine (has_any _ _ _).mono ?_
    rintro e w3 ⟨rfl, k3⟩
    have T3 := hideI ((unhideI T2).step k3)
    clear k3
    obtain ⟨⟨p0, p1, p2, p3⟩, ⟨q0, q1, q2, q3⟩, ⟨r0, r1, r2, r3⟩, y1, y2⟩ := (unhideI T3).facts
    go_wp2_with fail
    exact bodyPost_ret (v := .agg #[.int .i64 o, .int .i64 d, .int .i64 0, .int .i64 0]) (by simp [results, Try.results65, go_sem, p0, p1, p2, p3, q0, q1, q2, q3, r0, r1, r2, r3, y1, y2]) rfl ⟨rfl, (by repeat (first | exact (unhideI T3).2.2.2 | refine Below.setCell ?_ (by first | exact Nat.le_refl _ | (simp; done) | omega | (simp; omega)) _ | refine Below.alloc ?_ (by first | (simp; done) | omega | (simp; omega)) _))⟩
  · simp only [if_true, Bool.false_eq_true, if_false]
    go_enter Try.func65, Try.ntmps65
    go_wp2_with fail
    refine (has_any _ _ _).mono ?_
    rintro e w1 ⟨rfl, k1⟩
    have T1 := hideI ((unhideI T0).step k1)
    clear k1
    obtain ⟨⟨p0, p1, p2, p3⟩, ⟨q0, q1, q2, q3⟩, ⟨r0, r1, r2, r3⟩, y1, y2⟩ := (unhideI T1).facts
    go_wp2_with fail
    clear p0 p1 p2 p3 q0 q1 q2 q3 r0 r1 r2 r3 y1 y2
    refine (has_any _ _ _).mono ?_
    rintro e w2 ⟨rfl, k2⟩
    have T2 := hideI (((unhideI T1).put 1 (.int .i64 d) (by simp)).step k2)
    clear k2
    obtain ⟨⟨p0, p1, p2, p3⟩, ⟨q0, q1, q2, q3⟩, ⟨r0, r1, r2, r3⟩, y1, y2⟩ := (unhideI T2).facts
    go_wp2_with fail
    clear p0 p1 p2 p3 q0 q1 q2 q3 r0 r1 r2 r3 y1 y2
    refine (has_any _ _ _).mono ?_
    rintro e w3 ⟨rfl, k3⟩
    have T3 := hideI ((unhideI T2).step k3)
    clear k3
    obtain ⟨⟨p0, p1, p2, p3⟩, ⟨q0, q1, q2, q3⟩, ⟨r0, r1, r2, r3⟩, y1, y2⟩ := (unhideI T3).facts
    go_wp2_with fail
    exact bodyPost_ret (v := .agg #[.int .i64 o, .int .i64 d, .int .i64 0, .int .i64 m]) (by simp [results, Try.results65, go_sem, p0, p1, p2, p3, q0, q1, q2, q3, r0, r1, r2, r3, y1, y2]) rfl ⟨rfl, (by repeat (first | exact (unhideI T3).2.2.2 | refine Below.setCell ?_ (by first | exact Nat.le_refl _ | (simp; done) | omega | (simp; omega)) _ | refine Below.alloc ?_ (by first | (simp; done) | omega | (simp; omega)) _))⟩
  · simp only [if_true, Bool.false_eq_true, if_false]
    go_enter Try.func65, Try.ntmps65
    go_wp2_with fail
    refine (has_any _ _ _).mono ?_
    rintro e w1 ⟨rfl, k1⟩
    have T1 := hideI ((unhideI T0).step k1)
    clear k1
    obtain ⟨⟨p0, p1, p2, p3⟩, ⟨q0, q1, q2, q3⟩, ⟨r0, r1, r2, r3⟩, y1, y2⟩ := (unhideI T1).facts
    go_wp2_with fail
    clear p0 p1 p2 p3 q0 q1 q2 q3 r0 r1 r2 r3 y1 y2
    refine (has_any _ _ _).mono ?_
    rintro e w2 ⟨rfl, k2⟩
    have T2 := hideI (((unhideI T1).put 1 (.int .i64 d) (by simp)).step k2)
    clear k2
    obtain ⟨⟨p0, p1, p2, p3⟩, ⟨q0, q1, q2, q3⟩, ⟨r0, r1, r2, r3⟩, y1, y2⟩ := (unhideI T2).facts
    go_wp2_with fail
    clear p0 p1 p2 p3 q0 q1 q2 q3 r0 r1 r2 r3 y1 y2
    refine (has_any _ _ _).mono ?_
    rintro e w3 ⟨rfl, k3⟩
    have T3 := hideI (((unhideI T2).put 2 (.int .i64 s) (by simp)).step k3)
    clear k3
    obtain ⟨⟨p0, p1, p2, p3⟩, ⟨q0, q1, q2, q3⟩, ⟨r0, r1, r2, r3⟩, y1, y2⟩ := (unhideI T3).facts
    go_wp2_with fail
    exact bodyPost_ret (v := .agg #[.int .i64 o, .int .i64 d, .int .i64 s, .int .i64 0]) (by simp [results, Try.results65, go_sem, p0, p1, p2, p3, q0, q1, q2, q3, r0, r1, r2, r3, y1, y2]) rfl ⟨rfl, (by repeat (first | exact (unhideI T3).2.2.2 | refine Below.setCell ?_ (by first | exact Nat.le_refl _ | (simp; done) | omega | (simp; omega)) _ | refine Below.alloc ?_ (by first | (simp; done) | omega | (simp; omega)) _))⟩
  · simp only [if_true, Bool.false_eq_true, if_false]
    go_enter Try.func65, Try.ntmps65
    go_wp2_with fail
    refine (has_any _ _ _).mono ?_
    rintro e w1 ⟨rfl, k1⟩
    have T1 := hideI ((unhideI T0).step k1)
    clear k1
    obtain ⟨⟨p0, p1, p2, p3⟩, ⟨q0, q1, q2, q3⟩, ⟨r0, r1, r2, r3⟩, y1, y2⟩ := (unhideI T1).facts
    go_wp2_with fail
    clear p0 p1 p2 p3 q0 q1 q2 q3 r0 r1 r2 r3 y1 y2
    refine (has_any _ _ _).mono ?_
    rintro e w2 ⟨rfl, k2⟩
    have T2 := hideI (((unhideI T1).put 1 (.int .i64 d) (by simp)).step k2)
    clear k2
    obtain ⟨⟨p0, p1, p2, p3⟩, ⟨q0, q1, q2, q3⟩, ⟨r0, r1, r2, r3⟩, y1, y2⟩ := (unhideI T2).facts
    go_wp2_with fail
    clear p0 p1 p2 p3 q0 q1 q2 q3 r0 r1 r2 r3 y1 y2
    refine (has_any _ _ _).mono ?_
    rintro e w3 ⟨rfl, k3⟩
    have T3 := hideI (((unhideI T2).put 2 (.int .i64 s) (by simp)).step k3)
    clear k3
    obtain ⟨⟨p0, p1, p2, p3⟩, ⟨q0, q1, q2, q3⟩, ⟨r0, r1, r2, r3⟩, y1, y2⟩ := (unhideI T3).facts
    go_wp2_with fail
    exact bodyPost_ret (v := .agg #[.int .i64 o, .int .i64 d, .int .i64 s, .int .i64 m]) (by simp [results, Try.results65, go_sem, p0, p1, p2, p3, q0, q1, q2, q3, r0, r1, r2, r3, y1, y2]) rfl ⟨rfl, (by repeat (first | exact (unhideI T3).2.2.2 | refine Below.setCell ?_ (by first | exact Nat.le_refl _ | (simp; done) | omega | (simp; omega)) _ | refine Below.alloc ?_ (by first | (simp; done) | omega | (simp; omega)) _))⟩
end Go.Proofs.Ytjlbenbfmookoaa
