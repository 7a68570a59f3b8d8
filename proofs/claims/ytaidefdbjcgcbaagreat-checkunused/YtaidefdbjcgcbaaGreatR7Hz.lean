/-
  Types of numbers: Words and Result, the program's and the document's.
-/
import Derived.Test.YtaidefdbjcgcbaaGreatTyDz
import Derived.Test.YtaidefdbjcgcbaaGreatTyGz
import Derived.Test.YtaidefdbjcgcbaaGreatR7Bz
import Derived.Test.YtaidefdbjcgcbaaGreatTyMz
import Derived.Test.YtaidefdbjcgcbaaGreatTyEz
namespace Go.Proofs.YtaidefdbjcgcbaaGreat
open Go.RowKit
set_option linter.unusedSimpArgs false
set_option linter.unusedVariables false

def wds (b : Int) : Int := if b = 8 then 1 else if b = 16 then 1 else if b = 32 then 2 else 4
theorem twords_any (b : Int) (s : Bool) (w : World) (h : IsW b) : Calls Tryz.prog 27 #[.agg #[.int .i64 b, .bool s]] w fun e w' => e = .returned (.int .i64 (wds b)) ∧ Below w.heap.size w w' := by
  rcases h with rfl | rfl | rfl | rfl
  all_goals
    go_enter Tryz.func27, Tryz.ntmps27
    go_wp2
    go_ret
    exact ⟨by kernel_rfl, below_a _ _⟩

/-- The type of what an operator makes. -/
def rb (k a b : Int) : Int := if shB k = true then pb a else if cpB k = true then 16 else cb a b
def rs (k a : Int) (s : Bool) (b : Int) (t : Bool) : Bool := if shB k = true then ps a s else if cpB k = true then true else cs a s b t
theorem Tri.put' {w w1 : World} {a0 a1 b0 b1 c0 c1 : Value} (h : Tri w w1 a0 a1 b0 b1 c0 c1) (u v : Value) : Below w.heap.size w ((w1.setCell ⟨w.heap.size + 1 + 1, 0, none⟩ u).setCell ⟨w.heap.size + 1 + 1, 1, none⟩ v) := below_2 h.bel (by omega) _ _
set_option maxHeartbeats 2000000 in
theorem result_any (k a : Int) (s : Bool) (b : Int) (t : Bool) (w : World) : Calls Tryz.prog 89 #[.int .i64 k, .agg #[.int .i64 a, .bool s], .agg #[.int .i64 b, .bool t]] w fun e w' => e = .returned (.agg #[.int .i64 (rb k a b), .bool (rs k a s b t)]) ∧ Below w.heap.size w w' := by
  have SH := hide (fun (w : World) => shifts_any k w)
  have CP := hide (fun (w : World) => compares_any k w)
  unfold rb rs
  have R := hide (Tri.new' (w := w) (T := 34) (a0 := .int .i64 a) (a1 := .bool s) (b0 := .int .i64 b) (b1 := .bool t) (c0 := .int .i64 0) (c1 := .bool false) (Below.refl _ _))
  by_cases h1 : shB k = true
  · rw [if_pos h1, if_pos h1]
    rw [h1] at SH
    go_enter Tryz.func89, Tryz.ntmps89
    go_wp2_with fail
    generalize ((w.alloc (.cells #[.int .i64 a, .bool s] 34)).alloc (.cells #[.int .i64 b, .bool t] 34)).alloc (.cells #[.int .i64 0, .bool false] 34) = w1 at *
    refine (unhide SH _).mono ?_
    rintro e w' ⟨rfl, hw⟩
    subst w'
    obtain ⟨x0, x1⟩ := (unhide R).A.at2
    go_wp2_with fail
    refine (promote_any a s w1).mono ?_
    rintro e w2 ⟨rfl, k2⟩
    have R' := hide ((unhide R).step k2)
    clear R k2 x0 x1
    have R := R'
    clear R'
    obtain ⟨x0, x1⟩ := (unhide R).A.at2
    obtain ⟨x2, x3⟩ := (unhide R).B.at2
    obtain ⟨x4, x5⟩ := (unhide R).C.at2
    have xf := (unhide R).C.2.2
    have p0 := (unhide R).C.put0
    have p1 := (unhide R).C.put1
    go_wp2_with fail
    exact bodyPost_ret (v := .agg #[.int .i64 (pb a), .bool (ps a s)]) (by simp [results, Tryz.results89, go_sem, p0, p1]) rfl ⟨rfl, (unhide R).put' _ _⟩
  · rw [if_neg h1, if_neg h1]
    have h1' : shB k = false := by simpa using h1
    rw [h1'] at SH
    by_cases h2 : cpB k = true
    · rw [if_pos h2, if_pos h2]
      rw [h2] at CP
      go_enter Tryz.func89, Tryz.ntmps89
      go_wp2_with fail
      generalize ((w.alloc (.cells #[.int .i64 a, .bool s] 34)).alloc (.cells #[.int .i64 b, .bool t] 34)).alloc (.cells #[.int .i64 0, .bool false] 34) = w1 at *
      refine (unhide SH _).mono ?_
      rintro e w' ⟨rfl, hw⟩
      subst w'
      go_wp2_with fail
      refine (unhide CP _).mono ?_
      rintro e w' ⟨rfl, hw⟩
      subst w'
      go_wp2_with fail
      refine (i16_any w1).mono ?_
      rintro e w2 ⟨rfl, k2⟩
      have R' := hide ((unhide R).step k2)
      clear R k2
      have R := R'
      clear R'
      obtain ⟨x0, x1⟩ := (unhide R).A.at2
      obtain ⟨x2, x3⟩ := (unhide R).B.at2
      obtain ⟨x4, x5⟩ := (unhide R).C.at2
      have xf := (unhide R).C.2.2
      have p0 := (unhide R).C.put0
      have p1 := (unhide R).C.put1
      go_wp2_with fail
      exact bodyPost_ret (v := .agg #[.int .i64 16, .bool true]) (by simp [results, Tryz.results89, go_sem, p0, p1]) rfl ⟨rfl, (unhide R).put' _ _⟩
    · rw [if_neg h2, if_neg h2]
      have h2' : cpB k = false := by simpa using h2
      rw [h2'] at CP
      go_enter Tryz.func89, Tryz.ntmps89
      go_wp2_with fail
      generalize ((w.alloc (.cells #[.int .i64 a, .bool s] 34)).alloc (.cells #[.int .i64 b, .bool t] 34)).alloc (.cells #[.int .i64 0, .bool false] 34) = w1 at *
      refine (unhide SH _).mono ?_
      rintro e w' ⟨rfl, hw⟩
      subst w'
      go_wp2_with fail
      refine (unhide CP _).mono ?_
      rintro e w' ⟨rfl, hw⟩
      subst w'
      obtain ⟨x0, x1⟩ := (unhide R).A.at2
      obtain ⟨x2, x3⟩ := (unhide R).B.at2
      go_wp2_with fail
      refine (common_any a s b t w1).mono ?_
      rintro e w2 ⟨rfl, k2⟩
      have R' := hide ((unhide R).step k2)
      clear R k2 x0 x1 x2 x3
      have R := R'
      clear R'
      obtain ⟨x0, x1⟩ := (unhide R).A.at2
      obtain ⟨x2, x3⟩ := (unhide R).B.at2
      obtain ⟨x4, x5⟩ := (unhide R).C.at2
      have xf := (unhide R).C.2.2
      have p0 := (unhide R).C.put0
      have p1 := (unhide R).C.put1
      go_wp2_with fail
      exact bodyPost_ret (v := .agg #[.int .i64 (cb a b), .bool (cs a s b t)]) (by simp [results, Tryz.results89, go_sem, p0, p1]) rfl ⟨rfl, (unhide R).put' _ _⟩
set_option maxHeartbeats 2000000 in
theorem rresult_any (k a : Int) (s : Bool) (b : Int) (t : Bool) (w : World) : Calls Tryz.prog 42 #[.int .i64 k, .agg #[.int .i64 a, .bool s], .agg #[.int .i64 b, .bool t]] w fun e w' => e = .returned (.agg #[.int .i64 (rb k a b), .bool (rs k a s b t)]) ∧ Below w.heap.size w w' := by
  unfold rb rs
  have R := hide (Tri.new' (w := w) (T := 34) (a0 := .int .i64 a) (a1 := .bool s) (b0 := .int .i64 b) (b1 := .bool t) (c0 := .int .i64 0) (c1 := .bool false) (Below.refl _ _))
  by_cases h1 : shB k = true
  · rw [if_pos h1, if_pos h1]
    have hk : k = 14 ∨ k = 15 := by unfold shB at h1; simpa using h1
    rcases hk with rfl | rfl
    all_goals
      go_enter Tryz.func42, Tryz.ntmps42
      go_wp2_with fail
      generalize ((w.alloc (.cells #[.int .i64 a, .bool s] 34)).alloc (.cells #[.int .i64 b, .bool t] 34)).alloc (.cells #[.int .i64 0, .bool false] 34) = w1 at *
      refine (rwide_any a s w1).mono ?_
      rintro e w2 ⟨rfl, k2⟩
      have R' := hide ((unhide R).step k2)
      clear R k2
      have R := R'
      clear R'
      obtain ⟨x0, x1⟩ := (unhide R).A.at2
      obtain ⟨x2, x3⟩ := (unhide R).B.at2
      obtain ⟨x4, x5⟩ := (unhide R).C.at2
      have xf := (unhide R).C.2.2
      have p0 := (unhide R).C.put0
      have p1 := (unhide R).C.put1
      go_wp2_with fail
      exact bodyPost_ret (v := .agg #[.int .i64 (pb a), .bool (ps a s)]) (by simp [results, Tryz.results42, go_sem, p0, p1]) rfl ⟨rfl, (unhide R).put' _ _⟩
  · rw [if_neg h1, if_neg h1]
    have h1' : ¬ (k = 14 ∨ k = 15) := by unfold shB at h1; simpa using h1
    have n1 : (k == 14) = false := beq_eq_false_iff_ne.2 (by omega)
    have n2 : (k == 15) = false := beq_eq_false_iff_ne.2 (by omega)
    by_cases h2 : cpB k = true
    · rw [if_pos h2, if_pos h2]
      have hk : 16 ≤ k ∧ k ≤ 21 := by unfold cpB at h2; simpa using h2
      have hk' : k = 16 ∨ k = 17 ∨ k = 18 ∨ k = 19 ∨ k = 20 ∨ k = 21 := by omega
      clear h1 h1' h2 hk n1 n2
      rcases hk' with rfl | rfl | rfl | rfl | rfl | rfl
      all_goals
        go_enter Tryz.func42, Tryz.ntmps42
        go_wp2_with fail
        exact bodyPost_ret (v := .agg #[.int .i64 16, .bool true]) (by simp [results, Tryz.results42, go_sem]) rfl ⟨rfl, (by repeat (first | exact (Below.refl _ _) | refine Below.setCell ?_ (by first | exact Nat.le_refl _ | (simp; done) | omega | (simp; omega)) _ | refine Below.alloc ?_ (by first | (simp; done) | omega | (simp; omega)) _))⟩
    · rw [if_neg h2, if_neg h2]
      have hk : ¬ (16 ≤ k ∧ k ≤ 21) := by unfold cpB at h2; simpa using h2
      have m1 : (k == 16) = false := beq_eq_false_iff_ne.2 (by omega)
      have m2 : (k == 17) = false := beq_eq_false_iff_ne.2 (by omega)
      have m3 : (k == 18) = false := beq_eq_false_iff_ne.2 (by omega)
      have m4 : (k == 19) = false := beq_eq_false_iff_ne.2 (by omega)
      have m5 : (k == 20) = false := beq_eq_false_iff_ne.2 (by omega)
      have m6 : (k == 21) = false := beq_eq_false_iff_ne.2 (by omega)
      clear h1 h1' h2 hk
      go_enter Tryz.func42, Tryz.ntmps42
      go_wp2_with fail
      generalize ((w.alloc (.cells #[.int .i64 a, .bool s] 34)).alloc (.cells #[.int .i64 b, .bool t] 34)).alloc (.cells #[.int .i64 0, .bool false] 34) = w1 at *
      refine (rcommon_any a s b t w1).mono ?_
      rintro e w2 ⟨rfl, k2⟩
      have R' := hide ((unhide R).step k2)
      clear R k2
      have R := R'
      clear R'
      obtain ⟨x0, x1⟩ := (unhide R).A.at2
      obtain ⟨x2, x3⟩ := (unhide R).B.at2
      obtain ⟨x4, x5⟩ := (unhide R).C.at2
      have xf := (unhide R).C.2.2
      have p0 := (unhide R).C.put0
      have p1 := (unhide R).C.put1
      go_wp2_with fail
      exact bodyPost_ret (v := .agg #[.int .i64 (cb a b), .bool (cs a s b t)]) (by simp [results, Tryz.results42, go_sem, p0, p1]) rfl ⟨rfl, (unhide R).put' _ _⟩
end Go.Proofs.YtaidefdbjcgcbaaGreat

/-
  Programs as a whole: what is wrong with them, as plain functions.
-/
namespace Go.Proofs.YtaidefdbjcgcbaaGreat
open Go.RowKit
set_option linter.unusedSimpArgs false
set_option linter.unusedVariables false

/-! ### Constant expressions -/
/-- What an operator makes of two numbers: the number, what is wrong. -/
def binP (k a b x : Int) (s : Bool) (y : Int) (t : Bool) : Int × Int :=
  if k = 14 ∨ k = 15 then (shf k (ps x s) (pb x) (conv a x s (pb x)) (conv b y t 16), 0)
  else if 16 ≤ k ∧ k ≤ 21 then (b1 (hld k (cs x s y t) (cb x y) (conv a x s (cb x y)) (conv b y t (cb x y))), 0)
  else wrk k (cs x s y t) (cb x y) (conv a x s (cb x y)) (conv b y t (cb x y))
/-- What an operator makes of one number, and its type. -/
def unP (k a x : Int) (s : Bool) : Int × Int × Bool :=
  if k = 6 then (cut (pb x) (-conv a x s (pb x)), pb x, ps x s)
  else if k = 7 then (cut (pb x) (-conv a x s (pb x) - 1), pb x, ps x s)
  else (b1 (conv a x s (pb x) == 0), 16, true)
/-- What an operator makes of constants. -/
def cnO (k b : Int) (s : Bool) : List (Int × Int × Bool) → Int × Int × Bool × Int
  | [] => (0, 0, false, 8)
  | [a] => if k = 5 then (conv a.1 a.2.1 a.2.2 b, b, s, 0) else ((unP k a.1 a.2.1 a.2.2).1, (unP k a.1 a.2.1 a.2.2).2.1, (unP k a.1 a.2.1 a.2.2).2.2, 0)
  | a :: c :: _ =>
    if k = 25 then ((if ((a.1 != 0) && (c.1 != 0)) = true then 1 else 0), 16, true, 0)
    else if k = 26 then ((if ((a.1 != 0) || (c.1 != 0)) = true then 1 else 0), 16, true, 0)
    else ((binP k a.1 c.1 a.2.1 a.2.2 c.2.1 c.2.2).1, rb k a.2.1 c.2.1, rs k a.2.1 a.2.2 c.2.1 c.2.2, (binP k a.1 c.1 a.2.1 a.2.2 c.2.1 c.2.2).2)
mutual
def cnE : Ex → Int × Int × Bool × Int
  | .mk k n b s _ kids =>
    if k = 1 then (n, b, s, 0)
    else if k = 2 ∨ k = 3 ∨ k = 4 then (0, 0, false, 8)
    else if (cnEs kids).2 ≠ 0 then (0, 0, false, (cnEs kids).2)
    else cnO k b s (cnEs kids).1
def cnEs : List Ex → List (Int × Int × Bool) × Int
  | [] => ([], 0)
  | x :: xs => if (cnE x).2.2.2 ≠ 0 then ([], (cnE x).2.2.2) else if (cnEs xs).2 ≠ 0 then ([], (cnEs xs).2) else (((cnE x).1, (cnE x).2.1, (cnE x).2.2.1) :: (cnEs xs).1, 0)
end

/-! ### What names stand for, and types of expressions -/
/-- Variables of all: the type, is it an array; functions: what they tell, how many they take. -/
structure Nev where
  v : ByteArray → Option (Int × Bool × Bool)
  f : ByteArray → Option (Int × Bool × Nat)
/-- A function's own names: the type, is it seen; those that are seen; how many words. -/
structure Loc where
  m : ByteArray → Option (Int × Bool × Bool)
  op : List ByteArray
  fr : Int
def varC (E : Nev) (L : Loc) (nm : ByteArray) : Option (Int × Bool × Bool) :=
  match L.m nm with
  | some (b, s, true) => some (b, s, false)
  | _ => E.v nm
def askC (E : Nev) (L : Loc) (nm : ByteArray) (arr : Bool) : (Int × Bool) × Int :=
  match varC E L nm with
  | none => ((0, false), 7)
  | some (b, s, a) => if a = arr then ((b, s), 0) else ((0, false), 9)
def told (r : (Int × Bool) × Int) : (Int × Bool) × Int := if r.2 = 0 ∧ r.1 = (0, false) then (r.1, 9) else r
def tyO (k b : Int) (s : Bool) : List (Int × Bool) → Int × Bool
  | [] => (b, s)
  | [t] => if k = 5 then (b, s) else if k = 6 ∨ k = 7 then (pb t.1, ps t.1 t.2) else (16, true)
  | t :: u :: _ => if k = 25 ∨ k = 26 then (16, true) else (rb k t.1 u.1, rs k t.1 t.2 u.1 u.2)
mutual
def tyE (E : Nev) (L : Loc) : Ex → (Int × Bool) × Int
  | .mk k _ b s nm kids =>
    if k = 4 then
      match E.f nm with
      | none => ((0, false), 7)
      | some (fb, fs, m) => if kids.length = m then (if (tyEs E L kids).2 = 0 then ((fb, fs), 0) else ((0, false), (tyEs E L kids).2)) else ((0, false), 5)
    else if (tyEs E L kids).2 ≠ 0 then ((0, false), (tyEs E L kids).2)
    else if k = 2 ∨ k = 3 then askC E L nm (decide (k = 3))
    else (tyO k b s (tyEs E L kids).1, 0)
def tyEs (E : Nev) (L : Loc) : List Ex → List (Int × Bool) × Int
  | [] => ([], 0)
  | x :: xs => if (told (tyE E L x)).2 ≠ 0 then ([], (told (tyE E L x)).2) else if (tyEs E L xs).2 ≠ 0 then ([], (tyEs E L xs).2) else ((told (tyE E L x)).1 :: (tyEs E L xs).1, 0)
end
def tellC (E : Nev) (L : Loc) (x : Ex) : Int := (told (tyE E L x)).2

/-! ### Statements -/
def declC (L : Loc) (b : Int) (s : Bool) (nm : ByteArray) : Int × Loc :=
  if (L.m nm).isSome = true then (7, L) else (0, ⟨fun j => if j = nm then some (b, s, true) else L.m j, L.op ++ [nm], L.fr + wds b⟩)
def hideC (n : Nat) (L : Loc) : Loc := ⟨fun j => if (L.op.drop n).any (fun k => decide (j = k)) = true then some (0, false, false) else L.m j, L.op.take n, L.fr⟩
def hid (L : Loc) (r : Int × Loc) : Int × Loc := (r.1, hideC L.op.length r.2)
def perC (E : Nev) (L : Loc) (has : Bool) (x : Ex) : Int := if has = true then tellC E L x else 0
def setC (E : Nev) (L : Loc) (has : Bool) (nm : ByteArray) (i x : Ex) : Int :=
  if perC E L has i ≠ 0 then perC E L has i else if (askC E L nm has).2 ≠ 0 then (askC E L nm has).2 else tellC E L x
def thc (r : Int × Loc) (f : Loc → Int × Loc) : Int × Loc := if r.1 ≠ 0 then r else f r.2
mutual
def ckS (E : Nev) (res : Int × Bool) : Sm → Nat → Loc → Int × Loc
  | .mk k b s nm has x i init step body els, lp, L =>
    if k = 2 then thc (perC E L has x, L) fun L => declC L b s nm
    else if k = 3 then (setC E L has nm i x, L)
    else if k = 4 then ((tyE E L x).2, L)
    else if k = 8 then (if has = decide (res ≠ (0, false)) then perC E L has x else 9, L)
    else if k = 9 ∨ k = 10 then (if lp = 0 then 8 else 0, L)
    else if k = 5 then thc (tellC E L x, L) fun L => thc (hid L (ckL E res body lp L)) fun L => hid L (ckL E res els lp L)
    else if k = 6 then thc (tellC E L x, L) fun L => hid L (ckL E res body (lp + 1) L)
    else if k = 7 then thc (hid L (ckL E res init lp L)) fun L => thc (perC E L has x, L) fun L => thc (hid L (ckL E res step lp L)) fun L => hid L (ckL E res body (lp + 1) L)
    else if k = 11 then hid L (ckL E res body lp L)
    else (0, L)
def ckL (E : Nev) (res : Int × Bool) : List Sm → Nat → Loc → Int × Loc
  | [], _, L => (0, L)
  | x :: xs, lp, L => thc (ckS E res x lp L) fun L => ckL E res xs lp L
end

/-! ### Programs -/
def ckPs : List Pm → Loc → Int × Loc
  | [], L => (0, L)
  | p :: ps, L => thc (declC L p.b p.s p.nm) fun L => ckPs ps L
def ckF (E : Nev) (f : Fn8) : Int :=
  if (ckPs f.params ⟨fun _ => none, [], 0⟩).1 ≠ 0 then (ckPs f.params ⟨fun _ => none, [], 0⟩).1
  else
    let r := hid (ckPs f.params ⟨fun _ => none, [], 0⟩).2 (ckL E (f.b, f.s) f.body 0 (ckPs f.params ⟨fun _ => none, [], 0⟩).2)
    if r.1 ≠ 0 then r.1 else if 200 < r.2.fr then 4 else 0
def Nev.taken (E : Nev) (nm : ByteArray) : Bool := (E.v nm).isSome || (E.f nm).isSome
def nPut : ByteArray := ⟨#[112, 117, 116]⟩
def nGet : ByteArray := ⟨#[103, 101, 116]⟩
def nMain : ByteArray := ⟨#[109, 97, 105, 110]⟩
/-- The two functions that no program writes. -/
def ev0 : Nev := ⟨fun _ => none, fun j => if j = nGet then some (16, true, 0) else if j = nPut then some (0, false, 1) else none⟩
def Nev.addV (E : Nev) (g : Gb) : Nev := ⟨fun j => if j = g.nm then some (g.b, g.s, decide (0 < g.size)) else E.v j, E.f⟩
def Nev.addF (E : Nev) (f : Fn8) : Nev := ⟨E.v, fun j => if j = f.nm then some (f.b, f.s, f.params.length) else E.f j⟩
/-- Variables of all, one by one: the fault, its place, names, words. -/
def ckGs : List Gb → Nat → Nev → Int → (Int × Nat) × Nev × Int
  | [], i, E, n => ((0, i), E, n)
  | g :: gs, i, E, n =>
    if E.taken g.nm = true then ((7, i), E, n)
    else if 8000 < n + max 1 g.size * wds g.b then ((4, i), E, n)
    else if (cnEs g.init).2 ≠ 0 then (((cnEs g.init).2, i), E, n)
    else ckGs gs (i + 1) (E.addV g) (n + max 1 g.size * wds g.b)
def ckNs : List Fn8 → Nat → Nev → (Int × Nat) × Nev
  | [], i, E => ((0, i), E)
  | f :: fs, i, E => if E.taken f.nm = true then ((7, i), E) else ckNs fs (i + 1) (E.addF f)
def ckFs (E : Nev) : List Fn8 → Nat → Int × Nat
  | [], i => (0, i)
  | f :: fs, i => if ckF E f ≠ 0 then (ckF E f, i) else ckFs E fs (i + 1)
/-- What is wrong with a program as a whole: the fault, its place. -/
def ckP (p : Pg) : Int × Nat :=
  if (lkP p).1 ≠ 0 then ((lkP p).1, 0)
  else
    let g := ckGs p.globals 0 ev0 0
    if g.1.1 ≠ 0 then g.1
    else
      let n := ckNs p.funcs p.globals.length g.2.1
      if n.1.1 ≠ 0 then n.1
      else
        let f := ckFs n.2 p.funcs p.globals.length
        if f.1 ≠ 0 then f
        else if (match n.2.f nMain with | some (_, _, m) => decide (m = 0) | none => false) = true then (0, 0)
        else (6, p.globals.length + p.funcs.length)
end Go.Proofs.YtaidefdbjcgcbaaGreat
