/-
  Numbers in wider types: plain facts.
-/
import Derived.Test.YtaidefdbjcgcbaaGreatTyEz
import Derived.Laws.Bits64
import Derived.Laws.Bits64b
import Derived.Test.YtaidefdbjcgcbaaGreatBigNz
import Derived.Test.YtaidefdbjcgcbaaGreatMemz
import Derived.Test.YtaidefdbjcgcbaaGreatSoBz
namespace Go.Proofs.YtaidefdbjcgcbaaGreat
open Go.RowKit
set_option linter.unusedSimpArgs false
set_option linter.unusedVariables false

theorem md_le_dvd {x W : Int} (hx : IsW x) (hW : IsW W) (h : x ≤ W) : md x ∣ md W := by
  rcases hx with rfl | rfl | rfl | rfl <;> rcases hW with rfl | rfl | rfl | rfl <;> first | (exfalso; omega) | decide
theorem cut_le {x W : Int} (hx : IsW x) (hW : IsW W) (h : x ≤ W) (z : Int) : cut x (cut W z) = cut x z := Int.emod_emod_of_dvd _ (md_le_dvd hx hW h)
theorem cut_mn_le {x W : Int} (hx : IsW x) (hW : IsW W) (h : x ≤ W) (s : Bool) (z : Int) : cut x (mn s W z) = cut x z := by
  rw [← cut_le hx hW h, cut_mn, cut_le hx hW h]
theorem cut_nat (x : Int) (m : Nat) : cut x (m : Int) = ((m % 2 ^ x.toNat : Nat) : Int) := by
  unfold cut md
  rw [Int.natCast_emod, Int.natCast_pow]
  rfl
theorem u_nat {a : Int} (h : U a) : ∃ m : Nat, a = m ∧ m < 18446744073709551616 := ⟨a.toNat, by have := h.1; omega, by have := h.2; omega⟩
theorem mod_lt64 {m k : Nat} (h : m < 18446744073709551616) : m % k < 18446744073709551616 := Nat.lt_of_le_of_lt (Nat.mod_le _ _) h
theorem cut_and (x : Int) {a b : Int} (ha : U a) (hb : U b) : cut x (bits .and .u64 a b) = bits .and .u64 (cut x a) (cut x b) := by
  obtain ⟨m, rfl, h1⟩ := u_nat ha
  obtain ⟨n, rfl, h2⟩ := u_nat hb
  rw [bits_and_u64_nat m n h1 h2, cut_nat, cut_nat, cut_nat, bits_and_u64_nat _ _ (mod_lt64 h1) (mod_lt64 h2), Nat.and_mod_two_pow]
theorem cut_xor (x : Int) {a b : Int} (ha : U a) (hb : U b) : cut x (bits .xor .u64 a b) = bits .xor .u64 (cut x a) (cut x b) := by
  obtain ⟨m, rfl, h1⟩ := u_nat ha
  obtain ⟨n, rfl, h2⟩ := u_nat hb
  rw [bits_xor_u64_nat m n h1 h2, cut_nat, cut_nat, cut_nat, bits_xor_u64_nat _ _ (mod_lt64 h1) (mod_lt64 h2), Nat.xor_mod_two_pow]
theorem cut_or (x : Int) {a b : Int} (ha : U a) (hb : U b) : cut x (bits .or .u64 a b) = bits .or .u64 (cut x a) (cut x b) := by
  obtain ⟨m, rfl, h1⟩ := u_nat ha
  obtain ⟨n, rfl, h2⟩ := u_nat hb
  rw [bits_or_u64_nat m n h1 h2, cut_nat, cut_nat, cut_nat, bits_or_u64_nat _ _ (mod_lt64 h1) (mod_lt64 h2), Nat.or_mod_two_pow]

theorem cb_self {x : Int} (h : 16 ≤ x) : cb x x = x := by
  unfold cb pb
  rw [if_neg (by omega)]
  simp
  omega
theorem cs_self {x : Int} (s : Bool) (h : 16 ≤ x) : cs x s x s = s := by
  unfold cs ps
  rw [if_neg (by omega)]
  simp
  omega
def nwB (k : Int) : Prop := k = 9 ∨ k = 12 ∨ k = 13 ∨ k = 22 ∨ k = 23 ∨ k = 24
theorem nw_wk {k : Int} (h : nwB k) : wkB k := by unfold nwB at h; unfold wkB; omega
theorem nw_ok {k : Int} (h : nwB k) (s : Bool) (n a b : Int) : (wrk k s n a b).2 = 0 := by
  rcases h with rfl | rfl | rfl | rfl | rfl | rfl <;> rfl
theorem narrow {k x W a b : Int} {s t : Bool} (hk : nwB k) (hx : IsW x) (hW : IsW W) (h16 : 16 ≤ x) (h : x ≤ W) :
    conv (wrk k (cs W t W t) (cb W W) (conv (conv a x s W) W t (cb W W)) (conv (conv b x s W) W t (cb W W))).1 W t x = (wrk k (cs x s x s) (cb x x) (conv a x s (cb x x)) (conv b x s (cb x x))).1 := by
  rw [cb_self h16, cs_self s h16, cb_self (show 16 ≤ W by omega), cs_self t (show 16 ≤ W by omega)]
  have e1 : ∀ z, conv z x s x = cut x z := fun z => cut_mn s x z
  have e2 : ∀ z, conv z W t W = cut W z := fun z => cut_mn t W z
  have e3 : ∀ z, conv z W t x = cut x z := fun z => cut_mn_le hx hW h t z
  have e4 : ∀ z, cut W (conv z x s W) = conv z x s W := fun z => cut_cut W _
  have e5 : ∀ z, cut x (conv z x s W) = cut x z := fun z => by unfold conv; rw [cut_le hx hW h, cut_mn]
  rw [e1, e1, e2, e2, e3, e4, e4]
  have u1 : U (conv a x s W) := u_conv hW
  have u2 : U (conv b x s W) := u_conv hW
  rcases hk with rfl | rfl | rfl | rfl | rfl | rfl
  · show cut x (cut W (conv a x s W * conv b x s W)) = cut x (cut x a * cut x b)
    rw [cut_le hx hW h, ← cut_mul x (conv a x s W), e5, e5]
  · show cut x (cut W (conv a x s W + conv b x s W)) = cut x (cut x a + cut x b)
    rw [cut_le hx hW h, ← cut_add x (conv a x s W), e5, e5]
  · show cut x (cut W (conv a x s W - conv b x s W)) = cut x (cut x a - cut x b)
    rw [cut_le hx hW h, ← cut_sub x (conv a x s W), e5, e5]
  · show cut x (bits .and .u64 _ _) = bits .and .u64 _ _
    rw [cut_and x u1 u2, e5, e5]
  · show cut x (bits .xor .u64 _ _) = bits .xor .u64 _ _
    rw [cut_xor x u1 u2, e5, e5]
  · show cut x (bits .or .u64 _ _) = bits .or .u64 _ _
    rw [cut_or x u1 u2, e5, e5]
end Go.Proofs.YtaidefdbjcgcbaaGreat

/-
  Types of numbers: the type of a number that is written in a text.
-/
namespace Go.Proofs.YtaidefdbjcgcbaaGreat
open Go.RowKit
set_option linter.unusedSimpArgs false
set_option linter.unusedVariables false

/-- The greatest number of a type. -/
def gr (b : Int) (s : Bool) : Int := if s = true then 2 ^ (b - 1).toNat - 1 else 2 ^ b.toNat - 1
theorem greatest_any (b : Int) (s : Bool) (w : World) (h : b = 16 ∨ b = 32 ∨ b = 64) : Calls Tryz.prog 183 #[.agg #[.int .i64 b, .bool s]] w fun e w' => e = .returned (.int .u64 (gr b s)) ∧ Below w.heap.size w w' := by
  rcases h with rfl | rfl | rfl <;> cases s
  all_goals
    go_enter Tryz.func183, Tryz.ntmps183
    go_wp2
    go_ret
    exact ⟨by kernel_rfl, below_a _ _⟩

def lit (n : Int) (u : Bool) : Int × Bool × Int := if n ≤ gr 16 (!u) then (16, !u, 0) else if n ≤ gr 32 (!u) then (32, !u, 0) else if n ≤ gr 64 (!u) then (64, !u, 0) else (0, false, 3)
set_option maxRecDepth 100000 in
set_option maxHeartbeats 4000000 in
theorem literal_any (n : Int) (u : Bool) (w : World) : Calls Tryz.prog 168 #[.int .u64 n, .bool u] w fun e w' => e = .returned (.tuple #[.agg #[.int .i64 (lit n u).1, .bool (lit n u).2.1], .int .i64 (lit n u).2.2]) ∧ Below w.heap.size w w' := by
  have HG16 := hide (fun (w : World) => greatest_any 16 (!u) w (.inl rfl))
  have HG32 := hide (fun (w : World) => greatest_any 32 (!u) w (.inr (.inl rfl)))
  have HG64 := hide (fun (w : World) => greatest_any 64 (!u) w (.inr (.inr rfl)))
  have HL : Hid (lit n u = if n ≤ gr 16 (!u) then (16, !u, 0) else if n ≤ gr 32 (!u) then (32, !u, 0) else if n ≤ gr 64 (!u) then (64, !u, 0) else (0, false, 3)) := rfl
  generalize lit n u = LI at *
  generalize gr 16 (!u) = g16 at *
  generalize gr 32 (!u) = g32 at *
  generalize gr 64 (!u) = g64 at *
  obtain ⟨LB, LS, LE⟩ := LI
  simp only
  go_enter Tryz.func168, Tryz.ntmps168
  go_wp2_with fail
  have I0 := hide (And.intro (below_a w (.cells #[.int .i64 0, .bool false] 34)) (Box.new w #[.int .i64 0, .bool false] 34))
  generalize w.alloc (.cells #[.int .i64 0, .bool false] 34) = wa at *
  go_loopg [6] 3 (fun g t wr => ∃ i : Nat, i ≤ 3 ∧ g = 3 - i ∧ t = .int .i64 ([16, 32, 64, 128].getD i 0) ∧ Hid (Below w.heap.size w wr ∧ Box wr w.heap.size [.int .i64 0, .bool false]) ∧ Hid ((1 ≤ i → ¬ n ≤ g16) ∧ (2 ≤ i → ¬ n ≤ g32) ∧ (3 ≤ i → ¬ n ≤ g64)))
  case atStart => exact ⟨0, by decide, rfl, rfl, I0, ⟨(fun h => by omega), (fun h => by omega), (fun h => by omega)⟩⟩
  case round =>
    obtain ⟨i, hi, hg, rfl, I, N⟩ := hrel
    clear I0
    have hi5 : i = 0 ∨ i = 1 ∨ i = 2 ∨ i = 3 := by omega
    have lr := (unhide I).2.1
    rcases hi5 with rfl | rfl | rfl | rfl
    · dsimp only [List.getD, List.getElem?_cons_zero, List.getElem?_cons_succ, Option.getD]
      go_wp2_with fail
      refine (unhide HG16 _).mono ?_
      rintro e wt ⟨rfl, kt⟩
      have L := hide (And.intro (bT (unhide I).1 (bT (below_a wr (.cells #[.int .i64 16, .bool (!u)] 34)) kt)) ((unhide I).2.step (bT (below_a wr (.cells #[.int .i64 16, .bool (!u)] 34)) kt)))
      have BT := hide ((Box.new wr #[.int .i64 16, .bool (!u)] 34).step kt)
      generalize wr.heap.size = pt at *
      clear kt
      obtain ⟨t0, t1⟩ := (unhide BT).at2
      obtain ⟨r0, r1⟩ := (unhide L).2.at2
      have rf := (unhide L).2.2.2
      by_cases hz : n ≤ g16
      · have dz : decide (n ≤ g16) = true := by simpa using hz
        unfold Hid at HL
        rw [if_pos hz] at HL
        simp only [Prod.mk.injEq] at HL
        obtain ⟨rfl, rfl, rfl⟩ := HL
        have p0 := (unhide L).2.put0
        have p1 := (unhide L).2.put1
        go_wp2_with fail
        exact bodyPost_ret (v := .tuple #[.agg #[.int .i64 16, .bool (!u)], .int .i64 0]) (by simp [results, Tryz.results168, go_sem, p0, p1]) rfl ⟨rfl, below_2 (unhide L).1 (Nat.le_refl _) _ _⟩
      · have dz : decide (n ≤ g16) = false := by simpa using hz
        have hz' := hide hz
        clear hz
        go_wp2_with fail
        go_roundg 2
        case measure => omega
        case rel => exact ⟨1, by decide, rfl, rfl, L, ⟨(fun _ => unhide hz'), (fun h => by omega), (fun h => by omega)⟩⟩
    · dsimp only [List.getD, List.getElem?_cons_zero, List.getElem?_cons_succ, Option.getD]
      go_wp2_with fail
      refine (unhide HG32 _).mono ?_
      rintro e wt ⟨rfl, kt⟩
      have L := hide (And.intro (bT (unhide I).1 (bT (below_a wr (.cells #[.int .i64 32, .bool (!u)] 34)) kt)) ((unhide I).2.step (bT (below_a wr (.cells #[.int .i64 32, .bool (!u)] 34)) kt)))
      have BT := hide ((Box.new wr #[.int .i64 32, .bool (!u)] 34).step kt)
      generalize wr.heap.size = pt at *
      clear kt
      obtain ⟨t0, t1⟩ := (unhide BT).at2
      obtain ⟨r0, r1⟩ := (unhide L).2.at2
      have rf := (unhide L).2.2.2
      by_cases hz : n ≤ g32
      · have dz : decide (n ≤ g32) = true := by simpa using hz
        unfold Hid at HL
        rw [if_neg (by have := (unhide N).1 (by decide); omega)] at HL
        rw [if_pos hz] at HL
        simp only [Prod.mk.injEq] at HL
        obtain ⟨rfl, rfl, rfl⟩ := HL
        have p0 := (unhide L).2.put0
        have p1 := (unhide L).2.put1
        go_wp2_with fail
        exact bodyPost_ret (v := .tuple #[.agg #[.int .i64 32, .bool (!u)], .int .i64 0]) (by simp [results, Tryz.results168, go_sem, p0, p1]) rfl ⟨rfl, below_2 (unhide L).1 (Nat.le_refl _) _ _⟩
      · have dz : decide (n ≤ g32) = false := by simpa using hz
        have hz' := hide hz
        clear hz
        go_wp2_with fail
        go_roundg 1
        case measure => omega
        case rel => exact ⟨2, by decide, rfl, rfl, L, ⟨(fun _ => (unhide N).1 (by decide)), (fun _ => unhide hz'), (fun h => by omega)⟩⟩
    · dsimp only [List.getD, List.getElem?_cons_zero, List.getElem?_cons_succ, Option.getD]
      go_wp2_with fail
      refine (unhide HG64 _).mono ?_
      rintro e wt ⟨rfl, kt⟩
      have L := hide (And.intro (bT (unhide I).1 (bT (below_a wr (.cells #[.int .i64 64, .bool (!u)] 34)) kt)) ((unhide I).2.step (bT (below_a wr (.cells #[.int .i64 64, .bool (!u)] 34)) kt)))
      have BT := hide ((Box.new wr #[.int .i64 64, .bool (!u)] 34).step kt)
      generalize wr.heap.size = pt at *
      clear kt
      obtain ⟨t0, t1⟩ := (unhide BT).at2
      obtain ⟨r0, r1⟩ := (unhide L).2.at2
      have rf := (unhide L).2.2.2
      by_cases hz : n ≤ g64
      · have dz : decide (n ≤ g64) = true := by simpa using hz
        unfold Hid at HL
        rw [if_neg (by have := (unhide N).1 (by decide); omega)] at HL
        rw [if_neg (by have := (unhide N).2.1 (by decide); omega)] at HL
        rw [if_pos hz] at HL
        simp only [Prod.mk.injEq] at HL
        obtain ⟨rfl, rfl, rfl⟩ := HL
        have p0 := (unhide L).2.put0
        have p1 := (unhide L).2.put1
        go_wp2_with fail
        exact bodyPost_ret (v := .tuple #[.agg #[.int .i64 64, .bool (!u)], .int .i64 0]) (by simp [results, Tryz.results168, go_sem, p0, p1]) rfl ⟨rfl, below_2 (unhide L).1 (Nat.le_refl _) _ _⟩
      · have dz : decide (n ≤ g64) = false := by simpa using hz
        have hz' := hide hz
        clear hz
        go_wp2_with fail
        go_roundg 0
        case measure => omega
        case rel => exact ⟨3, by decide, rfl, rfl, L, ⟨(fun _ => (unhide N).1 (by decide)), (fun _ => (unhide N).2.1 (by decide)), (fun _ => unhide hz')⟩⟩
    · dsimp only [List.getD, List.getElem?_cons_zero, List.getElem?_cons_succ, Option.getD]
      unfold Hid at HL
      rw [if_neg (by have := (unhide N).1 (by decide); omega), if_neg (by have := (unhide N).2.1 (by decide); omega), if_neg (by have := (unhide N).2.2 (by decide); omega)] at HL
      simp only [Prod.mk.injEq] at HL
      obtain ⟨rfl, rfl, rfl⟩ := HL
      obtain ⟨r0, r1⟩ := (unhide I).2.at2
      have rf := (unhide I).2.2.2
      have p0 := (unhide I).2.put0
      have p1 := (unhide I).2.put1
      go_wp2_with fail
      exact bodyPost_ret (v := .tuple #[.agg #[.int .i64 0, .bool false], .int .i64 3]) (by simp [results, Tryz.results168, go_sem, p0, p1]) rfl ⟨rfl, below_2 (unhide I).1 (Nat.le_refl _) _ _⟩
end Go.Proofs.YtaidefdbjcgcbaaGreat

/-
  What is wrong with a program, as plain functions: a fault's number, and how many nodes were counted.
-/
namespace Go.Proofs.YtaidefdbjcgcbaaGreat
open Go.RowKit
set_option linter.unusedSimpArgs false
set_option linter.unusedVariables false

def nodeW (d c : Nat) : Int := if 20000 < c + 1 ∨ 100 < d then 4 else 0
def isWB (b : Int) : Bool := decide (b = 8 ∨ b = 16 ∨ b = 32 ∨ b = 64)
def wName (nm : ByteArray) : Int := if namN nm = true then 0 else 7
def wTyped (b : Int) (nm : ByteArray) : Int := if isWB b = true then wName nm else 9
/-- What is wrong with an expression's own fields. -/
def wExF (k n b : Int) (s : Bool) (nm : ByteArray) : Int :=
  if k = 1 then (if (lit n (!s)).2.2 = 0 ∧ (lit n (!s)).1 = b ∧ (lit n (!s)).2.1 = s then 0 else 9)
  else if k = 2 ∨ k = 3 ∨ k = 4 then wName nm
  else if k = 5 then (if isWB b = true then 0 else 9)
  else 0
def kidLo (k : Int) : Nat := if k = 1 ∨ k = 2 ∨ k = 4 then 0 else if k = 3 ∨ k = 5 ∨ k = 6 ∨ k = 7 ∨ k = 8 then 1 else 2
def kidHi (k : Int) : Nat := if k = 1 ∨ k = 2 then 0 else if k = 4 then 8 else if k = 3 ∨ k = 5 ∨ k = 6 ∨ k = 7 ∨ k = 8 then 1 else 2
mutual
def lkE : Ex → Nat → Nat → Int × Nat
  | .mk k n b s nm kids, d, c =>
    if nodeW d c ≠ 0 then (nodeW d c, c + 1)
    else if k < 1 ∨ 26 < k then (1, c + 1)
    else if wExF k n b s nm ≠ 0 then (wExF k n b s nm, c + 1)
    else if kids.length < kidLo k ∨ kidHi k < kids.length then (5, c + 1)
    else lkEs kids (d + 1) (c + 1)
def lkEs : List Ex → Nat → Nat → Int × Nat
  | [], _, c => (0, c)
  | x :: xs, d, c => if (lkE x d c).1 ≠ 0 then lkE x d c else lkEs xs d (lkE x d c).2
end
/-- What is wrong with a statement's own fields. -/
def wSmF (k b : Int) (nm : ByteArray) : Int := if k = 2 then wTyped b nm else if k = 3 then wName nm else 0
def hasX (k : Int) (has : Bool) : Bool := if k = 3 ∨ k = 4 ∨ k = 5 ∨ k = 6 then true else if k = 2 ∨ k = 8 ∨ k = 7 then has else false
/-- One after the other, up to the first fault. -/
def thn (r : Int × Nat) (f : Nat → Int × Nat) : Int × Nat := if r.1 ≠ 0 then r else f r.2
def isSE (l : List Sm) : Bool := l.all fun s => decide (s.k = 3 ∨ s.k = 4)
mutual
def lkS : Sm → Nat → Nat → Int × Nat
  | .mk k b s nm has x i init step body els, d, c =>
    if nodeW d c ≠ 0 then (nodeW d c, c + 1)
    else if k < 1 ∨ 11 < k then (1, c + 1)
    else if wSmF k b nm ≠ 0 then (wSmF k b nm, c + 1)
    else
      thn (if k = 7 then (if 1 < init.length then (5, c + 1) else if isSE init = true then lkSs init (d + 1) (c + 1) else (8, c + 1)) else (0, c + 1)) fun c =>
      thn (if k = 3 ∧ has = true then lkE i (d + 1) c else (0, c)) fun c =>
      thn (if hasX k has = true then lkE x (d + 1) c else (0, c)) fun c =>
      thn (if k = 7 then (if 1 < step.length then (5, c) else if isSE step = true then lkSs step (d + 1) c else (8, c)) else (0, c)) fun c =>
      if k = 5 then thn (lkSs body (d + 1) c) fun c => lkSs els (d + 1) c
      else if k = 6 ∨ k = 7 ∨ k = 11 then lkSs body (d + 1) c else (0, c)
def lkSs : List Sm → Nat → Nat → Int × Nat
  | [], _, c => (0, c)
  | x :: xs, d, c => if (lkS x d c).1 ≠ 0 then lkS x d c else lkSs xs d (lkS x d c).2
end
/-- A variable of all; a function; a program. -/
structure Gb where
  b : Int
  s : Bool
  nm : ByteArray
  size : Int
  init : List Ex
structure Pm where
  b : Int
  s : Bool
  nm : ByteArray
structure Fn8 where
  nm : ByteArray
  b : Int
  s : Bool
  params : List Pm
  body : List Sm
structure Pg where
  globals : List Gb
  funcs : List Fn8
def lkG (g : Gb) (c : Nat) : Int × Nat :=
  if wTyped g.b g.nm ≠ 0 then (wTyped g.b g.nm, c)
  else if g.size < 0 ∨ 8000 < g.size then (3, c)
  else if (max 1 g.size) < (g.init.length : Int) then (5, c)
  else if nodeW 1 c ≠ 0 then (nodeW 1 c, c + 1)
  else lkEs g.init 2 (c + 1)
def lkPs : List Pm → Int
  | [] => 0
  | p :: ps => if wTyped p.b p.nm ≠ 0 then wTyped p.b p.nm else lkPs ps
def lkF (f : Fn8) (c : Nat) : Int × Nat :=
  if namN f.nm = false then (7, c)
  else if isWB f.b = false ∧ ¬ (f.b = 0 ∧ f.s = false) then (9, c)
  else if 8 < f.params.length then (5, c)
  else if lkPs f.params ≠ 0 then (lkPs f.params, c)
  else if nodeW 1 c ≠ 0 then (nodeW 1 c, c + 1)
  else lkSs f.body 2 (c + 1)
def lkGs : List Gb → Nat → Int × Nat
  | [], c => (0, c)
  | g :: gs, c => thn (lkG g c) (lkGs gs)
def lkFs : List Fn8 → Nat → Int × Nat
  | [], c => (0, c)
  | f :: fs, c => thn (lkF f c) (lkFs fs)
def lkP (p : Pg) : Int × Nat := if 100 < p.funcs.length then (5, 0) else thn (lkGs p.globals 0) (lkFs p.funcs)
end Go.Proofs.YtaidefdbjcgcbaaGreat
