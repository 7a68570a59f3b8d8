/-
  Types of numbers: the type of a number that is written in a text.
-/
import Derived.Test.YtjddpfojllefgaaGreatBigNz
import Derived.Test.YtjddpfojllefgaaGreatTyFz
import Derived.Test.YtjddpfojllefgaaGreatTrA
import Derived.Test.YtjddpfojllefgaaGreatSoC
namespace Go.Proofs.YtjddpfojllefgaaGreat
open Go.RowKit
set_option linter.unusedSimpArgs false
set_option linter.unusedVariables false

/-- The greatest number of a type. -/
def gr (b : Int) (s : Bool) : Int := if s = true then 2 ^ (b - 1).toNat - 1 else 2 ^ b.toNat - 1
theorem greatest_any (b : Int) (s : Bool) (w : World) (h : b = 16 ∨ b = 32 ∨ b = 64) : Calls Tryz.prog 68 #[.agg #[.int .i64 b, .bool s]] w fun e w' => e = .returned (.int .u64 (gr b s)) ∧ Below w.heap.size w w' := by
  rcases h with rfl | rfl | rfl <;> cases s
  all_goals
    go_enter Tryz.func68, Tryz.ntmps68
    go_wp2
    go_ret
    exact ⟨by kernel_rfl, below_a _ _⟩

def lit (n : Int) (u : Bool) : Int × Bool × Int := if n ≤ gr 16 (!u) then (16, !u, 0) else if n ≤ gr 32 (!u) then (32, !u, 0) else if n ≤ gr 64 (!u) then (64, !u, 0) else (0, false, 3)
set_option maxRecDepth 100000 in
set_option maxHeartbeats 4000000 in
theorem literal_any (n : Int) (u : Bool) (w : World) : Calls Tryz.prog 45 #[.int .u64 n, .bool u] w fun e w' => e = .returned (.tuple #[.agg #[.int .i64 (lit n u).1, .bool (lit n u).2.1], .int .i64 (lit n u).2.2]) ∧ Below w.heap.size w w' := by
  have HG16 := hide (fun (w : World) => greatest_any 16 (!u) w (.inl rfl))
  have HG32 := hide (fun (w : World) => greatest_any 32 (!u) w (.inr (.inl rfl)))
  have HG64 := hide (fun (w : World) => greatest_any 64 (!u) w (.inr (.inr rfl)))
  have HL : Hid (lit n u = if n ≤ gr 16 (!u) then (16, !u, 0) else if n ≤ gr 32 (!u) then (32, !u, 0) else if n ≤ gr 64 (!u) then (64, !u, 0) else (0, false, 3)) := rfl
  generalize lit n u = LI at *
  generalize gr 16 (!u) = g16 at *
  generalize gr 32 (!u) = g32 at *
  generalize gr 64 (!u) = g64 at *
  obtain ⟨LB, LS, LE⟩ := LI
  simp only
  go_enter Tryz.func45, Tryz.ntmps45
  go_wp2_with fail
  have I0 := hide (And.intro (below_a w (.cells #[.int .i64 0, .bool false] 24)) (Box.new w #[.int .i64 0, .bool false] 24))
  generalize w.alloc (.cells #[.int .i64 0, .bool false] 24) = wa at *
  go_loopg [6] 3 (fun g t wr => ∃ i : Nat, i ≤ 3 ∧ g = 3 - i ∧ t = .int .i64 ([16, 32, 64, 128].getD i 0) ∧ Hid (Below w.heap.size w wr ∧ Box wr w.heap.size [.int .i64 0, .bool false]) ∧ Hid ((1 ≤ i → ¬ n ≤ g16) ∧ (2 ≤ i → ¬ n ≤ g32) ∧ (3 ≤ i → ¬ n ≤ g64)))
  case atStart => exact ⟨0, by decide, rfl, rfl, I0, ⟨(fun h => by omega), (fun h => by omega), (fun h => by omega)⟩⟩
  case round =>
    obtain ⟨i, hi, hg, rfl, I, N⟩ := hrel
    clear I0
    have hi5 : i = 0 ∨ i = 1 ∨ i = 2 ∨ i = 3 := by omega
    have lr := (unhide I).2.1
    rcases hi5 with rfl | rfl | rfl | rfl
    · dsimp only [List.getD, List.getElem?_cons_zero, List.getElem?_cons_succ, Option.getD]
      go_wp2_with fail
      refine (unhide HG16 _).mono ?_
      rintro e wt ⟨rfl, kt⟩
      have L := hide (And.intro (bT (unhide I).1 (bT (below_a wr (.cells #[.int .i64 16, .bool (!u)] 24)) kt)) ((unhide I).2.step (bT (below_a wr (.cells #[.int .i64 16, .bool (!u)] 24)) kt)))
      have BT := hide ((Box.new wr #[.int .i64 16, .bool (!u)] 24).step kt)
      generalize wr.heap.size = pt at *
      clear kt
      obtain ⟨t0, t1⟩ := (unhide BT).at2
      obtain ⟨r0, r1⟩ := (unhide L).2.at2
      have rf := (unhide L).2.2.2
      by_cases hz : n ≤ g16
      · have dz : decide (n ≤ g16) = true := by simpa using hz
        unfold Hid at HL
        rw [if_pos hz] at HL
        simp only [Prod.mk.injEq] at HL
        obtain ⟨rfl, rfl, rfl⟩ := HL
        have p0 := (unhide L).2.put0
        have p1 := (unhide L).2.put1
        go_wp2_with fail
        exact bodyPost_ret (v := .tuple #[.agg #[.int .i64 16, .bool (!u)], .int .i64 0]) (by simp [results, Tryz.results45, go_sem, p0, p1]) rfl ⟨rfl, below_2 (unhide L).1 (Nat.le_refl _) _ _⟩
      · have dz : decide (n ≤ g16) = false := by simpa using hz
        have hz' := hide hz
        clear hz
        go_wp2_with fail
        go_roundg 2
        case measure => omega
        case rel => exact ⟨1, by decide, rfl, rfl, L, ⟨(fun _ => unhide hz'), (fun h => by omega), (fun h => by omega)⟩⟩
    · dsimp only [List.getD, List.getElem?_cons_zero, List.getElem?_cons_succ, Option.getD]
      go_wp2_with fail
      refine (unhide HG32 _).mono ?_
      rintro e wt ⟨rfl, kt⟩
      have L := hide (And.intro (bT (unhide I).1 (bT (below_a wr (.cells #[.int .i64 32, .bool (!u)] 24)) kt)) ((unhide I).2.step (bT (below_a wr (.cells #[.int .i64 32, .bool (!u)] 24)) kt)))
      have BT := hide ((Box.new wr #[.int .i64 32, .bool (!u)] 24).step kt)
      generalize wr.heap.size = pt at *
      clear kt
      obtain ⟨t0, t1⟩ := (unhide BT).at2
      obtain ⟨r0, r1⟩ := (unhide L).2.at2
      have rf := (unhide L).2.2.2
      by_cases hz : n ≤ g32
      · have dz : decide (n ≤ g32) = true := by simpa using hz
        unfold Hid at HL
        rw [if_neg (by have := (unhide N).1 (by decide); omega)] at HL
        rw [if_pos hz] at HL
        simp only [Prod.mk.injEq] at HL
        obtain ⟨rfl, rfl, rfl⟩ := HL
        have p0 := (unhide L).2.put0
        have p1 := (unhide L).2.put1
        go_wp2_with fail
        exact bodyPost_ret (v := .tuple #[.agg #[.int .i64 32, .bool (!u)], .int .i64 0]) (by simp [results, Tryz.results45, go_sem, p0, p1]) rfl ⟨rfl, below_2 (unhide L).1 (Nat.le_refl _) _ _⟩
      · have dz : decide (n ≤ g32) = false := by simpa using hz
        have hz' := hide hz
        clear hz
        go_wp2_with fail
        go_roundg 1
        case measure => omega
        case rel => exact ⟨2, by decide, rfl, rfl, L, ⟨(fun _ => (unhide N).1 (by decide)), (fun _ => unhide hz'), (fun h => by omega)⟩⟩
    · dsimp only [List.getD, List.getElem?_cons_zero, List.getElem?_cons_succ, Option.getD]
      go_wp2_with fail
      refine (unhide HG64 _).mono ?_
      rintro e wt ⟨rfl, kt⟩
      have L := hide (And.intro (bT (unhide I).1 (bT (below_a wr (.cells #[.int .i64 64, .bool (!u)] 24)) kt)) ((unhide I).2.step (bT (below_a wr (.cells #[.int .i64 64, .bool (!u)] 24)) kt)))
      have BT := hide ((Box.new wr #[.int .i64 64, .bool (!u)] 24).step kt)
      generalize wr.heap.size = pt at *
      clear kt
      obtain ⟨t0, t1⟩ := (unhide BT).at2
      obtain ⟨r0, r1⟩ := (unhide L).2.at2
      have rf := (unhide L).2.2.2
      by_cases hz : n ≤ g64
      · have dz : decide (n ≤ g64) = true := by simpa using hz
        unfold Hid at HL
        rw [if_neg (by have := (unhide N).1 (by decide); omega)] at HL
        rw [if_neg (by have := (unhide N).2.1 (by decide); omega)] at HL
        rw [if_pos hz] at HL
        simp only [Prod.mk.injEq] at HL
        obtain ⟨rfl, rfl, rfl⟩ := HL
        have p0 := (unhide L).2.put0
        have p1 := (unhide L).2.put1
        go_wp2_with fail
        exact bodyPost_ret (v := .tuple #[.agg #[.int .i64 64, .bool (!u)], .int .i64 0]) (by simp [results, Tryz.results45, go_sem, p0, p1]) rfl ⟨rfl, below_2 (unhide L).1 (Nat.le_refl _) _ _⟩
      · have dz : decide (n ≤ g64) = false := by simpa using hz
        have hz' := hide hz
        clear hz
        go_wp2_with fail
        go_roundg 0
        case measure => omega
        case rel => exact ⟨3, by decide, rfl, rfl, L, ⟨(fun _ => (unhide N).1 (by decide)), (fun _ => (unhide N).2.1 (by decide)), (fun _ => unhide hz')⟩⟩
    · dsimp only [List.getD, List.getElem?_cons_zero, List.getElem?_cons_succ, Option.getD]
      unfold Hid at HL
      rw [if_neg (by have := (unhide N).1 (by decide); omega), if_neg (by have := (unhide N).2.1 (by decide); omega), if_neg (by have := (unhide N).2.2 (by decide); omega)] at HL
      simp only [Prod.mk.injEq] at HL
      obtain ⟨rfl, rfl, rfl⟩ := HL
      obtain ⟨r0, r1⟩ := (unhide I).2.at2
      have rf := (unhide I).2.2.2
      have p0 := (unhide I).2.put0
      have p1 := (unhide I).2.put1
      go_wp2_with fail
      exact bodyPost_ret (v := .tuple #[.agg #[.int .i64 0, .bool false], .int .i64 3]) (by simp [results, Tryz.results45, go_sem, p0, p1]) rfl ⟨rfl, below_2 (unhide I).1 (Nat.le_refl _) _ _⟩
end Go.Proofs.YtjddpfojllefgaaGreat

/-
  What is wrong with a program, as plain functions: a fault's number, and how many nodes were counted.
-/
namespace Go.Proofs.YtjddpfojllefgaaGreat
open Go.RowKit
set_option linter.unusedSimpArgs false
set_option linter.unusedVariables false

def nodeW (d c : Nat) : Int := if 20000 < c + 1 ∨ 100 < d then 4 else 0
def isWB (b : Int) : Bool := decide (b = 8 ∨ b = 16 ∨ b = 32 ∨ b = 64)
def wName (nm : ByteArray) : Int := if namN nm = true then 0 else 7
def wTyped (b : Int) (nm : ByteArray) : Int := if isWB b = true then wName nm else 9
/-- What is wrong with an expression's own fields. -/
def wExF (k n b : Int) (s : Bool) (nm : ByteArray) : Int :=
  if k = 1 then (if (lit n (!s)).2.2 = 0 ∧ (lit n (!s)).1 = b ∧ (lit n (!s)).2.1 = s then 0 else 9)
  else if k = 2 ∨ k = 3 ∨ k = 4 then wName nm
  else if k = 5 then (if isWB b = true then 0 else 9)
  else 0
def kidLo (k : Int) : Nat := if k = 1 ∨ k = 2 ∨ k = 4 then 0 else if k = 3 ∨ k = 5 ∨ k = 6 ∨ k = 7 ∨ k = 8 then 1 else 2
def kidHi (k : Int) : Nat := if k = 1 ∨ k = 2 then 0 else if k = 4 then 8 else if k = 3 ∨ k = 5 ∨ k = 6 ∨ k = 7 ∨ k = 8 then 1 else 2
mutual
def lkE : Ex → Nat → Nat → Int × Nat
  | .mk k n b s nm kids, d, c =>
    if nodeW d c ≠ 0 then (nodeW d c, c + 1)
    else if k < 1 ∨ 26 < k then (1, c + 1)
    else if wExF k n b s nm ≠ 0 then (wExF k n b s nm, c + 1)
    else if kids.length < kidLo k ∨ kidHi k < kids.length then (5, c + 1)
    else lkEs kids (d + 1) (c + 1)
def lkEs : List Ex → Nat → Nat → Int × Nat
  | [], _, c => (0, c)
  | x :: xs, d, c => if (lkE x d c).1 ≠ 0 then lkE x d c else lkEs xs d (lkE x d c).2
end
/-- What is wrong with a statement's own fields. -/
def wSmF (k b : Int) (nm : ByteArray) : Int := if k = 2 then wTyped b nm else if k = 3 then wName nm else 0
def hasX (k : Int) (has : Bool) : Bool := if k = 3 ∨ k = 4 ∨ k = 5 ∨ k = 6 then true else if k = 2 ∨ k = 8 ∨ k = 7 then has else false
/-- One after the other, up to the first fault. -/
def thn (r : Int × Nat) (f : Nat → Int × Nat) : Int × Nat := if r.1 ≠ 0 then r else f r.2
def isSE (l : List Sm) : Bool := l.all fun s => decide (s.k = 3 ∨ s.k = 4)
mutual
def lkS : Sm → Nat → Nat → Int × Nat
  | .mk k b s nm has x i init step body els, d, c =>
    if nodeW d c ≠ 0 then (nodeW d c, c + 1)
    else if k < 1 ∨ 11 < k then (1, c + 1)
    else if wSmF k b nm ≠ 0 then (wSmF k b nm, c + 1)
    else
      thn (if k = 7 then (if 1 < init.length then (5, c + 1) else if isSE init = true then lkSs init (d + 1) (c + 1) else (8, c + 1)) else (0, c + 1)) fun c =>
      thn (if k = 3 ∧ has = true then lkE i (d + 1) c else (0, c)) fun c =>
      thn (if hasX k has = true then lkE x (d + 1) c else (0, c)) fun c =>
      thn (if k = 7 then (if 1 < step.length then (5, c) else if isSE step = true then lkSs step (d + 1) c else (8, c)) else (0, c)) fun c =>
      if k = 5 then thn (lkSs body (d + 1) c) fun c => lkSs els (d + 1) c
      else if k = 6 ∨ k = 7 ∨ k = 11 then lkSs body (d + 1) c else (0, c)
def lkSs : List Sm → Nat → Nat → Int × Nat
  | [], _, c => (0, c)
  | x :: xs, d, c => if (lkS x d c).1 ≠ 0 then lkS x d c else lkSs xs d (lkS x d c).2
end
/-- A variable of all; a function; a program. -/
structure Gb where
  b : Int
  s : Bool
  nm : ByteArray
  size : Int
  init : List Ex
structure Pm where
  b : Int
  s : Bool
  nm : ByteArray
structure Fn8 where
  nm : ByteArray
  b : Int
  s : Bool
  params : List Pm
  body : List Sm
structure Pg where
  globals : List Gb
  funcs : List Fn8
def lkG (g : Gb) (c : Nat) : Int × Nat :=
  if wTyped g.b g.nm ≠ 0 then (wTyped g.b g.nm, c)
  else if g.size < 0 ∨ 8000 < g.size then (3, c)
  else if (max 1 g.size) < (g.init.length : Int) then (5, c)
  else if nodeW 1 c ≠ 0 then (nodeW 1 c, c + 1)
  else lkEs g.init 2 (c + 1)
def lkPs : List Pm → Int
  | [] => 0
  | p :: ps => if wTyped p.b p.nm ≠ 0 then wTyped p.b p.nm else lkPs ps
def lkF (f : Fn8) (c : Nat) : Int × Nat :=
  if namN f.nm = false then (7, c)
  else if isWB f.b = false ∧ ¬ (f.b = 0 ∧ f.s = false) then (9, c)
  else if 8 < f.params.length then (5, c)
  else if lkPs f.params ≠ 0 then (lkPs f.params, c)
  else if nodeW 1 c ≠ 0 then (nodeW 1 c, c + 1)
  else lkSs f.body 2 (c + 1)
def lkGs : List Gb → Nat → Int × Nat
  | [], c => (0, c)
  | g :: gs, c => thn (lkG g c) (lkGs gs)
def lkFs : List Fn8 → Nat → Int × Nat
  | [], c => (0, c)
  | f :: fs, c => thn (lkF f c) (lkFs fs)
def lkP (p : Pg) : Int × Nat := if 100 < p.funcs.length then (5, 0) else thn (lkGs p.globals 0) (lkFs p.funcs)
end Go.Proofs.YtjddpfojllefgaaGreat

/-
  One block may turn; trees stay.
-/
namespace Go.Proofs.YtjddpfojllefgaaGreat
open Go.RowKit
set_option linter.unusedSimpArgs false
set_option linter.unusedVariables false

/-- All blocks but b are as they were. -/
structure Kb (b : Nat) (w w' : World) : Prop where
  os : w'.os = w.os
  tape : w'.tape = w.tape
  output : w'.output = w.output
  size : w.heap.size ≤ w'.heap.size
  block : ∀ k, k < w.heap.size → k ≠ b → w'.heap[k]? = w.heap[k]?
theorem Kb.refl (b : Nat) (w : World) : Kb b w w := ⟨rfl, rfl, rfl, Nat.le_refl _, fun _ _ _ => rfl⟩
theorem Kb.of {b : Nat} {w w' : World} (h : Below w.heap.size w w') : Kb b w w' := ⟨h.os, h.tape, h.output, h.size, fun k hk _ => h.block k hk⟩
theorem Kb.trans {b : Nat} {u v w : World} (h : Kb b u v) (k : Kb b v w) : Kb b u w :=
  ⟨k.os.trans h.os, k.tape.trans h.tape, k.output.trans h.output, Nat.le_trans h.size k.size, fun n hn hb => by rw [k.block n (Nat.lt_of_lt_of_le hn h.size) hb, h.block n hn hb]⟩
/-- A block of the callee's own, made since, is no matter. -/
theorem Kb.drop {b c : Nat} {u v w : World} (h : Kb b u v) (k : Kb c v w) (hc : u.heap.size ≤ c) : Kb b u w :=
  ⟨k.os.trans h.os, k.tape.trans h.tape, k.output.trans h.output, Nat.le_trans h.size k.size, fun n hn hb => by rw [k.block n (Nat.lt_of_lt_of_le hn h.size) (by omega), h.block n hn hb]⟩
theorem Kb.below {b B : Nat} {w w' : World} (h : Kb b w w') (hB : B ≤ w.heap.size) (hb : B ≤ b) : Below B w w' := ⟨h.os, h.tape, h.output, h.size, fun k hk => h.block k (by omega) (by omega)⟩
theorem Kb.cell {b : Nat} {w w' : World} (h : Kb b w w') {k o : Nat} (hk : k < w.heap.size) (hb : k ≠ b) : w'.cell? ⟨k, o, none⟩ = w.cell? ⟨k, o, none⟩ := by unfold World.cell?; rw [h.block k hk hb]
theorem Kb.frozen {b : Nat} {w w' : World} (h : Kb b w w') {k o : Nat} (hk : k < w.heap.size) (hb : k ≠ b) : w'.frozen? ⟨k, o, none⟩ = w.frozen? ⟨k, o, none⟩ := by unfold World.frozen?; rw [h.block k hk hb]
theorem Box.kb {b k : Nat} {w w' : World} {cs : List Value} (h : Box w k cs) (q : Kb b w w') (hb : k ≠ b) : Box w' k cs :=
  ⟨Nat.lt_of_lt_of_le h.1 q.size, fun j u hu => by rw [q.cell h.1 hb]; exact h.2.1 j u hu, fun j => by rw [q.frozen h.1 hb]; exact h.2.2 j⟩
theorem Kb.setCell {b : Nat} (w : World) {j : Nat} (v : Value) : Kb b w (w.setCell ⟨b, j, none⟩ v) :=
  ⟨rfl, rfl, rfl, by simp, fun k _ hk => by simp [World.setCell, Array.getElem?_modify, Ne.symm hk]⟩
theorem Kb.drew {b : Nat} {u v : World} (h : Kb b u v) : Kb b u v.drew := ⟨h.os, h.tape, h.output, h.size, h.block⟩
theorem Kb.drewN {b : Nat} {u v : World} (h : Kb b u v) (n : Nat) : Kb b u (v.drewN n) := ⟨h.os, h.tape, h.output, h.size, h.block⟩
/-- What a call that counts leaves: the counter, and all else. -/
structure Ctd (w w' : World) (lb c : Nat) : Prop where
  box : Box w' lb [.int .i64 (c : Int)]
  kb : Kb lb w w'
theorem Ctd.trans {u v w : World} {lb c d : Nat} (h : Ctd u v lb c) (k : Ctd v w lb d) : Ctd u w lb d := ⟨k.box, h.kb.trans k.kb⟩
theorem Ctd.of {w w' : World} {lb c : Nat} (h : Box w lb [.int .i64 (c : Int)]) (k : Below w.heap.size w w') : Ctd w w' lb c := ⟨h.step k, Kb.of k⟩
end Go.Proofs.YtjddpfojllefgaaGreat
