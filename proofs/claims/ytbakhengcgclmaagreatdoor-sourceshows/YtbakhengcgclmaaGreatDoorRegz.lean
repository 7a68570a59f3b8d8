/-
  A region that draws its order: what reads what nothing of it writes may be taken first, whatever else is there.
-/
import Derived.WalkKit
import Derived.Laws.Rows
import Derived.StillTailTactics
import Derived.OrdersHeld
import Derived.Test.YtbakhengcgclmaaGreatDoorRows
import Derived.WalkSpells
import Derived.WalkLawsBesides
import Derived.Test.YtbakhengcgclmaaGreatDoorChecked
import Derived.Test.YtbakhengcgclmaaGreatDoorMemz
namespace Go.Proofs.YtbakhengcgclmaaGreatDoor
open Go.RowKit
set_option linter.unusedSimpArgs false
set_option linter.unusedVariables false

section
variable {P : Program} {ops : Array Oper} {Q : Exit → Act → World → Prop} {md : Region.Mode} {C : World → Prop}

/-- Whatever order is picked, the world is always of a class (the library's wpAnyH, with the world at hand). -/
def wpAnyC (P : Program) (md : Region.Mode) (ops : Array Oper) (Q : Exit → Act → World → Prop) (C : World → Prop) (fuel : Nat) (listed : Array Bool) (a : Act) (w : World) : Prop := C w ∧ wpAnyH P md ops Q C fuel listed a w
theorem wpAny_of_C (fuel : Nat) (listed : Array Bool) (a : Act) (w : World) (h : wpAnyC P md ops Q C fuel listed a w) : wpAny P md ops Q fuel listed a w := wpAny_of_held _ _ _ _ h.2
theorem wpAnyC_first {i : Nat} {oi : Oper} {v : Value} (hi : ops[i]? = some oi) (hs : Region.noSelect ops = true) (hQ : ∀ d v c a w, Q (.panic c) (Act.put a d v) w → Q (.panic c) a w) {fuel : Nat} {listed : Array Bool} {a : Act} {w : World}
    (hf : Region.free md ops listed i = true) (hr : (Region.ready md ops listed).contains i = true) (hy : YieldsIf P ops C oi v a) (h : wpAnyC P md ops Q C fuel (listed.setIfInBounds i true) (a.put oi.dst v) w) : wpAnyC P md ops Q C (fuel + 1) listed a w :=
  ⟨h.1, wpAnyH_take hi hs hf hr (fun _ _ _ h => hQ _ _ _ _ _ h) hy h.1 h.2⟩

/-- A walk over what yields one value in every world of the class. -/
def steady (P : Program) (o : Oper) (a : Act) (C : World → Prop) (next : Act → Prop) : Prop := ∃ v, (∀ w, C w → (execOp a.eval o).run P w = .ok (.value v) w) ∧ next (a.put o.dst v)
def wpSteady (P : Program) (ops : Array Oper) (C : World → Prop) (R : Act → Prop) : List Oper → Act → Prop
  | [], a => R a
  | o :: rest, a => if Region.wanted o (yielded ops a.tmps) then steady P o a C (wpSteady P ops C R rest) else wpSteady P ops C R rest (a.put o.dst undef)
theorem wpSteady_nil {R : Act → Prop} {a : Act} (h : R a) : wpSteady P ops C R [] a := h
theorem wpSteady_step {R : Act → Prop} {a : Act} {o : Oper} {rest : List Oper} (h : ∀ K : Act → Prop, (∀ a, wpSteady P ops C R rest a → K a) → if Region.wanted o (yielded ops a.tmps) then steady P o a C K else K (a.put o.dst undef)) : wpSteady P ops C R (o :: rest) a :=
  h _ (fun _ h => h)
theorem steady_of {o : Oper} {a : Act} {K : Act → Prop} (v : Value) (h : ∀ w, C w → (execOp a.eval o).run P w = .ok (.value v) w) (hk : K (a.put o.dst v)) : steady P o a C K := ⟨v, h, hk⟩
theorem steady_load_row {R : Act → Prop} {a : Act} {o : Oper} {rest : List Oper} (hw : Region.wanted o (yielded ops a.tmps) = true) (ty : TypeId) (x : Operand) (ho : o.op = .load ty x) (g : Nat) (hx : a.eval x = .pointer (some ⟨g, 0, none⟩)) (t : TypeId) (cs : Array Value) (fr : Nat × Nat) (d : TypeDesc)
    (hg : ∀ w, C w → w.heap[g]? = some (.cells cs t fr)) (hu : P.underlying ty = some d) (hd : (match d with | .struct _ | .array _ _ => true | _ => false) = true) (hi : (P.info? ty).map (·.size) = some cs.size)
    (h : wpSteady P ops C R rest (a.put o.dst (.agg cs))) : wpSteady P ops C R (o :: rest) a := by
  unfold wpSteady
  rw [if_pos hw]
  refine ⟨.agg cs, fun w hC => ?_, h⟩
  unfold execOp
  simp only [ho, hx, Instr.loadAt, Instr.sureAddr, Sem.run_bind, Sem.run_pure, Result.andThen_ok, run_loadVar_row w g t ty cs fr d (hg w hC) hu hd hi]
def segB (md : Region.Mode) (ops : Array Oper) : Nat → Nat → Array Bool → Bool
  | 0, _, _ => true
  | n + 1, k, listed => (Region.ready md ops listed).contains k && Region.free md ops listed k && segB md ops n (k + 1) (listed.setIfInBounds k true)
def segL : Nat → Nat → Array Bool → Array Bool
  | 0, _, listed => listed
  | n + 1, k, listed => segL n (k + 1) (listed.setIfInBounds k true)
theorem seg_any (hs : Region.noSelect ops = true) (hQ : ∀ d v c a w, Q (.panic c) (Act.put a d v) w → Q (.panic c) a w) (f : Nat) (w : World) : ∀ (l : List Oper) (k : Nat) (listed : Array Bool) (a : Act), (∀ j, j < l.length → l[j]? = ops[k + j]?) →
    segB md ops l.length k listed = true → wpSteady P ops C (fun a' => wpAnyC P md ops Q C f (segL l.length k listed) a' w) l a → wpAnyC P md ops Q C (l.length + f) listed a w
  | [], k, listed, a, _, _, h => by rw [List.length_nil, Nat.zero_add]; exact h
  | o :: l, k, listed, a, hl, hB, h => by
    have h0 : ops[k]? = some o := by simpa using (hl 0 (by simp)).symm
    simp only [List.length_cons, segB, Bool.and_eq_true] at hB
    obtain ⟨⟨hr, hf⟩, hB'⟩ := hB
    have IH := fun a' h' => seg_any hs hQ f w l (k + 1) (listed.setIfInBounds k true) a' (fun j hj => by have := hl (j + 1) (by simp; omega); simpa [Nat.add_assoc, Nat.add_comm 1 j] using this) hB' h'
    rw [List.length_cons, show l.length + 1 + f = (l.length + f) + 1 by omega]
    unfold wpSteady at h
    by_cases hw : Region.wanted o (yielded ops a.tmps) = true
    · rw [if_pos hw] at h
      obtain ⟨v, hv, hn⟩ := h
      exact wpAnyC_first h0 hs hQ hf hr (.inl ⟨hw, hv⟩) (IH _ hn)
    · rw [if_neg hw] at h
      exact wpAnyC_first h0 hs hQ hf hr (.inr ⟨by simpa using hw, rfl⟩) (IH _ h)
end

/-- A piece of the region that reads what nothing else writes: taken first. -/
theorem reg_seg {P : Program} {Q : Exit → Act → World → Prop} {C : World → Prop} {L : List Oper} (k n f : Nat) {fuel : Nat} {listed : Array Bool} {a : Act} {w : World} (hf : fuel = n + f) (hn : k + n ≤ L.length) (hs : Region.noSelect L.toArray = true) (hB : segB .any L.toArray n k listed = true)
    (hQ : ∀ d v c a w, Q (.panic c) (Act.put a d v) w → Q (.panic c) a w) (h : wpSteady P L.toArray C (fun a' => wpAnyC P .any L.toArray Q C f (segL n k listed) a' w) ((L.drop k).take n) a) : wpAnyC P .any L.toArray Q C fuel listed a w := by
  subst hf
  have hl : ((L.drop k).take n).length = n := by rw [List.length_take, List.length_drop]; omega
  have := seg_any (P := P) (md := .any) (ops := L.toArray) (C := C) hs hQ f w ((L.drop k).take n) k listed a (fun j hj => by
    rw [hl] at hj
    rw [List.getElem?_take, if_pos hj, List.getElem?_drop, List.getElem?_toArray]) (by rw [hl]; exact hB) (by rw [hl]; exact h)
  rw [hl] at this
  exact this
theorem wp_turn {P : Program} {Q Q' : Exit → Act → World → Prop} {K : Act → World → Prop} {o : Oper} {a : Act} {w : World} (hp : ∀ c a w, Q' (.panic c) a w → Q (.panic c) a w) (ho : ∀ a w, Q' .outgrown a w → Q .outgrown a w) (h : o.wp P a w K Q') : o.wp P a w K Q := by
  unfold Oper.wp at *
  have hl : LetsOut Q' → LetsOut Q := fun ⟨a, w, h⟩ => ⟨a, w, ho a w h⟩
  generalize (execOp a.eval o).run P w = r at *
  cases r with
  | ok n w' =>
    cases n <;> simp only [Oper.upon] at h ⊢ <;>
      first
        | exact h
        | exact Calls.mono h (fun e w'' he => by cases e <;> first | exact he | exact hp _ _ _ he | exact hl he)
  | halt x w' => cases x <;> simp only [Oper.upon] at h ⊢ <;> first | exact h | exact hp _ _ _ h
/-- What comes next, and all other ways out. -/
def nextQ (Q : Exit → Act → World → Prop) (K : Act → World → Prop) : Exit → Act → World → Prop
  | .normal, a, w => K a w
  | e, a, w => Q e a w
theorem next_nil {P : Program} {ops : Array Oper} {Q : Exit → Act → World → Prop} {md : Region.Mode} {C : World → Prop} {f : Nat} {listed : Array Bool} {a : Act} {w : World} (h : wpAnyC P md ops Q C f listed a w) : wpList P ops (nextQ Q (wpAnyC P md ops Q C f listed)) [] a w := h
theorem next_go {P : Program} {ops : Array Oper} {Q : Exit → Act → World → Prop} {md : Region.Mode} {C : World → Prop} {f : Nat} {listed : Array Bool} {a : Act} {w : World} (h : wpAnyC P md ops Q C f listed a w) : nextQ Q (wpAnyC P md ops Q C f listed) .normal a w := h
/-- The one operation that may come up. -/
theorem reg_one {P : Program} {Q : Exit → Act → World → Prop} {C : World → Prop} {L : List Oper} (i f : Nat) {fuel : Nat} {listed : Array Bool} {a : Act} {w : World} (hf : fuel = f + 1) (hr : Region.ready .any L.toArray listed = [i]) (hC : C w)
    (h : wpList P L.toArray (nextQ Q (wpAnyC P .any L.toArray Q C f (listed.setIfInBounds i true))) ((L.drop i).take 1) a w) : wpAnyC P .any L.toArray Q C fuel listed a w := by
  subst hf
  refine ⟨hC, fun h0 => (by rw [hr] at h0; cases h0), fun j hj => ?_⟩
  rw [hr] at hj
  have hji : j = i := by simpa using hj
  subst hji
  have hm : j ∈ Region.ready .any L.toArray listed := by rw [hr]; simp
  obtain ⟨_, o, ho, _⟩ := mem_ready.1 hm
  have ho' : L[j]? = some o := by simpa using ho
  have hd : (L.drop j).take 1 = [o] := by
    obtain ⟨hlt, e⟩ := List.getElem?_eq_some_iff.1 ho'
    rw [List.drop_eq_getElem_cons hlt, e]; rfl
  rw [hd] at h
  unfold wpOp
  simp only [ho]
  unfold wpList at h
  split
  · rename_i hw
    rw [if_pos hw] at h
    rcases h with h | ⟨h1, ⟨a', w', h2⟩⟩
    · exact .inl (wp_turn (fun _ _ _ h => h) (fun _ _ h => h) h)
    · exact .inr ⟨h1, a', w', h2⟩
  · rename_i hw
    rw [if_neg hw] at h
    exact h
/-- Two ways that meet. -/
theorem reg_meet {G R : Value → Value → Nat → World → Prop} {p : Prop} (h1 : (∀ vo vm g W, R vo vm g W → G vo vm g W) → p) (h2 : ∀ vo vm g W, R vo vm g W → G vo vm g W) : p := h1 h2
/-- Two operations that may come up. -/
theorem reg_two {P : Program} {Q : Exit → Act → World → Prop} {C : World → Prop} {L : List Oper} (i j f : Nat) {fuel : Nat} {listed : Array Bool} {a : Act} {w : World} (hf : fuel = f + 1) (hr : Region.ready .any L.toArray listed = [i, j]) (hC : C w)
    (h1 : wpList P L.toArray (nextQ Q (wpAnyC P .any L.toArray Q C f (listed.setIfInBounds i true))) ((L.drop i).take 1) a w)
    (h2 : wpList P L.toArray (nextQ Q (wpAnyC P .any L.toArray Q C f (listed.setIfInBounds j true))) ((L.drop j).take 1) a w) : wpAnyC P .any L.toArray Q C fuel listed a w := by
  subst hf
  refine ⟨hC, fun h0 => (by rw [hr] at h0; cases h0), fun k hk => ?_⟩
  have hm := hk
  rw [hr] at hk
  obtain ⟨_, o, ho, _⟩ := mem_ready.1 hm
  have ho' : L[k]? = some o := by simpa using ho
  have hd : (L.drop k).take 1 = [o] := by
    obtain ⟨hlt, e⟩ := List.getElem?_eq_some_iff.1 ho'
    rw [List.drop_eq_getElem_cons hlt, e]; rfl
  have h : wpList P L.toArray (nextQ Q (wpAnyC P .any L.toArray Q C f (listed.setIfInBounds k true))) [o] a w := by
    rw [← hd]
    simp only [List.mem_cons, List.not_mem_nil, or_false] at hk
    rcases hk with rfl | rfl
    · exact h1
    · exact h2
  unfold wpOp
  simp only [ho]
  unfold wpList at h
  split
  · rename_i hw
    rw [if_pos hw] at h
    rcases h with h | ⟨h1, ⟨a', w', h2⟩⟩
    · exact .inl (wp_turn (fun _ _ _ h => h) (fun _ _ h => h) h)
    · exact .inr ⟨h1, a', w', h2⟩
  · rename_i hw
    rw [if_neg hw] at h
    exact h
/-- All ways out but the one are shut. -/
def calmQ (Q : Exit → Act → World → Prop) : Exit → Act → World → Prop
  | .normal, a, w => Q .normal a w
  | _, _, _ => False
theorem wpAny_turn {P : Program} {Q : Exit → Act → World → Prop} {md : Region.Mode} {ops : Array Oper} : ∀ (fuel : Nat) (listed : Array Bool) (a : Act) (w : World), wpAny P md ops (calmQ Q) fuel listed a w → wpAny P md ops Q fuel listed a w
  | 0, _, _, _, h => h
  | f + 1, listed, a, w, h => ⟨h.1, fun i hi => by
    have h2 := wpOp_mono (fun a' w' h' => wpAny_turn (Q := Q) f _ a' w' h') (h.2 i hi)
    unfold wpOp at h2 ⊢
    split
    · rename_i ho; simp only [ho] at h2; exact h2
    · rename_i o ho
      simp only [ho] at h2
      split
      · rename_i hw
        rw [if_pos hw] at h2
        rcases h2 with h2 | ⟨_, _, _, h2⟩
        · exact .inl (wp_turn (fun _ _ _ h => h.elim) (fun _ _ h => h.elim) h2)
        · exact h2.elim
      · rename_i hw
        rw [if_neg hw] at h2
        exact h2⟩
theorem reg_end {P : Program} {Q : Exit → Act → World → Prop} {C : World → Prop} {ops : Array Oper} {listed : Array Bool} {a : Act} {w : World} (hr : Region.ready .any ops listed = []) (hC : C w) (h : Q .normal a w) : wpAnyC P .any ops (calmQ Q) C 0 listed a w := ⟨hC, hr, h⟩
/-- The region, with a class that all its worlds are of. -/
theorem reg_start {P : Program} {id : Nat} {Q : Exit → Act → World → Prop} {a : Act} {w : World} {L : List Oper} (C : World → Prop) (hm : P.follows .mixedOrders = true) (h : wpAnyC P .any L.toArray (calmQ Q) C L.length (Array.replicate L.length false) a w.drew) : (Code.region id L.toArray true).wp P Q a w :=
  wp_region_any hm (by simpa using wpAny_turn _ _ _ _ (wpAny_of_C _ _ _ _ h))
theorem reg_meet2 {G R : Nat → Nat → World → Prop} {p : Prop} (h1 : (∀ a b W, R a b W → G a b W) → p) (h2 : ∀ a b W, R a b W → G a b W) : p := h1 h2
theorem reg_three {P : Program} {Q : Exit → Act → World → Prop} {C : World → Prop} {L : List Oper} (i j m f : Nat) {fuel : Nat} {listed : Array Bool} {a : Act} {w : World} (hf : fuel = f + 1) (hr : Region.ready .any L.toArray listed = [i, j, m]) (hC : C w)
    (h1 : wpList P L.toArray (nextQ Q (wpAnyC P .any L.toArray Q C f (listed.setIfInBounds i true))) ((L.drop i).take 1) a w)
    (h2 : wpList P L.toArray (nextQ Q (wpAnyC P .any L.toArray Q C f (listed.setIfInBounds j true))) ((L.drop j).take 1) a w)
    (h3 : wpList P L.toArray (nextQ Q (wpAnyC P .any L.toArray Q C f (listed.setIfInBounds m true))) ((L.drop m).take 1) a w) : wpAnyC P .any L.toArray Q C fuel listed a w := by
  subst hf
  refine ⟨hC, fun h0 => (by rw [hr] at h0; cases h0), fun k hk => ?_⟩
  have hm := hk
  rw [hr] at hk
  obtain ⟨_, o, ho, _⟩ := mem_ready.1 hm
  have ho' : L[k]? = some o := by simpa using ho
  have hd : (L.drop k).take 1 = [o] := by
    obtain ⟨hlt, e⟩ := List.getElem?_eq_some_iff.1 ho'
    rw [List.drop_eq_getElem_cons hlt, e]; rfl
  have h : wpList P L.toArray (nextQ Q (wpAnyC P .any L.toArray Q C f (listed.setIfInBounds k true))) [o] a w := by
    rw [← hd]
    simp only [List.mem_cons, List.not_mem_nil, or_false] at hk
    rcases hk with rfl | rfl | rfl
    · exact h1
    · exact h2
    · exact h3
  unfold wpOp
  simp only [ho]
  unfold wpList at h
  split
  · rename_i hw
    rw [if_pos hw] at h
    rcases h with h | ⟨h1, ⟨a', w', h2⟩⟩
    · exact .inl (wp_turn (fun _ _ _ h => h) (fun _ _ h => h) h)
    · exact .inr ⟨h1, a', w', h2⟩
  · rename_i hw
    rw [if_neg hw] at h
    exact h
end Go.Proofs.YtbakhengcgclmaaGreatDoor

/-
  Plain facts on numbers cut to a width: no program in sight.
-/
namespace Go.Proofs.YtbakhengcgclmaaGreatDoor
open Go.RowKit
set_option linter.unusedSimpArgs false
set_option linter.unusedVariables false

theorem hide {p : Prop} (h : p) : Hid p := h
theorem unhide {p : Prop} (h : Hid p) : p := h

/-- The four widths. -/
def IsW (n : Int) : Prop := n = 8 ∨ n = 16 ∨ n = 32 ∨ n = 64
/-- Two to the width. -/
def md (n : Int) : Int := 2 ^ n.toNat
/-- The lower bits. -/
def cut (n x : Int) : Int := x % md n
/-- What the lower bits mean with a sign. -/
def sgn (n x : Int) : Int := if 2 * cut n x < md n then cut n x else cut n x - md n

theorem md_8 : md 8 = 256 := by decide
theorem md_16 : md 16 = 65536 := by decide
theorem md_32 : md 32 = 4294967296 := by decide
theorem md_64 : md 64 = 18446744073709551616 := by decide

theorem u64_wrap (x : Int) : IntKind.u64.wrap x = x % 18446744073709551616 := by simp [IntKind.wrap, IntKind.bits, IntKind.signed]

theorem md_pos {n : Int} (h : IsW n) : 0 < md n := by
  rcases h with rfl | rfl | rfl | rfl <;> simp [md_8, md_16, md_32, md_64]
theorem md_le {n : Int} (h : IsW n) : md n ≤ 18446744073709551616 := by
  rcases h with rfl | rfl | rfl | rfl <;> simp [md_8, md_16, md_32, md_64]
theorem md_dvd {n : Int} (h : IsW n) : md n ∣ 18446744073709551616 := by
  rcases h with rfl | rfl | rfl | rfl
  · exact ⟨72057594037927936, by rw [md_8]; decide⟩
  · exact ⟨281474976710656, by rw [md_16]; decide⟩
  · exact ⟨4294967296, by rw [md_32]; decide⟩
  · exact ⟨1, by rw [md_64]; decide⟩

theorem cut_lo {n : Int} (h : IsW n) (x : Int) : 0 ≤ cut n x := Int.emod_nonneg _ (Int.ne_of_gt (md_pos h))
theorem cut_lt {n : Int} (h : IsW n) (x : Int) : cut n x < md n := Int.emod_lt_of_pos _ (md_pos h)
theorem cut_hi {n : Int} (h : IsW n) (x : Int) : cut n x ≤ 18446744073709551615 := by
  have := cut_lt h x; have := md_le h; omega
theorem cut_wrap {n : Int} (h : IsW n) (x : Int) : cut n (IntKind.u64.wrap x) = cut n x := by
  rw [u64_wrap]; exact Int.emod_emod_of_dvd _ (md_dvd h)
theorem cut_cut (n x : Int) : cut n (cut n x) = cut n x := Int.emod_emod ..
theorem cut_add (n x y : Int) : cut n (cut n x + cut n y) = cut n (x + y) := by unfold cut; exact (Int.add_emod ..).symm
theorem cut_sub (n x y : Int) : cut n (cut n x - cut n y) = cut n (x - y) := by unfold cut; exact (Int.sub_emod ..).symm
theorem cut_mul (n x y : Int) : cut n (cut n x * cut n y) = cut n (x * y) := by unfold cut; exact (Int.mul_emod ..).symm

/-- Within sixty-four bits. -/
def U (x : Int) : Prop := 0 ≤ x ∧ x ≤ 18446744073709551615
/-- No width. -/
def NoW (n : Int) : Prop := (n == 8) = false ∧ (n == 16) = false ∧ (n == 32) = false ∧ (n == 64) = false
theorem isW_or (n : Int) : IsW n ∨ NoW n := by
  unfold IsW NoW
  by_cases h1 : n = 8
  · exact .inl (.inl h1)
  by_cases h2 : n = 16
  · exact .inl (.inr (.inl h2))
  by_cases h3 : n = 32
  · exact .inl (.inr (.inr (.inl h3)))
  by_cases h4 : n = 64
  · exact .inl (.inr (.inr (.inr h4)))
  exact .inr ⟨beq_eq_false_iff_ne.2 h1, beq_eq_false_iff_ne.2 h2, beq_eq_false_iff_ne.2 h3, beq_eq_false_iff_ne.2 h4⟩
theorem u_cut {n : Int} (h : IsW n) (x : Int) : U (cut n x) := ⟨cut_lo h x, cut_hi h x⟩
theorem u_wrap (x : Int) : U (IntKind.u64.wrap x) := by rw [u64_wrap]; unfold U; omega
theorem u_num (k : Nat) (h : k ≤ 18446744073709551615) : U (k : Int) := ⟨by omega, by omega⟩
theorem cut_of {n x : Int} (h0 : 0 ≤ x) (h1 : x < md n) : cut n x = x := Int.emod_eq_of_lt h0 h1
theorem div_pow_le (x : Int) (k : Nat) (h : 0 ≤ x) : 0 ≤ x / 2 ^ k ∧ x / 2 ^ k ≤ x := by
  have hp : (0 : Int) < 2 ^ k := Int.pow_pos (by decide)
  refine ⟨Int.ediv_nonneg h (Int.le_of_lt hp), ?_⟩
  exact Int.ediv_le_self _ h
theorem cut_div {n : Int} (h : IsW n) (x : Int) (k : Nat) : cut n (cut n x / 2 ^ k) = cut n x / 2 ^ k := by
  have := div_pow_le (cut n x) k (cut_lo h x)
  have := cut_lt h x
  exact cut_of (by omega) (by omega)
theorem u_div {n : Int} (h : IsW n) (x : Int) (k : Nat) : U (cut n x / 2 ^ k) := by
  have := div_pow_le (cut n x) k (cut_lo h x)
  have := cut_hi h x
  exact ⟨by omega, by omega⟩
theorem sgn_cut (n x : Int) : sgn n (cut n x) = sgn n x := by unfold sgn; rw [cut_cut]
theorem cut_mul_left (n x y : Int) : cut n (cut n x * y) = cut n (x * y) := by unfold cut; rw [Int.mul_emod, Int.emod_emod, ← Int.mul_emod]

theorem and_cut_8 (x : Int) (hx : 0 ≤ x) (hx' : x ≤ 18446744073709551615) : bits .and .u64 x 255 = cut 8 x := by
  unfold cut; rw [md_8]; go_bits2
theorem and_cut_16 (x : Int) (hx : 0 ≤ x) (hx' : x ≤ 18446744073709551615) : bits .and .u64 x 65535 = cut 16 x := by
  unfold cut; rw [md_16]; go_bits2
theorem and_cut_32 (x : Int) (hx : 0 ≤ x) (hx' : x ≤ 18446744073709551615) : bits .and .u64 x 4294967295 = cut 32 x := by
  unfold cut; rw [md_32]; go_bits2
theorem and_cut_64 (x : Int) (hx : 0 ≤ x) (hx' : x ≤ 18446744073709551615) : bits .and .u64 x 18446744073709551615 = cut 64 x := by
  unfold cut; rw [md_64]; go_bits2
  have e : x.toNat &&& 18446744073709551615 = x.toNat % 18446744073709551616 := Nat.and_two_pow_sub_one_eq_mod x.toNat 64
  rw [e]; omega
theorem mean_8 (x : Int) : wrap64 (IntKind.u64.wrap (x * 72057594037927936)) / 72057594037927936 = sgn 8 x := by
  unfold sgn cut wrap64; rw [md_8, u64_wrap]; split <;> omega
theorem mean_16 (x : Int) : wrap64 (IntKind.u64.wrap (x * 281474976710656)) / 281474976710656 = sgn 16 x := by
  unfold sgn cut wrap64; rw [md_16, u64_wrap]; split <;> omega
theorem mean_32 (x : Int) : wrap64 (IntKind.u64.wrap (x * 4294967296)) / 4294967296 = sgn 32 x := by
  unfold sgn cut wrap64; rw [md_32, u64_wrap]; split <;> omega
theorem mean_64 (x : Int) : wrap64 x = sgn 64 x := by
  unfold sgn cut wrap64; rw [md_64]; split <;> omega
def mn (s : Bool) (n x : Int) : Int := if s = true then sgn n x else cut n x
theorem mn_cut (s : Bool) (n x : Int) : mn s n (cut n x) = mn s n x := by
  unfold mn
  rw [sgn_cut, cut_cut]
theorem cut_sgn {n : Int} (x : Int) : cut n (sgn n x) = cut n x := by
  unfold sgn
  split
  · exact cut_cut n x
  · unfold cut
    rw [Int.sub_emod, Int.emod_self, Int.emod_emod, Int.sub_zero, Int.emod_emod]
theorem cut_mn (s : Bool) (n x : Int) : cut n (mn s n x) = cut n x := by
  unfold mn
  split
  · exact cut_sgn x
  · exact cut_cut n x
end Go.Proofs.YtbakhengcgclmaaGreatDoor

/-
  What Width, lower and meaning answer at each of the four widths, and that Width says no elsewhere.
-/
namespace Go.Proofs.YtbakhengcgclmaaGreatDoor
open Go.RowKit
set_option linter.unusedSimpArgs false
set_option linter.unusedVariables false

theorem ret_eq {a b : Value} (h : a = b) : Ending.returned a = .returned b := by rw [h]

theorem width_no (n : Int) (w : World) (h : NoW n) :
    Calls Tryz.prog 74 #[.int .i64 n] w fun e w' => e = .returned (.bool false) ∧ w' = w := by
  obtain ⟨h1, h2, h3, h4⟩ := h
  go_enter Tryz.func74, Tryz.ntmps74
  go_wp2
  go_ret
  exact ⟨rfl, rfl⟩

theorem width_yes (n : Int) (h : IsW n) (w : World) : Calls Tryz.prog 74 #[.int .i64 n] w fun e w' => e = .returned (.bool true) ∧ w' = w := by
  rcases h with rfl | rfl | rfl | rfl
  all_goals
    go_enter Tryz.func74, Tryz.ntmps74
    go_wp2
    go_ret
    exact ⟨rfl, rfl⟩

end Go.Proofs.YtbakhengcgclmaaGreatDoor

/-
  Types of numbers: what Valid, Promote, Common and Convert answer; nothing that was there has turned.
-/
namespace Go.Proofs.YtbakhengcgclmaaGreatDoor
open Go.RowKit
set_option linter.unusedSimpArgs false
set_option linter.unusedVariables false

theorem bT {u v x : World} (k1 : Below u.heap.size u v) (k2 : Below v.heap.size v x) : Below u.heap.size u x := k1.trans (k2.mono k1.size)

theorem Box.put0 {w : World} {b : Nat} {x y : Value} (h : Box w b [x, y]) (u : Value) : (w.setCell ⟨b, 0, none⟩ u).cell? ⟨b, 0, none⟩ = some u := (h.set (j := 0) (u := u) (by simp)).2.1 0 _ rfl
theorem Box.put1 {w : World} {b : Nat} {x y : Value} (h : Box w b [x, y]) (u v : Value) : ((w.setCell ⟨b, 0, none⟩ u).setCell ⟨b, 1, none⟩ v).cell? ⟨b, 1, none⟩ = some v := ((h.set (j := 0) (u := u) (by simp)).set (j := 1) (u := v) (by simp)).2.1 1 _ rfl
theorem Box.put {w : World} {b : Nat} {x y : Value} (h : Box w b [x, y]) (u v : Value) : Box ((w.setCell ⟨b, 0, none⟩ u).setCell ⟨b, 1, none⟩ v) b [u, v] := (h.set (j := 0) (u := u) (by simp)).set (j := 1) (u := v) (by simp)

theorem tvalid_yes (b : Int) (s : Bool) (w : World) (h : IsW b) : Calls Tryz.prog 56 #[.agg #[.int .i64 b, .bool s]] w fun e w' => e = .returned (.bool true) ∧ Below w.heap.size w w' := by
  go_enter Tryz.func56, Tryz.ntmps56
  go_wp2_with (go_at_call 74; refine (width_yes _ h _).mono ?_; rintro e w' ⟨rfl, rfl⟩)
  go_ret
  exact ⟨rfl, below_a _ _⟩
theorem tvalid_no (b : Int) (s : Bool) (w : World) (h : NoW b) : Calls Tryz.prog 56 #[.agg #[.int .i64 b, .bool s]] w fun e w' => e = .returned (.bool false) ∧ Below w.heap.size w w' := by
  go_enter Tryz.func56, Tryz.ntmps56
  go_wp2_with (go_at_call 74; refine (width_no _ _ h).mono ?_; rintro e w' ⟨rfl, rfl⟩)
  go_ret
  exact ⟨rfl, below_a _ _⟩

/-- A type made as wide as a word. -/
def pb (b : Int) : Int := if b < 16 then 16 else b
def ps (b : Int) (s : Bool) : Bool := if b < 16 then true else s
end Go.Proofs.YtbakhengcgclmaaGreatDoor
