/-
  A region that draws its order: what reads what nothing of it writes may be taken first, whatever else is there.
-/
import Derived.WalkKit
import Derived.Laws.Rows
import Derived.StillTailTactics
import Derived.OrdersHeld
namespace Go.Proofs.Ytjlbenbfmookoaa
open Go.RowKit
set_option linter.unusedSimpArgs false
set_option linter.unusedVariables false

section
variable {P : Program} {ops : Array Oper} {Q : Exit → Act → World → Prop} {md : Region.Mode} {C : World → Prop}

/-- Whatever order is picked, the world is always of a class (the library's wpAnyH, with the world at hand). -/
def wpAnyC (P : Program) (md : Region.Mode) (ops : Array Oper) (Q : Exit → Act → World → Prop) (C : World → Prop) (fuel : Nat) (listed : Array Bool) (a : Act) (w : World) : Prop := C w ∧ wpAnyH P md ops Q C fuel listed a w
theorem wpAny_of_C (fuel : Nat) (listed : Array Bool) (a : Act) (w : World) (h : wpAnyC P md ops Q C fuel listed a w) : wpAny P md ops Q fuel listed a w := wpAny_of_held _ _ _ _ h.2
theorem wpAnyC_first {i : Nat} {oi : Oper} {v : Value} (hi : ops[i]? = some oi) (hs : Region.noSelect ops = true) (hQ : ∀ d v c a w, Q (.panic c) (Act.put a d v) w → Q (.panic c) a w) {fuel : Nat} {listed : Array Bool} {a : Act} {w : World}
    (hf : Region.free md ops listed i = true) (hr : (Region.ready md ops listed).contains i = true) (hy : YieldsIf P ops C oi v a) (h : wpAnyC P md ops Q C fuel (listed.setIfInBounds i true) (a.put oi.dst v) w) : wpAnyC P md ops Q C (fuel + 1) listed a w :=
  ⟨h.1, wpAnyH_take hi hs hf hr (fun _ _ _ h => hQ _ _ _ _ _ h) hy h.1 h.2⟩

/-- A walk over what yields one value in every world of the class. -/
def steady (P : Program) (o : Oper) (a : Act) (C : World → Prop) (next : Act → Prop) : Prop := ∃ v, (∀ w, C w → (execOp a.eval o).run P w = .ok (.value v) w) ∧ next (a.put o.dst v)
def wpSteady (P : Program) (ops : Array Oper) (C : World → Prop) (R : Act → Prop) : List Oper → Act → Prop
  | [], a => R a
  | o :: rest, a => if Region.wanted o (yielded ops a.tmps) then steady P o a C (wpSteady P ops C R rest) else wpSteady P ops C R rest (a.put o.dst undef)
theorem wpSteady_nil {R : Act → Prop} {a : Act} (h : R a) : wpSteady P ops C R [] a := h
theorem wpSteady_step {R : Act → Prop} {a : Act} {o : Oper} {rest : List Oper} (h : ∀ K : Act → Prop, (∀ a, wpSteady P ops C R rest a → K a) → if Region.wanted o (yielded ops a.tmps) then steady P o a C K else K (a.put o.dst undef)) : wpSteady P ops C R (o :: rest) a :=
  h _ (fun _ h => h)
theorem steady_of {o : Oper} {a : Act} {K : Act → Prop} (v : Value) (h : ∀ w, C w → (execOp a.eval o).run P w = .ok (.value v) w) (hk : K (a.put o.dst v)) : steady P o a C K := ⟨v, h, hk⟩
theorem steady_load_row {R : Act → Prop} {a : Act} {o : Oper} {rest : List Oper} (hw : Region.wanted o (yielded ops a.tmps) = true) (ty : TypeId) (x : Operand) (ho : o.op = .load ty x) (g : Nat) (hx : a.eval x = .pointer (some ⟨g, 0, none⟩)) (t : TypeId) (cs : Array Value) (fr : Nat × Nat) (d : TypeDesc)
    (hg : ∀ w, C w → w.heap[g]? = some (.cells cs t fr)) (hu : P.underlying ty = some d) (hd : (match d with | .struct _ | .array _ _ => true | _ => false) = true) (hi : (P.info? ty).map (·.size) = some cs.size)
    (h : wpSteady P ops C R rest (a.put o.dst (.agg cs))) : wpSteady P ops C R (o :: rest) a := by
  unfold wpSteady
  rw [if_pos hw]
  refine ⟨.agg cs, fun w hC => ?_, h⟩
  unfold execOp
  simp only [ho, hx, Instr.loadAt, Instr.sureAddr, Sem.run_bind, Sem.run_pure, Result.andThen_ok, run_loadVar_row w g t ty cs fr d (hg w hC) hu hd hi]
def segB (md : Region.Mode) (ops : Array Oper) : Nat → Nat → Array Bool → Bool
  | 0, _, _ => true
  | n + 1, k, listed => (Region.ready md ops listed).contains k && Region.free md ops listed k && segB md ops n (k + 1) (listed.setIfInBounds k true)
def segL : Nat → Nat → Array Bool → Array Bool
  | 0, _, listed => listed
  | n + 1, k, listed => segL n (k + 1) (listed.setIfInBounds k true)
theorem seg_any (hs : Region.noSelect ops = true) (hQ : ∀ d v c a w, Q (.panic c) (Act.put a d v) w → Q (.panic c) a w) (f : Nat) (w : World) : ∀ (l : List Oper) (k : Nat) (listed : Array Bool) (a : Act), (∀ j, j < l.length → l[j]? = ops[k + j]?) →
    segB md ops l.length k listed = true → wpSteady P ops C (fun a' => wpAnyC P md ops Q C f (segL l.length k listed) a' w) l a → wpAnyC P md ops Q C (l.length + f) listed a w
  | [], k, listed, a, _, _, h => by rw [List.length_nil, Nat.zero_add]; exact h
  | o :: l, k, listed, a, hl, hB, h => by
    have h0 : ops[k]? = some o := by simpa using (hl 0 (by simp)).symm
    simp only [List.length_cons, segB, Bool.and_eq_true] at hB
    obtain ⟨⟨hr, hf⟩, hB'⟩ := hB
    have IH := fun a' h' => seg_any hs hQ f w l (k + 1) (listed.setIfInBounds k true) a' (fun j hj => by have := hl (j + 1) (by simp; omega); simpa [Nat.add_assoc, Nat.add_comm 1 j] using this) hB' h'
    rw [List.length_cons, show l.length + 1 + f = (l.length + f) + 1 by omega]
    unfold wpSteady at h
    by_cases hw : Region.wanted o (yielded ops a.tmps) = true
    · rw [if_pos hw] at h
      obtain ⟨v, hv, hn⟩ := h
      exact wpAnyC_first h0 hs hQ hf hr (.inl ⟨hw, hv⟩) (IH _ hn)
    · rw [if_neg hw] at h
      exact wpAnyC_first h0 hs hQ hf hr (.inr ⟨by simpa using hw, rfl⟩) (IH _ h)
end

/-- A piece of the region that reads what nothing else writes: taken first. -/
theorem reg_seg {P : Program} {Q : Exit → Act → World → Prop} {C : World → Prop} {L : List Oper} (k n f : Nat) {fuel : Nat} {listed : Array Bool} {a : Act} {w : World} (hf : fuel = n + f) (hn : k + n ≤ L.length) (hs : Region.noSelect L.toArray = true) (hB : segB .any L.toArray n k listed = true)
    (hQ : ∀ d v c a w, Q (.panic c) (Act.put a d v) w → Q (.panic c) a w) (h : wpSteady P L.toArray C (fun a' => wpAnyC P .any L.toArray Q C f (segL n k listed) a' w) ((L.drop k).take n) a) : wpAnyC P .any L.toArray Q C fuel listed a w := by
  subst hf
  have hl : ((L.drop k).take n).length = n := by rw [List.length_take, List.length_drop]; omega
  have := seg_any (P := P) (md := .any) (ops := L.toArray) (C := C) hs hQ f w ((L.drop k).take n) k listed a (fun j hj => by
    rw [hl] at hj
    rw [List.getElem?_take, if_pos hj, List.getElem?_drop, List.getElem?_toArray]) (by rw [hl]; exact hB) (by rw [hl]; exact h)
  rw [hl] at this
  exact this
theorem wp_turn {P : Program} {Q Q' : Exit → Act → World → Prop} {K : Act → World → Prop} {o : Oper} {a : Act} {w : World} (hp : ∀ c a w, Q' (.panic c) a w → Q (.panic c) a w) (ho : ∀ a w, Q' .outgrown a w → Q .outgrown a w) (h : o.wp P a w K Q') : o.wp P a w K Q := by
  unfold Oper.wp at *
  have hl : LetsOut Q' → LetsOut Q := fun ⟨a, w, h⟩ => ⟨a, w, ho a w h⟩
  generalize (execOp a.eval o).run P w = r at *
  cases r with
  | ok n w' =>
    cases n <;> simp only [Oper.upon] at h ⊢ <;>
      first
        | exact h
        | exact Calls.mono h (fun e w'' he => by cases e <;> first | exact he | exact hp _ _ _ he | exact hl he)
  | halt x w' => cases x <;> simp only [Oper.upon] at h ⊢ <;> first | exact h | exact hp _ _ _ h
/-- What comes next, and all other ways out. -/
def nextQ (Q : Exit → Act → World → Prop) (K : Act → World → Prop) : Exit → Act → World → Prop
  | .normal, a, w => K a w
  | e, a, w => Q e a w
theorem next_nil {P : Program} {ops : Array Oper} {Q : Exit → Act → World → Prop} {md : Region.Mode} {C : World → Prop} {f : Nat} {listed : Array Bool} {a : Act} {w : World} (h : wpAnyC P md ops Q C f listed a w) : wpList P ops (nextQ Q (wpAnyC P md ops Q C f listed)) [] a w := h
theorem next_go {P : Program} {ops : Array Oper} {Q : Exit → Act → World → Prop} {md : Region.Mode} {C : World → Prop} {f : Nat} {listed : Array Bool} {a : Act} {w : World} (h : wpAnyC P md ops Q C f listed a w) : nextQ Q (wpAnyC P md ops Q C f listed) .normal a w := h
/-- The one operation that may come up. -/
theorem reg_one {P : Program} {Q : Exit → Act → World → Prop} {C : World → Prop} {L : List Oper} (i f : Nat) {fuel : Nat} {listed : Array Bool} {a : Act} {w : World} (hf : fuel = f + 1) (hr : Region.ready .any L.toArray listed = [i]) (hC : C w)
    (h : wpList P L.toArray (nextQ Q (wpAnyC P .any L.toArray Q C f (listed.setIfInBounds i true))) ((L.drop i).take 1) a w) : wpAnyC P .any L.toArray Q C fuel listed a w := by
  subst hf
  refine ⟨hC, fun h0 => (by rw [hr] at h0; cases h0), fun j hj => ?_⟩
  rw [hr] at hj
  have hji : j = i := by simpa using hj
  subst hji
  have hm : j ∈ Region.ready .any L.toArray listed := by rw [hr]; simp
  obtain ⟨_, o, ho, _⟩ := mem_ready.1 hm
  have ho' : L[j]? = some o := by simpa using ho
  have hd : (L.drop j).take 1 = [o] := by
    obtain ⟨hlt, e⟩ := List.getElem?_eq_some_iff.1 ho'
    rw [List.drop_eq_getElem_cons hlt, e]; rfl
  rw [hd] at h
  unfold wpOp
  simp only [ho]
  unfold wpList at h
  split
  · rename_i hw
    rw [if_pos hw] at h
    rcases h with h | ⟨h1, ⟨a', w', h2⟩⟩
    · exact .inl (wp_turn (fun _ _ _ h => h) (fun _ _ h => h) h)
    · exact .inr ⟨h1, a', w', h2⟩
  · rename_i hw
    rw [if_neg hw] at h
    exact h
/-- Two ways that meet. -/
theorem reg_meet {G R : Value → Value → Nat → World → Prop} {p : Prop} (h1 : (∀ vo vm g W, R vo vm g W → G vo vm g W) → p) (h2 : ∀ vo vm g W, R vo vm g W → G vo vm g W) : p := h1 h2
/-- Two operations that may come up. -/
theorem reg_two {P : Program} {Q : Exit → Act → World → Prop} {C : World → Prop} {L : List Oper} (i j f : Nat) {fuel : Nat} {listed : Array Bool} {a : Act} {w : World} (hf : fuel = f + 1) (hr : Region.ready .any L.toArray listed = [i, j]) (hC : C w)
    (h1 : wpList P L.toArray (nextQ Q (wpAnyC P .any L.toArray Q C f (listed.setIfInBounds i true))) ((L.drop i).take 1) a w)
    (h2 : wpList P L.toArray (nextQ Q (wpAnyC P .any L.toArray Q C f (listed.setIfInBounds j true))) ((L.drop j).take 1) a w) : wpAnyC P .any L.toArray Q C fuel listed a w := by
  subst hf
  refine ⟨hC, fun h0 => (by rw [hr] at h0; cases h0), fun k hk => ?_⟩
  have hm := hk
  rw [hr] at hk
  obtain ⟨_, o, ho, _⟩ := mem_ready.1 hm
  have ho' : L[k]? = some o := by simpa using ho
  have hd : (L.drop k).take 1 = [o] := by
    obtain ⟨hlt, e⟩ := List.getElem?_eq_some_iff.1 ho'
    rw [List.drop_eq_getElem_cons hlt, e]; rfl
  have h : wpList P L.toArray (nextQ Q (wpAnyC P .any L.toArray Q C f (listed.setIfInBounds k true))) [o] a w := by
    rw [← hd]
    simp only [List.mem_cons, List.not_mem_nil, or_false] at hk
    rcases hk with rfl | rfl
    · exact h1
    · exact h2
  unfold wpOp
  simp only [ho]
  unfold wpList at h
  split
  · rename_i hw
    rw [if_pos hw] at h
    rcases h with h | ⟨h1, ⟨a', w', h2⟩⟩
    · exact .inl (wp_turn (fun _ _ _ h => h) (fun _ _ h => h) h)
    · exact .inr ⟨h1, a', w', h2⟩
  · rename_i hw
    rw [if_neg hw] at h
    exact h
/-- All ways out but the one are shut. -/
def calmQ (Q : Exit → Act → World → Prop) : Exit → Act → World → Prop
  | .normal, a, w => Q .normal a w
  | _, _, _ => False
theorem wpAny_turn {P : Program} {Q : Exit → Act → World → Prop} {md : Region.Mode} {ops : Array Oper} : ∀ (fuel : Nat) (listed : Array Bool) (a : Act) (w : World), wpAny P md ops (calmQ Q) fuel listed a w → wpAny P md ops Q fuel listed a w
  | 0, _, _, _, h => h
  | f + 1, listed, a, w, h => ⟨h.1, fun i hi => by
    have h2 := wpOp_mono (fun a' w' h' => wpAny_turn (Q := Q) f _ a' w' h') (h.2 i hi)
    unfold wpOp at h2 ⊢
    split
    · rename_i ho; simp only [ho] at h2; exact h2
    · rename_i o ho
      simp only [ho] at h2
      split
      · rename_i hw
        rw [if_pos hw] at h2
        rcases h2 with h2 | ⟨_, _, _, h2⟩
        · exact .inl (wp_turn (fun _ _ _ h => h.elim) (fun _ _ h => h.elim) h2)
        · exact h2.elim
      · rename_i hw
        rw [if_neg hw] at h2
        exact h2⟩
theorem reg_end {P : Program} {Q : Exit → Act → World → Prop} {C : World → Prop} {ops : Array Oper} {listed : Array Bool} {a : Act} {w : World} (hr : Region.ready .any ops listed = []) (hC : C w) (h : Q .normal a w) : wpAnyC P .any ops (calmQ Q) C 0 listed a w := ⟨hC, hr, h⟩
/-- The region, with a class that all its worlds are of. -/
theorem reg_start {P : Program} {id : Nat} {Q : Exit → Act → World → Prop} {a : Act} {w : World} {L : List Oper} (C : World → Prop) (hm : P.follows .mixedOrders = true) (h : wpAnyC P .any L.toArray (calmQ Q) C L.length (Array.replicate L.length false) a w.drew) : (Code.region id L.toArray true).wp P Q a w :=
  wp_region_any hm (by simpa using wpAny_turn _ _ _ _ (wpAny_of_C _ _ _ _ h))
theorem reg_meet2 {G R : Nat → Nat → World → Prop} {p : Prop} (h1 : (∀ a b W, R a b W → G a b W) → p) (h2 : ∀ a b W, R a b W → G a b W) : p := h1 h2
theorem reg_three {P : Program} {Q : Exit → Act → World → Prop} {C : World → Prop} {L : List Oper} (i j m f : Nat) {fuel : Nat} {listed : Array Bool} {a : Act} {w : World} (hf : fuel = f + 1) (hr : Region.ready .any L.toArray listed = [i, j, m]) (hC : C w)
    (h1 : wpList P L.toArray (nextQ Q (wpAnyC P .any L.toArray Q C f (listed.setIfInBounds i true))) ((L.drop i).take 1) a w)
    (h2 : wpList P L.toArray (nextQ Q (wpAnyC P .any L.toArray Q C f (listed.setIfInBounds j true))) ((L.drop j).take 1) a w)
    (h3 : wpList P L.toArray (nextQ Q (wpAnyC P .any L.toArray Q C f (listed.setIfInBounds m true))) ((L.drop m).take 1) a w) : wpAnyC P .any L.toArray Q C fuel listed a w := by
  subst hf
  refine ⟨hC, fun h0 => (by rw [hr] at h0; cases h0), fun k hk => ?_⟩
  have hm := hk
  rw [hr] at hk
  obtain ⟨_, o, ho, _⟩ := mem_ready.1 hm
  have ho' : L[k]? = some o := by simpa using ho
  have hd : (L.drop k).take 1 = [o] := by
    obtain ⟨hlt, e⟩ := List.getElem?_eq_some_iff.1 ho'
    rw [List.drop_eq_getElem_cons hlt, e]; rfl
  have h : wpList P L.toArray (nextQ Q (wpAnyC P .any L.toArray Q C f (listed.setIfInBounds k true))) [o] a w := by
    rw [← hd]
    simp only [List.mem_cons, List.not_mem_nil, or_false] at hk
    rcases hk with rfl | rfl | rfl
    · exact h1
    · exact h2
    · exact h3
  unfold wpOp
  simp only [ho]
  unfold wpList at h
  split
  · rename_i hw
    rw [if_pos hw] at h
    rcases h with h | ⟨h1, ⟨a', w', h2⟩⟩
    · exact .inl (wp_turn (fun _ _ _ h => h) (fun _ _ h => h) h)
    · exact .inr ⟨h1, a', w', h2⟩
  · rename_i hw
    rw [if_neg hw] at h
    exact h
end Go.Proofs.Ytjlbenbfmookoaa
