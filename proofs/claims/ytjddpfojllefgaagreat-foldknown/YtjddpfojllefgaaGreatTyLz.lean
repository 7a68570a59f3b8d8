/-
  Types of numbers: the closed fact that each statement asks first.
-/
import Derived.Test.YtjddpfojllefgaaGreatCcPz
import Derived.Test.YtjddpfojllefgaaGreatTyNz
import Derived.Test.YtjddpfojllefgaaGreatTyBz
import Derived.Test.YtjddpfojllefgaaGreatTyU
import Derived.Test.YtjddpfojllefgaaGreatTyFz
import Derived.Test.YtjddpfojllefgaaGreatTrA
namespace Go.Proofs.YtjddpfojllefgaaGreat
open Go.RowKit
set_option linter.unusedSimpArgs false
set_option linter.unusedVariables false

theorem bin_260 (w : World) : Calls Tryz.prog 42 #[.int .i64 12, .int .u64 250, .int .u64 10, .agg #[.int .i64 8, .bool false], .agg #[.int .i64 8, .bool false]] w fun e w' => e = .returned (.tuple #[.int .u64 260, .int .i64 0]) ∧ Below w.heap.size w w' := by
  have h := binary_work 12 250 10 8 8 false false w (.inr (.inr (.inr (.inl rfl)))) (.inl rfl) (.inl rfl) ⟨by decide, by decide⟩ ⟨by decide, by decide⟩
  have e : wrk 12 (cs 8 false 8 false) (cb 8 8) (conv 250 8 false (cb 8 8)) (conv 10 8 false (cb 8 8)) = (260, 0) := by decide +kernel
  rw [e] at h
  exact h
theorem nm_u32 : nmT 32 false = ⟨#[117, 51, 50]⟩ := by kernel_rfl
theorem Tri.new' {w w1 : World} {T : TypeId} {a0 a1 b0 b1 c0 c1 : Value} (k : Below (((w.alloc (.cells #[a0, a1] T)).alloc (.cells #[b0, b1] T)).alloc (.cells #[c0, c1] T)).heap.size (((w.alloc (.cells #[a0, a1] T)).alloc (.cells #[b0, b1] T)).alloc (.cells #[c0, c1] T)) w1) : Tri w w1 a0 a1 b0 b1 c0 c1 := by
  have h1 := below_a w (.cells #[a0, a1] T)
  have h2 := below_a (w.alloc (.cells #[a0, a1] T)) (.cells #[b0, b1] T)
  have h3 := below_a ((w.alloc (.cells #[a0, a1] T)).alloc (.cells #[b0, b1] T)) (.cells #[c0, c1] T)
  have A := Box.new w #[a0, a1] T
  have B := Box.new (w.alloc (.cells #[a0, a1] T)) #[b0, b1] T
  have C := Box.new ((w.alloc (.cells #[a0, a1] T)).alloc (.cells #[b0, b1] T)) #[c0, c1] T
  simp only [World.size_alloc] at B C
  exact ⟨bT h1 (bT h2 (bT h3 k)), ((A.step h2).step h3).step k, (B.step h3).step k, C.step k⟩
theorem Tri.more {w w3 : World} {T : TypeId} {a0 a1 b0 b1 c0 c1 u v : Value} (h : Tri w w3 a0 a1 b0 b1 c0 c1) : Tri w (w3.alloc (.cells #[u, v] T)) a0 a1 b0 b1 c0 c1 ∧ Box (w3.alloc (.cells #[u, v] T)) w3.heap.size [u, v] := ⟨h.step (below_a _ _), Box.new w3 #[u, v] T⟩

/-- What holds of common types. -/
structure Cm (a : Int) (s : Bool) (b : Int) (t : Bool) (c : Int) (u : Bool) : Prop where
  c1 : cb b a = cb a b
  c2 : cs b t a s = cs a s b t
  i1 : cb (cb a b) (cb a b) = cb a b
  i2 : cs (cb a b) (cs a s b t) (cb a b) (cs a s b t) = cs a s b t
  l1 : cb (cb a b) a = cb a b
  l2 : cs (cb a b) (cs a s b t) a s = cs a s b t
  r1 : cb (cb a b) b = cb a b
  r2 : cs (cb a b) (cs a s b t) b t = cs a s b t
  g1 : a ≤ cb a b
  g2 : b ≤ cb a b
  g3 : 16 ≤ cb a b
  p : (cb a b = pb a ∧ cs a s b t = ps a s) ∨ (cb a b = pb b ∧ cs a s b t = ps b t)
  a1 : cb (cb a b) c = cb a (cb b c)
  a2 : cs (cb a b) (cs a s b t) c u = cs a s (cb b c) (cs b t c u)
theorem cm_dec : ∀ a ∈ [(8 : Int), 16, 32, 64], ∀ s : Bool, ∀ b ∈ [(8 : Int), 16, 32, 64], ∀ t : Bool, ∀ c ∈ [(8 : Int), 16, 32, 64], ∀ u : Bool,
    (cb b a = cb a b ∧ cs b t a s = cs a s b t ∧ cb (cb a b) (cb a b) = cb a b ∧ cs (cb a b) (cs a s b t) (cb a b) (cs a s b t) = cs a s b t) ∧ (cb (cb a b) a = cb a b ∧ cs (cb a b) (cs a s b t) a s = cs a s b t ∧ cb (cb a b) b = cb a b ∧ cs (cb a b) (cs a s b t) b t = cs a s b t) ∧ (a ≤ cb a b ∧ b ≤ cb a b ∧ 16 ≤ cb a b) ∧ ((cb a b = pb a ∧ cs a s b t = ps a s) ∨ (cb a b = pb b ∧ cs a s b t = ps b t)) ∧ cb (cb a b) c = cb a (cb b c) ∧ cs (cb a b) (cs a s b t) c u = cs a s (cb b c) (cs b t c u) := by decide +kernel
theorem isW_mem {a : Int} (h : IsW a) : a ∈ [(8 : Int), 16, 32, 64] := by rcases h with rfl | rfl | rfl | rfl <;> decide
theorem cm_all {a b c : Int} (ha : IsW a) (hb : IsW b) (hc : IsW c) (s t u : Bool) : Cm a s b t c u := by
  obtain ⟨⟨x1, x2, x3, x4⟩, ⟨x5, x6, x7, x8⟩, ⟨x9, x10, x11⟩, x12, x13, x14⟩ := cm_dec a (isW_mem ha) s b (isW_mem hb) t c (isW_mem hc) u
  exact ⟨x1, x2, x3, x4, x5, x6, x7, x8, x9, x10, x11, x12, x13, x14⟩
end Go.Proofs.YtjddpfojllefgaaGreat

/-
  Types of numbers: Words and Result, the program's and the document's.
-/
namespace Go.Proofs.YtjddpfojllefgaaGreat
open Go.RowKit
set_option linter.unusedSimpArgs false
set_option linter.unusedVariables false

def wds (b : Int) : Int := if b = 8 then 1 else if b = 16 then 1 else if b = 32 then 2 else 4
def rb (k a b : Int) : Int := if shB k = true then pb a else if cpB k = true then 16 else cb a b
def rs (k a : Int) (s : Bool) (b : Int) (t : Bool) : Bool := if shB k = true then ps a s else if cpB k = true then true else cs a s b t
theorem Tri.put' {w w1 : World} {a0 a1 b0 b1 c0 c1 : Value} (h : Tri w w1 a0 a1 b0 b1 c0 c1) (u v : Value) : Below w.heap.size w ((w1.setCell ⟨w.heap.size + 1 + 1, 0, none⟩ u).setCell ⟨w.heap.size + 1 + 1, 1, none⟩ v) := below_2 h.bel (by omega) _ _
set_option maxHeartbeats 2000000 in
theorem result_any (k a : Int) (s : Bool) (b : Int) (t : Bool) (w : World) : Calls Tryz.prog 43 #[.int .i64 k, .agg #[.int .i64 a, .bool s], .agg #[.int .i64 b, .bool t]] w fun e w' => e = .returned (.agg #[.int .i64 (rb k a b), .bool (rs k a s b t)]) ∧ Below w.heap.size w w' := by
  have SH := hide (fun (w : World) => shifts_any k w)
  have CP := hide (fun (w : World) => compares_any k w)
  unfold rb rs
  have R := hide (Tri.new' (w := w) (T := 24) (a0 := .int .i64 a) (a1 := .bool s) (b0 := .int .i64 b) (b1 := .bool t) (c0 := .int .i64 0) (c1 := .bool false) (Below.refl _ _))
  by_cases h1 : shB k = true
  · rw [if_pos h1, if_pos h1]
    rw [h1] at SH
    go_enter Tryz.func43, Tryz.ntmps43
    go_wp2_with fail
    generalize ((w.alloc (.cells #[.int .i64 a, .bool s] 24)).alloc (.cells #[.int .i64 b, .bool t] 24)).alloc (.cells #[.int .i64 0, .bool false] 24) = w1 at *
    refine (unhide SH _).mono ?_
    rintro e w' ⟨rfl, hw⟩
    subst w'
    obtain ⟨x0, x1⟩ := (unhide R).A.at2
    go_wp2_with fail
    refine (promote_any a s w1).mono ?_
    rintro e w2 ⟨rfl, k2⟩
    have R' := hide ((unhide R).step k2)
    clear R k2 x0 x1
    have R := R'
    clear R'
    obtain ⟨x0, x1⟩ := (unhide R).A.at2
    obtain ⟨x2, x3⟩ := (unhide R).B.at2
    obtain ⟨x4, x5⟩ := (unhide R).C.at2
    have xf := (unhide R).C.2.2
    have p0 := (unhide R).C.put0
    have p1 := (unhide R).C.put1
    go_wp2_with fail
    exact bodyPost_ret (v := .agg #[.int .i64 (pb a), .bool (ps a s)]) (by simp [results, Tryz.results43, go_sem, p0, p1]) rfl ⟨rfl, (unhide R).put' _ _⟩
  · rw [if_neg h1, if_neg h1]
    have h1' : shB k = false := by simpa using h1
    rw [h1'] at SH
    by_cases h2 : cpB k = true
    · rw [if_pos h2, if_pos h2]
      rw [h2] at CP
      go_enter Tryz.func43, Tryz.ntmps43
      go_wp2_with fail
      generalize ((w.alloc (.cells #[.int .i64 a, .bool s] 24)).alloc (.cells #[.int .i64 b, .bool t] 24)).alloc (.cells #[.int .i64 0, .bool false] 24) = w1 at *
      refine (unhide SH _).mono ?_
      rintro e w' ⟨rfl, hw⟩
      subst w'
      go_wp2_with fail
      refine (unhide CP _).mono ?_
      rintro e w' ⟨rfl, hw⟩
      subst w'
      go_wp2_with fail
      refine (i16_any w1).mono ?_
      rintro e w2 ⟨rfl, k2⟩
      have R' := hide ((unhide R).step k2)
      clear R k2
      have R := R'
      clear R'
      obtain ⟨x0, x1⟩ := (unhide R).A.at2
      obtain ⟨x2, x3⟩ := (unhide R).B.at2
      obtain ⟨x4, x5⟩ := (unhide R).C.at2
      have xf := (unhide R).C.2.2
      have p0 := (unhide R).C.put0
      have p1 := (unhide R).C.put1
      go_wp2_with fail
      exact bodyPost_ret (v := .agg #[.int .i64 16, .bool true]) (by simp [results, Tryz.results43, go_sem, p0, p1]) rfl ⟨rfl, (unhide R).put' _ _⟩
    · rw [if_neg h2, if_neg h2]
      have h2' : cpB k = false := by simpa using h2
      rw [h2'] at CP
      go_enter Tryz.func43, Tryz.ntmps43
      go_wp2_with fail
      generalize ((w.alloc (.cells #[.int .i64 a, .bool s] 24)).alloc (.cells #[.int .i64 b, .bool t] 24)).alloc (.cells #[.int .i64 0, .bool false] 24) = w1 at *
      refine (unhide SH _).mono ?_
      rintro e w' ⟨rfl, hw⟩
      subst w'
      go_wp2_with fail
      refine (unhide CP _).mono ?_
      rintro e w' ⟨rfl, hw⟩
      subst w'
      obtain ⟨x0, x1⟩ := (unhide R).A.at2
      obtain ⟨x2, x3⟩ := (unhide R).B.at2
      go_wp2_with fail
      refine (common_any a s b t w1).mono ?_
      rintro e w2 ⟨rfl, k2⟩
      have R' := hide ((unhide R).step k2)
      clear R k2 x0 x1 x2 x3
      have R := R'
      clear R'
      obtain ⟨x0, x1⟩ := (unhide R).A.at2
      obtain ⟨x2, x3⟩ := (unhide R).B.at2
      obtain ⟨x4, x5⟩ := (unhide R).C.at2
      have xf := (unhide R).C.2.2
      have p0 := (unhide R).C.put0
      have p1 := (unhide R).C.put1
      go_wp2_with fail
      exact bodyPost_ret (v := .agg #[.int .i64 (cb a b), .bool (cs a s b t)]) (by simp [results, Tryz.results43, go_sem, p0, p1]) rfl ⟨rfl, (unhide R).put' _ _⟩
end Go.Proofs.YtjddpfojllefgaaGreat

/-
  Operators of numbers of any types: what the program answers is a number of the answer's type.
-/
namespace Go.Proofs.YtjddpfojllefgaaGreat
open Go.RowKit
set_option linter.unusedSimpArgs false
set_option linter.unusedVariables false

theorem ft_16 (c : Bool) : cut 16 (b1 c) = b1 c := by cases c <;> decide
theorem isW_16o : IsW 16 := .inr (.inl rfl)
theorem u_ft {b V : Int} (hb : IsW b) (h : cut b V = V) : U V := by rw [← h]; exact u_cut hb _
theorem ft_wrk {k n a b : Int} (hk : wkB k) (s : Bool) (ha : U a) (hb : U b) (fa : cut n a = a) (fb : cut n b = b) : (wrk k s n a b).2 = 0 → cut n (wrk k s n a b).1 = (wrk k s n a b).1 := by
  rcases hk with rfl | rfl | rfl | rfl | rfl | rfl | rfl | rfl
  · intro _; exact cut_cut n _
  · unfold wrk
    rw [if_neg (by decide), if_pos rfl]
    split
    · intro h; exact absurd h (by decide)
    · intro _; exact cut_cut n _
  · unfold wrk
    rw [if_neg (by decide), if_neg (by decide), if_pos rfl]
    split
    · intro h; exact absurd h (by decide)
    · intro _; exact cut_cut n _
  · intro _; exact cut_cut n _
  · intro _; exact cut_cut n _
  · intro _
    show cut n (bits .and .u64 a b) = bits .and .u64 a b
    rw [cut_and n ha hb, fa, fb]
  · intro _
    show cut n (bits .xor .u64 a b) = bits .xor .u64 a b
    rw [cut_xor n ha hb, fa, fb]
  · intro _
    show cut n (bits .or .u64 a b) = bits .or .u64 a b
    rw [cut_or n ha hb, fa, fb]
theorem isW_rbo {k a b : Int} (ha : IsW a) (hb : IsW b) : IsW (rb k a b) := by
  unfold rb
  repeat' split
  · exact isW_p ha
  · exact isW_16o
  · exact isW_c ha hb
/-- Operators of two numbers. -/
theorem opA (k a b x : Int) (s : Bool) (y : Int) (t : Bool) (h1 : 9 ≤ k) (h2 : k ≤ 24) (hx : IsW x) (hy : IsW y) (ha : U a) (hb : U b) : ∃ V E,
    (∀ w : World, Calls Tryz.prog 42 #[.int .i64 k, .int .u64 a, .int .u64 b, .agg #[.int .i64 x, .bool s], .agg #[.int .i64 y, .bool t]] w fun e w' => e = .returned (.tuple #[.int .u64 V, .int .i64 E]) ∧ Below w.heap.size w w') ∧ (E = 0 → cut (rb k x y) V = V) := by
  have c : wkB k ∨ (k = 14 ∨ k = 15) ∨ (16 ≤ k ∧ k ≤ 21) := by unfold wkB; omega
  rcases c with c | c | c
  · have e : rb k x y = cb x y := by rcases c with rfl | rfl | rfl | rfl | rfl | rfl | rfl | rfl <;> rfl
    exact ⟨_, _, fun w => binary_work k a b x y s t w c hx hy ha hb, fun h => by rw [e]; exact ft_wrk c _ (u_conv (isW_c hx hy)) (u_conv (isW_c hx hy)) (cut_cut _ _) (cut_cut _ _) h⟩
  · have e : rb k x y = pb x := by rcases c with rfl | rfl <;> rfl
    exact ⟨_, _, fun w => binary_shift k a b x y s t w c hx hy ha hb, fun _ => by rw [e]; unfold shf; split <;> exact cut_cut _ _⟩
  · have c' : k = 16 ∨ k = 17 ∨ k = 18 ∨ k = 19 ∨ k = 20 ∨ k = 21 := by omega
    have e : rb k x y = 16 := by rcases c' with rfl | rfl | rfl | rfl | rfl | rfl <;> rfl
    exact ⟨_, _, fun w => binary_cmp k a b x y s t w c hx hy ha hb, fun _ => by rw [e]; exact ft_16 _⟩
/-- Operators of one number. -/
theorem opB (k a x : Int) (s : Bool) (hk : k = 6 ∨ k = 7 ∨ k = 8) (hx : IsW x) (ha : U a) : ∃ V B S,
    (∀ w : World, Calls Tryz.prog 40 #[.int .i64 k, .int .u64 a, .agg #[.int .i64 x, .bool s]] w fun e w' => e = .returned (.tuple #[.int .u64 V, .agg #[.int .i64 B, .bool S], .int .i64 0]) ∧ Below w.heap.size w w') ∧ cut B V = V ∧ IsW B := by
  rcases hk with rfl | rfl | rfl
  · exact ⟨_, _, _, fun w => unary_neg a x s w hx ha, cut_cut _ _, isW_p hx⟩
  · exact ⟨_, _, _, fun w => unary_not a x s w hx ha, cut_cut _ _, isW_p hx⟩
  · exact ⟨_, _, _, fun w => unary_log a x s w hx ha, ft_16 _, isW_16o⟩
end Go.Proofs.YtjddpfojllefgaaGreat

/-
  Expressions in memory, in blocks that a fact is known of: trees that are being made.
-/
namespace Go.Proofs.YtjddpfojllefgaaGreat
open Go.RowKit
set_option linter.unusedSimpArgs false
set_option linter.unusedVariables false

/-- Expressions in memory, in blocks of which X holds. -/
inductive ExP (X : Nat → Prop) (w : World) : Value → List Ex → Prop
  | mk (v : Value) (xs : List Ex) (ks : List Value) (hl : ks.length = xs.length) (hv : ∀ c, v.ownBlock = some c → xs ≠ [] → X c) (lies : Lies w 6 v xs.length (exCs xs ks)) (ok : ∀ x ∈ xs, ExF x) (kids : ∀ i (h : i < xs.length), ExP X w (ks[i]'(by omega)) xs[i].kids) : ExP X w v xs
theorem lies_lt {w : World} {s n : Nat} {v : Value} {cs : List Value} (h : Lies w s v n cs) (hn : n ≠ 0) (c : Nat) (hc : v.ownBlock = some c) : c < w.heap.size := by
  obtain ⟨h1, ao, cap, h2, h3, h4, h6, h5⟩ := h
  obtain ⟨b, off, e, hb, _⟩ := h5 hn
  rw [h2, e] at hc
  injection hc with hc
  subst hc
  exact hb
theorem len_ne {α : Type} {xs : List α} (h : xs ≠ []) : xs.length ≠ 0 := fun e => h (List.length_eq_zero_iff.1 e)
theorem ExP.mono {X X' : Nat → Prop} {w : World} {v : Value} {xs : List Ex} (h : ExP X w v xs) (hX : ∀ c, c < w.heap.size → X c → X' c) : ExP X' w v xs := by
  induction h with
  | mk v xs ks hl hv lies ok kids ih => exact .mk v xs ks hl (fun c hc hn => hX c (lies_lt lies (len_ne hn) c hc) (hv c hc hn)) lies ok ih
theorem lies_at {w w' : World} {s n : Nat} {v : Value} {cs : List Value} (h : Lies w s v n cs) (hs : w.heap.size ≤ w'.heap.size) (k : n ≠ 0 → ∀ c, v.ownBlock = some c → w'.heap[c]? = w.heap[c]?) : Lies w' s v n cs := by
  obtain ⟨h1, ao, cap, h2, h3, h4, h6, h5⟩ := h
  refine ⟨h1, ao, cap, h2, h3, h4, h6, fun hn => ?_⟩
  obtain ⟨b, off, e, hb, hc⟩ := h5 hn
  exact ⟨b, off, e, Nat.lt_of_lt_of_le hb hs, fun j hj => by rw [World.cell?_of_block (a := ⟨b, off + j, none⟩) (k hn b (by rw [h2, e]; rfl))]; exact hc j hj⟩
theorem ExP.step {X : Nat → Prop} {w w' : World} {v : Value} {xs : List Ex} (h : ExP X w v xs) (hs : w.heap.size ≤ w'.heap.size) (k : ∀ c, c < w.heap.size → X c → w'.heap[c]? = w.heap[c]?) : ExP X w' v xs := by
  induction h with
  | mk v xs ks hl hv lies ok kids ih => exact .mk v xs ks hl hv (lies_at lies hs fun hn c hc => k c (lies_lt lies hn c hc) (hv c hc fun e => hn (by rw [e]; rfl))) ok ih
theorem ExP.next {X : Nat → Prop} {w w' : World} {v : Value} {xs : List Ex} (h : ExP X w v xs) (q : Below w.heap.size w w') : ExP X w' v xs := h.step q.size fun c hc _ => q.block c hc
theorem ExP.l {X : Nat → Prop} {w : World} {v : Value} {xs : List Ex} (h : ExP X w v xs) : ExL w.heap.size w v xs := by
  induction h with
  | mk v xs ks hl hv lies ok kids ih => exact .mk v xs ks hl (fun c hc hn => lies_lt lies (len_ne hn) c hc) lies ok ih
theorem ExP.nil (X : Nat → Prop) (w : World) : ExP X w (.slice none 0 0) [] :=
  .mk _ [] [] rfl (fun _ _ h => absurd rfl h) (Lies.nil _ _) (fun _ h => by cases h) (fun i h => by simp at h)
theorem ExL.p {B : Nat} {w : World} {v : Value} {xs : List Ex} (h : ExL B w v xs) : ExP (· < B) w v xs := by
  induction h with
  | mk v xs ks hl hv lies ok kids ih => exact .mk v xs ks hl hv lies ok ih
end Go.Proofs.YtjddpfojllefgaaGreat
