/-
  Types of numbers: the closed fact that each statement asks first.
-/
import Derived.Test.YtfkhbhjpnfajeaaDoorTyG
import Derived.Test.YtfkhbhjpnfajeaaDoorTyN
namespace Go.Proofs.YtfkhbhjpnfajeaaDoor
open Go.RowKit
set_option linter.unusedSimpArgs false
set_option linter.unusedVariables false

theorem bin_260 (w : World) : Calls Tryd.prog 28 #[.int .i64 12, .int .u64 250, .int .u64 10, .agg #[.int .i64 8, .bool false], .agg #[.int .i64 8, .bool false]] w fun e w' => e = .returned (.tuple #[.int .u64 260, .int .i64 0]) ∧ Below w.heap.size w w' := by
  have h := binary_work 12 250 10 8 8 false false w (.inr (.inr (.inr (.inl rfl)))) (.inl rfl) (.inl rfl) ⟨by decide, by decide⟩ ⟨by decide, by decide⟩
  have e : wrk 12 (cs 8 false 8 false) (cb 8 8) (conv 250 8 false (cb 8 8)) (conv 10 8 false (cb 8 8)) = (260, 0) := by decide +kernel
  rw [e] at h
  exact h
theorem nm_u32 : nmT 32 false = ⟨#[117, 51, 50]⟩ := by kernel_rfl
theorem alive7_any (w : World) : Calls Tryd.prog 25 #[] w fun e w' => e = .returned (.bool true) ∧ Below w.heap.size w w' := by
  have HB := hide (fun (w : World) => bin_260 w)
  have HN := hide (fun (w : World) => name_yes 32 false w (.inr (.inr (.inl rfl))))
  rw [nm_u32] at HN
  go_enter Tryd.func25, Tryd.ntmps25
  go_wp2_with (first | (go_at_call 28; refine (unhide HB _).mono ?_; rintro e w1 ⟨rfl, k1⟩) | (go_at_call 10; refine (unhide HN _).mono ?_; rintro e w2 ⟨rfl, k2⟩))
  go_ret
  exact ⟨rfl, bT k1 k2⟩

theorem Tri.new' {w w1 : World} {T : TypeId} {a0 a1 b0 b1 c0 c1 : Value} (k : Below (((w.alloc (.cells #[a0, a1] T)).alloc (.cells #[b0, b1] T)).alloc (.cells #[c0, c1] T)).heap.size (((w.alloc (.cells #[a0, a1] T)).alloc (.cells #[b0, b1] T)).alloc (.cells #[c0, c1] T)) w1) : Tri w w1 a0 a1 b0 b1 c0 c1 := by
  have h1 := below_a w (.cells #[a0, a1] T)
  have h2 := below_a (w.alloc (.cells #[a0, a1] T)) (.cells #[b0, b1] T)
  have h3 := below_a ((w.alloc (.cells #[a0, a1] T)).alloc (.cells #[b0, b1] T)) (.cells #[c0, c1] T)
  have A := Box.new w #[a0, a1] T
  have B := Box.new (w.alloc (.cells #[a0, a1] T)) #[b0, b1] T
  have C := Box.new ((w.alloc (.cells #[a0, a1] T)).alloc (.cells #[b0, b1] T)) #[c0, c1] T
  simp only [World.size_alloc] at B C
  exact ⟨bT h1 (bT h2 (bT h3 k)), ((A.step h2).step h3).step k, (B.step h3).step k, C.step k⟩
theorem Tri.more {w w3 : World} {T : TypeId} {a0 a1 b0 b1 c0 c1 u v : Value} (h : Tri w w3 a0 a1 b0 b1 c0 c1) : Tri w (w3.alloc (.cells #[u, v] T)) a0 a1 b0 b1 c0 c1 ∧ Box (w3.alloc (.cells #[u, v] T)) w3.heap.size [u, v] := ⟨h.step (below_a _ _), Box.new w3 #[u, v] T⟩

/-- What holds of common types. -/
structure Cm (a : Int) (s : Bool) (b : Int) (t : Bool) (c : Int) (u : Bool) : Prop where
  c1 : cb b a = cb a b
  c2 : cs b t a s = cs a s b t
  i1 : cb (cb a b) (cb a b) = cb a b
  i2 : cs (cb a b) (cs a s b t) (cb a b) (cs a s b t) = cs a s b t
  l1 : cb (cb a b) a = cb a b
  l2 : cs (cb a b) (cs a s b t) a s = cs a s b t
  r1 : cb (cb a b) b = cb a b
  r2 : cs (cb a b) (cs a s b t) b t = cs a s b t
  g1 : a ≤ cb a b
  g2 : b ≤ cb a b
  g3 : 16 ≤ cb a b
  p : (cb a b = pb a ∧ cs a s b t = ps a s) ∨ (cb a b = pb b ∧ cs a s b t = ps b t)
  a1 : cb (cb a b) c = cb a (cb b c)
  a2 : cs (cb a b) (cs a s b t) c u = cs a s (cb b c) (cs b t c u)
theorem cm_dec : ∀ a ∈ [(8 : Int), 16, 32, 64], ∀ s : Bool, ∀ b ∈ [(8 : Int), 16, 32, 64], ∀ t : Bool, ∀ c ∈ [(8 : Int), 16, 32, 64], ∀ u : Bool,
    (cb b a = cb a b ∧ cs b t a s = cs a s b t ∧ cb (cb a b) (cb a b) = cb a b ∧ cs (cb a b) (cs a s b t) (cb a b) (cs a s b t) = cs a s b t) ∧ (cb (cb a b) a = cb a b ∧ cs (cb a b) (cs a s b t) a s = cs a s b t ∧ cb (cb a b) b = cb a b ∧ cs (cb a b) (cs a s b t) b t = cs a s b t) ∧ (a ≤ cb a b ∧ b ≤ cb a b ∧ 16 ≤ cb a b) ∧ ((cb a b = pb a ∧ cs a s b t = ps a s) ∨ (cb a b = pb b ∧ cs a s b t = ps b t)) ∧ cb (cb a b) c = cb a (cb b c) ∧ cs (cb a b) (cs a s b t) c u = cs a s (cb b c) (cs b t c u) := by decide +kernel
theorem isW_mem {a : Int} (h : IsW a) : a ∈ [(8 : Int), 16, 32, 64] := by rcases h with rfl | rfl | rfl | rfl <;> decide
theorem cm_all {a b c : Int} (ha : IsW a) (hb : IsW b) (hc : IsW c) (s t u : Bool) : Cm a s b t c u := by
  obtain ⟨⟨x1, x2, x3, x4⟩, ⟨x5, x6, x7, x8⟩, ⟨x9, x10, x11⟩, x12, x13, x14⟩ := cm_dec a (isW_mem ha) s b (isW_mem hb) t c (isW_mem hc) u
  exact ⟨x1, x2, x3, x4, x5, x6, x7, x8, x9, x10, x11, x12, x13, x14⟩
end Go.Proofs.YtfkhbhjpnfajeaaDoor
