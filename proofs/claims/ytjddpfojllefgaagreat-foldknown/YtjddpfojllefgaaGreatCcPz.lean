/-
  Constant expressions: small facts on what lies in memory, and on numbers.
-/
import Derived.Test.YtjddpfojllefgaaGreatLwCz
import Derived.Test.YtjddpfojllefgaaGreatCcE
import Derived.Test.YtjddpfojllefgaaGreatTyFz
namespace Go.Proofs.YtjddpfojllefgaaGreat
open Go.RowKit
set_option linter.unusedSimpArgs false
set_option linter.unusedVariables false

theorem Box.two9 {w : World} {b : Nat} {x y : Value} (h : Box w b [x, y]) (u v : Value) : Box ((w.setCell ⟨b, 0, none⟩ u).setCell ⟨b, 1, none⟩ v) b [u, v] := (h.set (j := 0) (u := u) (by simp)).set (j := 1) (u := v) (by simp)
theorem Tv.put9 {w W : World} {B : Nat} {x : Ex} {ka : Option Addr} {kc : Nat} {p q : Value} (h : Tv w W B x ka kc [p, q]) (hB : B ≤ w.heap.size) (u v : Value) : Tv w ((W.setCell ⟨w.heap.size + 1, 0, none⟩ u).setCell ⟨w.heap.size + 1, 1, none⟩ v) B x ka kc [u, v] := by
  have hb := below_2 (Below.refl W.heap.size W |>.mono (B' := w.heap.size + 1) (by have := h.R.1; omega)) (Nat.le_refl (w.heap.size + 1)) u v
  exact ⟨below_2 h.d (by omega) _ _, (h.A.other (b' := w.heap.size + 1) (by omega)).other (b' := w.heap.size + 1) (by omega), h.R.two9 u v, h.hk.step (hb.mono (by omega)), Nat.le_trans h.le hb.size⟩
theorem ExL.mono9 {B B' : Nat} {w : World} {v : Value} {xs : List Ex} (h : ExL B w v xs) (hB : B ≤ B') : ExL B' w v xs := by
  induction h with
  | mk v xs ks hl hv lies ok kids ih => exact .mk v xs ks hl (fun c hc hn => Nat.lt_of_lt_of_le (hv c hc hn) hB) lies ok ih
/-- Its numbers are numbers, in all of it. -/
inductive NmE : Ex → Prop
  | mk (x : Ex) (f : ExF x) (kids : ∀ y ∈ x.kids, NmE y) : NmE x
theorem nmE_of : ∀ (x : Ex) (B : Nat) (w : World) (kv : Value), ExL B w kv x.kids → ExF x → NmE x := by
  apply Ex.ind
  intro x IH B w kv h hf
  refine .mk x hf fun y hy => ?_
  obtain ⟨ao, cap, -, -, h2⟩ := h.at
  obtain ⟨j, hj, rfl⟩ := List.mem_iff_getElem.1 hy
  obtain ⟨b, off, -, -, -, hc⟩ := h2 (List.ne_nil_of_mem hy)
  obtain ⟨kv', h3, h4, -⟩ := hc j hj
  exact IH _ hy B w kv' h3 h4
theorem one_of {l : List Ex} (h : l.length = 1) : ∃ a, l = [a] := by
  match l, h with
  | [a], _ => exact ⟨a, rfl⟩
theorem two_of {l : List Ex} (h : l.length = 2) : ∃ a b, l = [a, b] := by
  match l, h with
  | [a, b], _ => exact ⟨a, b, rfl⟩
end Go.Proofs.YtjddpfojllefgaaGreat

/-
  Types of numbers: what Binary answers.
-/
namespace Go.Proofs.YtjddpfojllefgaaGreat
open Go.RowKit
set_option linter.unusedSimpArgs false
set_option linter.unusedVariables false

theorem Duo.more {w w3 : World} {T : TypeId} {a0 a1 b0 b1 u v : Value} (h : Duo w w3 a0 a1 b0 b1) : Duo w (w3.alloc (.cells #[u, v] T)) a0 a1 b0 b1 ∧ Box (w3.alloc (.cells #[u, v] T)) w3.heap.size [u, v] := ⟨h.step (below_a _ _), Box.new w3 #[u, v] T⟩

set_option maxHeartbeats 2000000 in
theorem binary_work (k a b x y : Int) (s t : Bool) (w : World) (hk : wkB k) (hx : IsW x) (hy : IsW y) (ha : U a) (hb : U b) : Calls Tryz.prog 42 #[.int .i64 k, .int .u64 a, .int .u64 b, .agg #[.int .i64 x, .bool s], .agg #[.int .i64 y, .bool t]] w fun e w' => e = .returned (.tuple #[.int .u64 (wrk k (cs x s y t) (cb x y) (conv a x s (cb x y)) (conv b y t (cb x y))).1, .int .i64 (wrk k (cs x s y t) (cb x y) (conv a x s (cb x y)) (conv b y t (cb x y))).2]) ∧ Below w.heap.size w w' := by
  have hX := isW_c hx hy
  have hs : shB k = false := by rcases hk with rfl | rfl | rfl | rfl | rfl | rfl | rfl | rfl <;> decide
  have hc : cpB k = false := by rcases hk with rfl | rfl | rfl | rfl | rfl | rfl | rfl | rfl <;> decide
  have h9 : 9 ≤ k ∧ k ≤ 24 := by unfold wkB at hk; omega
  have B1 := hide (fun (w : World) => tvalid_yes x s w hx)
  have B2 := hide (fun (w : World) => tvalid_yes y t w hy)
  have d1 : decide (k < 9) = false := by simp; omega
  have d2 : decide (24 < k) = false := by simp; omega
  have SH := hide (fun (w : World) => shifts_any k w)
  rw [hs] at SH
  have CP := hide (fun (w : World) => compares_any k w)
  rw [hc] at CP
  have HK := hide hk
  clear hk hs hc h9
  go_enter Tryz.func42, Tryz.ntmps42
  go_wp2_with (first | (go_at_call 55; have K := R1; refine (unhide B2 _).mono ?_; rintro e w2 ⟨rfl, k2⟩; clear K x0 x1 x2 x3; have R2 := hide ((unhide R1).step k2); obtain ⟨x0, x1⟩ := (unhide R2).A.at2; obtain ⟨x2, x3⟩ := (unhide R2).B.at2) | (go_at_call 55; refine (unhide B1 _).mono ?_; rintro e w1 ⟨rfl, k1⟩; have R1 := hide (Duo.new k1); obtain ⟨x0, x1⟩ := (unhide R1).A.at2; obtain ⟨x2, x3⟩ := (unhide R1).B.at2) | (go_at_call 62; refine (unhide SH _).mono ?_; rintro e w' ⟨rfl, hw⟩; subst w'))
  refine (common_any x s y t w2).mono ?_
  rintro e w3 ⟨rfl, k3⟩
  clear x0 x1 x2 x3
  have R3 := hide ((unhide R2).step k3)
  go_wp2_with fail
  have R4 := hide ((unhide R3).more (T := 24) (u := .int .i64 (cb x y)) (v := .bool (cs x s y t)))
  generalize w3.alloc (.cells #[.int .i64 (cb x y), .bool (cs x s y t)] 24) = w4 at *
  obtain ⟨x0, x1⟩ := (unhide R4).1.A.at2
  obtain ⟨x2, x3⟩ := (unhide R4).1.B.at2
  obtain ⟨x4, x5⟩ := (unhide R4).2.at2
  have l0 := (unhide R4).1.A.1
  have l1 := (unhide R4).1.B.1
  have l2 := (unhide R4).2.1
  refine wp_region_later (by kernel_rfl) (by kernel_rfl) ?_
  intro L hne lt hlc hlf hlm
  repeat (go_big_quiet_step ((go_at_call 39; exact later_call hlm (convert_any _ _ _ _ _ _ (by assumption) (by assumption) (by assumption)))))
  refine wpQuiet_nil ?_
  intro wq kq
  clear hlm hlf hlc lt hne L
  obtain ⟨hqc, hqf⟩ := below_cells kq
  have U1 : U (conv a x s (cb x y)) := u_conv hX
  have U2 : U (conv b y t (cb x y)) := u_conv hX
  clear x0 x1 x2 x3 x4 x5 l0 l1 l2 hqc hqf
  have R5 := hide ((unhide R4).2.step kq)
  have K5 := hide (bT (unhide R4).1.bel kq)
  obtain ⟨x4, x5⟩ := (unhide R5).at2
  have WK := hide (fun (w : World) => worked_any k _ _ _ (cs x s y t) w (unhide HK) hX U1 U2)
  go_wp2_with (first | (go_at_call 65; refine (unhide CP _).mono ?_; rintro e w' ⟨rfl, hw⟩; subst w') | (go_at_call 67; refine (unhide WK _).mono ?_; rintro e w6 ⟨rfl, k6⟩))
  go_ret2
  exact ⟨rfl, bT (unhide K5) k6⟩
set_option maxHeartbeats 2000000 in
theorem binary_cmp (k a b x y : Int) (s t : Bool) (w : World) (hk : 16 ≤ k ∧ k ≤ 21) (hx : IsW x) (hy : IsW y) (ha : U a) (hb : U b) : Calls Tryz.prog 42 #[.int .i64 k, .int .u64 a, .int .u64 b, .agg #[.int .i64 x, .bool s], .agg #[.int .i64 y, .bool t]] w fun e w' => e = .returned (.tuple #[.int .u64 (b1 (hld k (cs x s y t) (cb x y) (conv a x s (cb x y)) (conv b y t (cb x y)))), .int .i64 0]) ∧ Below w.heap.size w w' := by
  have hX := isW_c hx hy
  have hs : shB k = false := by unfold shB; rw [beq_eq_false_iff_ne.2 (by omega), beq_eq_false_iff_ne.2 (by omega)]; rfl
  have hc : cpB k = true := by unfold cpB; simp; exact hk
  have B1 := hide (fun (w : World) => tvalid_yes x s w hx)
  have B2 := hide (fun (w : World) => tvalid_yes y t w hy)
  have d1 : decide (k < 9) = false := by simp; omega
  have d2 : decide (24 < k) = false := by simp; omega
  have SH := hide (fun (w : World) => shifts_any k w)
  rw [hs] at SH
  have CP := hide (fun (w : World) => compares_any k w)
  rw [hc] at CP
  have HK := hide hk
  clear hk hs hc
  go_enter Tryz.func42, Tryz.ntmps42
  go_wp2_with (first | (go_at_call 55; have K := R1; refine (unhide B2 _).mono ?_; rintro e w2 ⟨rfl, k2⟩; clear K x0 x1 x2 x3; have R2 := hide ((unhide R1).step k2); obtain ⟨x0, x1⟩ := (unhide R2).A.at2; obtain ⟨x2, x3⟩ := (unhide R2).B.at2) | (go_at_call 55; refine (unhide B1 _).mono ?_; rintro e w1 ⟨rfl, k1⟩; have R1 := hide (Duo.new k1); obtain ⟨x0, x1⟩ := (unhide R1).A.at2; obtain ⟨x2, x3⟩ := (unhide R1).B.at2) | (go_at_call 62; refine (unhide SH _).mono ?_; rintro e w' ⟨rfl, hw⟩; subst w'))
  refine (common_any x s y t w2).mono ?_
  rintro e w3 ⟨rfl, k3⟩
  clear x0 x1 x2 x3
  have R3 := hide ((unhide R2).step k3)
  go_wp2_with fail
  have R4 := hide ((unhide R3).more (T := 24) (u := .int .i64 (cb x y)) (v := .bool (cs x s y t)))
  generalize w3.alloc (.cells #[.int .i64 (cb x y), .bool (cs x s y t)] 24) = w4 at *
  obtain ⟨x0, x1⟩ := (unhide R4).1.A.at2
  obtain ⟨x2, x3⟩ := (unhide R4).1.B.at2
  obtain ⟨x4, x5⟩ := (unhide R4).2.at2
  have l0 := (unhide R4).1.A.1
  have l1 := (unhide R4).1.B.1
  have l2 := (unhide R4).2.1
  refine wp_region_later (by kernel_rfl) (by kernel_rfl) ?_
  intro L hne lt hlc hlf hlm
  repeat (go_big_quiet_step ((go_at_call 39; exact later_call hlm (convert_any _ _ _ _ _ _ (by assumption) (by assumption) (by assumption)))))
  refine wpQuiet_nil ?_
  intro wq kq
  clear hlm hlf hlc lt hne L
  obtain ⟨hqc, hqf⟩ := below_cells kq
  have U1 : U (conv a x s (cb x y)) := u_conv hX
  have U2 : U (conv b y t (cb x y)) := u_conv hX
  clear x0 x1 x2 x3 x4 x5 l0 l1 l2 hqc hqf
  have R5 := hide ((unhide R4).2.step kq)
  have K5 := hide (bT (unhide R4).1.bel kq)
  obtain ⟨x4, x5⟩ := (unhide R5).at2
  have WK := hide (fun (w : World) => holds_any k _ _ _ (cs x s y t) w (unhide HK) hX U1 U2)
  go_wp2_with (first | (go_at_call 65; refine (unhide CP _).mono ?_; rintro e w' ⟨rfl, hw⟩; subst w') | (go_at_call 66; refine (unhide WK _).mono ?_; rintro e w6 ⟨rfl, k6⟩) | (go_at_call 59; refine (oneIf_any _ _).mono ?_; rintro e w' ⟨rfl, hw⟩; subst w'))
  go_ret2
  exact ⟨rfl, bT (unhide K5) k6⟩
set_option maxHeartbeats 2000000 in
theorem binary_shift (k a b x y : Int) (s t : Bool) (w : World) (hk : k = 14 ∨ k = 15) (hx : IsW x) (hy : IsW y) (ha : U a) (hb : U b) : Calls Tryz.prog 42 #[.int .i64 k, .int .u64 a, .int .u64 b, .agg #[.int .i64 x, .bool s], .agg #[.int .i64 y, .bool t]] w fun e w' => e = .returned (.tuple #[.int .u64 (shf k (ps x s) (pb x) (conv a x s (pb x)) (conv b y t 16)), .int .i64 0]) ∧ Below w.heap.size w w' := by
  have hX := isW_p hx
  have h16 : IsW 16 := .inr (.inl rfl)
  have hs : shB k = true := by rcases hk with rfl | rfl <;> decide
  have B1 := hide (fun (w : World) => tvalid_yes x s w hx)
  have B2 := hide (fun (w : World) => tvalid_yes y t w hy)
  have d1 : decide (k < 9) = false := by simp; omega
  have d2 : decide (24 < k) = false := by simp; omega
  have SH := hide (fun (w : World) => shifts_any k w)
  rw [hs] at SH
  have HK := hide hk
  have HU1 := hide (u_conv (x := a) (a := x) (s := s) hX)
  have HU2 := hide (u_conv (x := b) (a := y) (s := t) h16)
  clear hk hs
  go_enter Tryz.func42, Tryz.ntmps42
  go_wp2_with (first | (go_at_call 55; have K := R1; refine (unhide B2 _).mono ?_; rintro e w2 ⟨rfl, k2⟩; clear K x0 x1 x2 x3; have R2 := hide ((unhide R1).step k2); obtain ⟨x0, x1⟩ := (unhide R2).A.at2; obtain ⟨x2, x3⟩ := (unhide R2).B.at2) | (go_at_call 55; refine (unhide B1 _).mono ?_; rintro e w1 ⟨rfl, k1⟩; have R1 := hide (Duo.new k1); obtain ⟨x0, x1⟩ := (unhide R1).A.at2; obtain ⟨x2, x3⟩ := (unhide R1).B.at2) | (go_at_call 62; refine (unhide SH _).mono ?_; rintro e w' ⟨rfl, hw⟩; subst w'))
  refine (promote_any x s w2).mono ?_
  rintro e w3 ⟨rfl, k3⟩
  clear x0 x1 x2 x3
  have R3 := hide ((unhide R2).step k3)
  go_wp2_with fail
  have R4 := hide ((unhide R3).more (T := 24) (u := .int .i64 (pb x)) (v := .bool (ps x s)))
  generalize w3.alloc (.cells #[.int .i64 (pb x), .bool (ps x s)] 24) = w4 at *
  obtain ⟨x0, x1⟩ := (unhide R4).1.A.at2
  obtain ⟨x2, x3⟩ := (unhide R4).1.B.at2
  obtain ⟨x4, x5⟩ := (unhide R4).2.at2
  have l0 := (unhide R4).1.A.1
  have l1 := (unhide R4).1.B.1
  have l2 := (unhide R4).2.1
  refine wp_region_later (by kernel_rfl) (by kernel_rfl) ?_
  intro L hne lt hlc hlf hlm
  repeat (go_big_quiet_step (first | (go_at_call 39; exact later_call hlm (convert_any _ _ _ _ _ _ (by assumption) (by assumption) (by assumption))) | (go_at_call 63; exact later_call hlm (shifted_any _ _ _ _ _ _ (unhide HK) hX (unhide HU1) (unhide HU2)))))
  refine wpQuiet_nil ?_
  intro wq kq
  clear hlm hlf hlc lt hne L
  obtain ⟨hqc, hqf⟩ := below_cells kq
  have K5 := hide (bT (unhide R4).1.bel kq)
  go_wp2_with fail
  go_ret2
  exact ⟨rfl, unhide K5⟩
end Go.Proofs.YtjddpfojllefgaaGreat
