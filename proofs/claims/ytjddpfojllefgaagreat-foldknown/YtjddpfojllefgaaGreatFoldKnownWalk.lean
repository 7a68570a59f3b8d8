/-
  What is known is worked out: the whole statement.
-/
import Derived.Test.YtjddpfojllefgaaGreatFkGz
import Derived.Test.YtjddpfojllefgaaGreatRwB
import Derived.Test.YtjddpfojllefgaaGreatOpenX
namespace Go.Proofs.YtjddpfojllefgaaGreat
open Go.RowKit
set_option linter.unusedSimpArgs false
set_option linter.unusedVariables false

/-- On the way: what was handed in lies there. -/
structure Fa (w W : World) (x : Ex) (ka : Option Addr) (kc : Nat) : Prop where
  d : Below w.heap.size w W
  A : Box W w.heap.size [.int .i64 x.k, .int .u64 x.n, .int .i64 x.b, .bool x.s, .string x.nm, .slice ka x.kids.length kc]
  hk : ExL w.heap.size W (.slice ka x.kids.length kc) x.kids
theorem Fa.next {w W W' : World} {x : Ex} {ka : Option Addr} {kc : Nat} (h : Fa w W x ka kc) (q : Below W.heap.size W W') : Fa w W' x ka kc :=
  ⟨bT h.d q, h.A.step q, h.hk.step (q.mono h.d.size)⟩
theorem Fa.count {w W W' : World} {b c : Nat} {x : Ex} {ka : Option Addr} {kc : Nat} (h : Fa w W x ka kc) (hb : w.heap.size < b) (hbW : b < W.heap.size) (q : Ctd W W' b c) : Fa w W' x ka kc :=
  ⟨h.d.trans (q.kb.below (by omega) (by omega)), h.A.kb q.kb (by omega), h.hk.step (q.kb.below (by omega) (by omega))⟩
set_option maxRecDepth 100000 in
set_option maxHeartbeats 2000000 in
theorem walk_foldKnown (x : Ex) (kv : Value) (w : World) (hf : ExF x) (hx : ExL w.heap.size w kv x.kids) : Calls Tryz.prog 3 #[.agg #[.int .i64 x.k, .int .u64 x.n, .int .i64 x.b, .bool x.s, .string x.nm, kv]] w fun e w' => e = .returned (.bool true) ∧ Below w.heap.size w w' := by
  obtain ⟨ka, kc, rfl⟩ : ∃ ao cap, kv = .slice ao x.kids.length cap := by obtain ⟨ao, cap, e, -⟩ := hx.at; exact ⟨ao, cap, e⟩
  have hnm := nmE_of x _ _ _ hx hf
  have q0 := below_a w (.cells #[.int .i64 x.k, .int .u64 x.n, .int .i64 x.b, .bool x.s, .string x.nm, .slice ka x.kids.length kc] 27)
  have S3 := hideI (Fa.mk q0 (Box.new w _ 27) (hx.step q0) : Fa w (w.alloc (.cells #[.int .i64 x.k, .int .u64 x.n, .int .i64 x.b, .bool x.s, .string x.nm, .slice ka x.kids.length kc] 27)) x ka kc)
  have AL := hideI alive_any
  have HF := hideI hf
  have HN := hideI hnm
  clear hx hf hnm q0
  generalize hW0 : w.alloc (.cells #[.int .i64 x.k, .int .u64 x.n, .int .i64 x.b, .bool x.s, .string x.nm, .slice ka x.kids.length kc] 27) = W0 at *
  go_enter Tryz.func3, Tryz.ntmps3
  go_wp2_with fail
  refine (unhideI AL _).mono ?_
  rintro e w1 ⟨rfl, k1⟩
  have kC := below_a w1 (.cells #[.int .i64 0] 32)
  have BC := Box.new w1 #[.int .i64 0] 32
  have S1 := hideI (((unhideI S3).next k1).next kC)
  have hz1 := hideI (show w.heap.size < w1.heap.size from ((unhideI S3).next k1).A.1)
  have CE := hideI (rexpr_any x w.heap.size w1.heap.size 0 1 _ _ BC (Nat.le_of_lt (unhideI hz1)) (by omega) (by omega) (unhideI S1).hk (unhideI HF))
  have hz2 := hideI (show w1.heap.size < (w1.alloc (.cells #[.int .i64 0] 32)).heap.size by simp)
  clear k1 kC BC S3 AL
  have S3 := S1
  clear S1
  obtain ⟨a0, a1, a2, a3, a4, a5⟩ := (unhideI S3).A.six8
  have hsA := (unhideI S3).A.1
  obtain ⟨E0, hE0⟩ : ∃ E0, E0 = (lkE x 1 0).1 := ⟨_, rfl⟩
  obtain ⟨C0, hC0⟩ : ∃ C0, C0 = (lkE x 1 0).2 := ⟨_, rfl⟩
  rw [← hE0, ← hC0] at CE
  have HE := hideI hE0
  clear hE0 hC0
  generalize hW1 : w1.alloc (.cells #[.int .i64 0] 32) = W1 at *
  go_wp2_with fail
  refine (unhideI CE).mono ?_
  rintro e w2 ⟨rfl, k2⟩
  have S2 := hideI ((unhideI S3).count (unhideI hz1) (unhideI hz2) k2)
  clear k2 S3 CE a0 a1 a2 a3 a4 a5 hsA hz1 hz2
  have S3 := S2
  clear S2
  by_cases he : E0 = 0
  rotate_left
  · have hE1 : (E0 != 0) = true := bne_iff_ne.2 he
    have hE2 : (E0 == 0) = false := beq_eq_false_iff_ne.2 he
    clear he
    go_wp2_with fail
    go_ret
    exact ⟨rfl, (unhideI S3).d⟩
  · subst he
    obtain ⟨V, b, s, er, q1, q2⟩ := foK x (okX_of x 1 0 (unhideI HE).symm) (unhideI HN)
    have Q2 := hideI q2
    have CC := hideI (cconst_any x _ _ _ (unhideI S3).hk (unhideI S3).d.size (unhideI HF) V b s er (unhideI HE).symm q1)
    clear q1 q2
    obtain ⟨a0, a1, a2, a3, a4, a5⟩ := (unhideI S3).A.six8
    have hsA := (unhideI S3).A.1
    go_wp2_with fail
    refine (unhideI CC).mono ?_
    rintro e w3 ⟨rfl, k3⟩
    have S4 := (unhideI S3).next k3
    have kN := below_a w3 (.cells #[.int .i64 b, .bool s] 24)
    have BN := hideI (Box.new w3 #[.int .i64 b, .bool s] 24)
    have S5 := hideI (S4.next kN)
    clear k3 S3 S4 CC a0 a1 a2 a3 a4 a5 hsA kN
    have S3 := S5
    clear S5
    obtain ⟨a0, a1, a2, a3, a4, a5⟩ := (unhideI S3).A.six8
    have hsA := (unhideI S3).A.1
    generalize hW3 : w3.alloc (.cells #[.int .i64 b, .bool s] 24) = W3 at *
    by_cases he : er = 0
    rotate_left
    · have hE1 : (er != 0) = true := bne_iff_ne.2 he
      have hE2 : (er == 0) = false := beq_eq_false_iff_ne.2 he
      clear he Q2
      go_wp2_with fail
      go_ret
      exact ⟨rfl, (unhideI S3).d⟩
    · subst he
      have CX := hideI (fExpr_any x _ (unhideI Q2 rfl).2 (unhideI HE).symm _ _ _ (unhideI S3).hk (unhideI S3).d.size (unhideI HF))
      clear Q2
      go_wp2_with fail
      refine (unhideI CX).mono ?_
      rintro e w4 ⟨y, ao, n, c, rfl, k4, hp, hfy, hq⟩
      have kY := below_a w4 (.cells #[.int .i64 y.k, .int .u64 y.n, .int .i64 y.b, .bool y.s, .string y.nm, .slice ao n c] 27)
      have BY := hideI (Box.new w4 #[.int .i64 y.k, .int .u64 y.n, .int .i64 y.b, .bool y.s, .string y.nm, .slice ao n c] 27)
      have S5 := hideI (((unhideI S3).next k4).next kY)
      have BN5 := hideI (((unhideI BN).step k4).step kY)
      have HY := hideI ((hp.next kY).l)
      have HQ := hideI (And.intro hfy hq)
      have CY := hideI (cconst_any y _ _ _ (unhideI HY) (Nat.le_refl _) hfy V b s 0 (by obtain ⟨m, hm, e⟩ := hq.lk 1 0 (by omega) (by omega); rw [e]) hq.wk)
      clear k4 kY S3 CX a0 a1 a2 a3 a4 a5 hsA hp hfy hq BN
      obtain ⟨a0, a1, a2, a3, a4, a5⟩ := (unhideI BY).six8
      have hsA := (unhideI BY).1
      generalize hW4 : w4.alloc (.cells #[.int .i64 y.k, .int .u64 y.n, .int .i64 y.b, .bool y.s, .string y.nm, .slice ao n c] 27) = W4 at *
      go_wp2_with fail
      refine (unhideI CY).mono ?_
      rintro e w5 ⟨rfl, k5⟩
      have kM := below_a w5 (.cells #[.int .i64 b, .bool s] 24)
      have BM := hideI (Box.new w5 #[.int .i64 b, .bool s] 24)
      have K6 := hideI (bT (bT (unhideI S5).d k5) kM)
      have BN6 := hideI (((unhideI BN5).step k5).step kM)
      have BY6 := hideI (((unhideI BY).step k5).step kM)
      have HY6 := hideI (((unhideI HY).step k5).step (kM.mono k5.size))
      clear k5 kM S5 CY a0 a1 a2 a3 a4 a5 hsA BN5 BY HY
      obtain ⟨a0, a1, a2, a3, a4, a5⟩ := (unhideI BY6).six8
      have hsA := (unhideI BY6).1
      obtain ⟨u0, u1⟩ := (unhideI BN6).at2
      have hsN := (unhideI BN6).1
      obtain ⟨v0, v1⟩ := (unhideI BM).at2
      have hsM := (unhideI BM).1
      have eV : (V == V) = true := beq_self_eq_true V
      have eb : (b == b) = true := beq_self_eq_true b
      have es : (s == s) = true := beq_self_eq_true s
      obtain ⟨-, hq⟩ := unhideI HQ
      clear HQ HN HF HE
      generalize hW5 : w5.alloc (.cells #[.int .i64 b, .bool s] 24) = W5 at *
      cases hq with
      | num V b s nm h hU hn =>
        clear HY6
        simp only [Ex.k, Ex.n, Ex.b, Ex.s, Ex.nm] at *
        go_wp2_with fail
        go_ret
        exact ⟨rfl, unhideI K6⟩
      | cast V b s hU hb hf =>
        obtain ⟨ao', cap', e1, -, hat⟩ := (unhideI HY6).at
        injection e1 with e1 e2 e3
        subst e1 e2 e3
        obtain ⟨bk, off, rfl, hbk, hbw, hc1⟩ := hat (by simp [Ex.kids])
        obtain ⟨kv', -, -, c0, -⟩ := hc1 0 (by simp [Ex.kids])
        simp only [Nat.zero_mul, Nat.add_zero, Ex.kids, List.getElem_cons_zero, Ex.k] at c0
        clear HY6 hat hc1
        simp only [Ex.k, Ex.n, Ex.b, Ex.s, Ex.nm, Ex.kids, List.length_cons, List.length_nil, Nat.zero_add] at *
        go_wp2_with fail
        go_ret
        exact ⟨rfl, unhideI K6⟩
end Go.Proofs.YtjddpfojllefgaaGreat
