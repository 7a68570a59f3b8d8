/-
  Constant expressions: the program and the document answer the same.
-/
import Derived.Test.YtdmniecdfakbcaaGreatCcGz
import Derived.Test.YtdmniecdfakbcaaGreatRwB
import Derived.Test.YtdmniecdfakbcaaGreatOpenX
namespace Go.Proofs.YtdmniecdfakbcaaGreat
open Go.RowKit
set_option linter.unusedSimpArgs false
set_option linter.unusedVariables false

theorem Tv.count {w W W' : World} {B c : Nat} {x : Ex} {ka : Option Addr} {kc : Nat} {r : List Value} (h : Tv w W B x ka kc r) (hB : B ≤ w.heap.size) (q : Ctd W W' (w.heap.size + 1) c) : Tv w W' B x ka kc [.int .i64 (c : Int)] := by
  have hs := h.R.1
  exact ⟨h.d.trans (q.kb.below (by omega) (by omega)), h.A.kb q.kb (by omega), q.box, h.hk.step (q.kb.below (by omega) (by omega)), Nat.le_trans h.le q.kb.size⟩
set_option maxRecDepth 100000 in
set_option maxHeartbeats 2000000 in
theorem walk_checkConst (x : Ex) (kv : Value) (w : World) (hf : ExF x) (hx : ExL w.heap.size w kv x.kids) : Calls Tryz.prog 3 #[.agg #[.int .i64 x.k, .int .u64 x.n, .int .i64 x.b, .bool x.s, .string x.nm, kv]] w fun e w' => e = .returned (.bool true) ∧ Below w.heap.size w w' := by
  obtain ⟨ka, kc, rfl⟩ : ∃ ao cap, kv = .slice ao x.kids.length cap := by obtain ⟨ao, cap, e, -⟩ := hx.at; exact ⟨ao, cap, e⟩
  have hnm := nmE_of x _ _ _ hx hf
  have S0 := hideI (Tv.begin #[.int .i64 0] 27 31 hx (Nat.le_refl _))
  have CE := hideI (rexpr_any x w.heap.size (w.heap.size + 1) 0 1 _ _ (unhideI S0).R (by omega) (by omega) (by omega) (unhideI S0).hk hf)
  obtain ⟨a0, a1, a2, a3, a4, a5⟩ := (unhideI S0).A.six8
  have hsA := (unhideI S0).A.1
  have HF := hideI hf
  have HN := hideI hnm
  clear hx hf hnm
  obtain ⟨E0, hE0⟩ : ∃ E0, E0 = (lkE x 1 0).1 := ⟨_, rfl⟩
  obtain ⟨C0, hC0⟩ : ∃ C0, C0 = (lkE x 1 0).2 := ⟨_, rfl⟩
  rw [← hE0, ← hC0] at CE
  have HE := hideI hE0
  clear hE0 hC0
  generalize hW0 : (w.alloc (.cells #[.int .i64 x.k, .int .u64 x.n, .int .i64 x.b, .bool x.s, .string x.nm, .slice ka x.kids.length kc] 27)).alloc (.cells #[.int .i64 0] 31) = W0 at *
  go_enter Tryz.func3, Tryz.ntmps3
  go_wp2_with fail
  refine (unhideI CE).mono ?_
  rintro e w1 ⟨rfl, k1⟩
  have S1 := hideI ((unhideI S0).count (Nat.le_refl _) k1)
  clear k1 S0 CE a0 a1 a2 a3 a4 a5 hsA
  by_cases he : E0 = 0
  rotate_left
  · have hE1 : (E0 != 0) = true := bne_iff_ne.2 he
    have hE2 : (E0 == 0) = false := beq_eq_false_iff_ne.2 he
    clear he
    go_wp2_with fail
    go_ret
    exact ⟨rfl, (unhideI S1).d⟩
  · subst he
    obtain ⟨V, b, s, V', b', s', er, q1, q2, q3⟩ := bothC x (tvE_of x 1 0 (unhideI HE).symm) (unhideI HN)
    have Q1 := hideI q1
    have Q2 := hideI q2
    have Q3 := hideI q3
    clear q1 q2 q3
    have CC := hideI (cconst_any x _ _ _ (unhideI S1).hk (unhideI S1).le (unhideI HF) V' b' s' er (unhideI HE).symm (unhideI Q1))
    obtain ⟨a0, a1, a2, a3, a4, a5⟩ := (unhideI S1).A.six8
    have hsA := (unhideI S1).A.1
    go_wp2_with fail
    refine (unhideI CC).mono ?_
    rintro e w2 ⟨rfl, k2⟩
    have S2 := hideI ((unhideI S1).next k2)
    have kN := below_a w2 (.cells #[.int .i64 b', .bool s'] 24)
    have BN := hideI (Box.new w2 #[.int .i64 b', .bool s'] 24)
    have S3 := hideI ((unhideI S2).next kN)
    clear k2 S1 S2 CC a0 a1 a2 a3 a4 a5 hsA kN
    obtain ⟨a0, a1, a2, a3, a4, a5⟩ := (unhideI S3).A.six8
    have hsA := (unhideI S3).A.1
    generalize hW3 : w2.alloc (.cells #[.int .i64 b', .bool s'] 24) = W3 at *
    have CD := hideI ((unhideI Q2) _ _ _ (unhideI S3).hk (unhideI S3).le)
    go_wp2_with fail
    refine (unhideI CD).mono ?_
    rintro e w4 ⟨rfl, k4⟩
    have S4 := hideI ((unhideI S3).next k4)
    have kM := below_a w4 (.cells #[.int .i64 b, .bool s] 24)
    have BM := hideI (Box.new w4 #[.int .i64 b, .bool s] 24)
    have BN5 := hideI (((unhideI BN).step k4).step kM)
    have S5 := hideI ((unhideI S4).next kM)
    clear k4 S3 S4 CD a0 a1 a2 a3 a4 a5 hsA kM BN Q1 Q2
    obtain ⟨u0, u1⟩ := (unhideI BN5).at2
    have hsN := (unhideI BN5).1
    obtain ⟨v0, v1⟩ := (unhideI BM).at2
    have hsM := (unhideI BM).1
    generalize hW5 : w4.alloc (.cells #[.int .i64 b, .bool s] 24) = W5 at *
    have eqE : (er == er) = true := beq_self_eq_true er
    by_cases he : er = 0
    · subst he
      obtain ⟨rfl, rfl, rfl, -, -⟩ := unhideI Q3 rfl
      have eqV : (V' == V') = true := beq_self_eq_true V'
      have eqb : (b' == b') = true := beq_self_eq_true b'
      have eqs : (s' == s') = true := beq_self_eq_true s'
      clear Q3
      go_wp2_with fail
      go_ret
      exact ⟨rfl, (unhideI S5).d⟩
    · have hE1 : (er != 0) = true := bne_iff_ne.2 he
      have hE2 : (er == 0) = false := beq_eq_false_iff_ne.2 he
      clear he Q3
      go_wp2_with fail
      go_ret
      exact ⟨rfl, (unhideI S5).d⟩
end Go.Proofs.YtdmniecdfakbcaaGreat
