/-
  What is known is worked out: what operators make of known ones; the number that is written.
-/
import Derived.Test.YtjddpfojllefgaaGreatFkC
import Derived.Test.YtjddpfojllefgaaGreatFkD
import Derived.Test.YtjddpfojllefgaaGreatLwCz
import Derived.Test.YtjddpfojllefgaaGreatCcPz
namespace Go.Proofs.YtjddpfojllefgaaGreat
open Go.RowKit
set_option linter.unusedSimpArgs false
set_option linter.unusedVariables false

/-- What an operator of one kid makes of a value, whatever expression has it. -/
theorem step_un (k xb : Int) (xs : Bool) (lo : 5 ≤ k) (hi : k ≤ 8) (cast : k = 5 → IsW xb) {V0 b0 : Int} {s0 : Bool} (hb : IsW b0) (hf : cut b0 V0 = V0) :
    ∃ V b s, (cut b V = V ∧ IsW b) ∧ ∀ x x0 : Ex, x.k = k → x.b = xb → x.s = xs → x.kids = [x0] → WkC x0 V0 b0 s0 0 → WkC x V b s 0 := by
  have hU := u_ft hb hf
  by_cases hc : k = 5
  · refine ⟨conv V0 b0 s0 xb, xb, xs, ⟨?_, cast hc⟩, fun x x0 e1 e2 e3 hk h1 => ?_⟩
    · unfold conv; exact cut_cut _ _
    · exact wk_one x x0 _ _ _ _ _ _ (by omega) hk h1 (fun ka kl kc w => by rw [e1, hc, e2, e3]; exact wone_cast _ _ _ _ _ _ _ _ _ _ _ (fun w => convert_any V0 b0 s0 xb xs w hb (cast hc) hU) w)
  · obtain ⟨A, B, S, q1, q2, q3⟩ := opB k V0 b0 s0 (by omega) hb hU
    refine ⟨A, B, S, ⟨q2, q3⟩, fun x x0 e1 _ _ hk h1 => ?_⟩
    exact wk_one x x0 _ _ _ _ _ _ (by omega) hk h1 (fun ka kl kc w => by rw [e1]; exact wone_un _ _ _ _ _ _ _ _ _ _ _ _ _ _ (beq_eq_false_iff_ne.2 hc) q1 w)
theorem step_two (k : Int) (lo : 9 ≤ k) (hi : k ≤ 26) {V0 b0 V1 b1 : Int} {s0 s1 : Bool} (hb : IsW b0) (hf : cut b0 V0 = V0) (hb1 : IsW b1) (hf1 : cut b1 V1 = V1) :
    ∃ V b s er, (er = 0 → cut b V = V ∧ IsW b) ∧ ∀ x x0 x1 : Ex, x.k = k → x.kids = [x0, x1] → WkC x0 V0 b0 s0 0 → WkC x1 V1 b1 s1 0 → WkC x V b s er := by
  have hU := u_ft hb hf
  have hU1 := u_ft hb1 hf1
  by_cases h25 : k = 25
  · refine ⟨_, _, true, 0, fun _ => ⟨ft_16 ((V0 != 0) && (V1 != 0)), isW_16o⟩, fun x x0 x1 e1 hk h1 g1 => ?_⟩
    exact wk_two x x0 x1 _ _ _ _ _ _ 0 _ _ _ (by omega) hk h1 g1 (fun w => by rw [e1, h25]; exact wtwo_land V0 b0 V1 b1 s0 s1 _ _ rfl rfl w)
  · by_cases h26 : k = 26
    · refine ⟨_, _, true, 0, fun _ => ⟨ft_16 ((V0 != 0) || (V1 != 0)), isW_16o⟩, fun x x0 x1 e1 hk h1 g1 => ?_⟩
      exact wk_two x x0 x1 _ _ _ _ _ _ 0 _ _ _ (by omega) hk h1 g1 (fun w => by rw [e1, h26]; exact wtwo_lor V0 b0 V1 b1 s0 s1 _ _ rfl rfl w)
    · have n25 : (k == 25) = false := beq_eq_false_iff_ne.2 h25
      have n26 : (k == 26) = false := beq_eq_false_iff_ne.2 h26
      obtain ⟨A, E, q1, q2⟩ := opA k V0 V1 b0 s0 b1 s1 lo (by omega) hb hb1 hU hU1
      by_cases he : E = 0
      · subst he
        refine ⟨_, _, rs k b0 s0 b1 s1, 0, fun _ => ⟨q2 rfl, isW_rbo hb hb1⟩, fun x x0 x1 e1 hk h1 g1 => ?_⟩
        exact wk_two x x0 x1 _ _ _ _ _ _ 0 _ _ _ (by omega) hk h1 g1 (fun w => by rw [e1]; exact wtwo_ok k _ _ _ _ _ _ _ _ _ n25 n26 q1 (fun w => result_any k b0 s0 b1 s1 w) w)
      · refine ⟨0, 0, false, E, fun h => absurd h he, fun x x0 x1 e1 hk h1 g1 => ?_⟩
        exact wk_two x x0 x1 _ _ _ _ _ _ E _ _ _ (by omega) hk h1 g1 (fun w => by rw [e1]; exact wtwo_bad k _ _ _ _ _ _ _ _ n25 n26 he q1 w)
/-- The expression that a number of a type is written as. -/
theorem written_any (V b : Int) (s : Bool) (w : World) (hb : IsW b) (hf : cut b V = V) : Calls Tryz.prog 28 #[.int .u64 V, .agg #[.int .i64 b, .bool s]] w fun e w' => ∃ (ao : Option Addr) (n c : Nat), e = .returned (.agg #[.int .i64 (wrE V b s).k, .int .u64 (wrE V b s).n, .int .i64 (wrE V b s).b, .bool (wrE V b s).s, .string (wrE V b s).nm, .slice ao n c]) ∧ Below w.heap.size w w' ∧ ExP (w.heap.size ≤ ·) w' (.slice ao n c) (wrE V b s).kids := by
  have hU := u_ft hb hf
  by_cases h : (lit V (!s)).2.2 = 0 ∧ (lit V (!s)).1 = b ∧ (lit V (!s)).2.1 = s
  · have e : wrE V b s = .mk 1 V b s ⟨#[]⟩ [] := if_pos h
    rw [e]
    exact (written_num V b s w h).mono fun e w' ⟨h1, h2⟩ => ⟨none, 0, 0, h1, h2, ExP.nil _ _⟩
  · have e : wrE V b s = .mk 5 0 b s ⟨#[]⟩ [.mk 1 V (lit V true).1 (lit V true).2.1 ⟨#[]⟩ []] := if_neg h
    rw [e]
    refine (written_cast V b s w h).mono fun e w' ⟨q, h1, h2, h3, h4⟩ => ⟨some ⟨q, 0, none⟩, 1, 1, h1, h2, ?_⟩
    exact exP_one (z := .mk 1 V (lit V true).1 (lit V true).2.1 ⟨#[]⟩ []) (kv := .slice none 0 0) h4 h3 (ExP.nil _ _) ⟨hU, Nat.zero_le _⟩
end Go.Proofs.YtjddpfojllefgaaGreat

/-
  Constant expressions: what is wrong with one.
-/
namespace Go.Proofs.YtjddpfojllefgaaGreat
open Go.RowKit
set_option linter.unusedSimpArgs false
set_option linter.unusedVariables false

set_option maxHeartbeats 1000000 in
theorem wrongExpr_any (x : Ex) (kv : Value) (w : World) (hx : ExL w.heap.size w kv x.kids) (hf : ExF x) : Calls Tryz.prog 13 #[.agg #[.int .i64 x.k, .int .u64 x.n, .int .i64 x.b, .bool x.s, .string x.nm, kv]] w fun e w' => e = .returned (.int .i64 (lkE x 1 0).1) ∧ Below w.heap.size w w' := by
  obtain ⟨ka, kc, rfl⟩ : ∃ ao cap, kv = .slice ao x.kids.length cap := by obtain ⟨ao, cap, e, -⟩ := hx.at; exact ⟨ao, cap, e⟩
  have k1 := below_a w (.cells #[.int .i64 x.k, .int .u64 x.n, .int .i64 x.b, .bool x.s, .string x.nm, .slice ka x.kids.length kc] 27)
  have k2 := bT k1 (below_a _ (.cells #[.int .i64 0] 58))
  have LP := hideI (lexpr_any x w.heap.size (w.heap.size + 1) 0 1 _ _ (Box.new (w.alloc (.cells #[.int .i64 x.k, .int .u64 x.n, .int .i64 x.b, .bool x.s, .string x.nm, .slice ka x.kids.length kc] 27)) #[.int .i64 0] 58 |> fun h => by simpa using h) (by omega) (by omega) (by omega) (hx.step k2) hf)
  have hs2 : ((w.alloc (.cells #[.int .i64 x.k, .int .u64 x.n, .int .i64 x.b, .bool x.s, .string x.nm, .slice ka x.kids.length kc] 27)).alloc (.cells #[.int .i64 0] 58)).heap.size = w.heap.size + 2 := by simp
  have S2 := hideI hs2
  have K2 := hideI k2
  clear k1 k2 hx hs2 hf
  generalize lkE x 1 0 = R at *
  go_enter Tryz.func13, Tryz.ntmps13
  go_wp2_with fail
  refine (unhideI LP).mono ?_
  rintro e w3 ⟨rfl, k3⟩
  have hs3 := unhideI S2
  have K3 := hideI ((unhideI K2).trans (k3.kb.below (by omega) (by omega)))
  clear LP k3 K2
  go_wp2_with fail
  go_ret
  exact ⟨rfl, unhideI K3⟩
end Go.Proofs.YtjddpfojllefgaaGreat

/-
  Constant expressions: check.Const.
-/
namespace Go.Proofs.YtjddpfojllefgaaGreat
open Go.RowKit
set_option linter.unusedSimpArgs false
set_option linter.unusedVariables false

set_option maxRecDepth 100000 in
set_option maxHeartbeats 1000000 in
theorem cconst_any (x : Ex) (kv : Value) (B : Nat) (w : World) (hx : ExL B w kv x.kids) (hB : B ≤ w.heap.size) (hf : ExF x) (V b : Int) (s : Bool) (er : Int) (ok : (lkE x 1 0).1 = 0) (H : WkC x V b s er) : Calls Tryz.prog 6 #[.agg #[.int .i64 x.k, .int .u64 x.n, .int .i64 x.b, .bool x.s, .string x.nm, kv]] w fun e w' => e = .returned (.tuple #[.int .u64 V, .agg #[.int .i64 b, .bool s], .int .i64 er]) ∧ Below w.heap.size w w' := by
  obtain ⟨ka, kc, rfl⟩ : ∃ ao cap, kv = .slice ao x.kids.length cap := by obtain ⟨ao, cap, e, -⟩ := hx.at; exact ⟨ao, cap, e⟩
  have S0 := hideI (Tv.begin #[.int .i64 0, .bool false] 27 24 hx hB)
  have CW0 := wrongExpr_any x _ _ ((unhideI S0).hk.mono9 (unhideI S0).le) hf
  rw [ok] at CW0
  have CW := hideI CW0
  have HH := hideI H
  have HBB := hideI hB
  clear CW0 ok H hx hB hf
  obtain ⟨a0, a1, a2, a3, a4, a5⟩ := (unhideI S0).A.six8
  have hsA := (unhideI S0).A.1
  obtain ⟨z0, z1⟩ := (unhideI S0).R.at2
  have zf := (unhideI S0).R.2.2
  have zl := (unhideI S0).R.1
  generalize hW0 : (w.alloc (.cells #[.int .i64 x.k, .int .u64 x.n, .int .i64 x.b, .bool x.s, .string x.nm, .slice ka x.kids.length kc] 27)).alloc (.cells #[.int .i64 0, .bool false] 24) = W0 at *
  go_enter Tryz.func6, Tryz.ntmps6
  go_wp2_with fail
  refine (unhideI CW).mono ?_
  rintro e w1 ⟨rfl, k1⟩
  have S1 := hideI ((unhideI S0).next k1)
  have CK := hideI ((unhideI HH) _ _ _ (unhideI S1).hk (unhideI S1).le)
  clear k1 S0 CW HH a0 a1 a2 a3 a4 a5 hsA z0 z1 zf zl
  obtain ⟨a0, a1, a2, a3, a4, a5⟩ := (unhideI S1).A.six8
  have hsA := (unhideI S1).A.1
  obtain ⟨z0, z1⟩ := (unhideI S1).R.at2
  have zf := (unhideI S1).R.2.2
  have zl := (unhideI S1).R.1
  go_wp2_with fail
  refine (unhideI CK).mono ?_
  rintro e w2 ⟨rfl, k2⟩
  have S2 := hideI ((unhideI S1).next k2)
  have HNE := hideI (unhideI S2).R.1
  have kN := below_a w2 (.cells #[.int .u64 V, .int .i64 b, .bool s] 46)
  have BN := hideI (Box.new w2 #[.int .u64 V, .int .i64 b, .bool s] 46)
  have S3 := hideI ((unhideI S2).next kN)
  clear k2 S1 S2 CK a0 a1 a2 a3 a4 a5 hsA z0 z1 zf zl kN
  obtain ⟨z0, z1⟩ := (unhideI S3).R.at2
  have zf := (unhideI S3).R.2.2
  have zl := (unhideI S3).R.1
  obtain ⟨u0, u1, u2⟩ := (unhideI BN).at3
  have hsN := (unhideI BN).1
  generalize hW3 : w2.alloc (.cells #[.int .u64 V, .int .i64 b, .bool s] 46) = W3 at *
  go_wp2_with fail
  refine reg_start (fun W => W.cell? ⟨w2.heap.size, 0, none⟩ = some (.int .u64 V) ∧ W.cell? ⟨w2.heap.size, 1, none⟩ = some (.int .i64 b) ∧ W.cell? ⟨w2.heap.size, 2, none⟩ = some (.bool s)) (by kernel_rfl) ?_
  have S9 := hideI ((unhideI S3).next (Below.refl _ _).drew)
  have B9 := hideI ((unhideI BN).step (Below.refl _ _).drew)
  have hne : w2.heap.size ≠ w.heap.size + 1 := by have := (unhideI HNE); omega
  clear z0 z1 zf zl S3 BN u0 u1 u2 hsN
  generalize W3.drew = W8 at *
  refine reg_seg 0 5 3 (by kernel_rfl) (by decide) (by kernel_rfl) (by kernel_rfl) (fun _ _ _ _ _ h => h) ?_
  simp only [List.take_succ_cons, List.take_zero, List.drop_succ_cons, List.drop_zero]
  repeat (refine wpSteady_step (fun K hK => ?_); go_simp; first | (refine steady_of ?_ (fun W hW => ?_) (hK _ ?_); rotate_left; (obtain ⟨d0, d1, d2⟩ := hW; go_simp; first | done | rfl); clear hK K) | (refine hK _ ?_; clear hK K))
  refine wpSteady_nil ?_
  refine reg_one 5 2 (by kernel_rfl) (by kernel_rfl) ((unhideI B9).at3) ?_
  simp only [List.take_succ_cons, List.take_zero, List.drop_succ_cons, List.drop_zero]
  go_wp2_with fail
  first | refine next_nil ?_ | refine next_go ?_
  obtain ⟨z0, z1⟩ := (unhideI S9).R.at2
  have zf := (unhideI S9).R.2.2
  have zl := (unhideI S9).R.1
  refine reg_one 6 1 (by kernel_rfl) (by kernel_rfl) ((unhideI B9).at3) ?_
  simp only [List.take_succ_cons, List.take_zero, List.drop_succ_cons, List.drop_zero]
  go_wp2_with fail
  first | refine next_nil ?_ | refine next_go ?_
  have SP := hideI ((unhideI S9).put9 (unhideI HBB) (.int .i64 b) (.bool s))
  have BP := hideI (((unhideI B9).other (b' := w.heap.size + 1) (j := 0) (u := .int .i64 b) hne).other (b' := w.heap.size + 1) (j := 1) (u := .bool s) hne)
  obtain ⟨p0, p1⟩ := (unhideI SP).R.at2
  refine reg_one 7 0 (by kernel_rfl) (by kernel_rfl) ((unhideI BP).at3) ?_
  simp only [List.take_succ_cons, List.take_zero, List.drop_succ_cons, List.drop_zero]
  go_wp2_with fail
  first | refine next_nil ?_ | refine next_go ?_
  refine reg_end (by kernel_rfl) ((unhideI BP).at3) ?_
  go_wp2_with fail
  exact bodyPost_ret (v := .tuple #[.int .u64 V, .agg #[.int .i64 b, .bool s], .int .i64 er]) (by simp [results, Tryz.results6, go_sem, p0, p1]) rfl ⟨rfl, (unhideI SP).d⟩
end Go.Proofs.YtjddpfojllefgaaGreat
