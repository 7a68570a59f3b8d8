/-
  Constant expressions: the program and the document work out the same.
-/
import Derived.Test.YtdmniecdfakbcaaGreatBthz
import Derived.Test.YtdmniecdfakbcaaGreatLwCz
import Derived.Test.YtdmniecdfakbcaaGreatCcF
import Derived.Test.YtdmniecdfakbcaaGreatTyCz
import Derived.Test.YtdmniecdfakbcaaGreatBigNz
import Derived.Test.YtdmniecdfakbcaaGreatCcP
namespace Go.Proofs.YtdmniecdfakbcaaGreat
open Go.RowKit
set_option linter.unusedSimpArgs false
set_option linter.unusedVariables false

/-- Both work out the same. -/
def BothC (x : Ex) : Prop := ∃ V b s V' b' s' er, WkC x V' b' s' er ∧ RcC x V b s er ∧ (er = 0 → V' = V ∧ b' = b ∧ s' = s ∧ U V ∧ IsW b)
theorem both_un (x x0 : Ex) (V b : Int) (s : Bool) (lo : 5 ≤ x.k) (hi : x.k ≤ 8) (cast : x.k = 5 → IsW x.b) (hk : x.kids = [x0]) (h1 : WkC x0 V b s 0) (h2 : RcC x0 V b s 0) (hU : U V) (hW : IsW b) : BothC x := by
  by_cases hc : x.k = 5
  · exact ⟨_, _, _, _, _, _, 0, wk_one x x0 _ _ _ _ _ _ lo hk h1 (fun ka kl kc w => by rw [hc]; exact wone_cast _ _ _ _ _ _ _ _ _ _ _ (fun w => convert_any V b s x.b x.s w hW (cast hc) hU) w), rc_cast x x0 _ _ _ _ hc hk h2 (fun w => rconvert_any V b s x.b x.s w hW (cast hc) hU), fun _ => ⟨rfl, rfl, rfl, u_cut (cast hc) _, cast hc⟩⟩
  · obtain ⟨A, B, S, ⟨q1, q2⟩, q3, q4⟩ := bothB x.k V b s (by omega) hW hU
    exact ⟨_, _, _, _, _, _, 0, wk_one x x0 _ _ _ _ _ _ lo hk h1 (fun ka kl kc w => wone_un _ _ _ _ _ _ _ _ _ _ _ _ _ _ (beq_eq_false_iff_ne.2 hc) q1 w), rc_un x x0 _ _ _ _ _ _ (by omega) hk h2 q2, fun _ => ⟨rfl, rfl, rfl, q3, q4⟩⟩
theorem both_two (x x0 x1 : Ex) (V b V1 b1 : Int) (s s1 : Bool) (lo : 9 ≤ x.k) (hi : x.k ≤ 26) (hk : x.kids = [x0, x1]) (h1 : WkC x0 V b s 0) (h2 : RcC x0 V b s 0) (hU : U V) (hW : IsW b) (g1 : WkC x1 V1 b1 s1 0) (g2 : RcC x1 V1 b1 s1 0) (gU : U V1) (gW : IsW b1) : BothC x := by
  by_cases h25 : x.k = 25
  · have key : ∀ c d : Bool, (V != 0) = c → (V1 != 0) = d → BothC x := fun c d e1 e2 => by
      have W := wk_two x x0 x1 _ _ _ _ _ _ 0 _ _ _ (by omega) hk h1 g1 (fun w => by rw [h25]; exact wtwo_land V b V1 b1 s s1 c d e1 e2 w)
      cases c <;> cases d
      · exact ⟨_, _, _, _, _, _, 0, W, rc_land00 x x0 x1 _ _ _ _ _ _ h25 hk h2 g2 e1 e2, fun _ => ⟨rfl, rfl, rfl, u_0, isW_16⟩⟩
      · exact ⟨_, _, _, _, _, _, 0, W, rc_land01 x x0 x1 _ _ _ _ _ _ h25 hk h2 g2 e1 e2, fun _ => ⟨rfl, rfl, rfl, u_0, isW_16⟩⟩
      · exact ⟨_, _, _, _, _, _, 0, W, rc_land10 x x0 x1 _ _ _ _ _ _ h25 hk h2 g2 e1 e2, fun _ => ⟨rfl, rfl, rfl, u_0, isW_16⟩⟩
      · exact ⟨_, _, _, _, _, _, 0, W, rc_land11 x x0 x1 _ _ _ _ _ _ h25 hk h2 g2 e1 e2, fun _ => ⟨rfl, rfl, rfl, u_b1 true, isW_16⟩⟩
    exact key _ _ rfl rfl
  · by_cases h26 : x.k = 26
    · have key : ∀ c d : Bool, (V != 0) = c → (V1 != 0) = d → BothC x := fun c d e1 e2 => by
        have W := wk_two x x0 x1 _ _ _ _ _ _ 0 _ _ _ (by omega) hk h1 g1 (fun w => by rw [h26]; exact wtwo_lor V b V1 b1 s s1 c d e1 e2 w)
        cases c <;> cases d
        · exact ⟨_, _, _, _, _, _, 0, W, rc_lor00 x x0 x1 _ _ _ _ _ _ h26 hk h2 g2 e1 e2, fun _ => ⟨rfl, rfl, rfl, u_0, isW_16⟩⟩
        · exact ⟨_, _, _, _, _, _, 0, W, rc_lor01 x x0 x1 _ _ _ _ _ _ h26 hk h2 g2 e1 e2, fun _ => ⟨rfl, rfl, rfl, u_b1 true, isW_16⟩⟩
        · exact ⟨_, _, _, _, _, _, 0, W, rc_lor10 x x0 x1 _ _ _ _ _ _ h26 hk h2 g2 e1 e2, fun _ => ⟨rfl, rfl, rfl, u_b1 true, isW_16⟩⟩
        · exact ⟨_, _, _, _, _, _, 0, W, rc_lor11 x x0 x1 _ _ _ _ _ _ h26 hk h2 g2 e1 e2, fun _ => ⟨rfl, rfl, rfl, u_b1 true, isW_16⟩⟩
      exact key _ _ rfl rfl
    · have n25 : (x.k == 25) = false := beq_eq_false_iff_ne.2 h25
      have n26 : (x.k == 26) = false := beq_eq_false_iff_ne.2 h26
      obtain ⟨A, E, ⟨q1, q2⟩, q3⟩ := bothA x.k V V1 b s b1 s1 hW gW hU gU
      have R := rc_two x x0 x1 _ _ _ _ _ _ _ _ _ _ (by omega) (by omega) hk h2 g2 q2 (fun w => rresult_any x.k b s b1 s1 w)
      by_cases he : E = 0
      · subst he
        exact ⟨_, _, _, _, _, _, 0, wk_two x x0 x1 _ _ _ _ _ _ 0 _ _ _ (by omega) hk h1 g1 (fun w => wtwo_ok x.k _ _ _ _ _ _ _ _ _ n25 n26 q1 (fun w => result_any x.k b s b1 s1 w) w), R, fun _ => ⟨rfl, rfl, rfl, q3, isW_rb hW gW⟩⟩
      · exact ⟨_, _, _, _, _, _, E, wk_two x x0 x1 _ _ _ _ _ _ E _ _ _ (by omega) hk h1 g1 (fun w => wtwo_bad x.k _ _ _ _ _ _ _ _ n25 n26 he q1 w), R, fun h => absurd h he⟩
theorem bothC : ∀ x : Ex, TvE x → NmE x → BothC x := by
  apply Ex.ind
  intro x IH ht hn
  obtain ⟨_, lo, hi, kl, kh, num, cast, kt⟩ := ht
  obtain ⟨_, hf, kn⟩ := hn
  by_cases h1 : x.k = 1
  · exact ⟨_, _, _, _, _, _, 0, wk_num x h1, rc_num x h1, fun _ => ⟨rfl, rfl, rfl, hf.1, num h1⟩⟩
  by_cases h4 : x.k = 2 ∨ x.k = 3 ∨ x.k = 4
  · exact ⟨_, _, _, _, _, _, 8, wk_no x h4, rc_no x h4, fun h => by cases h⟩
  have h5 : 5 ≤ x.k := by omega
  by_cases h8 : x.k ≤ 8
  · have hlen : x.kids.length = 1 := by
      unfold kidLo at kl
      unfold kidHi at kh
      rw [if_neg (by omega), if_pos (by omega)] at kl
      rw [if_neg (by omega), if_neg (by omega), if_pos (by omega)] at kh
      omega
    obtain ⟨x0, hk⟩ := one_of hlen
    have m0 : x0 ∈ x.kids := by rw [hk]; simp
    obtain ⟨V, b, s, V', b', s', er, g1, g2, g3⟩ := IH x0 m0 (kt x0 m0) (kn x0 m0)
    by_cases he : er = 0
    · subst he
      obtain ⟨rfl, rfl, rfl, hU, hW⟩ := g3 rfl
      exact both_un x x0 _ _ _ h5 h8 cast hk g1 g2 hU hW
    · exact ⟨_, _, _, _, _, _, er, wk_bad0 x x0 [] _ _ er _ h5 hk g1 he, rc_bad0 x x0 [] _ _ er _ h5 hk g2 he, fun h => absurd h he⟩
  · have hlen : x.kids.length = 2 := by
      unfold kidLo at kl
      unfold kidHi at kh
      rw [if_neg (by omega), if_neg (by omega)] at kl
      rw [if_neg (by omega), if_neg (by omega), if_neg (by omega)] at kh
      omega
    obtain ⟨x0, x1, hk⟩ := two_of hlen
    have m0 : x0 ∈ x.kids := by rw [hk]; simp
    have m1 : x1 ∈ x.kids := by rw [hk]; simp
    obtain ⟨V, b, s, V', b', s', er, g1, g2, g3⟩ := IH x0 m0 (kt x0 m0) (kn x0 m0)
    by_cases he : er = 0
    · subst he
      obtain ⟨rfl, rfl, rfl, hU, hW⟩ := g3 rfl
      obtain ⟨V, b, s, V', b', s', er, f1, f2, f3⟩ := IH x1 m1 (kt x1 m1) (kn x1 m1)
      by_cases he : er = 0
      · subst he
        obtain ⟨rfl, rfl, rfl, fU, fW⟩ := f3 rfl
        exact both_two x x0 x1 _ _ _ _ _ _ (by omega) hi hk g1 g2 hU hW f1 f2 fU fW
      · exact ⟨_, _, _, _, _, _, er, wk_bad1 x x0 x1 _ _ _ _ er _ _ h5 hk g1 f1 he, rc_bad1 x x0 x1 _ _ _ _ er _ _ (by omega) hk g2 f2 he, fun h => absurd h he⟩
    · exact ⟨_, _, _, _, _, _, er, wk_bad0 x x0 [x1] _ _ er _ h5 hk g1 he, rc_bad0 x x0 [x1] _ _ er _ h5 hk g2 he, fun h => absurd h he⟩
end Go.Proofs.YtdmniecdfakbcaaGreat

/-
  Constant expressions: what is wrong with one.
-/
namespace Go.Proofs.YtdmniecdfakbcaaGreat
open Go.RowKit
set_option linter.unusedSimpArgs false
set_option linter.unusedVariables false

set_option maxHeartbeats 1000000 in
theorem wrongExpr_any (x : Ex) (kv : Value) (w : World) (hx : ExL w.heap.size w kv x.kids) (hf : ExF x) : Calls Tryz.prog 12 #[.agg #[.int .i64 x.k, .int .u64 x.n, .int .i64 x.b, .bool x.s, .string x.nm, kv]] w fun e w' => e = .returned (.int .i64 (lkE x 1 0).1) ∧ Below w.heap.size w w' := by
  obtain ⟨ka, kc, rfl⟩ : ∃ ao cap, kv = .slice ao x.kids.length cap := by obtain ⟨ao, cap, e, -⟩ := hx.at; exact ⟨ao, cap, e⟩
  have k1 := below_a w (.cells #[.int .i64 x.k, .int .u64 x.n, .int .i64 x.b, .bool x.s, .string x.nm, .slice ka x.kids.length kc] 27)
  have k2 := bT k1 (below_a _ (.cells #[.int .i64 0] 62))
  have LP := hideI (lexpr_any x w.heap.size (w.heap.size + 1) 0 1 _ _ (Box.new (w.alloc (.cells #[.int .i64 x.k, .int .u64 x.n, .int .i64 x.b, .bool x.s, .string x.nm, .slice ka x.kids.length kc] 27)) #[.int .i64 0] 62 |> fun h => by simpa using h) (by omega) (by omega) (by omega) (hx.step k2) hf)
  have hs2 : ((w.alloc (.cells #[.int .i64 x.k, .int .u64 x.n, .int .i64 x.b, .bool x.s, .string x.nm, .slice ka x.kids.length kc] 27)).alloc (.cells #[.int .i64 0] 62)).heap.size = w.heap.size + 2 := by simp
  have S2 := hideI hs2
  have K2 := hideI k2
  clear k1 k2 hx hs2 hf
  generalize lkE x 1 0 = R at *
  go_enter Tryz.func12, Tryz.ntmps12
  go_wp2_with fail
  refine (unhideI LP).mono ?_
  rintro e w3 ⟨rfl, k3⟩
  have hs3 := unhideI S2
  have K3 := hideI ((unhideI K2).trans (k3.kb.below (by omega) (by omega)))
  clear LP k3 K2
  go_wp2_with fail
  go_ret
  exact ⟨rfl, unhideI K3⟩
end Go.Proofs.YtdmniecdfakbcaaGreat

/-
  Constant expressions: check.Const.
-/
namespace Go.Proofs.YtdmniecdfakbcaaGreat
open Go.RowKit
set_option linter.unusedSimpArgs false
set_option linter.unusedVariables false

set_option maxRecDepth 100000 in
set_option maxHeartbeats 1000000 in
theorem cconst_any (x : Ex) (kv : Value) (B : Nat) (w : World) (hx : ExL B w kv x.kids) (hB : B ≤ w.heap.size) (hf : ExF x) (V b : Int) (s : Bool) (er : Int) (ok : (lkE x 1 0).1 = 0) (H : WkC x V b s er) : Calls Tryz.prog 5 #[.agg #[.int .i64 x.k, .int .u64 x.n, .int .i64 x.b, .bool x.s, .string x.nm, kv]] w fun e w' => e = .returned (.tuple #[.int .u64 V, .agg #[.int .i64 b, .bool s], .int .i64 er]) ∧ Below w.heap.size w w' := by
  obtain ⟨ka, kc, rfl⟩ : ∃ ao cap, kv = .slice ao x.kids.length cap := by obtain ⟨ao, cap, e, -⟩ := hx.at; exact ⟨ao, cap, e⟩
  have S0 := hideI (Tv.begin #[.int .i64 0, .bool false] 27 24 hx hB)
  have CW0 := wrongExpr_any x _ _ ((unhideI S0).hk.mono9 (unhideI S0).le) hf
  rw [ok] at CW0
  have CW := hideI CW0
  have HH := hideI H
  have HBB := hideI hB
  clear CW0 ok H hx hB hf
  obtain ⟨a0, a1, a2, a3, a4, a5⟩ := (unhideI S0).A.six8
  have hsA := (unhideI S0).A.1
  obtain ⟨z0, z1⟩ := (unhideI S0).R.at2
  have zf := (unhideI S0).R.2.2
  have zl := (unhideI S0).R.1
  generalize hW0 : (w.alloc (.cells #[.int .i64 x.k, .int .u64 x.n, .int .i64 x.b, .bool x.s, .string x.nm, .slice ka x.kids.length kc] 27)).alloc (.cells #[.int .i64 0, .bool false] 24) = W0 at *
  go_enter Tryz.func5, Tryz.ntmps5
  go_wp2_with fail
  refine (unhideI CW).mono ?_
  rintro e w1 ⟨rfl, k1⟩
  have S1 := hideI ((unhideI S0).next k1)
  have CK := hideI ((unhideI HH) _ _ _ (unhideI S1).hk (unhideI S1).le)
  clear k1 S0 CW HH a0 a1 a2 a3 a4 a5 hsA z0 z1 zf zl
  obtain ⟨a0, a1, a2, a3, a4, a5⟩ := (unhideI S1).A.six8
  have hsA := (unhideI S1).A.1
  obtain ⟨z0, z1⟩ := (unhideI S1).R.at2
  have zf := (unhideI S1).R.2.2
  have zl := (unhideI S1).R.1
  go_wp2_with fail
  refine (unhideI CK).mono ?_
  rintro e w2 ⟨rfl, k2⟩
  have S2 := hideI ((unhideI S1).next k2)
  have HNE := hideI (unhideI S2).R.1
  have kN := below_a w2 (.cells #[.int .u64 V, .int .i64 b, .bool s] 44)
  have BN := hideI (Box.new w2 #[.int .u64 V, .int .i64 b, .bool s] 44)
  have S3 := hideI ((unhideI S2).next kN)
  clear k2 S1 S2 CK a0 a1 a2 a3 a4 a5 hsA z0 z1 zf zl kN
  obtain ⟨z0, z1⟩ := (unhideI S3).R.at2
  have zf := (unhideI S3).R.2.2
  have zl := (unhideI S3).R.1
  obtain ⟨u0, u1, u2⟩ := (unhideI BN).at3
  have hsN := (unhideI BN).1
  generalize hW3 : w2.alloc (.cells #[.int .u64 V, .int .i64 b, .bool s] 44) = W3 at *
  go_wp2_with fail
  refine reg_start (fun W => W.cell? ⟨w2.heap.size, 0, none⟩ = some (.int .u64 V) ∧ W.cell? ⟨w2.heap.size, 1, none⟩ = some (.int .i64 b) ∧ W.cell? ⟨w2.heap.size, 2, none⟩ = some (.bool s)) (by kernel_rfl) ?_
  have S9 := hideI ((unhideI S3).next (Below.refl _ _).drew)
  have B9 := hideI ((unhideI BN).step (Below.refl _ _).drew)
  have hne : w2.heap.size ≠ w.heap.size + 1 := by have := (unhideI HNE); omega
  clear z0 z1 zf zl S3 BN u0 u1 u2 hsN
  generalize W3.drew = W8 at *
  refine reg_seg 0 5 3 (by kernel_rfl) (by decide) (by kernel_rfl) (by kernel_rfl) (fun _ _ _ _ _ h => h) ?_
  simp only [List.take_succ_cons, List.take_zero, List.drop_succ_cons, List.drop_zero]
  repeat (refine wpSteady_step (fun K hK => ?_); go_simp; first | (refine steady_of ?_ (fun W hW => ?_) (hK _ ?_); rotate_left; (obtain ⟨d0, d1, d2⟩ := hW; go_simp; first | done | rfl); clear hK K) | (refine hK _ ?_; clear hK K))
  refine wpSteady_nil ?_
  refine reg_one 5 2 (by kernel_rfl) (by kernel_rfl) ((unhideI B9).at3) ?_
  simp only [List.take_succ_cons, List.take_zero, List.drop_succ_cons, List.drop_zero]
  go_wp2_with fail
  first | refine next_nil ?_ | refine next_go ?_
  obtain ⟨z0, z1⟩ := (unhideI S9).R.at2
  have zf := (unhideI S9).R.2.2
  have zl := (unhideI S9).R.1
  refine reg_one 6 1 (by kernel_rfl) (by kernel_rfl) ((unhideI B9).at3) ?_
  simp only [List.take_succ_cons, List.take_zero, List.drop_succ_cons, List.drop_zero]
  go_wp2_with fail
  first | refine next_nil ?_ | refine next_go ?_
  have SP := hideI ((unhideI S9).put9 (unhideI HBB) (.int .i64 b) (.bool s))
  have BP := hideI (((unhideI B9).other (b' := w.heap.size + 1) (j := 0) (u := .int .i64 b) hne).other (b' := w.heap.size + 1) (j := 1) (u := .bool s) hne)
  obtain ⟨p0, p1⟩ := (unhideI SP).R.at2
  refine reg_one 7 0 (by kernel_rfl) (by kernel_rfl) ((unhideI BP).at3) ?_
  simp only [List.take_succ_cons, List.take_zero, List.drop_succ_cons, List.drop_zero]
  go_wp2_with fail
  first | refine next_nil ?_ | refine next_go ?_
  refine reg_end (by kernel_rfl) ((unhideI BP).at3) ?_
  go_wp2_with fail
  exact bodyPost_ret (v := .tuple #[.int .u64 V, .agg #[.int .i64 b, .bool s], .int .i64 er]) (by simp [results, Tryz.results5, go_sem, p0, p1]) rfl ⟨rfl, (unhideI SP).d⟩
end Go.Proofs.YtdmniecdfakbcaaGreat
