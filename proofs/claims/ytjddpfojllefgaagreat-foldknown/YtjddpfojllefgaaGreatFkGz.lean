/-
  What is known is worked out: any constant expression becomes a known one.
-/
import Derived.Test.YtjddpfojllefgaaGreatFkF
import Derived.Test.YtjddpfojllefgaaGreatFkEz
namespace Go.Proofs.YtjddpfojllefgaaGreat
open Go.RowKit
set_option linter.unusedSimpArgs false
set_option linter.unusedVariables false

theorem FxC.mono {x : Ex} {Q Q' : Ex → Prop} (h : FxC x Q) (hQ : ∀ y, Q y → Q' y) : FxC x Q' := fun B kv w h1 h2 h3 => (h B kv w h1 h2 h3).mono fun _ _ ⟨y, ao, n, c, e, k1, k2, k3, k4⟩ => ⟨y, ao, n, c, e, k1, k2, k3, hQ y k4⟩
/-- What is worked out of an expression: the same by the folded one. -/
def FoK (x : Ex) : Prop := ∃ V b s er, WkC x V b s er ∧ (er = 0 → (cut b V = V ∧ IsW b) ∧ FxC x (fun y => KnE y V b s))
theorem get_one {x x0 : Ex} {P : Ex → Prop} (hk : x.kids = [x0]) (h : P x0) : ∀ i (hi : i < x.kids.length), P x.kids[i] := by
  intro i hi
  have key : ∀ z ∈ x.kids, P z := by rw [hk]; intro z hz; rw [List.mem_singleton.1 hz]; exact h
  exact key _ (List.getElem_mem hi)
theorem fx_un (x x0 : Ex) {V0 b0 : Int} {s0 : Bool} {V b : Int} {s : Bool} (lo : 5 ≤ x.k) (hi : x.k ≤ 8) (fld : wExF x.k x.n x.b x.s x.nm = 0) (hk : x.kids = [x0]) (F0 : FxC x0 (fun y => KnE y V0 b0 s0)) (fit : cut b V = V ∧ IsW b)
    (st : ∀ x' x0' : Ex, x'.k = x.k → x'.b = x.b → x'.s = x.s → x'.kids = [x0'] → WkC x0' V0 b0 s0 0 → WkC x' V b s 0) : FxC x (fun y => KnE y V b s) := by
  refine fx_known x V b s (fun _ y => KnE y V0 b0 s0) (get_one (P := fun z => FxC z (fun y => KnE y V0 b0 s0)) hk F0) (by rw [hk]; simp) (by rw [hk]; simp) (beq_eq_false_iff_ne.2 (by omega)) (beq_eq_false_iff_ne.2 (by omega)) fit.2 fit.1 fun ys hl hq => ?_
  obtain ⟨y0, rfl⟩ := one_of (l := ys) (by rw [hl, hk]; rfl)
  have k0 : KnE y0 V0 b0 s0 := hq 0 (by rw [hk]; simp) (by simp)
  exact ⟨fun y hy => by rw [List.mem_singleton.1 hy]; exact ⟨_, _, _, k0⟩, lk_with1 x y0 lo hi fld k0, st (x.with [y0]) y0 rfl rfl rfl rfl k0.wk⟩
theorem get_two {x x0 x1 : Ex} {P : Nat → Ex → Prop} (hk : x.kids = [x0, x1]) (h : P 0 x0) (h' : P 1 x1) : ∀ i (hi : i < x.kids.length), P i x.kids[i] := by
  obtain ⟨k, n, b, s, nm, kids⟩ := x
  have hk : kids = [x0, x1] := hk
  subst hk
  intro i hi
  have hi : i < 2 := by simpa [Ex.kids] using hi
  match i, hi with
  | 0, _ => exact h
  | 1, _ => exact h'
theorem fx_two (x x0 x1 : Ex) {V0 b0 V1 b1 : Int} {s0 s1 : Bool} {V b : Int} {s : Bool} (lo : 9 ≤ x.k) (hi : x.k ≤ 26) (fld : wExF x.k x.n x.b x.s x.nm = 0) (hk : x.kids = [x0, x1]) (F0 : FxC x0 (fun y => KnE y V0 b0 s0)) (F1 : FxC x1 (fun y => KnE y V1 b1 s1)) (same : x1 = x0 → V1 = V0 ∧ b1 = b0 ∧ s1 = s0) (fit : cut b V = V ∧ IsW b)
    (st : ∀ x' x0' x1' : Ex, x'.k = x.k → x'.kids = [x0', x1'] → WkC x0' V0 b0 s0 0 → WkC x1' V1 b1 s1 0 → WkC x' V b s 0) : FxC x (fun y => KnE y V b s) := by
  obtain ⟨Q, hQ⟩ : ∃ Q : Ex → Ex → Prop, ∀ z y, Q z y ↔ (z = x0 → KnE y V0 b0 s0) ∧ (z ≠ x0 → KnE y V1 b1 s1) := ⟨fun z y => (z = x0 → KnE y V0 b0 s0) ∧ (z ≠ x0 → KnE y V1 b1 s1), fun _ _ => Iff.rfl⟩
  have G0 : FxC x0 (Q x0) := F0.mono fun y h => (hQ _ _).2 ⟨fun _ => h, fun e => absurd rfl e⟩
  have G1 : FxC x1 (Q x1) := F1.mono fun y h => (hQ _ _).2 ⟨fun e => by obtain ⟨rfl, rfl, rfl⟩ := same e; exact h, fun _ => h⟩
  refine fx_known x V b s Q (get_two (P := fun _ z => FxC z (Q z)) hk G0 G1) (by rw [hk]; simp) (by rw [hk]; simp) (beq_eq_false_iff_ne.2 (by omega)) (beq_eq_false_iff_ne.2 (by omega)) fit.2 fit.1 fun ys hl hq => ?_
  obtain ⟨y0, y1, rfl⟩ := two_of (l := ys) (by rw [hl, hk]; rfl)
  have key : Q x0 y0 ∧ Q x1 y1 := by
    obtain ⟨k, n, b, s, nm, kids⟩ := x
    have hk : kids = [x0, x1] := hk
    subst hk
    exact ⟨hq 0 (by simp [Ex.kids]) (by simp), hq 1 (by simp [Ex.kids]) (by simp)⟩
  have k0 : KnE y0 V0 b0 s0 := ((hQ _ _).1 key.1).1 rfl
  have k1 : KnE y1 V1 b1 s1 := by
    by_cases e : x1 = x0
    · obtain ⟨rfl, rfl, rfl⟩ := same e
      exact ((hQ _ _).1 key.2).1 e
    · exact ((hQ _ _).1 key.2).2 e
  refine ⟨fun y hy => ?_, lk_with2 x y0 y1 lo hi fld k0 k1, st (x.with [y0, y1]) y0 y1 rfl rfl k0.wk k1.wk⟩
  rcases List.mem_cons.1 hy with rfl | hy
  · exact ⟨_, _, _, k0⟩
  · rw [List.mem_singleton.1 hy]; exact ⟨_, _, _, k1⟩
theorem foK : ∀ x : Ex, OkX x → NmE x → FoK x := by
  apply Ex.ind
  intro x IH ht hn
  obtain ⟨_, lo, hi, fld, kl, kh, kt⟩ := ht
  obtain ⟨_, hf, kn⟩ := hn
  by_cases h1 : x.k = 1
  · have hk : x.kids = [] := by
      have e : kidHi x.k = 0 := by rw [h1]; rfl
      rw [e] at kh
      exact List.eq_nil_of_length_eq_zero (by omega)
    rw [h1] at fld
    obtain ⟨f1, f2, f3⟩ := fld_num fld
    obtain ⟨g1, g2, g3⟩ := lit_fit hf.1 f1
    rw [f2] at g1 g2
    refine ⟨x.n, x.b, x.s, 0, wk_num x h1, fun _ => ⟨⟨g1, g2⟩, (fx_leaf x hk).mono fun y hy => ?_⟩⟩
    rw [hy, h1]
    exact .num _ _ _ _ fld hf.1 hf.2
  by_cases h4 : x.k = 2 ∨ x.k = 3 ∨ x.k = 4
  · exact ⟨0, 0, false, 8, wk_no x h4, fun h => by cases h⟩
  have h5 : 5 ≤ x.k := by omega
  by_cases h8 : x.k ≤ 8
  · have hlen : x.kids.length = 1 := by
      unfold kidLo at kl
      unfold kidHi at kh
      rw [if_neg (by omega), if_pos (by omega)] at kl
      rw [if_neg (by omega), if_neg (by omega), if_pos (by omega)] at kh
      omega
    obtain ⟨x0, hk⟩ := one_of hlen
    have m0 : x0 ∈ x.kids := by rw [hk]; simp
    obtain ⟨V, b, s, er, g1, g2⟩ := IH x0 m0 (kt x0 m0) (kn x0 m0)
    by_cases he : er = 0
    · subst he
      obtain ⟨⟨q1, q2⟩, q3⟩ := g2 rfl
      have cast : x.k = 5 → IsW x.b := fun e => by
        unfold wExF at fld
        rw [if_neg (by omega), if_neg (by omega), if_pos e] at fld
        split at fld
        · rename_i h; exact isWB_of h
        · cases fld
      obtain ⟨V', b', s', fit, st⟩ := step_un x.k x.b x.s h5 h8 cast (s0 := s) q2 q1
      exact ⟨V', b', s', 0, st x x0 rfl rfl rfl hk g1, fun _ => ⟨fit, fx_un x x0 h5 h8 fld hk q3 fit st⟩⟩
    · exact ⟨_, _, _, er, wk_bad0 x x0 [] _ _ er _ h5 hk g1 he, fun h => absurd h he⟩
  · have hlen : x.kids.length = 2 := by
      unfold kidLo at kl
      unfold kidHi at kh
      rw [if_neg (by omega), if_neg (by omega)] at kl
      rw [if_neg (by omega), if_neg (by omega), if_neg (by omega)] at kh
      omega
    obtain ⟨x0, x1, hk⟩ := two_of hlen
    have m0 : x0 ∈ x.kids := by rw [hk]; simp
    have m1 : x1 ∈ x.kids := by rw [hk]; simp
    obtain ⟨V, b, s, er, g1, g2⟩ := IH x0 m0 (kt x0 m0) (kn x0 m0)
    by_cases he : er = 0
    · subst he
      obtain ⟨⟨q1, q2⟩, q3⟩ := g2 rfl
      have fin : ∀ V1 b1 s1, WkC x1 V1 b1 s1 0 → cut b1 V1 = V1 → IsW b1 → FxC x1 (fun y => KnE y V1 b1 s1) → (x1 = x0 → V1 = V ∧ b1 = b ∧ s1 = s) → FoK x := fun V1 b1 s1 f1 p1 p2 p3 same => by
        obtain ⟨V', b', s', er', fit, st⟩ := step_two x.k (by omega) hi (s0 := s) (s1 := s1) q2 q1 p2 p1
        refine ⟨V', b', s', er', st x x0 x1 rfl hk g1 f1, fun he => ?_⟩
        subst he
        exact ⟨fit rfl, fx_two x x0 x1 (by omega) hi fld hk q3 p3 same (fit rfl) st⟩
      by_cases e : x1 = x0
      · subst e
        exact fin V b s g1 q1 q2 q3 fun _ => ⟨rfl, rfl, rfl⟩
      · obtain ⟨V1, b1, s1, er, f1, f2⟩ := IH x1 m1 (kt x1 m1) (kn x1 m1)
        by_cases he : er = 0
        · subst he
          obtain ⟨⟨p1, p2⟩, p3⟩ := f2 rfl
          exact fin V1 b1 s1 f1 p1 p2 p3 fun h => absurd h e
        · exact ⟨_, _, _, er, wk_bad1 x x0 x1 _ _ _ _ er _ _ h5 hk g1 f1 he, fun h => absurd h he⟩
    · exact ⟨_, _, _, er, wk_bad0 x x0 [x1] _ _ er _ h5 hk g1 he, fun h => absurd h he⟩
end Go.Proofs.YtjddpfojllefgaaGreat

/-
  What is known is worked out: fold.Expr, and the closed fact.
-/
namespace Go.Proofs.YtjddpfojllefgaaGreat
open Go.RowKit
set_option linter.unusedSimpArgs false
set_option linter.unusedVariables false

set_option maxRecDepth 100000 in
set_option maxHeartbeats 1000000 in
theorem fExpr_any (x : Ex) (Q : Ex → Prop) (F : FxC x Q) (ok : (lkE x 1 0).1 = 0) (B : Nat) (kv : Value) (w : World) (hx : ExL B w kv x.kids) (hB : B ≤ w.heap.size) (hf : ExF x) : Calls Tryz.prog 7 #[.agg #[.int .i64 x.k, .int .u64 x.n, .int .i64 x.b, .bool x.s, .string x.nm, kv]] w fun e w' => FxR w Q e w' := by
  obtain ⟨ka, kc, rfl⟩ : ∃ ao cap, kv = .slice ao x.kids.length cap := by obtain ⟨ao, cap, e, -⟩ := hx.at; exact ⟨ao, cap, e⟩
  have S3 := hideI (Tv.begin #[.int .i64 0, .int .u64 0, .int .i64 0, .bool false, .string ⟨#[]⟩, .slice none 0 0] 27 27 hx hB)
  have CW0 := wrongExpr_any x _ _ ((unhideI S3).hk.mono9 (unhideI S3).le) hf
  rw [ok] at CW0
  have CW := hideI CW0
  have HF := hideI hf
  have HX := hideI F
  clear CW0 ok hx hB hf F
  obtain ⟨a0, a1, a2, a3, a4, a5⟩ := (unhideI S3).A.six8
  have hsA := (unhideI S3).A.1
  obtain ⟨z0, z1, z2, z3, z4, z5⟩ := (unhideI S3).R.six8
  have zf := (unhideI S3).R.2.2
  have zl := (unhideI S3).R.1
  generalize hW0 : (w.alloc (.cells #[.int .i64 x.k, .int .u64 x.n, .int .i64 x.b, .bool x.s, .string x.nm, .slice ka x.kids.length kc] 27)).alloc (.cells #[.int .i64 0, .int .u64 0, .int .i64 0, .bool false, .string ⟨#[]⟩, .slice none 0 0] 27) = W0 at *
  go_enter Tryz.func7, Tryz.ntmps7
  go_wp2_with fail
  refine (unhideI CW).mono ?_
  rintro e w1 ⟨rfl, k1⟩
  have S1 := hideI ((unhideI S3).next k1)
  clear k1 S3 CW a0 a1 a2 a3 a4 a5 hsA z0 z1 z2 z3 z4 z5 zf zl
  have S3 := S1
  have CX := hideI ((unhideI HX) _ _ _ (unhideI S1).hk (unhideI S1).le (unhideI HF))
  clear HX S1
  obtain ⟨a0, a1, a2, a3, a4, a5⟩ := (unhideI S3).A.six8
  have hsA := (unhideI S3).A.1
  obtain ⟨z0, z1, z2, z3, z4, z5⟩ := (unhideI S3).R.six8
  have zf := (unhideI S3).R.2.2
  have zl := (unhideI S3).R.1
  go_wp2_with fail
  refine (unhideI CX).mono ?_
  rintro e w2 ⟨y, ao, n, c, rfl, k2, hp, hfy, hq⟩
  have HZ := hideI (show w.heap.size + 1 < w1.heap.size from (unhideI S3).R.1)
  have S2 := hideI ((unhideI S3).next k2)
  have HP := hideI hp
  have HQ := hideI (And.intro hfy hq)
  clear k2 S3 CX a0 a1 a2 a3 a4 a5 hsA z0 z1 z2 z3 z4 z5 zf zl hp hfy hq
  have S3 := S2
  obtain ⟨a0, a1, a2, a3, a4, a5⟩ := (unhideI S3).A.six8
  have hsA := (unhideI S3).A.1
  obtain ⟨z0, z1, z2, z3, z4, z5⟩ := (unhideI S3).R.six8
  have zf := (unhideI S3).R.2.2
  have zl := (unhideI S3).R.1
  go_wp2_with fail
  obtain ⟨p0, p1, p2, p3, p4, p5⟩ := ((unhideI S2).R.put6 (.int .i64 y.k) (.int .u64 y.n) (.int .i64 y.b) (.bool y.s) (.string y.nm) (.slice ao n c)).six8
  have hz := unhideI HZ
  exact bodyPost_ret (v := .agg #[.int .i64 y.k, .int .u64 y.n, .int .i64 y.b, .bool y.s, .string y.nm, .slice ao n c]) (by simp [results, Tryz.results7, go_sem, p0, p1, p2, p3, p4, p5]) rfl ⟨y, ao, n, c, rfl, below_6 (unhideI S2).d (by omega) _ _ _ _ _ _, ((((((((unhideI HP).set9 fun c hc => by omega).set9 fun c hc => by omega).set9 fun c hc => by omega).set9 fun c hc => by omega).set9 fun c hc => by omega).set9 fun c hc => by omega).mono fun c _ hc => by omega), (unhideI HQ).1, (unhideI HQ).2⟩
/-- -1. -/
def xNeg : Ex := .mk 6 0 0 false ⟨#[]⟩ [.mk 1 1 16 true ⟨#[]⟩ []]
theorem xNeg_lk : (lkE xNeg 1 0).1 = 0 := by decide
theorem xNeg_fx : FxC xNeg (fun y => KnE y 65535 16 true) := by
  have h1 : wExF 1 1 16 true ⟨#[]⟩ = 0 := by decide
  have F0 : FxC (.mk 1 1 16 true ⟨#[]⟩ []) (fun y => KnE y 1 16 true) := (fx_leaf _ rfl).mono fun y hy => by
    rw [hy]
    exact .num 1 16 true ⟨#[]⟩ h1 ⟨by decide, by decide⟩ (Nat.zero_le _)
  refine fx_un xNeg (.mk 1 1 16 true ⟨#[]⟩ []) (V0 := 1) (b0 := 16) (s0 := true) (V := 65535) (b := 16) (s := true) (by decide) (by decide) (by decide) rfl F0 ⟨by decide, isW_16o⟩ fun x x0 e1 _ _ hk g => ?_
  have e1 : x.k = 6 := e1
  exact wk_one x x0 _ _ _ _ _ _ (by omega) hk g (fun ka kl kc w => by rw [e1]; exact wone_un _ _ _ _ _ _ _ _ _ _ _ _ _ _ (by decide) (fun w => unary_neg 1 16 true w isW_16o ⟨by decide, by decide⟩) w)
theorem kn_neg {y : Ex} (h : KnE y 65535 16 true) : y = .mk 5 0 16 true ⟨#[]⟩ [.mk 1 65535 (lit 65535 true).1 (lit 65535 true).2.1 ⟨#[]⟩ []] := by
  cases h with
  | num V b s nm h hU hn => exact absurd (fld_num h).2.1 (by decide)
  | cast V b s hU hb hf => rfl
set_option maxRecDepth 100000 in
set_option maxHeartbeats 1000000 in
theorem alive_any (w : World) : Calls Tryz.prog 4 #[] w fun e w' => e = .returned (.bool true) ∧ Below w.heap.size w w' := by
  have BX := Box.new w #[.int .i64 1, .int .u64 1, .int .i64 16, .bool true, .string ⟨#[]⟩, .slice none 0 0] 27
  have k0 := below_a w (.cells #[.int .i64 1, .int .u64 1, .int .i64 16, .bool true, .string ⟨#[]⟩, .slice none 0 0] 27)
  have hp := exP_one (X := (w.heap.size ≤ ·)) (z := .mk 1 1 16 true ⟨#[]⟩ []) (kv := .slice none 0 0) BX (Nat.le_refl _) (ExP.nil _ _) ⟨⟨by decide, by decide⟩, Nat.zero_le _⟩
  have CX := hideI (fExpr_any xNeg _ xNeg_fx xNeg_lk _ _ _ hp.l (Nat.le_refl _) ⟨⟨by decide, by decide⟩, Nat.zero_le _⟩)
  have K0 := hideI k0
  clear BX hp k0
  simp only [xNeg, Ex.k, Ex.n, Ex.b, Ex.s, Ex.nm] at CX
  generalize hW0 : w.alloc (.cells #[.int .i64 1, .int .u64 1, .int .i64 16, .bool true, .string ⟨#[]⟩, .slice none 0 0] 27) = W0 at *
  go_enter Tryz.func4, Tryz.ntmps4
  go_wp2_with fail
  refine (unhideI CX).mono ?_
  rintro e w2 ⟨y, ao, n, c, rfl, k2, hp, hfy, hq⟩
  obtain rfl := kn_neg hq
  simp only [Ex.k, Ex.n, Ex.b, Ex.s, Ex.nm, Ex.kids] at hp ⊢
  have kY := below_a w2 (.cells #[.int .i64 5, .int .u64 0, .int .i64 16, .bool true, .string ⟨#[]⟩, .slice ao n c] 27)
  have K2 := hideI (bT (bT (unhideI K0) k2) kY)
  have hx := (hp.l).step kY
  obtain ⟨ao', cap', e1, -, hat⟩ := hx.at
  injection e1 with e1 e2 e3
  subst e1 e2 e3
  obtain ⟨bk, off, rfl, hbk, hbw, hc1⟩ := hat (by simp)
  obtain ⟨kv', -, -, c0, c1, -⟩ := hc1 0 (by simp)
  simp only [Nat.zero_mul, Nat.add_zero, List.getElem_cons_zero, Ex.k, Ex.n] at c0 c1
  have BY := Box.new w2 #[.int .i64 5, .int .u64 0, .int .i64 16, .bool true, .string ⟨#[]⟩, .slice (some ⟨bk, off, none⟩) 1 c] 27
  obtain ⟨a0, a1, a2, a3, a4, a5⟩ := BY.six8
  have hsA := BY.1
  clear hp hx hat hc1 BY kY k2 hfy hq CX K0
  simp only [List.length_cons, List.length_nil, Nat.zero_add] at *
  generalize hW2 : w2.alloc (.cells #[.int .i64 5, .int .u64 0, .int .i64 16, .bool true, .string ⟨#[]⟩, .slice (some ⟨bk, off, none⟩) 1 c] 27) = W2 at *
  go_wp2_with fail
  go_ret
  exact ⟨rfl, unhideI K2⟩
end Go.Proofs.YtjddpfojllefgaaGreat
