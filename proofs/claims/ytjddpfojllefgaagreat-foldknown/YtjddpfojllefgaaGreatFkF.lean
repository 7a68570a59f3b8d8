/-
  What is known is worked out: fold.expression.
-/
import Derived.Test.YtjddpfojllefgaaGreatFkAz
import Derived.Test.YtjddpfojllefgaaGreatFkEz
namespace Go.Proofs.YtjddpfojllefgaaGreat
open Go.RowKit
set_option linter.unusedSimpArgs false
set_option linter.unusedVariables false

theorem ExP.set9 {X : Nat → Prop} {W : World} {v u : Value} {ys : List Ex} {b j : Nat} (h : ExP X W v ys) (hX : ∀ c, X c → c ≠ b) : ExP X (W.setCell ⟨b, j, none⟩ u) v ys :=
  h.step (by simp [World.setCell]) fun c _ hx => Below.heap_setCell _ _ _ _ (hX c hx)
theorem Tv.kids9 {w W : World} {B S : Nat} {x : Ex} {ka ya : Option Addr} {kc yc : Nat} {r : List Value} {ys : List Ex} (h : Tv w W B x ka kc r) (hp : ExP (S ≤ ·) W (.slice ya ys.length yc) ys) (hS : w.heap.size < S) : Tv w (W.setCell ⟨w.heap.size, 5, none⟩ (.slice ya ys.length yc)) W.heap.size (x.with ys) ya yc r := by
  refine ⟨h.d.setCell (Nat.le_refl _) _, h.A.set (j := 5) (by simp), h.R.other (by omega), ?_, by simp [World.setCell]⟩
  have := (hp.set9 (b := w.heap.size) (j := 5) (u := .slice ya ys.length yc) fun c hc => by omega).l
  have hs : (W.setCell ⟨w.heap.size, 5, none⟩ (.slice ya ys.length yc)).heap.size = W.heap.size := by simp [World.setCell]
  rw [hs] at this
  exact this
theorem ExP.none9 {X Y : Nat → Prop} {w w' : World} {v : Value} (h : ExP X w v []) (hs : w.heap.size ≤ w'.heap.size) : ExP Y w' v [] := by
  cases h with
  | mk v xs ks hl hv lies ok kids => exact .mk v [] ks hl (fun c hc hn => absurd rfl hn) (lies_at lies hs fun hn => absurd rfl hn) ok (fun i h => by simp at h)
theorem with_k (x : Ex) (l : List Ex) : (x.with l).k = x.k := rfl
theorem with_n (x : Ex) (l : List Ex) : (x.with l).n = x.n := rfl
theorem with_b (x : Ex) (l : List Ex) : (x.with l).b = x.b := rfl
theorem with_s (x : Ex) (l : List Ex) : (x.with l).s = x.s := rfl
theorem with_nm (x : Ex) (l : List Ex) : (x.with l).nm = x.nm := rfl
theorem with_kids (x : Ex) (l : List Ex) : (x.with l).kids = l := rfl
set_option maxRecDepth 100000 in
set_option maxHeartbeats 1000000 in
theorem fx_leaf (x : Ex) (hk : x.kids = []) : FxC x (fun y => y = .mk x.k x.n x.b x.s x.nm []) := by
  obtain ⟨Q, hQ⟩ : ∃ Q : Ex → Ex → Prop, ∀ i (h : i < x.kids.length), FxC x.kids[i] (Q x.kids[i]) := ⟨fun _ _ => True, fun i h => by rw [hk] at h; simp at h⟩
  have hI := hQ
  have hlen : x.kids.length ≤ 100 := by rw [hk]; simp
  have HK := hideI hk
  clear hQ hk
  intro B kv w hx hB hF
  obtain ⟨ka, kc, rfl⟩ : ∃ ao cap, kv = .slice ao x.kids.length cap := by obtain ⟨ao, cap, e, -⟩ := hx.at; exact ⟨ao, cap, e⟩
  have S0 := hideI (Tv.begin #[.int .i64 0, .int .u64 0, .int .i64 0, .bool false, .string ⟨#[]⟩, .slice none 0 0] 27 27 hx hB)
  have CE := hideI (each_any x.kids Q _ _ _ hI hlen (unhideI S0).hk (unhideI S0).le)
  obtain ⟨a0, a1, a2, a3, a4, a5⟩ := (unhideI S0).A.six8
  have aF := (unhideI S0).A.2.2
  have hsA := (unhideI S0).A.1
  have HF := hideI hF
  clear hx hB hF hI
  have hs2 : ((w.alloc (.cells #[.int .i64 x.k, .int .u64 x.n, .int .i64 x.b, .bool x.s, .string x.nm, .slice ka x.kids.length kc] 27)).alloc (.cells #[.int .i64 0, .int .u64 0, .int .i64 0, .bool false, .string ⟨#[]⟩, .slice none 0 0] 27)).heap.size = w.heap.size + 2 := by simp
  have HS2 := hideI hs2
  clear hs2
  generalize hW0 : (w.alloc (.cells #[.int .i64 x.k, .int .u64 x.n, .int .i64 x.b, .bool x.s, .string x.nm, .slice ka x.kids.length kc] 27)).alloc (.cells #[.int .i64 0, .int .u64 0, .int .i64 0, .bool false, .string ⟨#[]⟩, .slice none 0 0] 27) = W0 at *
  go_enter Tryz.func15, Tryz.ntmps15
  go_wp2_with fail
  refine (unhideI CE).mono ?_
  rintro e w1 ⟨v1, ys, rfl, k1, hp, hyl, hyF, hyQ⟩
  obtain ⟨ya, yc, rfl⟩ : ∃ ao cap, v1 = .slice ao ys.length cap := by obtain ⟨ao, cap, e, -⟩ := hp.l.at; exact ⟨ao, cap, e⟩
  rw [unhideI HS2] at hp
  have S1 := hideI ((unhideI S0).next k1)
  have S2 := hideI ((unhideI S1).kids9 hp (by omega))
  have HP := hideI hp
  clear k1 S0 hp CE a0 a1 a2 a3 a4 a5 aF hsA HS2
  obtain ⟨b0, b1, b2, b3, b4, b5⟩ := (unhideI S1).A.six8
  have bF := (unhideI S1).A.2.2
  have bsA := (unhideI S1).A.1
  obtain ⟨a0, a1, a2, a3, a4, a5⟩ := (unhideI S2).A.six8
  have hsA := (unhideI S2).A.1
  obtain ⟨z0, z1, z2, z3, z4, z5⟩ := (unhideI S2).R.six8
  have zf := (unhideI S2).R.2.2
  have zl := (unhideI S2).R.1
  have hys : ys = [] := List.eq_nil_of_length_eq_zero (by rw [hyl, unhideI HK]; rfl)
  have RN := ready_no (x.with ys) hys _ _ _ (unhideI S2).hk
  simp only [with_k, with_n, with_b, with_s, with_nm, with_kids] at RN a0 a1 a2 a3 a4 a5
  have RN := hideI RN
  have HY := hideI hys
  clear hys hyl hyF hyQ
  generalize hW2 : w1.setCell ⟨w.heap.size, 5, none⟩ (.slice ya ys.length yc) = W2 at *
  go_wp2_with fail
  refine (unhideI RN).mono ?_
  rintro e w3 ⟨rfl, k3⟩
  have S3 := hideI ((unhideI S2).next k3)
  have HZ := hideI (Nat.le_trans (show w1.heap.size ≤ W2.heap.size by rw [← hW2]; simp [World.setCell]) k3.size)
  clear k3 RN S2 a0 a1 a2 a3 a4 a5 hsA z0 z1 z2 z3 z4 z5 zf zl b0 b1 b2 b3 b4 b5 bF bsA S1
  obtain ⟨a0, a1, a2, a3, a4, a5⟩ := (unhideI S3).A.six8
  have hsA := (unhideI S3).A.1
  obtain ⟨z0, z1, z2, z3, z4, z5⟩ := (unhideI S3).R.six8
  have zf := (unhideI S3).R.2.2
  have zl := (unhideI S3).R.1
  simp only [with_k, with_n, with_b, with_s, with_nm, with_kids] at a0 a1 a2 a3 a4 a5
  go_wp2_with fail
  obtain ⟨p0, p1, p2, p3, p4, p5⟩ := ((unhideI S3).R.put6 (.int .i64 x.k) (.int .u64 x.n) (.int .i64 x.b) (.bool x.s) (.string x.nm) (.slice ya ys.length yc)).six8
  have hp := unhideI HP
  rw [unhideI HY] at hp
  exact bodyPost_ret (v := .agg #[.int .i64 x.k, .int .u64 x.n, .int .i64 x.b, .bool x.s, .string x.nm, .slice ya ys.length yc]) (by simp [results, Tryz.results15, go_sem, p0, p1, p2, p3, p4, p5]) rfl ⟨.mk x.k x.n x.b x.s x.nm [], ya, ys.length, yc, rfl, below_6 (unhideI S3).d (by omega) _ _ _ _ _ _, by rw [unhideI HY]; exact hp.none9 (by simpa [World.setCell] using unhideI HZ), unhideI HF, rfl⟩
set_option maxRecDepth 100000 in
set_option maxHeartbeats 1000000 in
theorem fx_known (x : Ex) (V b : Int) (s : Bool) (Q : Ex → Ex → Prop) (hI : ∀ i (h : i < x.kids.length), FxC x.kids[i] (Q x.kids[i])) (hlen : x.kids.length ≤ 100) (hne : x.kids ≠ []) (h3 : (x.k == 3) = false) (h4 : (x.k == 4) = false) (hb : IsW b) (hf : cut b V = V)
    (hC : ∀ ys : List Ex, ys.length = x.kids.length → (∀ i (h : i < x.kids.length) (h' : i < ys.length), Q x.kids[i] ys[i]) → (∀ y ∈ ys, ∃ V b s, KnE y V b s) ∧ (lkE (x.with ys) 1 0).1 = 0 ∧ WkC (x.with ys) V b s 0) : FxC x (fun y => KnE y V b s) := by
  have HC := hideI hC
  have HK := hideI (And.intro hne (And.intro h3 h4))
  have HWR := hideI (fun w => written_any V b s w hb hf)
  have HKN := hideI (wrE_kn (s := s) hb hf)
  generalize wrE V b s = Y at *
  clear hC hne h3 h4 hb hf
  intro B kv w hx hB hF
  obtain ⟨ka, kc, rfl⟩ : ∃ ao cap, kv = .slice ao x.kids.length cap := by obtain ⟨ao, cap, e, -⟩ := hx.at; exact ⟨ao, cap, e⟩
  have S0 := hideI (Tv.begin #[.int .i64 0, .int .u64 0, .int .i64 0, .bool false, .string ⟨#[]⟩, .slice none 0 0] 27 27 hx hB)
  have CE := hideI (each_any x.kids Q _ _ _ hI hlen (unhideI S0).hk (unhideI S0).le)
  obtain ⟨a0, a1, a2, a3, a4, a5⟩ := (unhideI S0).A.six8
  have aF := (unhideI S0).A.2.2
  have hsA := (unhideI S0).A.1
  have HF := hideI hF
  clear hx hB hF hI
  have hs2 : ((w.alloc (.cells #[.int .i64 x.k, .int .u64 x.n, .int .i64 x.b, .bool x.s, .string x.nm, .slice ka x.kids.length kc] 27)).alloc (.cells #[.int .i64 0, .int .u64 0, .int .i64 0, .bool false, .string ⟨#[]⟩, .slice none 0 0] 27)).heap.size = w.heap.size + 2 := by simp
  have HS2 := hideI hs2
  clear hs2
  generalize hW0 : (w.alloc (.cells #[.int .i64 x.k, .int .u64 x.n, .int .i64 x.b, .bool x.s, .string x.nm, .slice ka x.kids.length kc] 27)).alloc (.cells #[.int .i64 0, .int .u64 0, .int .i64 0, .bool false, .string ⟨#[]⟩, .slice none 0 0] 27) = W0 at *
  go_enter Tryz.func15, Tryz.ntmps15
  go_wp2_with fail
  refine (unhideI CE).mono ?_
  rintro e w1 ⟨v1, ys, rfl, k1, hp, hyl, hyF, hyQ⟩
  obtain ⟨ya, yc, rfl⟩ : ∃ ao cap, v1 = .slice ao ys.length cap := by obtain ⟨ao, cap, e, -⟩ := hp.l.at; exact ⟨ao, cap, e⟩
  rw [unhideI HS2] at hp
  have S1 := hideI ((unhideI S0).next k1)
  have S2 := hideI ((unhideI S1).kids9 hp (by omega))
  have HP := hideI hp
  clear k1 S0 hp CE a0 a1 a2 a3 a4 a5 aF hsA HS2
  obtain ⟨b0, b1, b2, b3, b4, b5⟩ := (unhideI S1).A.six8
  have bF := (unhideI S1).A.2.2
  have bsA := (unhideI S1).A.1
  obtain ⟨a0, a1, a2, a3, a4, a5⟩ := (unhideI S2).A.six8
  have hsA := (unhideI S2).A.1
  obtain ⟨z0, z1, z2, z3, z4, z5⟩ := (unhideI S2).R.six8
  have zf := (unhideI S2).R.2.2
  have zl := (unhideI S2).R.1
  obtain ⟨c1, c2, c3⟩ := unhideI HC ys hyl hyQ
  have hnn : ys ≠ [] := fun h => (unhideI HK).1 (List.eq_nil_of_length_eq_zero (by rw [← hyl, h]; rfl))
  have RY := ready_yes (x.with ys) hnn (unhideI HK).2.1 (unhideI HK).2.2 c1 _ _ _ (unhideI S2).hk (unhideI S2).le
  simp only [with_k, with_n, with_b, with_s, with_nm, with_kids] at RY a0 a1 a2 a3 a4 a5
  have RY := hideI RY
  have HCC := hideI (And.intro c2 c3)
  clear hyl hyF hyQ c1 c2 c3 hnn HC HK
  generalize hW2 : w1.setCell ⟨w.heap.size, 5, none⟩ (.slice ya ys.length yc) = W2 at *
  go_wp2_with fail
  refine (unhideI RY).mono ?_
  rintro e w3 ⟨rfl, k3⟩
  have S3 := hideI ((unhideI S2).next k3)
  have CC := cconst_any (x.with ys) _ _ _ (unhideI S3).hk (unhideI S3).le (show ExF (x.with ys) from unhideI HF) V b s 0 (unhideI HCC).1 (unhideI HCC).2
  simp only [with_k, with_n, with_b, with_s, with_nm, with_kids] at CC
  have CC := hideI CC
  clear k3 RY S2 a0 a1 a2 a3 a4 a5 hsA z0 z1 z2 z3 z4 z5 zf zl b0 b1 b2 b3 b4 b5 bF bsA S1 HCC HP
  obtain ⟨a0, a1, a2, a3, a4, a5⟩ := (unhideI S3).A.six8
  have hsA := (unhideI S3).A.1
  obtain ⟨z0, z1, z2, z3, z4, z5⟩ := (unhideI S3).R.six8
  have zf := (unhideI S3).R.2.2
  have zl := (unhideI S3).R.1
  simp only [with_k, with_n, with_b, with_s, with_nm, with_kids] at a0 a1 a2 a3 a4 a5
  go_wp2_with fail
  refine (unhideI CC).mono ?_
  rintro e w4 ⟨rfl, k4⟩
  have S4 := hideI ((unhideI S3).next k4)
  have kN := below_a w4 (.cells #[.int .i64 b, .bool s] 24)
  have BN := hideI (Box.new w4 #[.int .i64 b, .bool s] 24)
  have S3 := hideI ((unhideI S4).next kN)
  clear k4 S4 kN CC a0 a1 a2 a3 a4 a5 hsA z0 z1 z2 z3 z4 z5 zf zl
  obtain ⟨a0, a1, a2, a3, a4, a5⟩ := (unhideI S3).A.six8
  have hsA := (unhideI S3).A.1
  obtain ⟨z0, z1, z2, z3, z4, z5⟩ := (unhideI S3).R.six8
  have zf := (unhideI S3).R.2.2
  have zl := (unhideI S3).R.1
  simp only [with_k, with_n, with_b, with_s, with_nm, with_kids] at a0 a1 a2 a3 a4 a5
  obtain ⟨u0, u1⟩ := (unhideI BN).at2
  have hsN := (unhideI BN).1
  generalize hW4 : w4.alloc (.cells #[.int .i64 b, .bool s] 24) = W4 at *
  go_wp2_with fail
  refine (unhideI HWR _).mono ?_
  rintro e w5 ⟨ao, n, c, rfl, k5, hp5⟩
  have HP5 := hideI hp5
  have HZ5 := hideI (show w.heap.size + 1 < W4.heap.size from (unhideI S3).R.1)
  have S5 := hideI ((unhideI S3).next k5)
  clear k5 hp5 S3 HWR a0 a1 a2 a3 a4 a5 hsA z0 z1 z2 z3 z4 z5 zf zl u0 u1 hsN BN
  have S3 := S5
  obtain ⟨a0, a1, a2, a3, a4, a5⟩ := (unhideI S3).A.six8
  have hsA := (unhideI S3).A.1
  obtain ⟨z0, z1, z2, z3, z4, z5⟩ := (unhideI S3).R.six8
  have zf := (unhideI S3).R.2.2
  have zl := (unhideI S3).R.1
  simp only [with_k, with_n, with_b, with_s, with_nm, with_kids] at a0 a1 a2 a3 a4 a5
  go_wp2_with fail
  obtain ⟨p0, p1, p2, p3, p4, p5⟩ := ((unhideI S5).R.put6 (.int .i64 Y.k) (.int .u64 Y.n) (.int .i64 Y.b) (.bool Y.s) (.string Y.nm) (.slice ao n c)).six8
  have hz5 := unhideI HZ5
  exact bodyPost_ret (v := .agg #[.int .i64 Y.k, .int .u64 Y.n, .int .i64 Y.b, .bool Y.s, .string Y.nm, .slice ao n c]) (by simp [results, Tryz.results15, go_sem, p0, p1, p2, p3, p4, p5]) rfl ⟨Y, ao, n, c, rfl, below_6 (unhideI S5).d (by omega) _ _ _ _ _ _, ((((((((unhideI HP5).set9 fun c hc => by omega).set9 fun c hc => by omega).set9 fun c hc => by omega).set9 fun c hc => by omega).set9 fun c hc => by omega).set9 fun c hc => by omega).mono fun c _ hc => by omega), (unhideI HKN).exF, unhideI HKN⟩
end Go.Proofs.YtjddpfojllefgaaGreat
