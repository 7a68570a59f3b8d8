/-
  Constant expressions: what the program works out (written by mkCcE.py).
-/
import Derived.Test.YtaidefdbjcgcbaaGreatCcCz
namespace Go.Proofs.YtaidefdbjcgcbaaGreat
open Go.RowKit
set_option linter.unusedSimpArgs false
set_option linter.unusedVariables false

/-- What the program works out of an expression, wherever it lies. -/
def WkC (x : Ex) (V b : Int) (s : Bool) (er : Int) : Prop := ∀ (B : Nat) (kv : Value) (w : World), ExL B w kv x.kids → B ≤ w.heap.size →
  Calls Tryz.prog 28 #[.agg #[.int .i64 x.k, .int .u64 x.n, .int .i64 x.b, .bool x.s, .string x.nm, kv]] w fun e w' => e = .returned (.tuple #[.agg #[.int .u64 V, .int .i64 b, .bool s], .int .i64 er]) ∧ Below w.heap.size w w'
/-- On the way through an expression. -/
structure Tv (w W : World) (B : Nat) (x : Ex) (ka : Option Addr) (kc : Nat) (r : List Value) : Prop where
  d : Below w.heap.size w W
  A : Box W w.heap.size [.int .i64 x.k, .int .u64 x.n, .int .i64 x.b, .bool x.s, .string x.nm, .slice ka x.kids.length kc]
  R : Box W (w.heap.size + 1) r
  hk : ExL B W (.slice ka x.kids.length kc) x.kids
  le : B ≤ W.heap.size
theorem Tv.next {w W W' : World} {B : Nat} {x : Ex} {ka : Option Addr} {kc : Nat} {r : List Value} (h : Tv w W B x ka kc r) (q : Below W.heap.size W W') : Tv w W' B x ka kc r :=
  ⟨bT h.d q, h.A.step q, h.R.step q, h.hk.step (q.mono h.le), Nat.le_trans h.le q.size⟩
theorem Tv.begin {w : World} {B : Nat} {x : Ex} {ka : Option Addr} {kc : Nat} (r : Array Value) (T U' : TypeId) (hk : ExL B w (.slice ka x.kids.length kc) x.kids) (hB : B ≤ w.heap.size) : Tv w ((w.alloc (.cells #[.int .i64 x.k, .int .u64 x.n, .int .i64 x.b, .bool x.s, .string x.nm, .slice ka x.kids.length kc] T)).alloc (.cells r U')) B x ka kc r.toList := by
  have k1 := below_a w (.cells #[.int .i64 x.k, .int .u64 x.n, .int .i64 x.b, .bool x.s, .string x.nm, .slice ka x.kids.length kc] T)
  have k2 := below_a (w.alloc (.cells #[.int .i64 x.k, .int .u64 x.n, .int .i64 x.b, .bool x.s, .string x.nm, .slice ka x.kids.length kc] T)) (.cells r U')
  have e1 : (w.alloc (.cells #[.int .i64 x.k, .int .u64 x.n, .int .i64 x.b, .bool x.s, .string x.nm, .slice ka x.kids.length kc] T)).heap.size = w.heap.size + 1 := by simp
  have hd := bT k1 k2
  refine ⟨hd, (Box.new w _ T).step k2, ?_, hk.step (hd.mono hB), Nat.le_trans hB hd.size⟩
  have := Box.new (w.alloc (.cells #[.int .i64 x.k, .int .u64 x.n, .int .i64 x.b, .bool x.s, .string x.nm, .slice ka x.kids.length kc] T)) r U'
  rwa [e1] at this
theorem tv_kid {w W : World} {B : Nat} {x : Ex} {ka : Option Addr} {kc : Nat} {r : List Value} (s : Tv w W B x ka kc r) (i : Nat) (hi : i < x.kids.length) : ∃ b off kv, ka = some ⟨b, off, none⟩ ∧ b < W.heap.size ∧ ExL B W kv x.kids[i].kids ∧
    W.cell? ⟨b, off + i * 6, none⟩ = some (.int .i64 x.kids[i].k) ∧ W.cell? ⟨b, off + i * 6 + 1, none⟩ = some (.int .u64 x.kids[i].n) ∧ W.cell? ⟨b, off + i * 6 + 2, none⟩ = some (.int .i64 x.kids[i].b) ∧ W.cell? ⟨b, off + i * 6 + 3, none⟩ = some (.bool x.kids[i].s) ∧ W.cell? ⟨b, off + i * 6 + 4, none⟩ = some (.string x.kids[i].nm) ∧ W.cell? ⟨b, off + i * 6 + 5, none⟩ = some kv := by
  obtain ⟨ao, cap, e, -, h⟩ := s.hk.at
  injection e with e1 _ _
  obtain ⟨b, off, e2, hb, hbw, hc⟩ := h (fun e => by rw [e] at hi; exact absurd hi (by simp))
  obtain ⟨kv, h1, -, h3⟩ := hc i hi
  exact ⟨b, off, kv, e1.trans e2, hbw, h1, h3⟩
theorem Box.six8 {w : World} {b : Nat} {a0 a1 a2 a3 a4 a5 : Value} (h : Box w b [a0, a1, a2, a3, a4, a5]) : w.cell? ⟨b, 0, none⟩ = some a0 ∧ w.cell? ⟨b, 1, none⟩ = some a1 ∧ w.cell? ⟨b, 2, none⟩ = some a2 ∧ w.cell? ⟨b, 3, none⟩ = some a3 ∧ w.cell? ⟨b, 4, none⟩ = some a4 ∧ w.cell? ⟨b, 5, none⟩ = some a5 :=
  ⟨h.2.1 0 _ rfl, h.2.1 1 _ rfl, h.2.1 2 _ rfl, h.2.1 3 _ rfl, h.2.1 4 _ rfl, h.2.1 5 _ rfl⟩
set_option maxHeartbeats 1000000 in
theorem wk_num (x : Ex) (hk : x.k = 1) : WkC x x.n x.b x.s 0 := by
  intro B kv w hx hB
  obtain ⟨ka, kc, rfl⟩ : ∃ ao cap, kv = .slice ao x.kids.length cap := by obtain ⟨ao, cap, e, -⟩ := hx.at; exact ⟨ao, cap, e⟩
  have S0 := hideI (Tv.begin #[.int .u64 0, .int .i64 0, .bool false] 57 79 hx hB)
  obtain ⟨a0, a1, a2, a3, a4, a5⟩ := (unhideI S0).A.six8
  have e1 : (x.k == 1) = true := beq_iff_eq.2 hk
  have hsA := (unhideI S0).A.1
  obtain ⟨z0, z1, z2⟩ := (unhideI S0).R.at3
  have zf := (unhideI S0).R.2.2
  have zl := (unhideI S0).R.1
  clear hx hB
  generalize hW0 : (w.alloc (.cells #[.int .i64 x.k, .int .u64 x.n, .int .i64 x.b, .bool x.s, .string x.nm, .slice ka x.kids.length kc] 57)).alloc (.cells #[.int .u64 0, .int .i64 0, .bool false] 79) = W0 at *
  go_enter Tryz.func28, Tryz.ntmps28
  go_wp2_with fail
  exact bodyPost_ret (v := .tuple #[.agg #[.int .u64 x.n, .int .i64 x.b, .bool x.s], .int .i64 0]) (by simp [results, Tryz.results28, go_sem]) rfl ⟨rfl, (by repeat (first | exact (Below.refl _ _) | refine Below.setCell ?_ (by first | exact Nat.le_refl _ | (simp; done) | omega | (simp; omega)) _ | refine Below.alloc ?_ (by first | (simp; done) | omega | (simp; omega)) _))⟩
set_option maxHeartbeats 1000000 in
theorem wk_no (x : Ex) (hk : x.k = 2 ∨ x.k = 3 ∨ x.k = 4) : WkC x 0 0 false 8 := by
  rcases hk with hk | hk | hk
  · intro B kv w hx hB
    obtain ⟨ka, kc, rfl⟩ : ∃ ao cap, kv = .slice ao x.kids.length cap := by obtain ⟨ao, cap, e, -⟩ := hx.at; exact ⟨ao, cap, e⟩
    have S0 := hideI (Tv.begin #[.int .u64 0, .int .i64 0, .bool false] 57 79 hx hB)
    obtain ⟨a0, a1, a2, a3, a4, a5⟩ := (unhideI S0).A.six8
    have e1 : (x.k == 1) = false := beq_eq_false_iff_ne.2 (by omega)
    have e2 : (x.k == 2) = true := beq_iff_eq.2 hk
    have hsA := (unhideI S0).A.1
    obtain ⟨z0, z1, z2⟩ := (unhideI S0).R.at3
    have zf := (unhideI S0).R.2.2
    have zl := (unhideI S0).R.1
    clear hx hB
    generalize hW0 : (w.alloc (.cells #[.int .i64 x.k, .int .u64 x.n, .int .i64 x.b, .bool x.s, .string x.nm, .slice ka x.kids.length kc] 57)).alloc (.cells #[.int .u64 0, .int .i64 0, .bool false] 79) = W0 at *
    go_enter Tryz.func28, Tryz.ntmps28
    go_wp2_with fail
    exact bodyPost_ret (v := .tuple #[.agg #[.int .u64 0, .int .i64 0, .bool false], .int .i64 8]) (by simp [results, Tryz.results28, go_sem]) rfl ⟨rfl, (by repeat (first | exact (Below.refl _ _) | refine Below.setCell ?_ (by first | exact Nat.le_refl _ | (simp; done) | omega | (simp; omega)) _ | refine Below.alloc ?_ (by first | (simp; done) | omega | (simp; omega)) _))⟩
  · intro B kv w hx hB
    obtain ⟨ka, kc, rfl⟩ : ∃ ao cap, kv = .slice ao x.kids.length cap := by obtain ⟨ao, cap, e, -⟩ := hx.at; exact ⟨ao, cap, e⟩
    have S0 := hideI (Tv.begin #[.int .u64 0, .int .i64 0, .bool false] 57 79 hx hB)
    obtain ⟨a0, a1, a2, a3, a4, a5⟩ := (unhideI S0).A.six8
    have e1 : (x.k == 1) = false := beq_eq_false_iff_ne.2 (by omega)
    have e2 : (x.k == 2) = false := beq_eq_false_iff_ne.2 (by omega)
    have e3 : (x.k == 3) = true := beq_iff_eq.2 hk
    have hsA := (unhideI S0).A.1
    obtain ⟨z0, z1, z2⟩ := (unhideI S0).R.at3
    have zf := (unhideI S0).R.2.2
    have zl := (unhideI S0).R.1
    clear hx hB
    generalize hW0 : (w.alloc (.cells #[.int .i64 x.k, .int .u64 x.n, .int .i64 x.b, .bool x.s, .string x.nm, .slice ka x.kids.length kc] 57)).alloc (.cells #[.int .u64 0, .int .i64 0, .bool false] 79) = W0 at *
    go_enter Tryz.func28, Tryz.ntmps28
    go_wp2_with fail
    exact bodyPost_ret (v := .tuple #[.agg #[.int .u64 0, .int .i64 0, .bool false], .int .i64 8]) (by simp [results, Tryz.results28, go_sem]) rfl ⟨rfl, (by repeat (first | exact (Below.refl _ _) | refine Below.setCell ?_ (by first | exact Nat.le_refl _ | (simp; done) | omega | (simp; omega)) _ | refine Below.alloc ?_ (by first | (simp; done) | omega | (simp; omega)) _))⟩
  · intro B kv w hx hB
    obtain ⟨ka, kc, rfl⟩ : ∃ ao cap, kv = .slice ao x.kids.length cap := by obtain ⟨ao, cap, e, -⟩ := hx.at; exact ⟨ao, cap, e⟩
    have S0 := hideI (Tv.begin #[.int .u64 0, .int .i64 0, .bool false] 57 79 hx hB)
    obtain ⟨a0, a1, a2, a3, a4, a5⟩ := (unhideI S0).A.six8
    have e1 : (x.k == 1) = false := beq_eq_false_iff_ne.2 (by omega)
    have e2 : (x.k == 2) = false := beq_eq_false_iff_ne.2 (by omega)
    have e3 : (x.k == 3) = false := beq_eq_false_iff_ne.2 (by omega)
    have e4 : (x.k == 4) = true := beq_iff_eq.2 hk
    have hsA := (unhideI S0).A.1
    obtain ⟨z0, z1, z2⟩ := (unhideI S0).R.at3
    have zf := (unhideI S0).R.2.2
    have zl := (unhideI S0).R.1
    clear hx hB
    generalize hW0 : (w.alloc (.cells #[.int .i64 x.k, .int .u64 x.n, .int .i64 x.b, .bool x.s, .string x.nm, .slice ka x.kids.length kc] 57)).alloc (.cells #[.int .u64 0, .int .i64 0, .bool false] 79) = W0 at *
    go_enter Tryz.func28, Tryz.ntmps28
    go_wp2_with fail
    exact bodyPost_ret (v := .tuple #[.agg #[.int .u64 0, .int .i64 0, .bool false], .int .i64 8]) (by simp [results, Tryz.results28, go_sem]) rfl ⟨rfl, (by repeat (first | exact (Below.refl _ _) | refine Below.setCell ?_ (by first | exact Nat.le_refl _ | (simp; done) | omega | (simp; omega)) _ | refine Below.alloc ?_ (by first | (simp; done) | omega | (simp; omega)) _))⟩
set_option maxHeartbeats 1000000 in
theorem wk_bad0 (x x0 : Ex) (rest : List Ex) (n1 y1 er : Int) (s1 : Bool) (hk : 5 ≤ x.k) (hkids : x.kids = x0 :: rest) (IH0 : WkC x0 n1 y1 s1 er) (hE : er ≠ 0) : WkC x 0 0 false er := by
  intro B kv w hx hB
  obtain ⟨ka, kc, rfl⟩ : ∃ ao cap, kv = .slice ao x.kids.length cap := by obtain ⟨ao, cap, e, -⟩ := hx.at; exact ⟨ao, cap, e⟩
  have S0 := hideI (Tv.begin #[.int .u64 0, .int .i64 0, .bool false] 57 79 hx hB)
  have hl : 1 ≤ x.kids.length := by rw [hkids]; simp
  obtain ⟨bk, off, kv0, rfl, hbk, hky, c0, c1, c2, c3, c4, c5⟩ := tv_kid (unhideI S0) 0 (by omega)
  have ey0 : x.kids[0]'(by omega) = x0 := by simp [hkids]
  rw [ey0] at hky c0 c1 c2 c3 c4
  simp only [Nat.zero_mul, Nat.add_zero] at c0 c1 c2 c3 c4 c5
  have CA := hideI (IH0 _ _ _ hky (unhideI S0).le)
  obtain ⟨a0, a1, a2, a3, a4, a5⟩ := (unhideI S0).A.six8
  have e1 : (x.k == 1) = false := beq_eq_false_iff_ne.2 (by omega)
  have e2 : (x.k == 2) = false := beq_eq_false_iff_ne.2 (by omega)
  have e3 : (x.k == 3) = false := beq_eq_false_iff_ne.2 (by omega)
  have e4 : (x.k == 4) = false := beq_eq_false_iff_ne.2 (by omega)
  have hE1 : (er != 0) = true := bne_iff_ne.2 hE
  have hE2 : (er == 0) = false := beq_eq_false_iff_ne.2 hE
  have hl1 : (1 : Int) ≤ (x.kids.length : Int) := by omega
  have hl2 : 0 < x.kids.length := by omega
  clear hE IH0 ey0 hkids
  have hsA := (unhideI S0).A.1
  obtain ⟨z0, z1, z2⟩ := (unhideI S0).R.at3
  have zf := (unhideI S0).R.2.2
  have zl := (unhideI S0).R.1
  clear hx hB
  generalize hW0 : (w.alloc (.cells #[.int .i64 x.k, .int .u64 x.n, .int .i64 x.b, .bool x.s, .string x.nm, .slice (some ⟨bk, off, none⟩) x.kids.length kc] 57)).alloc (.cells #[.int .u64 0, .int .i64 0, .bool false] 79) = W0 at *
  go_enter Tryz.func28, Tryz.ntmps28
  go_wp2_with fail
  refine (unhideI CA).mono ?_
  rintro e w1 ⟨rfl, k1⟩
  have S1 := hideI ((unhideI S0).next k1)
  have kN := below_a w1 (.cells #[.int .u64 n1, .int .i64 y1, .bool s1] 79)
  have BN := hideI (Box.new w1 #[.int .u64 n1, .int .i64 y1, .bool s1] 79)
  have S2 := hideI ((unhideI S1).next kN)
  clear k1 S0 S1 CA c0 c1 c2 c3 c4 c5 a0 a1 a2 a3 a4 a5 hsA z0 z1 z2 zf zl kN hky hbk
  obtain ⟨a0, a1, a2, a3, a4, a5⟩ := (unhideI S2).A.six8
  have hsA := (unhideI S2).A.1
  obtain ⟨z0, z1, z2⟩ := (unhideI S2).R.at3
  have zf := (unhideI S2).R.2.2
  have zl := (unhideI S2).R.1
  obtain ⟨u0, u1, u2⟩ := (unhideI BN).at3
  have hsN := (unhideI BN).1
  generalize hW2 : w1.alloc (.cells #[.int .u64 n1, .int .i64 y1, .bool s1] 79) = W2 at *
  go_wp2_with fail
  obtain ⟨p0, p1, p2⟩ := ((unhideI S2).R.three (.int .u64 0) (.int .i64 0) (.bool false)).at3
  exact bodyPost_ret (v := .tuple #[.agg #[.int .u64 0, .int .i64 0, .bool false], .int .i64 er]) (by simp [results, Tryz.results28, go_sem, p0, p1, p2]) rfl ⟨rfl, below_3 (unhideI S2).d (by omega) _ _ _⟩
set_option maxHeartbeats 1000000 in
theorem wk_one (x x0 : Ex) (n1 y1 V b : Int) (s1 s : Bool) (hk : 5 ≤ x.k) (hkids : x.kids = [x0]) (IH0 : WkC x0 n1 y1 s1 0)
    (H1 : ∀ (ka : Option Addr) (kl kc : Nat) (w : World), Calls Tryz.prog 49 #[.agg #[.int .i64 x.k, .int .u64 x.n, .int .i64 x.b, .bool x.s, .string x.nm, .slice ka kl kc], .agg #[.int .u64 n1, .int .i64 y1, .bool s1]] w fun e w' => e = .returned (.tuple #[.agg #[.int .u64 V, .int .i64 b, .bool s], .int .i64 0]) ∧ Below w.heap.size w w') : WkC x V b s 0 := by
  intro B kv w hx hB
  obtain ⟨ka, kc, rfl⟩ : ∃ ao cap, kv = .slice ao x.kids.length cap := by obtain ⟨ao, cap, e, -⟩ := hx.at; exact ⟨ao, cap, e⟩
  have S0 := hideI (Tv.begin #[.int .u64 0, .int .i64 0, .bool false] 57 79 hx hB)
  have hl : 1 ≤ x.kids.length := by rw [hkids]; simp
  obtain ⟨bk, off, kv0, rfl, hbk, hky, c0, c1, c2, c3, c4, c5⟩ := tv_kid (unhideI S0) 0 (by omega)
  have ey0 : x.kids[0]'(by omega) = x0 := by simp [hkids]
  rw [ey0] at hky c0 c1 c2 c3 c4
  simp only [Nat.zero_mul, Nat.add_zero] at c0 c1 c2 c3 c4 c5
  have CA := hideI (IH0 _ _ _ hky (unhideI S0).le)
  obtain ⟨a0, a1, a2, a3, a4, a5⟩ := (unhideI S0).A.six8
  have e1 : (x.k == 1) = false := beq_eq_false_iff_ne.2 (by omega)
  have e2 : (x.k == 2) = false := beq_eq_false_iff_ne.2 (by omega)
  have e3 : (x.k == 3) = false := beq_eq_false_iff_ne.2 (by omega)
  have e4 : (x.k == 4) = false := beq_eq_false_iff_ne.2 (by omega)
  have hl1 : (1 : Int) ≤ (x.kids.length : Int) := by omega
  have hl2 : 0 < x.kids.length := by omega
  have hl3 : ((x.kids.length : Int) == 1) = true := by rw [hkids]; rfl
  have hl4 : (x.kids.length == 1) = true := by rw [hkids]; rfl
  have H1 := hideI H1
  clear IH0 ey0 hkids
  have hsA := (unhideI S0).A.1
  obtain ⟨z0, z1, z2⟩ := (unhideI S0).R.at3
  have zf := (unhideI S0).R.2.2
  have zl := (unhideI S0).R.1
  clear hx hB
  generalize hW0 : (w.alloc (.cells #[.int .i64 x.k, .int .u64 x.n, .int .i64 x.b, .bool x.s, .string x.nm, .slice (some ⟨bk, off, none⟩) x.kids.length kc] 57)).alloc (.cells #[.int .u64 0, .int .i64 0, .bool false] 79) = W0 at *
  go_enter Tryz.func28, Tryz.ntmps28
  go_wp2_with fail
  refine (unhideI CA).mono ?_
  rintro e w1 ⟨rfl, k1⟩
  have S1 := hideI ((unhideI S0).next k1)
  have kN := below_a w1 (.cells #[.int .u64 n1, .int .i64 y1, .bool s1] 79)
  have BN := hideI (Box.new w1 #[.int .u64 n1, .int .i64 y1, .bool s1] 79)
  have S2 := hideI ((unhideI S1).next kN)
  clear k1 S0 S1 CA c0 c1 c2 c3 c4 c5 a0 a1 a2 a3 a4 a5 hsA z0 z1 z2 zf zl kN hky hbk
  obtain ⟨a0, a1, a2, a3, a4, a5⟩ := (unhideI S2).A.six8
  have hsA := (unhideI S2).A.1
  obtain ⟨z0, z1, z2⟩ := (unhideI S2).R.at3
  have zf := (unhideI S2).R.2.2
  have zl := (unhideI S2).R.1
  obtain ⟨u0, u1, u2⟩ := (unhideI BN).at3
  have hsN := (unhideI BN).1
  generalize hW2 : w1.alloc (.cells #[.int .u64 n1, .int .i64 y1, .bool s1] 79) = W2 at *
  go_wp2_with fail
  refine (unhideI H1 _ _ _ _).mono ?_
  rintro e w3 ⟨rfl, k3⟩
  have S3 := hideI ((unhideI S2).next k3)
  clear k3 S2 a0 a1 a2 a3 a4 a5 hsA z0 z1 z2 zf zl H1 u0 u1 u2 hsN BN
  obtain ⟨z0, z1, z2⟩ := (unhideI S3).R.at3
  have zf := (unhideI S3).R.2.2
  have zl := (unhideI S3).R.1
  go_wp2_with fail
  obtain ⟨p0, p1, p2⟩ := ((unhideI S3).R.three (.int .u64 V) (.int .i64 b) (.bool s)).at3
  exact bodyPost_ret (v := .tuple #[.agg #[.int .u64 V, .int .i64 b, .bool s], .int .i64 0]) (by simp [results, Tryz.results28, go_sem, p0, p1, p2]) rfl ⟨rfl, below_3 (unhideI S3).d (by omega) _ _ _⟩
set_option maxHeartbeats 1000000 in
theorem wk_bad1 (x x0 x1 : Ex) (n1 y1 n2 y2 er : Int) (s1 s2 : Bool) (hk : 5 ≤ x.k) (hkids : x.kids = [x0, x1]) (IH0 : WkC x0 n1 y1 s1 0) (IH1 : WkC x1 n2 y2 s2 er) (hE : er ≠ 0) : WkC x 0 0 false er := by
  intro B kv w hx hB
  obtain ⟨ka, kc, rfl⟩ : ∃ ao cap, kv = .slice ao x.kids.length cap := by obtain ⟨ao, cap, e, -⟩ := hx.at; exact ⟨ao, cap, e⟩
  have S0 := hideI (Tv.begin #[.int .u64 0, .int .i64 0, .bool false] 57 79 hx hB)
  have hl : 1 ≤ x.kids.length := by rw [hkids]; simp
  obtain ⟨bk, off, kv0, rfl, hbk, hky, c0, c1, c2, c3, c4, c5⟩ := tv_kid (unhideI S0) 0 (by omega)
  have ey0 : x.kids[0]'(by omega) = x0 := by simp [hkids]
  rw [ey0] at hky c0 c1 c2 c3 c4
  simp only [Nat.zero_mul, Nat.add_zero] at c0 c1 c2 c3 c4 c5
  have CA := hideI (IH0 _ _ _ hky (unhideI S0).le)
  obtain ⟨a0, a1, a2, a3, a4, a5⟩ := (unhideI S0).A.six8
  have e1 : (x.k == 1) = false := beq_eq_false_iff_ne.2 (by omega)
  have e2 : (x.k == 2) = false := beq_eq_false_iff_ne.2 (by omega)
  have e3 : (x.k == 3) = false := beq_eq_false_iff_ne.2 (by omega)
  have e4 : (x.k == 4) = false := beq_eq_false_iff_ne.2 (by omega)
  have hE1 : (er != 0) = true := bne_iff_ne.2 hE
  have hE2 : (er == 0) = false := beq_eq_false_iff_ne.2 hE
  clear hE
  have hl1 : (1 : Int) ≤ (x.kids.length : Int) := by omega
  have hl2 : 0 < x.kids.length := by omega
  have hl3 : ((x.kids.length : Int) == 1) = false := by rw [hkids]; rfl
  have hl4 : (x.kids.length == 1) = false := by rw [hkids]; rfl
  have hl5 : (2 : Int) ≤ (x.kids.length : Int) := by rw [hkids]; simp
  have hl6 : 1 < x.kids.length := by rw [hkids]; simp
  have HKI := hideI hkids
  clear IH0 ey0 hkids
  have hsA := (unhideI S0).A.1
  obtain ⟨z0, z1, z2⟩ := (unhideI S0).R.at3
  have zf := (unhideI S0).R.2.2
  have zl := (unhideI S0).R.1
  clear hx hB
  generalize hW0 : (w.alloc (.cells #[.int .i64 x.k, .int .u64 x.n, .int .i64 x.b, .bool x.s, .string x.nm, .slice (some ⟨bk, off, none⟩) x.kids.length kc] 57)).alloc (.cells #[.int .u64 0, .int .i64 0, .bool false] 79) = W0 at *
  go_enter Tryz.func28, Tryz.ntmps28
  go_wp2_with fail
  refine (unhideI CA).mono ?_
  rintro e w1 ⟨rfl, k1⟩
  have S1 := hideI ((unhideI S0).next k1)
  have kN := below_a w1 (.cells #[.int .u64 n1, .int .i64 y1, .bool s1] 79)
  have BN := hideI (Box.new w1 #[.int .u64 n1, .int .i64 y1, .bool s1] 79)
  have S2 := hideI ((unhideI S1).next kN)
  clear k1 S0 S1 CA c0 c1 c2 c3 c4 c5 a0 a1 a2 a3 a4 a5 hsA z0 z1 z2 zf zl kN hky hbk
  obtain ⟨a0, a1, a2, a3, a4, a5⟩ := (unhideI S2).A.six8
  have hsA := (unhideI S2).A.1
  obtain ⟨z0, z1, z2⟩ := (unhideI S2).R.at3
  have zf := (unhideI S2).R.2.2
  have zl := (unhideI S2).R.1
  obtain ⟨u0, u1, u2⟩ := (unhideI BN).at3
  have hsN := (unhideI BN).1
  generalize hW2 : w1.alloc (.cells #[.int .u64 n1, .int .i64 y1, .bool s1] 79) = W2 at *
  obtain ⟨bk1, off1, kv1, ek1, hbk1, hky1, d0, d1, d2, d3, d4, d5⟩ := tv_kid (unhideI S2) 1 hl6
  have ey1 : x.kids[1]'hl6 = x1 := by simp [unhideI HKI]
  rw [ey1] at hky1 d0 d1 d2 d3 d4
  clear ey1
  injection ek1 with ek1
  injection ek1 with ek1 ek2
  subst ek1 ek2
  simp only [Nat.one_mul] at d0 d1 d2 d3 d4 d5
  have CB := hideI (IH1 _ _ _ hky1 (unhideI S2).le)
  clear IH1
  go_wp2_with fail
  refine (unhideI CB).mono ?_
  rintro e w3 ⟨rfl, k3⟩
  have S3 := hideI ((unhideI S2).next k3)
  have kM := below_a w3 (.cells #[.int .u64 n2, .int .i64 y2, .bool s2] 79)
  have BM := hideI (Box.new w3 #[.int .u64 n2, .int .i64 y2, .bool s2] 79)
  have BN4 := hideI (((unhideI BN).step k3).step kM)
  have S4 := hideI ((unhideI S3).next kM)
  clear k3 S2 S3 CB d0 d1 d2 d3 d4 d5 a0 a1 a2 a3 a4 a5 hsA z0 z1 z2 zf zl kM hky1 hbk1 u0 u1 u2 hsN BN
  obtain ⟨a0, a1, a2, a3, a4, a5⟩ := (unhideI S4).A.six8
  have hsA := (unhideI S4).A.1
  obtain ⟨z0, z1, z2⟩ := (unhideI S4).R.at3
  have zf := (unhideI S4).R.2.2
  have zl := (unhideI S4).R.1
  obtain ⟨u0, u1, u2⟩ := (unhideI BN4).at3
  have hsN := (unhideI BN4).1
  obtain ⟨v0, v1, v2⟩ := (unhideI BM).at3
  have hsM := (unhideI BM).1
  generalize hW4 : w3.alloc (.cells #[.int .u64 n2, .int .i64 y2, .bool s2] 79) = W4 at *
  go_wp2_with fail
  obtain ⟨p0, p1, p2⟩ := ((unhideI S4).R.three (.int .u64 0) (.int .i64 0) (.bool false)).at3
  exact bodyPost_ret (v := .tuple #[.agg #[.int .u64 0, .int .i64 0, .bool false], .int .i64 er]) (by simp [results, Tryz.results28, go_sem, p0, p1, p2]) rfl ⟨rfl, below_3 (unhideI S4).d (by omega) _ _ _⟩
set_option maxHeartbeats 1000000 in
theorem wk_two (x x0 x1 : Ex) (n1 y1 n2 y2 V b er : Int) (s1 s2 s : Bool) (hk : 5 ≤ x.k) (hkids : x.kids = [x0, x1]) (IH0 : WkC x0 n1 y1 s1 0) (IH1 : WkC x1 n2 y2 s2 0)
    (H2 : ∀ w : World, Calls Tryz.prog 50 #[.int .i64 x.k, .agg #[.int .u64 n1, .int .i64 y1, .bool s1], .agg #[.int .u64 n2, .int .i64 y2, .bool s2]] w fun e w' => e = .returned (.tuple #[.agg #[.int .u64 V, .int .i64 b, .bool s], .int .i64 er]) ∧ Below w.heap.size w w') : WkC x V b s er := by
  intro B kv w hx hB
  obtain ⟨ka, kc, rfl⟩ : ∃ ao cap, kv = .slice ao x.kids.length cap := by obtain ⟨ao, cap, e, -⟩ := hx.at; exact ⟨ao, cap, e⟩
  have S0 := hideI (Tv.begin #[.int .u64 0, .int .i64 0, .bool false] 57 79 hx hB)
  have hl : 1 ≤ x.kids.length := by rw [hkids]; simp
  obtain ⟨bk, off, kv0, rfl, hbk, hky, c0, c1, c2, c3, c4, c5⟩ := tv_kid (unhideI S0) 0 (by omega)
  have ey0 : x.kids[0]'(by omega) = x0 := by simp [hkids]
  rw [ey0] at hky c0 c1 c2 c3 c4
  simp only [Nat.zero_mul, Nat.add_zero] at c0 c1 c2 c3 c4 c5
  have CA := hideI (IH0 _ _ _ hky (unhideI S0).le)
  obtain ⟨a0, a1, a2, a3, a4, a5⟩ := (unhideI S0).A.six8
  have e1 : (x.k == 1) = false := beq_eq_false_iff_ne.2 (by omega)
  have e2 : (x.k == 2) = false := beq_eq_false_iff_ne.2 (by omega)
  have e3 : (x.k == 3) = false := beq_eq_false_iff_ne.2 (by omega)
  have e4 : (x.k == 4) = false := beq_eq_false_iff_ne.2 (by omega)
  have H2 := hideI H2
  have hl1 : (1 : Int) ≤ (x.kids.length : Int) := by omega
  have hl2 : 0 < x.kids.length := by omega
  have hl3 : ((x.kids.length : Int) == 1) = false := by rw [hkids]; rfl
  have hl4 : (x.kids.length == 1) = false := by rw [hkids]; rfl
  have hl5 : (2 : Int) ≤ (x.kids.length : Int) := by rw [hkids]; simp
  have hl6 : 1 < x.kids.length := by rw [hkids]; simp
  have HKI := hideI hkids
  clear IH0 ey0 hkids
  have hsA := (unhideI S0).A.1
  obtain ⟨z0, z1, z2⟩ := (unhideI S0).R.at3
  have zf := (unhideI S0).R.2.2
  have zl := (unhideI S0).R.1
  clear hx hB
  generalize hW0 : (w.alloc (.cells #[.int .i64 x.k, .int .u64 x.n, .int .i64 x.b, .bool x.s, .string x.nm, .slice (some ⟨bk, off, none⟩) x.kids.length kc] 57)).alloc (.cells #[.int .u64 0, .int .i64 0, .bool false] 79) = W0 at *
  go_enter Tryz.func28, Tryz.ntmps28
  go_wp2_with fail
  refine (unhideI CA).mono ?_
  rintro e w1 ⟨rfl, k1⟩
  have S1 := hideI ((unhideI S0).next k1)
  have kN := below_a w1 (.cells #[.int .u64 n1, .int .i64 y1, .bool s1] 79)
  have BN := hideI (Box.new w1 #[.int .u64 n1, .int .i64 y1, .bool s1] 79)
  have S2 := hideI ((unhideI S1).next kN)
  clear k1 S0 S1 CA c0 c1 c2 c3 c4 c5 a0 a1 a2 a3 a4 a5 hsA z0 z1 z2 zf zl kN hky hbk
  obtain ⟨a0, a1, a2, a3, a4, a5⟩ := (unhideI S2).A.six8
  have hsA := (unhideI S2).A.1
  obtain ⟨z0, z1, z2⟩ := (unhideI S2).R.at3
  have zf := (unhideI S2).R.2.2
  have zl := (unhideI S2).R.1
  obtain ⟨u0, u1, u2⟩ := (unhideI BN).at3
  have hsN := (unhideI BN).1
  generalize hW2 : w1.alloc (.cells #[.int .u64 n1, .int .i64 y1, .bool s1] 79) = W2 at *
  obtain ⟨bk1, off1, kv1, ek1, hbk1, hky1, d0, d1, d2, d3, d4, d5⟩ := tv_kid (unhideI S2) 1 hl6
  have ey1 : x.kids[1]'hl6 = x1 := by simp [unhideI HKI]
  rw [ey1] at hky1 d0 d1 d2 d3 d4
  clear ey1
  injection ek1 with ek1
  injection ek1 with ek1 ek2
  subst ek1 ek2
  simp only [Nat.one_mul] at d0 d1 d2 d3 d4 d5
  have CB := hideI (IH1 _ _ _ hky1 (unhideI S2).le)
  clear IH1
  go_wp2_with fail
  refine (unhideI CB).mono ?_
  rintro e w3 ⟨rfl, k3⟩
  have S3 := hideI ((unhideI S2).next k3)
  have kM := below_a w3 (.cells #[.int .u64 n2, .int .i64 y2, .bool s2] 79)
  have BM := hideI (Box.new w3 #[.int .u64 n2, .int .i64 y2, .bool s2] 79)
  have BN4 := hideI (((unhideI BN).step k3).step kM)
  have S4 := hideI ((unhideI S3).next kM)
  clear k3 S2 S3 CB d0 d1 d2 d3 d4 d5 a0 a1 a2 a3 a4 a5 hsA z0 z1 z2 zf zl kM hky1 hbk1 u0 u1 u2 hsN BN
  obtain ⟨a0, a1, a2, a3, a4, a5⟩ := (unhideI S4).A.six8
  have hsA := (unhideI S4).A.1
  obtain ⟨z0, z1, z2⟩ := (unhideI S4).R.at3
  have zf := (unhideI S4).R.2.2
  have zl := (unhideI S4).R.1
  obtain ⟨u0, u1, u2⟩ := (unhideI BN4).at3
  have hsN := (unhideI BN4).1
  obtain ⟨v0, v1, v2⟩ := (unhideI BM).at3
  have hsM := (unhideI BM).1
  generalize hW4 : w3.alloc (.cells #[.int .u64 n2, .int .i64 y2, .bool s2] 79) = W4 at *
  go_wp2_with fail
  refine (unhideI H2 _).mono ?_
  rintro e w5 ⟨rfl, k5⟩
  have S5 := hideI ((unhideI S4).next k5)
  clear k5 S4 a0 a1 a2 a3 a4 a5 hsA z0 z1 z2 zf zl H2 u0 u1 u2 hsN BN4 v0 v1 v2 hsM BM
  obtain ⟨z0, z1, z2⟩ := (unhideI S5).R.at3
  have zf := (unhideI S5).R.2.2
  have zl := (unhideI S5).R.1
  go_wp2_with fail
  obtain ⟨p0, p1, p2⟩ := ((unhideI S5).R.three (.int .u64 V) (.int .i64 b) (.bool s)).at3
  exact bodyPost_ret (v := .tuple #[.agg #[.int .u64 V, .int .i64 b, .bool s], .int .i64 er]) (by simp [results, Tryz.results28, go_sem, p0, p1, p2]) rfl ⟨rfl, below_3 (unhideI S5).d (by omega) _ _ _⟩
end Go.Proofs.YtaidefdbjcgcbaaGreat
