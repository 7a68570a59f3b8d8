/-
  RtM7, RtM8, RtM4, RtM9, RtMA, RtMB.
-/
import Derived.Test.YtlkoidkdeopgjaaGreatDoorma
set_option maxHeartbeats 4000000
set_option maxRecDepth 100000
namespace Go.Proofs.YtlkoidkdeopgjaaGreatDoor
open Go.RowKit
set_option linter.unusedSimpArgs false
set_option linter.unusedVariables false
theorem divmod {a b q r : Int} (e : a = r + b * q) (h0 : 0 ≤ r) (h1 : r < b) : a / b = q ∧ a % b = r := by
 constructor
 · rw [e, Int.add_mul_ediv_left _ _ (by omega), Int.ediv_eq_zero_of_lt h0 h1]; omega
 · rw [e, Int.add_mul_emod_self_left, Int.emod_eq_of_lt h0 h1]
def divP (W A0 D : Int) (j : Nat) (H C A : Int) : Prop := C = D ∧ H = A0 * 2 ^ j / W % D ∧ A = A0 * 2 ^ j % W + A0 * 2 ^ j / W / D
theorem divP_step {W A0 D H C A H1 A1 c1 c2 P E : Int} {j : Nat} (hP : P = 2 ^ j) (hE : W = 2 * P * E) (hP0 : 0 < P) (hE0 : 0 < E) (hA0 : 0 ≤ A0 ∧ A0 < W) (hD : 0 < D) (h : divP W A0 D j H C A) (b1 : c1 = 0 ∨ c1 = 1) (b2 : c2 = 0 ∨ c2 = 1) (e1 : A1 + c1 * W = 2 * A) (e2 : H1 + c2 * W = 2 * H + c1) (hA1 : 0 ≤ A1 ∧ A1 < W) (hH1 : 0 ≤ H1 ∧ H1 < W) :
    divP W A0 D (j + 1) (if H1 < C then H1 else H1 - C) C (if H1 < C then A1 else A1 + 1) := by
  obtain ⟨rfl, h2, h3⟩ := h
  have hW : 0 < W := by omega
  rw [← hP] at h2 h3
  have hj : A0 * 2 ^ (j + 1) = A0 * P * 2 := by rw [Int.pow_succ, ← hP]; grind
  have x1 := Int.emod_def (A0 * P) W
  have x2 := Int.emod_nonneg (A0 * P) (show W ≠ 0 by omega)
  have x3 := Int.emod_lt_of_pos (A0 * P) hW
  have y1 := Int.emod_def (A0 * P / W) C
  have y2 := Int.emod_nonneg (A0 * P / W) (show C ≠ 0 by omega)
  have y3 := Int.emod_lt_of_pos (A0 * P / W) hD
  have t0 : 0 ≤ A0 * P / W := Int.ediv_nonneg (Int.mul_nonneg hA0.1 (by omega)) (by omega)
  have t1 : A0 * P / W < P := by
    refine Int.ediv_lt_of_lt_mul hW ?_
    rw [Int.mul_comm P W]
    exact Int.mul_lt_mul_of_pos_right hA0.2 hP0
  have q0 : 0 ≤ A0 * P / W / C := Int.ediv_nonneg t0 (by omega)
  have q1 : A0 * P / W / C ≤ A0 * P / W := Int.ediv_le_self _ t0
  unfold divP
  rw [hj]
  generalize hT : A0 * P / W = T at *
  generalize hL : A0 * P % W = L at *
  generalize hQ : T / C = Q at *
  generalize hR : T % C = R at *
  clear hT hL hQ hR hj
  -- L is a multiple of P
  obtain ⟨l, hl⟩ : ∃ l, l = A0 - 2 * T * E := ⟨_, rfl⟩
  have hLl : L = P * l := by rw [x1, hE, hl]; grind
  have l0 : 0 ≤ l := by
    by_cases hneg : l < 0
    · exfalso
      have : P * l < 0 := Int.mul_neg_of_pos_of_neg hP0 hneg
      omega
    · omega
  have l1 : l < 2 * E := by
    have h5 : P * l < P * (2 * E) := by rw [← hLl]; have : P * (2 * E) = W := by rw [hE]; grind
                                        omega
    exact Int.lt_of_mul_lt_mul_left h5 (by omega)
  have hc1 : (c1 = 0 ∧ l < E) ∨ (c1 = 1 ∧ E ≤ l) := by
    rcases b1 with e | e
    · left
      refine ⟨e, ?_⟩
      subst e
      by_cases hle : E ≤ l
      · exfalso
        have : P * E ≤ P * l := Int.mul_le_mul_of_nonneg_left hle (by omega)
        have hW2 : W = 2 * (P * E) := by rw [hE]; grind
        omega
      · omega
    · right
      refine ⟨e, ?_⟩
      subst e
      by_cases hle : l < E
      · exfalso
        have h6 : P * (l + 1) ≤ P * E := Int.mul_le_mul_of_nonneg_left (by omega) (by omega)
        have h7 : P * (l + 1) = P * l + P := by grind
        have hW2 : W = 2 * (P * E) := by rw [hE]; grind
        omega
      · omega
  have z2 : c2 = 0 := by
    rcases b2 with e | e
    · exact e
    · exfalso
      subst e
      have h8 : 2 * P ≤ W := by
        have : 2 * P * 1 ≤ 2 * P * E := Int.mul_le_mul_of_nonneg_left (by omega) (by omega)
        omega
      have : R ≤ T := by
        have : 0 ≤ C * Q := Int.mul_nonneg (by omega) q0
        omega
      rcases b1 with e | e <;> omega
  subst z2
  have eH : H1 = 2 * R + c1 := by omega
  have eA : A1 = 2 * (P * (l - c1 * E)) + 2 * Q := by
    have hW2 : W = 2 * (P * E) := by rw [hE]; grind
    have : A1 = 2 * (P * l) + 2 * Q - c1 * (2 * (P * E)) := by rw [hW2] at e1; omega
    rw [this]; grind
  -- the new quotient and rest by W
  have d1 : A0 * P * 2 = 2 * (P * (l - c1 * E)) + W * (2 * T + c1) := by
    have : A0 * P = L + W * T := by omega
    rw [this, hLl, hE]; grind
  have lp0 : 0 ≤ l - c1 * E ∧ l - c1 * E < E := by
    rcases hc1 with ⟨e, _⟩ | ⟨e, _⟩ <;> (subst e; omega)
  have m0 : 0 ≤ 2 * (P * (l - c1 * E)) := by
    have := Int.mul_nonneg (show 0 ≤ P by omega) lp0.1; omega
  have m1 : 2 * (P * (l - c1 * E)) < W := by
    have h9 := Int.mul_lt_mul_of_pos_left lp0.2 hP0
    have hW2 : W = 2 * (P * E) := by rw [hE]; grind
    omega
  obtain ⟨g1, g2⟩ := divmod d1 m0 m1
  rw [g1, g2]
  generalize 2 * (P * (l - c1 * E)) = Z at *
  have eT : 2 * T + c1 = H1 + C * (2 * Q) := by
    have : T = R + C * Q := by omega
    rw [this, eH]; grind
  by_cases hlt : H1 < C
  · rw [if_pos hlt, if_pos hlt]
    obtain ⟨k1, k2⟩ := divmod eT hH1.1 hlt
    exact ⟨rfl, k2.symm, by rw [k1]; exact eA⟩
  · rw [if_neg hlt, if_neg hlt]
    have eT2 : 2 * T + c1 = (H1 - C) + C * (2 * Q + 1) := by rw [eT]; grind
    obtain ⟨k1, k2⟩ := divmod eT2 (by omega) (by omega)
    exact ⟨rfl, k2.symm, by rw [k1]; omega⟩
theorem divP_zero {W A0 D : Int} (hA0 : 0 ≤ A0 ∧ A0 < W) : divP W A0 D 0 0 D A0 := by
 unfold divP
 rw [Int.pow_zero, Int.mul_one, Int.ediv_eq_zero_of_lt hA0.1 hA0.2, Int.emod_eq_of_lt hA0.1 hA0.2]
 simp
theorem divP_end {W A0 D H C A : Int} {n : Nat} (hW : W = 65536 ^ n) (h : divP W A0 D (16 * n) H C A) : H = A0 % D ∧ A = A0 / D := by
 obtain ⟨-, h2, h3⟩ := h
 have hp := pw_pos n
 rw [two_pow16, ← hW, Int.mul_ediv_cancel _ (by omega)] at h2 h3
 refine ⟨h2, ?_⟩
 rw [h3, Int.mul_emod_left]; omega
def dv1 (n : Nat) : List Ins := (uaI 0 0 n ++ upI 15 n) ++ wiI 12 13 7 1 n
def dv2 (n : Nat) : List Ins := wiI 7 8 7 1 n ++ [⟨3, 6, 0, 0⟩, ⟨10, 6, 1, 0⟩, ⟨4, 0, 6, 0⟩]
def divB (n : Nat) (NX : Int) : List Ins := (dv1 n ++ [⟨22, 0, 0, NX⟩]) ++ dv2 n
theorem divB_ok (n : Nat) (hn : n ≤ 4) : okL (dv1 n) = true ∧ okL (dv2 n) = true ∧ (dv1 n).length ≤ 24 ∧ (dv2 n).length ≤ 11 := by
 have : ∀ n, n < 5 → okL (dv1 n) = true ∧ okL (dv2 n) = true ∧ (dv1 n).length ≤ 24 ∧ (dv2 n).length ≤ 11 := by decide
 exact this n (by omega)
theorem divB_wl (n : Nat) (x : Int) : wln (divB n x) = wln (divB n 0) := by
 unfold divB; rw [wl_app _ (dv2 n), wl_app _ (dv2 n), wl_app _ [_], wl_app _ [_], wl_one, wl_one]
theorem nu_low16 {f : Nat → Int} {n : Nat} (h1 : 1 ≤ n) (h : ∀ i, i < n → wd (f i)) : nu n f % 65536 = f 0 := by
 have := wo_nu h 0 (by omega)
 unfold wo at this
 simpa using this
theorem nu_put0 {f : Nat → Int} {x : Int} : ∀ {n : Nat}, 1 ≤ n → nu n (fun i => if i = 0 then f 0 + x else f i) = nu n f + x
 | 0, h => by omega
 | 1, _ => by simp [nu]
 | n + 2, _ => by
   show nu (n + 1) (fun i => if i = 0 then f 0 + x else f i) + (if n + 1 = 0 then f 0 + x else f (n + 1)) * 65536 ^ (n + 1) = nu (n + 1) f + f (n + 1) * 65536 ^ (n + 1) + x
   rw [nu_put0 (n := n + 1) (by omega), if_neg (by omega)]; omega
theorem even_w {n : Nat} (h : 1 ≤ n) : (65536 : Int) ^ n % 2 = 0 := by
 obtain ⟨k, rfl⟩ : ∃ k, n = k + 1 := ⟨n - 1, by omega⟩
 rw [Int.pow_succ]; omega
theorem div_body {Pr : List Ins} {n S p c : Nat} {M : Nat → Int} {B NX : Int} (hl : wln Pr ≤ 65535) (hn1 : 1 ≤ n) (hn : n ≤ 4) (hS : S + 1 + n ≤ 65536) (hpn : p + n ≤ 65536) (hap : p + n ≤ S ∨ S + 1 + n ≤ p) (hC : Lie Pr B (divB n NX)) (hNX : NX = B + wln (divB n NX)) {s : Rv} {H C A : Int} (h : Lq n S p M c H C A s) :
   ∃ s' H1 A1 c1 c2, Fro Pr s B 36 s' NX ∧ Lq n S p M c (if H1 < C then H1 else H1 - C) C (if H1 < C then A1 else A1 + 1) s' ∧ (c1 = 0 ∨ c1 = 1) ∧ (c2 = 0 ∨ c2 = 1) ∧ A1 + c1 * 65536 ^ n = 2 * A ∧ H1 + c2 * 65536 ^ n = 2 * H + c1 ∧ (0 ≤ A1 ∧ A1 < 65536 ^ n) ∧ (0 ≤ H1 ∧ H1 < 65536 ^ n) := by
 obtain ⟨o1, o2, l1, l2⟩ := divB_ok n hn
 have bd := hC.bd
 have g1 := fro_line hl hC.left.left o1 s
 unfold dv1 at g1
 rw [lin_append, lin_append] at g1
 obtain ⟨v1, v2, v3, v4, v5⟩ := ua_blk 0 0 p s (by omega) (by rw [h.r0]; omega) (by rw [h.r0]; omega) h.m n hpn
 rw [if_neg (by omega), h.a] at v1
 have w1 : rw8 (s.lin (uaI 0 0 n)) := fun j hj => by
   by_cases e : j = 6
   · rw [e]; exact v5 hn1
   · rw [v2 j e]; exact h.w j hj
 have oc1 : oi (s.lin (uaI 0 0 n)).c = 0 ∨ oi (s.lin (uaI 0 0 n)).c = 1 := by cases (s.lin (uaI 0 0 n)).c <;> simp [oi]
 have hH : hnd (s.lin (uaI 0 0 n)) n = H := by rw [← h.hand]; exact hnd_congr fun j j1 j2 => v2 j (by omega)
 generalize s.lin (uaI 0 0 n) = s1 at *
 obtain ⟨u1, u2, u3, u4⟩ := up_blk 15 (.inr rfl) s1 w1 n hn
 rw [if_neg (by omega), if_neg (by decide), hH] at u1
 have oc2 : oi (s1.lin (upI 15 n)).c = 0 ∨ oi (s1.lin (upI 15 n)).c = 1 := by cases (s1.lin (upI 15 n)).c <;> simp [oi]
 generalize s1.lin (upI 15 n) = s2 at *
 have k0 : s2.r 0 = (p : Int) := by rw [u2 0 (by omega), v2 0 (by omega), h.r0]
 have k1 : s2.r 1 = 1 := by rw [u2 1 (by omega), v2 1 (by omega), h.r1]
 have k7 : s2.r 7 = (S : Int) := by rw [u2 7 (by omega), v2 7 (by omega), h.r7]
 have m2 : mw s2 := fun j => by rw [u4]; exact v4 j
 have cp2 : mnu s2 (S + 1) n = C := by rw [← h.copy]; exact mnu_congr fun j j1 j2 => by rw [u4, v3 j (by omega)]
 obtain ⟨⟨X, X0, X1, x1⟩, x2, x3, x4⟩ := cmp_blk 7 1 (S + 1) s2 (.inr rfl) (by rw [k7]; omega) (by rw [k7]; omega) u3 m2 n hn (by omega)
 rw [if_neg (by omega), cp2] at x1
 generalize s2.lin (wiI 12 13 7 1 n) = s3 at *
 have bA : 0 ≤ mnu s1 p n ∧ mnu s1 p n < 65536 ^ n := nu_bd fun i hi => v4 _
 have bH : 0 ≤ hnd s2 n ∧ hnd s2 n < 65536 ^ n := nu_bd fun i hi => u3 _ (by omega)
 have bC := (h.bd hn).2.1
 have hA3 : mnu s3 p n = mnu s1 p n := mnu_congr fun j _ _ => by rw [x3, u4]
 have hH3 : hnd s3 n = hnd s2 n := hnd_congr fun j j1 j2 => x2 j (by omega)
 have m3 : mw s3 := fun j => by rw [x3]; exact m2 j
 have cp3 : mnu s3 (S + 1) n = C := by rw [← cp2]; exact mnu_congr fun j _ _ => by rw [x3]
 have q7 : s3.r 7 = (S : Int) := by rw [x2 7 (by omega), k7]
 have q0 : s3.r 0 = (p : Int) := by rw [x2 0 (by omega), k0]
 have q1 : s3.r 1 = 1 := by rw [x2 1 (by omega), k1]
 have g2 := fro_jump hl hC.left.right (by decide) (by decide) (by have := wl_pos (divB n NX); omega) (by omega) s3
 by_cases hc : s3.c = true
 · have e1 : oi s3.c = 1 := by rw [hc]; rfl
   rw [e1] at x1
   have hlt : hnd s2 n < C := by
     generalize (65536 : Int) ^ n = W at *
     omega
   have hj : s3.jps 22 = true := by show s3.c = true; exact hc
   rw [if_pos hj] at g2
   refine ⟨s3, hnd s2 n, mnu s1 p n, oi s1.c, oi s2.c, Fro.le (g1.trans g2) (by unfold dv1 at l1; omega), ?_, oc1, oc2, v1, u1, bA, bH⟩
   rw [if_pos hlt, if_pos hlt]
   refine ⟨q0, q1, q7, x4, m3, by rw [x3, u4, v3 S (by omega), h.cnt], hH3, cp3, hA3, fun j j1 j2 => ?_⟩
   rw [x3, u4, v3 j j1]; exact h.rest j j1 j2
 · have hc' : s3.c = false := by simpa using hc
   have e1 : oi s3.c = 0 := by rw [hc']; rfl
   rw [e1] at x1
   have hge : ¬ hnd s2 n < C := by
     generalize (65536 : Int) ^ n = W at *
     omega
   have hj : ¬ s3.jps 22 = true := by show ¬ s3.c = true; exact hc
   rw [if_neg hj] at g2
   have hR := hC.right
   rw [wl_app _ [_], wl_jmp (by decide) (by decide)] at hR
   have g3 := fro_line hl hR o2 s3
   unfold dv2 at g3
   rw [lin_append] at g3
   obtain ⟨y1, y2, y3, y4⟩ := sub_blk 7 1 (S + 1) s3 (.inr rfl) (by rw [q7]; omega) (by rw [q7]; omega) x4 m3 n hn (by omega)
   rw [if_neg (by omega), cp3, hH3] at y1
   have bH4 : 0 ≤ hnd (s3.lin (wiI 7 8 7 1 n)) n ∧ hnd (s3.lin (wiI 7 8 7 1 n)) n < 65536 ^ n := nu_bd fun i hi => y4 _ (by omega)
   have oc4 : oi (s3.lin (wiI 7 8 7 1 n)).c = 0 ∨ oi (s3.lin (wiI 7 8 7 1 n)).c = 1 := by cases (s3.lin (wiI 7 8 7 1 n)).c <;> simp [oi]
   generalize s3.lin (wiI 7 8 7 1 n) = s4 at *
   have hH4 : hnd s4 n = hnd s2 n - C := by
     generalize (65536 : Int) ^ n = W at *
     rcases oc4 with e | e <;> rw [e] at y1 <;> omega
   have p0 : s4.r 0 = (p : Int) := by rw [y2 0 (by omega) (by omega), q0]
   have p1 : s4.r 1 = 1 := by rw [y2 1 (by omega) (by omega), q1]
   have p7 : s4.r 7 = (S : Int) := by rw [y2 7 (by omega) (by omega), q7]
   have hm4 : s4.mem = s1.mem := by rw [y3, x3, u4]
   have hev : s1.mem p % 2 = 0 := by
     have e1 := nu_low16 (f := fun i => s1.mem (p + i)) hn1 fun i hi => v4 _
     have e2 : mnu s1 p n % 65536 = s1.mem p := e1
     have e3 := even_w hn1
     have : mnu s1 p n % 2 = 0 := by
       generalize (65536 : Int) ^ n = W at *
       rcases oc1 with e | e <;> rw [e] at v1 <;> omega
     omega
   have wp := v4 p
   rw [lin_cons, lin_cons, lin_one, show (⟨3, 6, 0, 0⟩ : Ins) = ⟨3, ((6 : Nat) : Int), ((0 : Nat) : Int), 0⟩ from rfl, dd_ld] at g3
   have ea : (lw (s4.r 0 + 0)).toNat = p := by rw [p0]; unfold lw; omega
   rw [ea, hm4] at g3
   generalize hs5 : ({ r := upd s4.r (6 : Nat) (s1.mem p), mem := s1.mem, c := s4.c, z := s4.z, n := s4.n, v := s4.v } : Rv) = s5 at g3
   have f1 : s5.r = upd s4.r 6 (s1.mem p) := by rw [← hs5]
   have f2 : s5.mem = s1.mem := by rw [← hs5]
   have t6 : s5.r 6 = s1.mem p := by rw [f1, upd_same]
   have t1 : s5.r 1 = 1 := by rw [f1, upd_other _ _ _ _ (by omega), p1]
   obtain ⟨d1, d2, -⟩ := dd_or s5 6 1
   rw [t6, t1, orR_one wp hev] at d1
   rw [show (⟨10, 6, 1, 0⟩ : Ins) = ⟨10, ((6 : Nat) : Int), ((1 : Nat) : Int), 0⟩ from rfl] at g3
   generalize s5.dd ⟨10, ((6 : Nat) : Int), ((1 : Nat) : Int), 0⟩ = s6 at *
   have u6 : s6.r 6 = s1.mem p + 1 := by rw [d1, upd_same]
   have ko : ∀ j, j ≠ 6 → s6.r j = s4.r j := fun j hj => by rw [d1, upd_other _ _ _ _ hj, f1, upd_other _ _ _ _ hj]
   have eb : (lw (s6.r 0 + 0)).toNat = p := by rw [ko 0 (by omega), p0]; unfold lw; omega
   rw [show (⟨4, 0, 6, 0⟩ : Ins) = ⟨4, ((0 : Nat) : Int), ((6 : Nat) : Int), 0⟩ from rfl, dd_st, eb, u6, d2, f2] at g3
   generalize hs7 : ({ r := s6.r, mem := upd s1.mem p (s1.mem p + 1), c := s6.c, z := s6.z, n := s6.n, v := s6.v } : Rv) = s7 at g3
   have z1 : s7.r = s6.r := by rw [← hs7]
   have z2 : s7.mem = upd s1.mem p (s1.mem p + 1) := by rw [← hs7]
   have wp1 : wd (s1.mem p + 1) := by unfold wd at *; omega
   have e2 : B + (wln (dv1 n) + 2) + wln (wiI 7 8 7 1 n ++ [⟨3, ((6 : Nat) : Int), ((0 : Nat) : Int), 0⟩, ⟨10, ((6 : Nat) : Int), ((1 : Nat) : Int), 0⟩, ⟨4, ((0 : Nat) : Int), ((6 : Nat) : Int), 0⟩]) = NX := by
     have e := hNX
     unfold divB at e
     rw [wl_app _ (dv2 n), wl_app _ [_], wl_jmp (by decide) (by decide)] at e
     have e9 : wln (dv2 n) = wln (wiI 7 8 7 1 n ++ [⟨3, ((6 : Nat) : Int), ((0 : Nat) : Int), 0⟩, ⟨10, ((6 : Nat) : Int), ((1 : Nat) : Int), 0⟩, ⟨4, ((0 : Nat) : Int), ((6 : Nat) : Int), 0⟩]) := rfl
     omega
   rw [e2] at g3
   have g3' : Fro Pr s3 (B + wln (dv1 n) + 2) (dv2 n).length s7 NX := by rw [Int.add_assoc]; exact g3
   refine ⟨s7, hnd s2 n, mnu s1 p n, oi s1.c, oi s2.c, Fro.le ((g1.trans g2).trans g3') (by unfold dv1 at l1; omega), ?_, oc1, oc2, v1, u1, bA, bH⟩
   rw [if_neg hge, if_neg hge]
   refine ⟨by rw [z1, ko 0 (by omega), p0], by rw [z1, ko 1 (by omega), p1], by rw [z1, ko 7 (by omega), p7], fun j hj => ?_, fun j => ?_, ?_, ?_, ?_, ?_, fun j j1 j2 => ?_⟩
   · rw [z1]
     by_cases e : j = 6
     · rw [e, u6]; exact wp1
     · rw [ko j e]; exact y4 j hj
   · rw [z2]; exact upd_wda v4 wp1 j
   · rw [z2, upd_other _ _ _ _ (by omega), v3 S (by omega), h.cnt]
   · rw [← hH4]; exact hnd_congr fun j j1 j2 => by rw [z1, ko j (by omega)]
   · rw [← cp3]; exact mnu_congr fun j j1 j2 => by rw [z2, upd_other _ _ _ _ (by omega), x3, u4]
   · have e5 := nu_put0 (f := fun i => s1.mem (p + i)) (x := 1) hn1
     have e6 : mnu s7 p n = nu n (fun i => if i = 0 then s1.mem (p + 0) + 1 else s1.mem (p + i)) := by
       refine nu_congr fun i hi => ?_
       rw [z2]
       by_cases e : i = 0
       · rw [if_pos e, e, Nat.add_zero, upd_same]
       · rw [if_neg e, upd_other _ _ _ _ (by omega)]
     rw [e6]; exact e5
   · rw [z2, upd_other _ _ _ _ (by omega), v3 j j1]; exact h.rest j j1 j2
def Trp (Pr : List Ins) (s : Rv) (pc : Int) (K : Nat) : Prop := ∃ k, k ≤ K ∧ ∀ (t : Int) (j : Nat), (Ma.run (Pr.flatMap ws) [] (k + (j + 1)) (s.ma pc t)).how = 2 ∧ (Ma.run (Pr.flatMap ws) [] (k + (j + 1)) (s.ma pc t)).trap = 1
theorem Fro.trp {Pr : List Ins} {s s1 : Rv} {pc p1 : Int} {K L : Nat} (h : Fro Pr s pc K s1 p1) (g : Trp Pr s1 p1 L) : Trp Pr s pc (K + L) := by
 obtain ⟨k, hk, h⟩ := h
 obtain ⟨l, hl, g⟩ := g
 refine ⟨k + l, by omega, fun t j => ?_⟩
 rw [Nat.add_assoc, h t]
 exact g _ j
theorem trp_at {Pr : List Ins} {pc : Int} (hl : wln Pr ≤ 65535) (h : Lie Pr pc [⟨32, 0, 0, 1⟩]) (s : Rv) : Trp Pr s pc 0 := by
 obtain ⟨a, b, e, f⟩ := h
 refine ⟨0, Nat.le_refl _, fun t j => ?_⟩
 have g := run_trap a b 1 (by decide) (by rw [show a ++ (⟨32, 0, 0, 1⟩ : Ins) :: b = Pr by rw [e]; rfl]; exact hl) s t j
 rw [show a ++ (⟨32, 0, 0, 1⟩ : Ins) :: b = Pr by rw [e]; rfl, f] at g
 rw [Nat.zero_add, g]
 exact ⟨rfl, rfl⟩
def trpI (n : Nat) (F : Int) : List Ins := (([⟨2, 6, 0, 0⟩] ++ orB n) ++ [⟨21, 0, 0, F⟩]) ++ [⟨32, 0, 0, 1⟩]
theorem trpI_wl (n : Nat) (x : Int) : wln (trpI n x) = wln (trpI n 0) := by
 unfold trpI; rw [wl_app _ [⟨32, 0, 0, 1⟩], wl_app _ [⟨32, 0, 0, 1⟩], wl_app _ [_], wl_app _ [_], wl_jmp (o := 21) (m := x) (by decide) (by decide), wl_jmp (o := 21) (m := 0) (by decide) (by decide)]
theorem trpI_ok (n : Nat) (hn : n ≤ 4) : okL ([⟨2, 6, 0, 0⟩] ++ orB n) = true ∧ ([(⟨2, 6, 0, 0⟩ : Ins)] ++ orB n).length ≤ 9 := by
 have : ∀ n, n < 5 → okL ([⟨2, 6, 0, 0⟩] ++ orB n) = true ∧ ([(⟨2, 6, 0, 0⟩ : Ins)] ++ orB n).length ≤ 9 := by decide
 exact this n (by omega)
theorem trp_blk {Pr : List Ins} {b F : Int} {n q : Nat} {s : Rv} (hl : wln Pr ≤ 65535) (hn1 : 1 ≤ n) (hn : n ≤ 4) (hL : Lie Pr b (trpI n F)) (hF : F = b + wln (trpI n F)) (h1 : s.r 1 = (q : Int)) (hw : rw8 s) (hm : mw s) (hq : q + n ≤ 65536) :
   (mnu s q n = 0 → Trp Pr s b 10) ∧ (mnu s q n ≠ 0 → ∃ s', Fro Pr s b 10 s' F ∧ (∀ j, j ≠ 2 → j ≠ 6 → s'.r j = s.r j) ∧ s'.mem = s.mem ∧ rw8 s') := by
 obtain ⟨o1, l1⟩ := trpI_ok n hn
 have bd := hL.bd
 have g1 := fro_line hl hL.left.left o1 s
 rw [lin_append, lin_one, show (⟨2, 6, 0, 0⟩ : Ins) = ⟨2, ((6 : Nat) : Int), 0, 0⟩ from rfl, dd_ldi] at g1
 generalize hs2 : ({ r := upd s.r (6 : Nat) 0, mem := s.mem, c := s.c, z := s.z, n := s.n, v := s.v } : Rv) = s2 at g1
 have f1 : s2.r = upd s.r 6 0 := by rw [← hs2]
 have f2 : s2.mem = s.mem := by rw [← hs2]
 have w2 : rw8 s2 := by unfold rw8; rw [f1]; exact upd_wd hw ⟨by decide, by decide⟩
 obtain ⟨⟨a1, a2⟩, a3, a4, a5, a6⟩ := or_blk s2 q (by rw [f1, upd_other _ _ _ _ (by omega), h1]) (by rw [f1, upd_same]) w2 (fun j => by rw [f2]; exact hm j) n hq
 have a7 := a6 hn1
 generalize s2.lin (orB n) = s3 at *
 have hz : s3.r 6 = 0 ↔ mnu s q n = 0 := by
   rw [a2, f2]
   exact (nu_zero (f := fun i => s.mem (q + i)) fun i hi => hm _).symm
 have g2 := fro_jump hl hL.left.right (by decide) (by decide) (by have := wl_pos (trpI n F); omega) (by omega) s3
 have ko : ∀ j, j ≠ 2 → j ≠ 6 → s3.r j = s.r j := fun j j2 j6 => by rw [a3 j j2 j6, f1, upd_other _ _ _ _ j6]
 constructor
 · intro h
   have e6 := hz.2 h
   have hj : ¬ s3.jps 21 = true := by show ¬ (!s3.z) = true; rw [a7, e6]; decide
   rw [if_neg hj] at g2
   have hR := hL.right
   rw [wl_app _ [_], wl_jmp (by decide) (by decide), ← Int.add_assoc] at hR
   have g := (g1.trans g2).trp (trp_at hl hR s3)
   obtain ⟨k, hk, g⟩ := g
   exact ⟨k, by simp only [List.length_append, List.length_cons, List.length_nil] at l1 hk; omega, g⟩
 · intro h
   have e6 : ¬ s3.r 6 = 0 := fun e => h (hz.1 e)
   have hj : s3.jps 21 = true := by show (!s3.z) = true; rw [a7, beq_eq_false_iff_ne.2 e6]; rfl
   rw [if_pos hj] at g2
   exact ⟨s3, Fro.le (g1.trans g2) (by simp only [List.length_append, List.length_cons, List.length_nil] at l1 ⊢; omega), ko, by rw [a4, f2], a5⟩
def divI (b : Int) (n : Nat) : List Ins :=
 trpI n (b + wln (trpI n 0)) ++ (perI n ++ (divB n (b + wln (trpI n 0) + wln (perI n) + wln (divB n 0)) ++ (cntI ++ [⟨21, 0, 0, b + wln (trpI n 0) + wln (perI n)⟩])))
theorem pow_part {n j : Nat} (h : j < 16 * n) : ∃ E : Int, (65536 : Int) ^ n = 2 * 2 ^ j * E ∧ 0 < E := by
 refine ⟨2 ^ (16 * n - j - 1), ?_, Int.pow_pos (by decide)⟩
 rw [← two_pow16, show (16 * n) = j + 1 + (16 * n - j - 1) by omega, Int.pow_add, Int.pow_succ, show j + 1 + (16 * n - j - 1) - j - 1 = 16 * n - j - 1 by omega, Int.mul_comm (2 ^ j) 2]
theorem divI_runs {Pr : List Ins} {b : Int} {n S p q : Nat} {s : Rv} (hl : wln Pr ≤ 65535) (hn1 : 1 ≤ n) (hn : n ≤ 4) (hL : Lie Pr b (divI b n)) (hS : S + 1 + n ≤ 65534) (h0 : s.r 0 = (p : Int)) (h1 : s.r 1 = (q : Int)) (h7 : s.r 7 = ((S + 1 + n : Nat) : Int)) (hw : rw8 s) (hm : mw s) (hq : q + n ≤ 65536) (hp : p + n ≤ 65536) (hqS : q + n ≤ S + 1 ∨ S + 1 + n ≤ q) (hap : p + n ≤ S ∨ S + 1 + n < p) :
   (mnu s q n = 0 → Trp Pr s b 10) ∧ (mnu s q n ≠ 0 → ∃ s' C, Fro Pr s b 3000 s' (b + wln (divI b n)) ∧ Lq n S p s.mem 0 (mnu s p n % mnu s q n) C (mnu s p n / mnu s q n) s') := by
 obtain ⟨o1, o2, l1, l2, -⟩ := fin_ok n hn
 have bd := hL.bd
 have hT := hL.left
 have hR := hL.right
 rw [trpI_wl] at hR
 have bT := trp_blk hl hn1 hn hT (by rw [trpI_wl n (b + wln (trpI n 0))]) h1 hw hm hq
 refine ⟨bT.1, fun hz => ?_⟩
 obtain ⟨s0, g0, k0, km, kw⟩ := bT.2 hz
 have hwe : wln (divI b n) = wln (trpI n 0) + (wln (perI n) + (wln (divB n 0) + 7)) := by
   unfold divI
   rw [wl_app, wl_app, wl_app, wl_app, trpI_wl, divB_wl, cnt_wl, wl_jmp (by decide) (by decide)]; rfl
 have ea : mnu s0 p n = mnu s p n := mnu_congr fun j _ _ => by rw [km]
 have eb : mnu s0 q n = mnu s q n := mnu_congr fun j _ _ => by rw [km]
 have lq := per_blk hn (by omega) (by rw [k0 0 (by omega) (by omega), h0]) (by rw [k0 1 (by omega) (by omega), h1]) (by rw [k0 7 (by omega) (by omega), h7]) kw (fun j => by rw [km]; exact hm j) hq hqS (by omega)
 rw [ea, eb, km] at lq
 generalize hb1 : b + wln (trpI n 0) = b1 at *
 have g1 := fro_line hl hR.left o1 s0
 generalize s0.lin (perI n) = s1 at *
 have hD := hR.right
 have bB := hD.bd
 have hW := pw_pos n
 have bq : 0 ≤ mnu s q n ∧ mnu s q n < 65536 ^ n := nu_bd fun i hi => hm _
 have bp : 0 ≤ mnu s p n ∧ mnu s p n < 65536 ^ n := nu_bd fun i hi => hm _
 generalize hBB : b1 + wln (perI n) = BB at *
 have hC := hD.right
 rw [divB_wl] at hC
 generalize hNX : BB + wln (divB n 0) = NX at *
 have hB0 : 0 ≤ BB := bB.1
 have hB1 : BB ≤ 65535 := by have := wl_pos (divB n NX ++ (cntI ++ [⟨21, 0, 0, BB⟩])); omega
 have lp := bit_loop (M := s.mem) (K := 36) (N := 16 * n) hl hn (by omega) (by omega) (by omega) (by omega) hC hB0 hB1 (divP (65536 ^ n) (mnu s p n) (mnu s q n)) (by
   intro j s2 H C A hj hP h
   obtain ⟨s', H1, A1, c1, c2, f1, f2, f3, f4, f5, f6, f7, f8⟩ := div_body hl hn1 hn (by omega) hp (by omega) hD.left (by rw [divB_wl]; exact hNX.symm) h
   obtain ⟨E, e1, e2⟩ := pow_part hj
   have hPC : C = mnu s q n := hP.1
   refine ⟨s', _, C, _, f1, f2, divP_step rfl e1 (Int.pow_pos (by decide)) e2 bp (by omega) hP f3 f4 f5 f6 f7 f8⟩) 0 s1 0 (mnu s q n) (mnu s p n) (by omega) (divP_zero bp) lq
 obtain ⟨s2, H, C, A, g2, lq2, P2⟩ := lp
 obtain ⟨eH, eA⟩ := divP_end rfl P2
 subst eH eA
 refine ⟨s2, C, Fro.at (Fro.le ((g0.trans g1).trans g2) ?_) (by rw [hwe]; omega), lq2⟩
 have : (16 * n - 0) * (36 + 4) ≤ 64 * 40 := Nat.mul_le_mul (by omega) (by omega)
 omega
def uremC (b : Int) (n : Nat) : List Ins := divI b n ++ ((drpI (1 + n) ++ stH n) ++ [⟨27, 0, 0, 0⟩])
theorem urem_runs {Pr : List Ins} {b : Int} {n S p q : Nat} {s : Rv} (hl : wln Pr ≤ 65535) (hn1 : 1 ≤ n) (hn : n ≤ 4) (hL : Lie Pr b (uremC b n)) (hS : S + 1 + n ≤ 65534) (h0 : s.r 0 = (p : Int)) (h1 : s.r 1 = (q : Int)) (h7 : s.r 7 = ((S + 1 + n : Nat) : Int)) (hw : rw8 s) (hm : mw s) (hq : q + n ≤ 65536) (hp : p + n ≤ 65536) (hqS : q + n ≤ S + 1 ∨ S + 1 + n ≤ q) (hap : p + n ≤ S ∨ S + 1 + n < p) :
   (mnu s q n = 0 → Trp Pr s b 10) ∧ (mnu s q n ≠ 0 → ∃ s', Fro Pr s b 3010 s' (s.mem (S + 1 + n)) ∧ Did n p (S + 1 + n) (1 + n) (mnu s p n % mnu s q n) s s') := by
 obtain ⟨-, o2, -, l2, -⟩ := fin_ok n hn
 have R := divI_runs hl hn1 hn hL.left hS h0 h1 h7 hw hm hq hp hqS hap
 refine ⟨R.1, fun hz => ?_⟩
 obtain ⟨s2, C, g1, lq⟩ := R.2 hz
 have hF := hL.right
 have g2 := fro_line hl hF.left o2 s2
 obtain ⟨e1, e2, e3, e4, e5⟩ := fin_blk hn (by omega) hp (by omega) lq
 have g3 := fro_ret hl hF.right (s2.lin (drpI (1 + n) ++ stH n))
 generalize s2.lin (drpI (1 + n) ++ stH n) = s3 at *
 rw [e1, Int.toNat_natCast, e5 (S + 1 + n) (by omega) (by omega)] at g3
 exact ⟨s3.pop, Fro.le ((g1.trans g2).trans g3) (by omega), pop_did hn hS e1 e2 e3 e4 e5⟩
end Go.Proofs.YtlkoidkdeopgjaaGreatDoor
namespace Go.Proofs.YtlkoidkdeopgjaaGreatDoor
open Go.RowKit
set_option linter.unusedSimpArgs false
set_option linter.unusedVariables false
def sgv (W X : Int) : Int := if 2 * X < W then X else X - W
def ab (W X : Int) : Int := if 2 * X < W then X else W - X
theorem nu_top {f : Nat → Int} {n : Nat} (h1 : 1 ≤ n) (h : ∀ i, i < n → wd (f i)) : (f (n - 1) / 32768 == 1) = decide (¬ 2 * nu n f < 65536 ^ n) := by
 obtain ⟨k, rfl⟩ : ∃ k, n = k + 1 := ⟨n - 1, by omega⟩
 rw [show k + 1 - 1 = k by omega, nu, Int.pow_succ]
 obtain ⟨b1, b2⟩ := nu_bd (n := k) fun i hi => h i (by omega)
 have h3 := h k (by omega)
 have hp := pw_pos k
 unfold wd at h3
 generalize nu k f = y at *
 generalize (65536 : Int) ^ k = P at *
 generalize f k = x at *
 by_cases hx : x ≤ 32767
 · have e : x / 32768 = 0 := by omega
   have m := Int.mul_le_mul_of_nonneg_right hx (Int.le_of_lt hp)
   rw [e, decide_eq_false (by omega)]; rfl
 · have e : x / 32768 = 1 := by omega
   have m := Int.mul_le_mul_of_nonneg_right (show (32768 : Int) ≤ x by omega) (Int.le_of_lt hp)
   rw [e, decide_eq_true (by omega)]; rfl
def unsB (pl n : Nat) (X : Int) : List Ins := ([⟨3, 6, (pl : Int), ((n - 1 : Nat) : Int)⟩, ⟨10, 6, 6, 0⟩] ++ [⟨25, 0, 0, X⟩]) ++ neI pl n
theorem unsB_wl (pl n : Nat) (x : Int) : wln (unsB pl n x) = wln (unsB pl n 0) := by
 unfold unsB; rw [wl_app _ (neI pl n), wl_app _ (neI pl n), wl_app _ [_], wl_app _ [_], wl_one, wl_one]
theorem unsB_ok (pl n : Nat) (hpl : pl = 0 ∨ pl = 7) (hn : n ≤ 4) : okL [⟨3, 6, (pl : Int), ((n - 1 : Nat) : Int)⟩, ⟨10, 6, 6, 0⟩] = true ∧ okL (neI pl n) = true ∧ (neI pl n).length ≤ 16 := by
 have h0 : ∀ n, n < 5 → okL [⟨3, 6, ((0 : Nat) : Int), ((n - 1 : Nat) : Int)⟩, ⟨10, 6, 6, 0⟩] = true ∧ okL (neI 0 n) = true ∧ (neI 0 n).length ≤ 16 := by decide
 have h7 : ∀ n, n < 5 → okL [⟨3, 6, ((7 : Nat) : Int), ((n - 1 : Nat) : Int)⟩, ⟨10, 6, 6, 0⟩] = true ∧ okL (neI 7 n) = true ∧ (neI 7 n).length ≤ 16 := by decide
 rcases hpl with rfl | rfl
 · exact h0 n (by omega)
 · exact h7 n (by omega)
theorem ne_is {n : Nat} {X Y c : Int} (hX : 0 ≤ X ∧ X < 65536 ^ n) (hY : 0 ≤ Y ∧ Y < 65536 ^ n) (hc : c = 0 ∨ c = 1) (e : Y = -X + c * 65536 ^ n) : Y = (-X) % 65536 ^ n := by
 have : -X = Y + 65536 ^ n * (-c) := by rw [e]; grind
 rw [this, Int.add_mul_emod_self_left, Int.emod_eq_of_lt hY.1 hY.2]
theorem oi_01 (c : Bool) : oi c = 0 ∨ oi c = 1 := by cases c <;> simp [oi]
theorem uns_blk {Pr : List Ins} {b X : Int} {n pl a : Nat} {s : Rv} (hl : wln Pr ≤ 65535) (hn1 : 1 ≤ n) (hn : n ≤ 4) (hpl : pl = 0 ∨ pl = 7) (hL : Lie Pr b (unsB pl n X)) (hX : X = b + wln (unsB pl n X)) (ha : s.r pl = (a : Int)) (hw : rw8 s) (hm : mw s) (han : a + n ≤ 65536) :
   ∃ s', Fro Pr s b 19 s' X ∧ mnu s' a n = ab (65536 ^ n) (mnu s a n) ∧ (∀ j, j ≠ 6 → j ≠ 2 → s'.r j = s.r j) ∧ (∀ j, ¬ (a ≤ j ∧ j < a + n) → s'.mem j = s.mem j) ∧ rw8 s' ∧ mw s' := by
 obtain ⟨o1, o2, l2⟩ := unsB_ok pl n hpl hn
 have bd := hL.bd
 have g1 := fro_line hl hL.left.left o1 s
 rw [lin_cons, lin_one, show (⟨3, 6, (pl : Int), ((n - 1 : Nat) : Int)⟩ : Ins) = ⟨3, ((6 : Nat) : Int), (pl : Int), ((n - 1 : Nat) : Int)⟩ from rfl, dd_ld] at g1
 have ea : (lw (s.r pl + ((n - 1 : Nat) : Int))).toNat = a + (n - 1) := by rw [ha]; unfold lw; omega
 rw [ea] at g1
 generalize hs1 : ({ r := upd s.r (6 : Nat) (s.mem (a + (n - 1))), mem := s.mem, c := s.c, z := s.z, n := s.n, v := s.v } : Rv) = s1 at g1
 have f1 : s1.r = upd s.r 6 (s.mem (a + (n - 1))) := by rw [← hs1]
 have f2 : s1.mem = s.mem := by rw [← hs1]
 obtain ⟨d1, d2, -, d4, d5⟩ := dd_or s1 6 6
 have t6 : s1.r 6 = s.mem (a + (n - 1)) := by rw [f1, upd_same]
 have wt := hm (a + (n - 1))
 rw [t6, orR_self wt] at d1 d4
 rw [show (⟨10, 6, 6, 0⟩ : Ins) = ⟨10, ((6 : Nat) : Int), ((6 : Nat) : Int), 0⟩ from rfl] at g1
 generalize s1.dd ⟨10, ((6 : Nat) : Int), ((6 : Nat) : Int), 0⟩ = s2 at *
 have tp : s2.n = decide (¬ 2 * mnu s a n < 65536 ^ n) := by rw [d4]; exact nu_top (f := fun i => s.mem (a + i)) hn1 fun i hi => hm _
 have ko : ∀ j, j ≠ 6 → s2.r j = s.r j := fun j hj => by rw [d1, upd_other _ _ _ _ hj, f1, upd_other _ _ _ _ hj]
 have w2 : rw8 s2 := by unfold rw8; rw [d1, f1]; exact upd_wd (upd_wd hw wt) wt
 have m2 : s2.mem = s.mem := by rw [d2, f2]
 have e0 : mnu s2 a n = mnu s a n := mnu_congr fun j _ _ => by rw [m2]
 have g2 := fro_jump hl hL.left.right (by decide) (by decide) (by have := wl_pos (unsB pl n X); omega) (by omega) s2
 by_cases hc : 2 * mnu s a n < 65536 ^ n
 · have hj : s2.jps 25 = true := by show (s2.n == s2.v) = true; rw [tp, d5, decide_eq_false (by omega)]; rfl
   rw [if_pos hj] at g2
   exact ⟨s2, Fro.le (g1.trans g2) (by show 2 + 1 ≤ 19; omega), by rw [e0]; unfold ab; rw [if_pos hc], fun j h6 _ => ko j h6, fun j _ => by rw [m2], w2, fun j => by rw [m2]; exact hm j⟩
 · have hj : ¬ s2.jps 25 = true := by show ¬ (s2.n == s2.v) = true; rw [tp, d5, decide_eq_true hc]; decide
   rw [if_neg hj] at g2
   have hR := hL.right
   rw [wl_app _ [_], wl_jmp (by decide) (by decide), ← Int.add_assoc] at hR
   have g3 := fro_line hl hR o2 s2
   obtain ⟨x1, x2, x3, x4, x5⟩ := ne_blk pl a s2 (by omega) (by omega) (by rw [ko pl (by omega), ha]) w2 (fun j => by rw [m2]; exact hm j) n han
   rw [if_neg (by omega), e0] at x1
   have b0 : 0 ≤ mnu s a n ∧ mnu s a n < 65536 ^ n := nu_bd fun i hi => hm _
   have b3 : 0 ≤ mnu (s2.lin (neI pl n)) a n ∧ mnu (s2.lin (neI pl n)) a n < 65536 ^ n := nu_bd fun i hi => x5 _
   have oc := oi_01 (s2.lin (neI pl n)).c
   have e2 : b + wln [(⟨3, ((6 : Nat) : Int), (pl : Int), ((n - 1 : Nat) : Int)⟩ : Ins), ⟨10, ((6 : Nat) : Int), ((6 : Nat) : Int), 0⟩] + 2 + wln (neI pl n) = X := by
     have e := hX
     unfold unsB at e
     rw [wl_app _ (neI pl n), wl_app _ [_], wl_jmp (by decide) (by decide)] at e
     have e9 : wln [(⟨3, ((6 : Nat) : Int), (pl : Int), ((n - 1 : Nat) : Int)⟩ : Ins), ⟨10, ((6 : Nat) : Int), ((6 : Nat) : Int), 0⟩] = wln [(⟨3, 6, (pl : Int), ((n - 1 : Nat) : Int)⟩ : Ins), ⟨10, 6, 6, 0⟩] := rfl
     omega
   have g3' := g3.at e2
   generalize s2.lin (neI pl n) = s3 at *
   refine ⟨s3, Fro.le ((g1.trans g2).trans g3') (by show 2 + 1 + _ ≤ 19; omega), ?_, fun j h6 h2 => by rw [x2 j h6 h2, ko j h6], fun j hj => by rw [x3 j hj, m2], x4, x5⟩
   unfold ab
   rw [if_neg hc]
   have hW := pw_pos n
   generalize (65536 : Int) ^ n = W at *
   rcases oc with e | e <;> rw [e] at x1 <;> omega
structure Sg (n p Sb : Nat) (x : Int) (M : Nat → Int) (A C : Int) (s : Rv) : Prop where
 r0 : s.r 0 = (p : Int)
 r7 : s.r 7 = (Sb : Int)
 w : rw8 s
 m : mw s
 sx : s.mem (Sb + n + 1) = x
 sp : s.mem (Sb + n) = (p : Int)
 copy : mnu s Sb n = C
 a : mnu s p n = A
 rest : ∀ j, ¬ (p ≤ j ∧ j < p + n) → ¬ (Sb ≤ j ∧ j < Sb + n + 2) → s.mem j = M j
def sgP (n : Nat) : List Ins := [⟨28, 0, 2, 0⟩, ⟨28, 0, 0, 0⟩] ++ puB n n
theorem sgP_blk {n p q Sb : Nat} {s : Rv} (hn : n ≤ 4) (hS : Sb + n + 2 ≤ 65535) (h0 : s.r 0 = (p : Int)) (h1 : s.r 1 = (q : Int)) (h7 : s.r 7 = ((Sb + n + 2 : Nat) : Int)) (hw : rw8 s) (hm : mw s) (hq : q + n ≤ 65536) (hp : p + n ≤ 65536) (hqS : q + n ≤ Sb ∨ Sb + n + 2 ≤ q) (hap : p + n ≤ Sb ∨ Sb + n + 2 ≤ p) :
   Sg n p Sb (s.r 2) s.mem (mnu s p n) (mnu s q n) (s.lin (sgP n)) := by
 unfold sgP
 rw [lin_append, lin_cons, lin_one, show (⟨28, 0, 2, 0⟩ : Ins) = ⟨28, 0, ((2 : Nat) : Int), 0⟩ from rfl, dd_push, show (⟨28, 0, 0, 0⟩ : Ins) = ⟨28, 0, ((0 : Nat) : Int), 0⟩ from rfl, dd_push]
 unfold Rv.psh
 dsimp only
 have e1 : lw (s.r 7 - 1) = ((Sb + n + 1 : Nat) : Int) := by rw [h7]; unfold lw; omega
 rw [e1, upd_same, upd_other _ 7 0 _ (by omega), h0]
 have e2 : lw (((Sb + n + 1 : Nat) : Int) - 1) = ((Sb + n : Nat) : Int) := by unfold lw; omega
 rw [e2, Int.toNat_natCast, Int.toNat_natCast]
 generalize hs1 : ({ r := upd (upd s.r 7 ((Sb + n + 1 : Nat) : Int)) 7 ((Sb + n : Nat) : Int), mem := upd (upd s.mem (Sb + n + 1) (s.r 2)) (Sb + n) (p : Int), c := s.c, z := s.z, n := s.n, v := s.v } : Rv) = s1
 have f1 : s1.r = upd (upd s.r 7 ((Sb + n + 1 : Nat) : Int)) 7 ((Sb + n : Nat) : Int) := by rw [← hs1]
 have f2 : s1.mem = upd (upd s.mem (Sb + n + 1) (s.r 2)) (Sb + n) (p : Int) := by rw [← hs1]
 have w2 := hw 2 (by omega)
 have wp : wd (p : Int) := by have := hw 0 (by omega); rw [h0] at this; exact this
 have w1 : rw8 s1 := by unfold rw8; rw [f1]; exact upd_wd (upd_wd hw (by unfold wd; omega)) (by unfold wd; omega)
 have m1 : mw s1 := by unfold mw; rw [f2]; exact upd_wda (upd_wda hm w2) wp
 have mo : ∀ j, j ≠ Sb + n → j ≠ Sb + n + 1 → s1.mem j = s.mem j := fun j j1 j2 => by rw [f2, upd_other _ _ _ _ j1, upd_other _ _ _ _ j2]
 obtain ⟨a1, a2, a3, a4, a5⟩ := pu_blk s1 q (Sb + n) n (by rw [f1, upd_other _ _ _ _ (by omega), upd_other _ _ _ _ (by omega), h1]) (by rw [f1, upd_same]) (by omega) w1 m1 hq (by omega) (by omega) n (Nat.le_refl _)
 generalize s1.lin (puB n n) = s2 at *
 refine ⟨?_, by rw [a1]; congr 1; omega, a4, a5, ?_, ?_, ?_, ?_, fun j j1 j2 => ?_⟩
 · rw [a2 0 (by omega) (by omega), f1, upd_other _ _ _ _ (by omega), upd_other _ _ _ _ (by omega), h0]
 · rw [a3, if_neg (by omega), f2, upd_other _ _ _ _ (by omega), upd_same]
 · rw [a3, if_neg (by omega), f2, upd_same]
 · refine nu_congr fun i hi => ?_
   rw [a3, if_pos (by omega), mo _ (by omega) (by omega)]
   congr 1
   omega
 · refine mnu_congr fun j j1 j2 => ?_
   rw [a3, if_neg (by omega), mo _ (by omega) (by omega)]
 · rw [a3, if_neg (by omega), mo _ (by omega) (by omega)]
def sgE (n : Nat) : List Ins := drpI n ++ [⟨29, 0, 0, 0⟩, ⟨29, 2, 0, 0⟩, ⟨10, 2, 2, 0⟩]
theorem sgE_blk {n p Sb : Nat} {x : Int} {s : Rv} (hS : Sb + n + 2 ≤ 65535) (h7 : s.r 7 = (Sb : Int)) (hw : rw8 s) (hm : mw s) (hx : s.mem (Sb + n + 1) = x) (hp : s.mem (Sb + n) = (p : Int)) :
   (s.lin (sgE n)).r 0 = (p : Int) ∧ (s.lin (sgE n)).r 7 = ((Sb + n + 2 : Nat) : Int) ∧ (s.lin (sgE n)).mem = s.mem ∧ rw8 (s.lin (sgE n)) ∧ (s.lin (sgE n)).n = (x / 32768 == 1) ∧ (s.lin (sgE n)).v = false := by
 unfold sgE
 rw [lin_append]
 obtain ⟨d1, d2, d3, d4⟩ := drp_blk n s Sb h7 (by omega) hw
 generalize s.lin (drpI n) = s1 at *
 rw [lin_cons, lin_cons, lin_one, show (⟨29, 0, 0, 0⟩ : Ins) = ⟨29, ((0 : Nat) : Int), 0, 0⟩ from rfl, dd_pop, show (⟨29, 2, 0, 0⟩ : Ins) = ⟨29, ((2 : Nat) : Int), 0, 0⟩ from rfl, dd_pop]
 dsimp only
 rw [d1, Int.toNat_natCast, d3, hp, upd_other _ 0 7 _ (by omega), upd_same]
 have e1 : lw (((Sb + n : Nat) : Int) + 1) = ((Sb + n + 1 : Nat) : Int) := by unfold lw; omega
 rw [e1, Int.toNat_natCast, hx]
 have e2 : lw (((Sb + n + 1 : Nat) : Int) + 1) = ((Sb + n + 2 : Nat) : Int) := by unfold lw; omega
 rw [e2]
 generalize hs2 : ({ r := upd (upd (upd (upd s1.r 7 ((Sb + n + 1 : Nat) : Int)) (0 : Nat) (p : Int)) 7 ((Sb + n + 2 : Nat) : Int)) (2 : Nat) x, mem := s.mem, c := s1.c, z := s1.z, n := s1.n, v := s1.v } : Rv) = s2
 have f1 : s2.r = upd (upd (upd (upd s1.r 7 ((Sb + n + 1 : Nat) : Int)) 0 (p : Int)) 7 ((Sb + n + 2 : Nat) : Int)) 2 x := by rw [← hs2]
 have f2 : s2.mem = s.mem := by rw [← hs2]
 have wx : wd x := by rw [← hx]; exact hm _
 have wp : wd (p : Int) := by rw [← hp]; exact hm _
 have w2 : ∀ j, j < 8 → wd (s2.r j) := by rw [f1]; exact upd_wd (upd_wd (upd_wd (upd_wd d4 (by unfold wd; omega)) wp) (by unfold wd; omega)) wx
 obtain ⟨k1, k2, -, k4, k5⟩ := dd_or s2 2 2
 have t2 : s2.r 2 = x := by rw [f1, upd_same]
 rw [t2, orR_self wx] at k1 k4
 rw [show (⟨10, 2, 2, 0⟩ : Ins) = ⟨10, ((2 : Nat) : Int), ((2 : Nat) : Int), 0⟩ from rfl]
 generalize s2.dd ⟨10, ((2 : Nat) : Int), ((2 : Nat) : Int), 0⟩ = s3 at *
 refine ⟨?_, ?_, by rw [k2, f2], ?_, k4, k5⟩
 · rw [k1, upd_other _ _ _ _ (by omega), f1, upd_other _ _ _ _ (by omega), upd_other _ _ _ _ (by omega), upd_same]
 · rw [k1, upd_other _ _ _ _ (by omega), f1, upd_other _ _ _ _ (by omega), upd_same]
 · unfold rw8; rw [k1]; exact upd_wd w2 wx
def sgT (n : Nat) (X : Int) : List Ins := [⟨25, 0, 0, X⟩] ++ neI 0 n
theorem sgT_wl (n : Nat) (x : Int) : wln (sgT n x) = wln (sgT n 0) := by
 unfold sgT; rw [wl_app [_], wl_app [_], wl_one, wl_one]
def sgnI (b : Int) (n : Nat) (U : Int) : List Ins :=
 sgP n ++ (unsB 7 n (b + wln (sgP n) + wln (unsB 7 n 0)) ++ (unsB 0 n (b + wln (sgP n) + wln (unsB 7 n 0) + wln (unsB 0 n 0)) ++ ([⟨1, 1, 7, 0⟩] ++ ([⟨26, 0, 0, U⟩] ++ (sgE n ++ (sgT n (b + wln (sgP n) + wln (unsB 7 n 0) + wln (unsB 0 n 0) + 1 + 2 + wln (sgE n) + wln (sgT n 0)) ++ [⟨27, 0, 0, 0⟩]))))))
theorem sgn_ok (n : Nat) (hn : n ≤ 4) : okL (sgP n) = true ∧ okL (sgE n) = true ∧ (sgP n).length ≤ 10 ∧ (sgE n).length ≤ 5 := by
 have : ∀ n, n < 5 → okL (sgP n) = true ∧ okL (sgE n) = true ∧ (sgP n).length ≤ 10 ∧ (sgE n).length ≤ 5 := by decide
 exact this n (by omega)
def opp (W x Q : Int) : Int := if (x / 32768 == 1) = true then (-Q) % W else Q
theorem sgT_blk {Pr : List Ins} {b X : Int} {n p : Nat} {x : Int} {s : Rv} (hl : wln Pr ≤ 65535) (hn1 : 1 ≤ n) (hn : n ≤ 4) (hL : Lie Pr b (sgT n X)) (hX : X = b + wln (sgT n X)) (h0 : s.r 0 = (p : Int)) (hw : rw8 s) (hm : mw s) (hp : p + n ≤ 65536) (hnf : s.n = (x / 32768 == 1)) (hv : s.v = false) :
   ∃ s', Fro Pr s b 17 s' X ∧ mnu s' p n = opp (65536 ^ n) x (mnu s p n) ∧ (∀ j, j ≠ 6 → j ≠ 2 → s'.r j = s.r j) ∧ (∀ j, ¬ (p ≤ j ∧ j < p + n) → s'.mem j = s.mem j) ∧ rw8 s' ∧ mw s' := by
 obtain ⟨-, o2, l2⟩ := unsB_ok 0 n (.inl rfl) hn
 have bd := hL.bd
 have g2 := fro_jump hl hL.left (by decide) (by decide) (by have := wl_pos (sgT n X); omega) (by omega) s
 unfold opp
 by_cases hc : (x / 32768 == 1) = true
 · have hj : ¬ s.jps 25 = true := by show ¬ (s.n == s.v) = true; rw [hnf, hv, hc]; decide
   rw [if_neg hj] at g2
   have hR := hL.right
   rw [wl_jmp (by decide) (by decide)] at hR
   have g3 := fro_line hl hR o2 s
   obtain ⟨x1, x2, x3, x4, x5⟩ := ne_blk 0 p s (by omega) (by omega) h0 hw hm n hp
   rw [if_neg (by omega)] at x1
   have b0 : 0 ≤ mnu s p n ∧ mnu s p n < 65536 ^ n := nu_bd fun i hi => hm _
   have b3 : 0 ≤ mnu (s.lin (neI 0 n)) p n ∧ mnu (s.lin (neI 0 n)) p n < 65536 ^ n := nu_bd fun i hi => x5 _
   have oc := oi_01 (s.lin (neI 0 n)).c
   have e2 : b + 2 + wln (neI 0 n) = X := by
     have e := hX
     unfold sgT at e
     rw [wl_app [_], wl_jmp (by decide) (by decide)] at e
     omega
   have g3' := g3.at e2
   generalize s.lin (neI 0 n) = s3 at *
   exact ⟨s3, Fro.le (g2.trans g3') (by omega), by rw [if_pos hc]; exact ne_is b0 b3 oc x1, x2, x3, x4, x5⟩
 · have hc' : (x / 32768 == 1) = false := by simpa using hc
   have hj : s.jps 25 = true := by show (s.n == s.v) = true; rw [hnf, hv, hc']; rfl
   rw [if_pos hj] at g2
   exact ⟨s, Fro.le g2 (by omega), by rw [if_neg hc], fun _ _ _ => rfl, fun _ _ => rfl, hw, hm⟩
theorem ab_bd {n : Nat} {X : Int} (h1 : 1 ≤ n) (hX : 0 ≤ X ∧ X < 65536 ^ n) : 0 ≤ ab (65536 ^ n) X ∧ ab (65536 ^ n) X < 65536 ^ n ∧ (ab (65536 ^ n) X = 0 ↔ X = 0) := by
 have hW := pw_pos n
 unfold ab
 generalize (65536 : Int) ^ n = W at *
 split <;> omega
theorem sgn_runs {Pr : List Ins} {b U : Int} {n p q Sb : Nat} {s : Rv} {F : Int → Int → Int} (hl : wln Pr ≤ 65535) (hn1 : 1 ≤ n) (hn : n ≤ 4) (hL : Lie Pr b (sgnI b n U)) (hU0 : 0 ≤ U) (hU1 : U ≤ 65535) (hS : Sb + n + 2 ≤ 65534) (hSl : n + 2 ≤ Sb) (h0 : s.r 0 = (p : Int)) (h1 : s.r 1 = (q : Int)) (h7 : s.r 7 = ((Sb + n + 2 : Nat) : Int)) (hw : rw8 s) (hm : mw s) (hq : q + n ≤ 65536) (hp : p + n ≤ 65536) (hqS : q + n ≤ Sb ∨ Sb + n + 2 ≤ q) (hap : p + n ≤ Sb - (n + 2) ∨ Sb + n + 2 < p) (hz : mnu s q n ≠ 0)
   (hF : ∀ (s1 : Rv) (S : Nat), S + 1 + n = Sb - 1 → s1.r 0 = (p : Int) → s1.r 1 = (Sb : Int) → s1.r 7 = ((S + 1 + n : Nat) : Int) → rw8 s1 → mw s1 → mnu s1 Sb n ≠ 0 → ∃ s', Fro Pr s1 U 3010 s' (s1.mem (S + 1 + n)) ∧ Did n p (S + 1 + n) (1 + n) (F (mnu s1 p n) (mnu s1 Sb n)) s1 s') :
   ∃ s', Fro Pr s b 3100 s' (s.mem (Sb + n + 2)) ∧ Did n p (Sb + n + 2) (4 + 2 * n) (opp (65536 ^ n) (s.r 2) (F (ab (65536 ^ n) (mnu s p n)) (ab (65536 ^ n) (mnu s q n)))) s s' := by
 obtain ⟨o1, o2, l1, l2⟩ := sgn_ok n hn
 have bd := hL.bd
 have G := sgP_blk hn (by omega) h0 h1 h7 hw hm hq hp hqS (by omega)
 have g1 := fro_line hl hL.left o1 s
 generalize s.lin (sgP n) = s1 at *
 have L2 := hL.right
 have L3 := L2.right
 rw [unsB_wl] at L3
 have L4 := L3.right
 rw [unsB_wl 0 n (b + wln (sgP n) + wln (unsB 7 n 0) + wln (unsB 0 n 0))] at L4
 have L5 := L4.right
 rw [show wln [(⟨1, 1, 7, 0⟩ : Ins)] = 1 by decide] at L5
 have L6 := L5.right
 rw [wl_jmp (by decide) (by decide)] at L6
 have L7 := L6.right
 have L8 := L7.right
 rw [sgT_wl] at L8
 generalize hb1 : b + wln (sgP n) = b1 at *
 generalize hb2 : b1 + wln (unsB 7 n 0) = b2 at *
 generalize hb3 : b2 + wln (unsB 0 n 0) = b3 at *
 generalize hb7 : b3 + 1 + 2 + wln (sgE n) = b7 at *
 generalize hb8 : b7 + wln (sgT n 0) = b8 at *
 have bq : 0 ≤ mnu s q n ∧ mnu s q n < 65536 ^ n := nu_bd fun i hi => hm _
 obtain ⟨ab0, ab1, abz⟩ := ab_bd hn1 bq
 -- B's sign
 obtain ⟨s2, g2, u1, u2, u3, u4, u5⟩ := uns_blk hl hn1 hn (.inr rfl) L2.left (by rw [unsB_wl]; exact hb2.symm) G.r7 G.w G.m (by omega)
 rw [G.copy] at u1
 -- A's sign
 obtain ⟨s3, g3, v1, v2, v3, v4, v5⟩ := uns_blk hl hn1 hn (.inl rfl) L3.left (by rw [unsB_wl]; exact hb3.symm) (by rw [u2 0 (by omega) (by omega), G.r0]) u4 u5 hp
 rw [show mnu s2 p n = mnu s p n by rw [← G.a]; exact mnu_congr fun j _ _ => u3 j (by omega)] at v1
 -- mov, call
 have g4 := fro_line hl L4.left (by decide) s3
 rw [lin_one, show wln [(⟨1, 1, 7, 0⟩ : Ins)] = 1 by decide, show (⟨1, 1, 7, 0⟩ : Ins) = ⟨1, ((1 : Nat) : Int), ((7 : Nat) : Int), 0⟩ from rfl, dd_mov] at g4
 have k7 : s3.r 7 = (Sb : Int) := by rw [v2 7 (by omega) (by omega), u2 7 (by omega) (by omega), G.r7]
 have k0 : s3.r 0 = (p : Int) := by rw [v2 0 (by omega) (by omega), u2 0 (by omega) (by omega), G.r0]
 rw [k7] at g4
 generalize hs4 : ({ r := upd s3.r (1 : Nat) (Sb : Int), mem := s3.mem, c := s3.c, z := s3.z, n := s3.n, v := s3.v } : Rv) = s4 at g4
 have f1 : s4.r = upd s3.r 1 (Sb : Int) := by rw [← hs4]
 have f2 : s4.mem = s3.mem := by rw [← hs4]
 have g5 := fro_call hl L5.left hU0 hU1 s4
 have e7 : s4.r 7 = (Sb : Int) := by rw [f1, upd_other _ _ _ _ (by omega), k7]
 have el : lw (s4.r 7 - 1) = ((Sb - 1 : Nat) : Int) := by rw [e7]; unfold lw; omega
 unfold Rv.psh at g5
 rw [el, Int.toNat_natCast] at g5
 generalize hs5 : ({ r := upd s4.r 7 ((Sb - 1 : Nat) : Int), mem := upd s4.mem (Sb - 1) (b3 + 1 + 2), c := s4.c, z := s4.z, n := s4.n, v := s4.v } : Rv) = s5 at g5
 have p1 : s5.r = upd s4.r 7 ((Sb - 1 : Nat) : Int) := by rw [← hs5]
 have p2 : s5.mem = upd s4.mem (Sb - 1) (b3 + 1 + 2) := by rw [← hs5]
 have b7d := L6.bd
 have wb : wd (b3 + 1 + 2) := by unfold wd; have := wl_pos (sgE n ++ (sgT n b8 ++ [⟨27, 0, 0, 0⟩])); omega
 have w5 : rw8 s5 := by unfold rw8; rw [p1, f1]; exact upd_wd (upd_wd v4 (by unfold wd; omega)) (by unfold wd; omega)
 have m5 : mw s5 := by unfold mw; rw [p2, f2]; exact upd_wda v5 wb
 have mo : ∀ j, j ≠ Sb - 1 → s5.mem j = s3.mem j := fun j hj => by rw [p2, upd_other _ _ _ _ hj, f2]
 have a5 : mnu s5 p n = ab (65536 ^ n) (mnu s p n) := by rw [← v1]; exact mnu_congr fun j j1 j2 => mo j (by omega)
 have c5 : mnu s5 Sb n = ab (65536 ^ n) (mnu s q n) := by rw [← u1]; exact mnu_congr fun j j1 j2 => by rw [mo j (by omega), v3 j (by omega)]
 obtain ⟨S, hSS⟩ : ∃ S, S + 1 + n = Sb - 1 := ⟨Sb - 1 - n - 1, by omega⟩
 obtain ⟨s6, g6, D6⟩ := hF s5 S hSS (by rw [p1, upd_other _ _ _ _ (by omega), f1, upd_other _ _ _ _ (by omega), k0]) (by rw [p1, upd_other _ _ _ _ (by omega), f1, upd_same]) (by rw [p1, upd_same, hSS]) w5 m5 (by rw [c5]; exact fun e => hz (abz.1 e))
 rw [a5, c5] at D6
 rw [hSS, show s5.mem (Sb - 1) = b3 + 1 + 2 by rw [p2, upd_same]] at g6
 -- behind it
 have q7 : s6.r 7 = (Sb : Int) := by rw [D6.r7]; congr 1; omega
 have ms : ∀ j, ¬ (p ≤ j ∧ j < p + n) → Sb ≤ j → s6.mem j = s1.mem j ∨ j < Sb + n := fun j j1 j2 => by
   by_cases e : j < Sb + n
   · exact .inr e
   · left; rw [D6.rest j j1 (by omega), mo j (by omega), v3 j j1, u3 j (by omega)]
 have sx6 : s6.mem (Sb + n + 1) = s.r 2 := by
   rw [← G.sx]; rcases ms (Sb + n + 1) (by omega) (by omega) with e | e
   · exact e
   · omega
 have sp6 : s6.mem (Sb + n) = (p : Int) := by
   rw [← G.sp]; rcases ms (Sb + n) (by omega) (by omega) with e | e
   · exact e
   · omega
 obtain ⟨y1, y2, y3, y4, y5, y6⟩ := sgE_blk (by omega) q7 D6.w D6.m sx6 sp6
 have g7 := fro_line hl L6.left o2 s6
 generalize s6.lin (sgE n) = s7 at *
 obtain ⟨s8, g8, z1, z2, z3, z4, z5⟩ := sgT_blk (x := s.r 2) hl hn1 hn L7.left (by rw [sgT_wl]; exact hb8.symm) y1 y4 (fun j => by rw [y3]; exact D6.m j) hp y5 y6
 rw [show mnu s7 p n = mnu s6 p n from mnu_congr fun j _ _ => by rw [y3], D6.a] at z1
 have r8 : s8.r 7 = ((Sb + n + 2 : Nat) : Int) := by rw [z2 7 (by omega) (by omega), y2]
 have re : ∀ j, ¬ (p ≤ j ∧ j < p + n) → ¬ (Sb + n + 2 - (4 + 2 * n) ≤ j ∧ j < Sb + n + 2) → s8.mem j = s.mem j := fun j j1 j2 => by
   rw [z3 j j1, y3, D6.rest j j1 (by omega), mo j (by omega), v3 j j1, u3 j (by omega), G.rest j j1 (by omega)]
 have g9 := fro_ret hl L8 s8
 rw [r8, Int.toNat_natCast, re (Sb + n + 2) (by omega) (by omega)] at g9
 refine ⟨s8.pop, Fro.le ((((((((g1.trans g2).trans g3).trans g4).trans g5).trans g6).trans (g7.at hb7)).trans g8).trans g9) ?_, ⟨?_, ?_, z5, z1, re⟩⟩
 · show _ + 19 + 19 + 1 + 1 + 3010 + _ + 17 + 1 ≤ 3100
   omega
 · show upd s8.r 7 (lw (s8.r 7 + 1)) 7 = _
   rw [upd_same, r8]; unfold lw; omega
 · exact upd_wd z4 (lw_wd _)
end Go.Proofs.YtlkoidkdeopgjaaGreatDoor
namespace Go.Proofs.YtlkoidkdeopgjaaGreatDoor
open Go.RowKit
set_option linter.unusedSimpArgs false
set_option linter.unusedVariables false
def itr (f : Int → Int) : Nat → Int → Int
 | 0, x => x
 | k + 1, x => itr f k (f x)
def Moves (mvl : List Ins) (n : Nat) (f : Int → Int) : Prop := ∀ s : Rv, rw8 s → hnd (s.lin mvl) n = f (hnd s n) ∧ (∀ j, ¬ (2 ≤ j ∧ j < 2 + n) → (s.lin mvl).r j = s.r j) ∧ rw8 (s.lin mvl) ∧ (s.lin mvl).mem = s.mem
theorem sub_one {s : Rv} (h6 : s.r 6 = 1) (c : Nat) (h1 : s.r 1 = (c : Int)) (hc : c ≤ 65535) : (s.dd ⟨7, 1, 6, 0⟩).r = upd s.r 1 (if c = 0 then 65535 else ((c - 1 : Nat) : Int)) ∧ (s.dd ⟨7, 1, 6, 0⟩).mem = s.mem ∧ (s.dd ⟨7, 1, 6, 0⟩).c = decide (c = 0) := by
 obtain ⟨d1, d2, d3⟩ := dd_dif s 7 1 6 (.inl rfl)
 rw [if_pos rfl, h1, h6] at d1 d3
 have e : dift (c : Int) 1 false = (c : Int) - 1 := by unfold dift oi lw; simp; omega
 rw [e] at d1 d3
 refine ⟨?_, d2, ?_⟩
 · rw [show (⟨7, 1, 6, 0⟩ : Ins) = ⟨7, ((1 : Nat) : Int), ((6 : Nat) : Int), 0⟩ from rfl, d1]
   congr 1
   by_cases h : c = 0
   · subst h; rfl
   · rw [if_neg h]; unfold lw; omega
 · rw [show (⟨7, 1, 6, 0⟩ : Ins) = ⟨7, ((1 : Nat) : Int), ((6 : Nat) : Int), 0⟩ from rfl, d3]
   by_cases h : c = 0
   · subst h; rfl
   · have e2 : lw ((c : Int) - 1) = (c : Int) - 1 := by unfold lw; omega
     rw [e2]; simp [h]
def shB (mvl : List Ins) (PL E : Int) : List Ins := (([⟨7, 1, 6, 0⟩] ++ [⟨22, 0, 0, E⟩]) ++ mvl) ++ [⟨19, 0, 0, PL⟩]
theorem shB_wl (mvl : List Ins) (x y : Int) : wln (shB mvl x y) = 5 + wln mvl := by
 unfold shB; rw [wl_app _ [_], wl_app _ mvl, wl_app [_], wl_jmp (by decide) (by decide), wl_jmp (by decide) (by decide), show wln [(⟨7, 1, 6, 0⟩ : Ins)] = 1 by decide]; omega
theorem shift_loop {Pr mvl : List Ins} {n : Nat} {PL E : Int} {f : Int → Int} (hl : wln Pr ≤ 65535) (hn : n ≤ 4) (hL : Lie Pr PL (shB mvl PL E)) (hE : E = PL + wln (shB mvl PL E)) (hok : okL mvl = true) (hlen : mvl.length ≤ 4) (hmv : Moves mvl n f) :
   ∀ (c : Nat) (s : Rv), s.r 1 = (c : Int) → c ≤ 65535 → s.r 6 = 1 → rw8 s → ∃ s', Fro Pr s PL (c * 7 + 2) s' E ∧ hnd s' n = itr f c (hnd s n) ∧ (∀ j, j ≠ 1 → ¬ (2 ≤ j ∧ j < 2 + n) → s'.r j = s.r j) ∧ s'.mem = s.mem ∧ rw8 s' := by
 have bd := hL.bd
 have hp := wl_pos (shB mvl PL E)
 have L1 := hL.left.left.left
 have L2 := hL.left.left.right
 rw [show wln [(⟨7, 1, 6, 0⟩ : Ins)] = 1 by decide] at L2
 have L3 := hL.left.right
 rw [wl_app [_], wl_jmp (by decide) (by decide), show wln [(⟨7, 1, 6, 0⟩ : Ins)] = 1 by decide] at L3
 have L4 := hL.right
 rw [wl_app _ mvl, wl_app [_], wl_jmp (by decide) (by decide), show wln [(⟨7, 1, 6, 0⟩ : Ins)] = 1 by decide] at L4
 intro c
 induction c with
 | zero =>
   intro s h1 hc h6 hw
   obtain ⟨d1, d2, d3⟩ := sub_one h6 0 h1 (by omega)
   have g1 := fro_line hl L1 (by decide) s
   rw [lin_one, show wln [(⟨7, 1, 6, 0⟩ : Ins)] = 1 by decide] at g1
   have g2 := fro_jump hl L2 (by decide) (by decide) (by omega) (by omega) (s.dd ⟨7, 1, 6, 0⟩)
   have hj : (s.dd ⟨7, 1, 6, 0⟩).jps 22 = true := by show (s.dd ⟨7, 1, 6, 0⟩).c = true; rw [d3]; rfl
   rw [if_pos hj] at g2
   refine ⟨s.dd ⟨7, 1, 6, 0⟩, Fro.le (g1.trans g2) (by show 1 + 1 ≤ _; omega), ?_, fun j hj1 hj2 => ?_, d2, ?_⟩
   · exact hnd_congr fun j j1 j2 => by rw [d1, upd_other _ _ _ _ (by omega)]
   · rw [d1, upd_other _ _ _ _ hj1]
   · intro j hj
     rw [d1]
     exact upd_wd hw (by rw [if_pos rfl]; exact ⟨by decide, by decide⟩) j hj
 | succ c ih =>
   intro s h1 hc h6 hw
   obtain ⟨d1, d2, d3⟩ := sub_one h6 (c + 1) h1 (by omega)
   rw [if_neg (by omega), show c + 1 - 1 = c by omega] at d1
   have hw1 : rw8 (s.dd ⟨7, 1, 6, 0⟩) := by
     intro j hj
     rw [d1]
     exact upd_wd hw ⟨by omega, by omega⟩ j hj
   have g1 := fro_line hl L1 (by decide) s
   rw [lin_one, show wln [(⟨7, 1, 6, 0⟩ : Ins)] = 1 by decide] at g1
   have g2 := fro_jump hl L2 (by decide) (by decide) (by omega) (by omega) (s.dd ⟨7, 1, 6, 0⟩)
   have hj : ¬ (s.dd ⟨7, 1, 6, 0⟩).jps 22 = true := by show ¬ (s.dd ⟨7, 1, 6, 0⟩).c = true; rw [d3]; simp
   rw [if_neg hj] at g2
   generalize s.dd ⟨7, 1, 6, 0⟩ = s1 at *
   obtain ⟨m1, m2, m3, m4⟩ := hmv s1 hw1
   have g3 := fro_line hl L3 hok s1
   have g4 := fro_jump hl L4 (by decide) (by decide) (by omega) (by omega) (s1.lin mvl)
   have hj2 : (s1.lin mvl).jps 19 = true := rfl
   rw [if_pos hj2] at g4
   generalize s1.lin mvl = s2 at *
   have q1 : s2.r 1 = (c : Int) := by rw [m2 1 (by omega), d1, upd_same]
   have q6 : s2.r 6 = 1 := by rw [m2 6 (by omega), d1, upd_other _ _ _ _ (by omega), h6]
   obtain ⟨s', g5, r1, r2, r3, r4⟩ := ih s2 q1 (by omega) q6 m3
   refine ⟨s', Fro.le ((((g1.trans g2).trans (g3.at (p2 := PL + (1 + 2 + wln mvl)) (by omega) |> fun g => (show Fro Pr s1 (PL + 1 + 2) _ s2 _ from by rw [show PL + 1 + 2 = PL + (1 + 2) by omega]; exact g))).trans g4).trans g5) ?_, ?_, fun j hj1 hj2 => ?_, ?_, r4⟩
   · show 1 + 1 + mvl.length + 1 + (c * 7 + 2) ≤ _
     omega
   · rw [r1, itr, m1]
     congr 2
     exact hnd_congr fun j j1 j2 => by rw [d1, upd_other _ _ _ _ (by omega)]
   · rw [r2 j hj1 hj2, m2 j hj2, d1, upd_other _ _ _ _ hj1]
   · rw [r3, m4, d2]
def shA (n : Nat) (FW : Int) : List Ins := ([⟨3, 1, 1, 0⟩, ⟨2, 6, 0, ((16 * n : Nat) : Int)⟩, ⟨12, 1, 6, 0⟩] ++ [⟨22, 0, 0, FW⟩]) ++ [⟨1, 1, 6, 0⟩]
theorem shA_wl (n : Nat) (x : Int) : wln (shA n x) = 8 := by
 unfold shA; rw [wl_app _ [_], wl_app _ [_], wl_jmp (by decide) (by decide)]; rfl
def shftC (mvl : List Ins) (b : Int) (n : Nat) : List Ins :=
 shA n (b + 8) ++ ((ldH n ++ [⟨2, 6, 0, 1⟩]) ++ (shB mvl (b + 8 + wln (ldH n ++ [⟨2, 6, 0, 1⟩])) (b + 8 + wln (ldH n ++ [⟨2, 6, 0, 1⟩]) + (5 + wln mvl)) ++ (stH n ++ [⟨27, 0, 0, 0⟩])))
theorem sh_ok (n : Nat) (hn : n ≤ 4) : okL [⟨3, 1, 1, 0⟩, ⟨2, 6, 0, ((16 * n : Nat) : Int)⟩, ⟨12, 1, 6, 0⟩] = true ∧ okL (ldH n ++ [⟨2, 6, 0, 1⟩]) = true ∧ okL (stH n) = true ∧ (ldH n ++ [(⟨2, 6, 0, 1⟩ : Ins)]).length ≤ 5 ∧ (stH n).length ≤ 4 := by
 have : ∀ n, n < 5 → okL [⟨3, 1, 1, 0⟩, ⟨2, 6, 0, ((16 * n : Nat) : Int)⟩, ⟨12, 1, 6, 0⟩] = true ∧ okL (ldH n ++ [⟨2, 6, 0, 1⟩]) = true ∧ okL (stH n) = true ∧ (ldH n ++ [(⟨2, 6, 0, 1⟩ : Ins)]).length ≤ 5 ∧ (stH n).length ≤ 4 := by decide
 exact this n (by omega)
theorem shA_blk {Pr : List Ins} {b FW : Int} {n q c : Nat} {s : Rv} (hl : wln Pr ≤ 65535) (hn : n ≤ 4) (hL : Lie Pr b (shA n FW)) (hFW : FW = b + 8) (h1 : s.r 1 = (q : Int)) (hq : q + 1 ≤ 65536) (hw : rw8 s) (hm : mw s) (hc : s.mem q = (c : Int)) :
   ∃ s', Fro Pr s b 5 s' FW ∧ s'.r 1 = ((min c (16 * n) : Nat) : Int) ∧ (∀ j, j ≠ 1 → j ≠ 6 → s'.r j = s.r j) ∧ s'.mem = s.mem ∧ rw8 s' := by
 obtain ⟨o1, -⟩ := sh_ok n hn
 have bd := hL.bd
 rw [shA_wl] at bd
 have g1 := fro_line hl hL.left.left o1 s
 rw [lin_cons, lin_cons, lin_one, show (⟨3, 1, 1, 0⟩ : Ins) = ⟨3, ((1 : Nat) : Int), ((1 : Nat) : Int), 0⟩ from rfl, dd_ld, show (⟨2, 6, 0, ((16 * n : Nat) : Int)⟩ : Ins) = ⟨2, ((6 : Nat) : Int), 0, ((16 * n : Nat) : Int)⟩ from rfl, dd_ldi] at g1
 have ea : (lw (s.r 1 + 0)).toNat = q := by rw [h1]; unfold lw; omega
 rw [ea, hc] at g1
 dsimp only at g1
 generalize hs1 : ({ r := upd (upd s.r (1 : Nat) (c : Int)) (6 : Nat) ((16 * n : Nat) : Int), mem := s.mem, c := s.c, z := s.z, n := s.n, v := s.v } : Rv) = s1 at g1
 have f1 : s1.r = upd (upd s.r 1 (c : Int)) 6 ((16 * n : Nat) : Int) := by rw [← hs1]
 have f2 : s1.mem = s.mem := by rw [← hs1]
 have wc : wd (c : Int) := by rw [← hc]; exact hm _
 have w16 : wd ((16 * n : Nat) : Int) := by unfold wd; omega
 have w1 : rw8 s1 := by unfold rw8; rw [f1]; exact upd_wd (upd_wd hw wc) w16
 have t1 : s1.r 1 = (c : Int) := by rw [f1, upd_other _ _ _ _ (by omega), upd_same]
 have t6 : s1.r 6 = ((16 * n : Nat) : Int) := by rw [f1, upd_same]
 obtain ⟨d1, d2, d3⟩ := dd_cmp s1 12 1 6 (.inl rfl)
 rw [if_pos rfl, t1, t6] at d3
 have e := dif_is false wc w16
 rw [show oi false = 0 from rfl] at e
 have lwb := lw_wd (dift (c : Int) ((16 * n : Nat) : Int) false)
 rw [← d3] at e
 rw [show (⟨12, 1, 6, 0⟩ : Ins) = ⟨12, ((1 : Nat) : Int), ((6 : Nat) : Int), 0⟩ from rfl] at g1
 generalize lw (dift (c : Int) ((16 * n : Nat) : Int) false) = y at *
 generalize s1.dd ⟨12, ((1 : Nat) : Int), ((6 : Nat) : Int), 0⟩ = s2 at *
 have ko : ∀ j, j ≠ 1 → j ≠ 6 → s2.r j = s.r j := fun j j1 j6 => by rw [d1, f1, upd_other _ _ _ _ j6, upd_other _ _ _ _ j1]
 have w2 : rw8 s2 := by unfold rw8; rw [d1]; exact w1
 have g2 := fro_jump hl hL.left.right (by decide) (by decide) (by omega) (by omega) s2
 unfold wd at lwb wc
 by_cases hcc : s2.c = true
 · rw [hcc, show oi true = 1 from rfl] at e
   have hj : s2.jps 22 = true := hcc
   rw [if_pos hj] at g2
   refine ⟨s2, Fro.le (g1.trans g2) (by show 3 + 1 ≤ 5; omega), ?_, ko, by rw [d2, f2], w2⟩
   rw [d1, t1]; congr 1; omega
 · have hc' : s2.c = false := by simpa using hcc
   rw [hc', show oi false = 0 from rfl] at e
   have hj : ¬ s2.jps 22 = true := hcc
   rw [if_neg hj] at g2
   have hR := hL.right
   rw [wl_app _ [_], wl_jmp (by decide) (by decide), ← Int.add_assoc] at hR
   have g3 := fro_line hl hR (by decide) s2
   rw [lin_one, show (⟨1, 1, 6, 0⟩ : Ins) = ⟨1, ((1 : Nat) : Int), ((6 : Nat) : Int), 0⟩ from rfl, dd_mov] at g3
   refine ⟨_, Fro.at (Fro.le ((g1.trans g2).trans g3) (by show 3 + 1 + 1 ≤ 5; omega)) ?_, ?_, fun j j1 j6 => ?_, by show s2.mem = _; rw [d2, f2], ?_⟩
   · rw [hFW, Int.add_assoc, Int.add_assoc]; rfl
   · show upd s2.r 1 (s2.r 6) 1 = _
     rw [upd_same, d1, t6]; congr 1; omega
   · show upd s2.r 1 (s2.r 6) j = _
     rw [upd_other _ _ _ _ j1, ko j j1 j6]
   · exact upd_wd w2 (w2 6 (by omega))
theorem shft_runs {Pr mvl : List Ins} {b : Int} {n p q S c : Nat} {f : Int → Int} {s : Rv} (hl : wln Pr ≤ 65535) (hn1 : 1 ≤ n) (hn : n ≤ 4) (hL : Lie Pr b (shftC mvl b n)) (hok : okL mvl = true) (hlen : mvl.length ≤ 4) (hmv : Moves mvl n f) (hS : S ≤ 65534) (h0 : s.r 0 = (p : Int)) (h1 : s.r 1 = (q : Int)) (h7 : s.r 7 = (S : Int)) (hw : rw8 s) (hm : mw s) (hq : q + 1 ≤ 65536) (hp : p + n ≤ 65536) (hap : p + n ≤ S ∨ S < p) (hc : s.mem q = (c : Int)) :
   ∃ s', Fro Pr s b 1000 s' (s.mem S) ∧ Did n p S 0 (itr f (min c (16 * n)) (mnu s p n)) s s' := by
 obtain ⟨-, o2, o3, l2, l3⟩ := sh_ok n hn
 have bd := hL.bd
 obtain ⟨s1, g1, u1, u2, u3, u4⟩ := shA_blk hl hn hL.left rfl h1 hq hw hm hc
 have L2 := hL.right
 rw [shA_wl] at L2
 have g2 := fro_line hl L2.left o2 s1
 rw [lin_append, lin_one] at g2
 obtain ⟨a1, a2⟩ := ld_blk s1 p (by rw [u2 0 (by omega) (by omega), h0]) n hn hp
 generalize s1.lin (ldH n) = s2 at *
 rw [show (⟨2, 6, 0, 1⟩ : Ins) = ⟨2, ((6 : Nat) : Int), 0, 1⟩ from rfl, dd_ldi] at g2
 generalize hs3 : ({ r := upd s2.r (6 : Nat) 1, mem := s2.mem, c := s2.c, z := s2.z, n := s2.n, v := s2.v } : Rv) = s3 at g2
 have f1 : s3.r = upd s2.r 6 1 := by rw [← hs3]
 have f2 : s3.mem = s.mem := by rw [← hs3]; show s2.mem = _; rw [a2, u3]
 have w2 : rw8 s2 := fun j hj => by
   rw [a1]; split
   · rw [u3]; exact hm _
   · exact u4 j hj
 have w3 : rw8 s3 := by unfold rw8; rw [f1]; exact upd_wd w2 ⟨by decide, by decide⟩
 have hH : hnd s3 n = mnu s p n := nu_congr fun i hi => by
   rw [f1, upd_other _ _ _ _ (by omega), a1, if_pos (by omega), u3]; congr 1; omega
 have L3 := L2.right
 have ewl : wln (ldH n ++ [(⟨2, ((6 : Nat) : Int), 0, 1⟩ : Ins)]) = wln (ldH n ++ [⟨2, 6, 0, 1⟩]) := rfl
 rw [ewl] at g2
 generalize hPL : b + 8 + wln (ldH n ++ [⟨2, 6, 0, 1⟩]) = PL at *
 obtain ⟨s4, g3, v1, v2, v3, v4⟩ := shift_loop hl hn L3.left (by rw [shB_wl]) hok hlen hmv (min c (16 * n)) s3 (by rw [f1, upd_other _ _ _ _ (by omega), a1, if_neg (by omega), u1]) (by omega) (by rw [f1, upd_same]) w3
 rw [hH] at v1
 have L4 := L3.right
 rw [shB_wl] at L4
 have g4 := fro_line hl L4.left o3 s4
 have r0 : s4.r 0 = (p : Int) := by rw [v2 0 (by omega) (by omega), f1, upd_other _ _ _ _ (by omega), a1, if_neg (by omega), u2 0 (by omega) (by omega), h0]
 have r7 : s4.r 7 = (S : Int) := by rw [v2 7 (by omega) (by omega), f1, upd_other _ _ _ _ (by omega), a1, if_neg (by omega), u2 7 (by omega) (by omega), h7]
 obtain ⟨t1, t2⟩ := st_blk s4 p r0 n hn hp
 have g5 := fro_ret hl L4.right (s4.lin (stH n))
 generalize s4.lin (stH n) = s5 at *
 have hm4 : s4.mem = s.mem := by rw [v3, f2]
 rw [t2, r7, Int.toNat_natCast, t1, if_neg (by omega), hm4] at g5
 refine ⟨s5.pop, Fro.le ((((g1.trans g2).trans g3).trans g4).trans g5) ?_, ⟨?_, ?_, fun j => ?_, ?_, fun j j1 j2 => ?_⟩⟩
 · have : min c (16 * n) * 7 ≤ 64 * 7 := Nat.mul_le_mul (by omega) (by omega)
   simp only [List.length_append, List.length_cons, List.length_nil] at *
   omega
 · show upd s5.r 7 (lw (s5.r 7 + 1)) 7 = _
   rw [upd_same, t2, r7]; unfold lw; omega
 · show ∀ j, j < 8 → wd (upd s5.r 7 (lw (s5.r 7 + 1)) j)
   rw [t2]
   exact upd_wd v4 (lw_wd _)
 · show wd (s5.mem j)
   rw [t1]; split
   · exact v4 _ (by omega)
   · rw [hm4]; exact hm j
 · rw [← v1]
   show nu n (fun i => s5.mem (p + i)) = _
   refine nu_congr fun i hi => ?_
   rw [t1, if_pos (by omega)]; congr 1; omega
 · show s5.mem j = _
   rw [t1, if_neg j1, hm4]
theorem up_moves (n : Nat) (hn1 : 1 ≤ n) (hn : n ≤ 4) : Moves (upI 14 n) n (fun H => 2 * H % 65536 ^ n) := by
 intro s hw
 obtain ⟨u1, u2, u3, u4⟩ := up_blk 14 (.inl rfl) s hw n hn
 rw [if_neg (by omega), if_pos rfl] at u1
 refine ⟨?_, u2, u3, u4⟩
 have b : 0 ≤ hnd (s.lin (upI 14 n)) n ∧ hnd (s.lin (upI 14 n)) n < 65536 ^ n := nu_bd fun i hi => u3 _ (by omega)
 have e : 2 * hnd s n = hnd (s.lin (upI 14 n)) n + 65536 ^ n * oi (s.lin (upI 14 n)).c := by rw [Int.mul_comm (65536 ^ n)]; omega
 show _ = 2 * hnd s n % 65536 ^ n
 rw [e, Int.add_mul_emod_self_left, Int.emod_eq_of_lt b.1 b.2]
theorem tin_top {n : Nat} {s : Rv} (hn1 : 1 ≤ n) (hn : n ≤ 4) (hw : rw8 s) : tin 17 (s.r (2 + (n - 1))) = if 2 * hnd s n < 65536 ^ n then 0 else 1 := by
 have h := nu_top (f := fun i => s.r (2 + i)) hn1 fun i hi => hw _ (by omega)
 have hx := hw (2 + (n - 1)) (by omega)
 have h2 : oi (s.r (2 + (n - 1)) / 32768 == 1) = s.r (2 + (n - 1)) / 32768 := oi_hi hx
 unfold tin
 rw [if_neg (by decide), ← h2]
 have h' : (s.r (2 + (n - 1)) / 32768 == 1) = decide (¬ 2 * hnd s n < 65536 ^ n) := h
 rw [h']
 by_cases c : 2 * hnd s n < 65536 ^ n
 · rw [if_pos c, decide_eq_false (by omega)]; rfl
 · rw [if_neg c, decide_eq_true c]; rfl
theorem low2 {n : Nat} {s : Rv} (hn1 : 1 ≤ n) (hn : n ≤ 4) (hw : rw8 s) : s.r 2 % 2 = hnd s n % 2 := by
 have e : hnd s n % 65536 = s.r 2 := nu_low16 (f := fun i => s.r (2 + i)) hn1 fun i hi => hw _ (by omega)
 omega
theorem shr_moves (n : Nat) (hn1 : 1 ≤ n) (hn : n ≤ 4) : Moves (dnI 16 n n) n (fun H => H / 2) := by
 intro s hw
 obtain ⟨u1, u2, u3, u4⟩ := dn_blk 16 (.inl rfl) s hw n hn1 hn
 refine ⟨?_, u2, u3, u4⟩
 rw [low2 hn1 hn hw, show tin 16 (s.r (2 + (n - 1))) = 0 from rfl] at u1
 show _ = hnd s n / 2
 omega
theorem sar_moves (n : Nat) (hn1 : 1 ≤ n) (hn : n ≤ 4) : Moves (dnI 17 n n) n (fun H => if 2 * H < 65536 ^ n then H / 2 else (H + 65536 ^ n) / 2) := by
 intro s hw
 obtain ⟨u1, u2, u3, u4⟩ := dn_blk 17 (.inr rfl) s hw n hn1 hn
 refine ⟨?_, u2, u3, u4⟩
 rw [low2 hn1 hn hw, tin_top hn1 hn hw] at u1
 have ew := even_w hn1
 show _ = if 2 * hnd s n < 65536 ^ n then hnd s n / 2 else (hnd s n + 65536 ^ n) / 2
 generalize (65536 : Int) ^ n = W at *
 split at u1
 · rename_i h; rw [if_pos h]; omega
 · rename_i h; rw [if_neg h]; omega
theorem itr_up {W : Int} : ∀ (k : Nat) (x : Int), itr (fun H => 2 * H % W) k (x % W) = x * 2 ^ k % W
 | 0, x => by simp [itr]
 | k + 1, x => by
   rw [itr]
   have e : 2 * (x % W) % W = (2 * x) % W := by rw [Int.mul_emod, Int.emod_emod, ← Int.mul_emod]
   rw [e, itr_up k (2 * x), Int.pow_succ]
   congr 1
   grind
theorem itr_dn : ∀ (k : Nat) (x : Int), itr (fun H => H / 2) k x = x / 2 ^ k
 | 0, x => by simp [itr]
 | k + 1, x => by
   rw [itr, itr_dn k, Int.ediv_ediv, if_neg (by omega), Int.pow_succ, Int.mul_comm]
   simp
theorem itr_sar {W : Int} (hW : 0 < W) (he : W % 2 = 0) : ∀ (k : Nat) (x : Int), 0 ≤ x → x < W → itr (fun H => if 2 * H < W then H / 2 else (H + W) / 2) k x = sgv W x / 2 ^ k % W
 | 0, x, h0, h1 => by
   rw [itr, Int.pow_zero, Int.ediv_one]
   unfold sgv
   split
   · rw [Int.emod_eq_of_lt h0 h1]
   · rw [Int.sub_emod, Int.emod_self, Int.sub_zero, Int.emod_emod, Int.emod_eq_of_lt h0 h1]
 | k + 1, x, h0, h1 => by
   rw [itr]
   have b : 0 ≤ (if 2 * x < W then x / 2 else (x + W) / 2) ∧ (if 2 * x < W then x / 2 else (x + W) / 2) < W := by split <;> omega
   rw [itr_sar hW he k _ b.1 b.2]
   have e : sgv W (if 2 * x < W then x / 2 else (x + W) / 2) = sgv W x / 2 := by
     unfold sgv
     split
     · rw [if_pos (by omega)]
     · rw [if_neg (by omega)]; omega
   rw [e, Int.ediv_ediv, if_neg (by omega), Int.pow_succ, Int.mul_comm (2 ^ k) 2]
   simp
end Go.Proofs.YtlkoidkdeopgjaaGreatDoor
namespace Go.Proofs.YtlkoidkdeopgjaaGreatDoor
open Go.RowKit
set_option linter.unusedSimpArgs false
set_option linter.unusedVariables false
def sdX (n : Nat) : List Ins := [⟨3, 2, 0, ((n - 1 : Nat) : Int)⟩, ⟨3, 6, 1, ((n - 1 : Nat) : Int)⟩, ⟨11, 2, 6, 0⟩]
def srX (n : Nat) : List Ins := [⟨3, 2, 0, ((n - 1 : Nat) : Int)⟩]
def sremC (b : Int) (n : Nat) (U : Int) : List Ins := trpI n (b + wln (trpI n 0)) ++ (srX n ++ sgnI (b + wln (trpI n 0) + wln (srX n)) n U)
theorem sX_ok (n : Nat) (hn : n ≤ 4) : okL (sdX n) = true ∧ okL (srX n) = true := by
 have : ∀ n, n < 5 → okL (sdX n) = true ∧ okL (srX n) = true := by decide
 exact this n (by omega)
def ngv (W X : Int) : Bool := decide (¬ 2 * X < W)
theorem sr_blk {n p : Nat} {s : Rv} (hn1 : 1 ≤ n) (h0 : s.r 0 = (p : Int)) (hw : rw8 s) (hm : mw s) (hp : p + n ≤ 65536) :
   ((s.lin (srX n)).r 2 / 32768 == 1) = ngv (65536 ^ n) (mnu s p n) ∧ (∀ j, j ≠ 2 → j ≠ 6 → (s.lin (srX n)).r j = s.r j) ∧ (s.lin (srX n)).mem = s.mem ∧ rw8 (s.lin (srX n)) := by
 unfold srX
 rw [lin_one, show (⟨3, 2, 0, ((n - 1 : Nat) : Int)⟩ : Ins) = ⟨3, ((2 : Nat) : Int), ((0 : Nat) : Int), ((n - 1 : Nat) : Int)⟩ from rfl, dd_ld]
 have ea : (lw (s.r 0 + ((n - 1 : Nat) : Int))).toNat = p + (n - 1) := by rw [h0]; unfold lw; omega
 rw [ea]
 refine ⟨?_, fun j j2 _ => ?_, rfl, ?_⟩
 · show (upd s.r 2 (s.mem (p + (n - 1))) 2 / 32768 == 1) = _
   rw [upd_same]
   exact nu_top (f := fun i => s.mem (p + i)) hn1 fun i hi => hm _
 · show upd s.r 2 _ j = _
   rw [upd_other _ _ _ _ j2]
 · exact upd_wd hw (hm _)
theorem ediv_bd {a b : Int} (ha : 0 ≤ a) : 0 ≤ b → 0 ≤ a / b ∧ a / b ≤ a := fun hb => ⟨Int.ediv_nonneg ha hb, Int.ediv_le_self _ ha⟩
theorem opp_rem {W A B x : Int} (hA : 0 ≤ A ∧ A < W) (hB : 0 < B ∧ B < W) (hx : (x / 32768 == 1) = ngv W A) : opp W x (ab W A % ab W B) = (sgv W A).tmod (sgv W B) % W := by
 have hb : 0 < ab W B := by unfold ab; split <;> omega
 have hs : sgv W B = ab W B ∨ sgv W B = -ab W B := by
   unfold sgv ab; split
   · exact .inl rfl
   · right; omega
 have ht : (sgv W A).tmod (sgv W B) = (sgv W A).tmod (ab W B) := by
   rcases hs with e | e
   · rw [e]
   · rw [e, Int.tmod_neg]
 have hbw : ab W B < W := by unfold ab; split <;> omega
 rw [ht]
 unfold opp
 rw [hx]
 generalize ab W B = D at *
 unfold ab sgv ngv
 by_cases a : 2 * A < W
 · rw [if_pos a, if_pos a, decide_eq_false (by omega), if_neg (by decide), Int.tmod_eq_emod_of_nonneg hA.1]
   have h1 := Int.emod_nonneg A (show D ≠ 0 by omega)
   have h2 := Int.emod_lt_of_pos A hb
   rw [Int.emod_eq_of_lt h1 (by omega)]
 · rw [if_neg a, if_neg a, decide_eq_true a, if_pos rfl, show A - W = -(W - A) by omega, Int.neg_tmod, Int.tmod_eq_emod_of_nonneg (by omega)]
theorem Did.from {n p S D : Nat} {X : Int} {s s1 s' : Rv} (h : Did n p S D X s1 s') (e : s1.mem = s.mem) : Did n p S D X s s' :=
 ⟨h.r7, h.w, h.m, h.a, fun j j1 j2 => by rw [h.rest j j1 j2, e]⟩
theorem srem_runs {Pr : List Ins} {b U : Int} {n p q Sb : Nat} {s : Rv} (hl : wln Pr ≤ 65535) (hn1 : 1 ≤ n) (hn : n ≤ 4) (hL : Lie Pr b (sremC b n U)) (hLU : Lie Pr U (uremC U n)) (hS : Sb + n + 2 ≤ 65534) (hSl : n + 2 ≤ Sb) (h0 : s.r 0 = (p : Int)) (h1 : s.r 1 = (q : Int)) (h7 : s.r 7 = ((Sb + n + 2 : Nat) : Int)) (hw : rw8 s) (hm : mw s) (hq : q + n ≤ 65536) (hp : p + n ≤ 65536) (hqS : q + n ≤ Sb ∨ Sb + n + 2 ≤ q) (hap : p + n ≤ Sb - (n + 2) ∨ Sb + n + 2 < p) :
   (mnu s q n = 0 → Trp Pr s b 10) ∧ (mnu s q n ≠ 0 → ∃ s', Fro Pr s b 3200 s' (s.mem (Sb + n + 2)) ∧ Did n p (Sb + n + 2) (4 + 2 * n) ((sgv (65536 ^ n) (mnu s p n)).tmod (sgv (65536 ^ n) (mnu s q n)) % 65536 ^ n) s s') := by
 obtain ⟨-, o1⟩ := sX_ok n hn
 have bU := hLU.bd
 have hwU := wl_pos (uremC U n)
 have bT := trp_blk hl hn1 hn hL.left (by rw [trpI_wl n (b + wln (trpI n 0))]) h1 hw hm hq
 refine ⟨bT.1, fun hz => ?_⟩
 obtain ⟨s1, g1, k1, m1, w1⟩ := bT.2 hz
 have L2 := hL.right
 rw [trpI_wl] at L2
 have c0 : s1.r 0 = (p : Int) := by rw [k1 0 (by omega) (by omega), h0]
 have c1 : s1.r 1 = (q : Int) := by rw [k1 1 (by omega) (by omega), h1]
 obtain ⟨x1, x2, x3, x4⟩ := sr_blk hn1 c0 w1 (fun j => by rw [m1]; exact hm j) hp
 have g2 := fro_line hl L2.left o1 s1
 have eA : mnu s1 p n = mnu s p n := mnu_congr fun j _ _ => by rw [m1]
 rw [eA] at x1
 generalize s1.lin (srX n) = s2 at *
 have mm : s2.mem = s.mem := by rw [x3, m1]
 have fA : mnu s2 p n = mnu s p n := mnu_congr fun j _ _ => by rw [mm]
 have fB : mnu s2 q n = mnu s q n := mnu_congr fun j _ _ => by rw [mm]
 have bA : 0 ≤ mnu s p n ∧ mnu s p n < 65536 ^ n := nu_bd fun i hi => hm _
 have bB : 0 ≤ mnu s q n ∧ mnu s q n < 65536 ^ n := nu_bd fun i hi => hm _
 obtain ⟨s3, g3, D⟩ := sgn_runs (s := s2) (p := p) (q := q) (Sb := Sb) (F := fun x y => x % y) hl hn1 hn L2.right bU.1 (by omega) hS hSl (by rw [x2 0 (by omega) (by omega), c0]) (by rw [x2 1 (by omega) (by omega), c1]) (by rw [x2 7 (by omega) (by omega), k1 7 (by omega) (by omega), h7]) x4 (fun j => by rw [mm]; exact hm j) hq hp hqS hap (by rw [fB]; exact hz)
   (fun s5 S e1 e2 e3 e4 e5 e6 e7 => (urem_runs hl hn1 hn hLU (by omega) e2 e3 e4 e5 e6 (by omega) hp (by omega) (by omega)).2 e7)
 rw [fA, fB] at D
 have e := opp_rem bA (show 0 < mnu s q n ∧ mnu s q n < 65536 ^ n by omega) x1
 have D2 := D.from mm
 rw [e] at D2
 rw [mm] at g3
 exact ⟨s3, Fro.le ((g1.trans g2).trans g3) (by show 10 + 1 + 3100 ≤ _; omega), D2⟩
end Go.Proofs.YtlkoidkdeopgjaaGreatDoor
namespace Go.Proofs.YtlkoidkdeopgjaaGreatDoor
open Go.RowKit
set_option linter.unusedSimpArgs false
set_option linter.unusedVariables false
structure Lay (n m p q sp : Nat) : Prop where
 lp : p + n ≤ 65536
 lq : q + m ≤ 65536
 s0 : 64 ≤ sp
 s1 : sp ≤ 65535
 pq : p + n ≤ q ∨ q + m ≤ p
 ps : p + n ≤ sp - 64 ∨ sp ≤ p
 qs : q + m ≤ sp - 64 ∨ sp ≤ q
def Rout (Pr : List Ins) (n m : Nat) (zero : Bool) (f : Int → Int → Int) : Prop :=
 ∀ (s : Rv) (p q sp : Nat), Lay n m p q sp → s.r 0 = (p : Int) → s.r 1 = (q : Int) → s.r 7 = ((sp - 1 : Nat) : Int) → rw8 s → mw s →
   (zero = true → mnu s q m = 0 → Trp Pr s 3 10) ∧ ((zero = true → mnu s q m ≠ 0) → ∃ s', Fro Pr s 3 4000 s' (s.mem (sp - 1)) ∧ Did n p (sp - 1) 60 (f (mnu s p n) (mnu s q m)) s s')
theorem Did.wide {n p S D E : Nat} {X : Int} {s s' : Rv} (h : Did n p S D X s s') (e : D ≤ E) : Did n p S E X s s' :=
 ⟨h.r7, h.w, h.m, h.a, fun j j1 j2 => h.rest j j1 (by omega)⟩
def hdI : List Ins := [⟨26, 0, 0, 3⟩] ++ [⟨0, 0, 0, 0⟩]
theorem hdI_wl : wln hdI = 3 := by decide
theorem lie_hd (C : List Ins) : Lie (hdI ++ C) 3 C := ⟨hdI, [], by simp, hdI_wl⟩
theorem rout_srem {n : Nat} {U : Int} (hn1 : 1 ≤ n) (hn : n ≤ 4) (hU : 3 + wln (sremC 3 n U) = U) (hl : wln (hdI ++ (sremC 3 n U ++ uremC U n)) ≤ 65535) : Rout (hdI ++ (sremC 3 n U ++ uremC U n)) n n true (fun A B => (sgv (65536 ^ n) A).tmod (sgv (65536 ^ n) B) % 65536 ^ n) := by
 intro s p q sp L h0 h1 h7 hw hm
 have a1 := L.lp; have a2 := L.lq; have a3 := L.s0; have a4 := L.s1; have a5 := L.pq; have a6 := L.ps; have a7 := L.qs
 obtain ⟨S, hS⟩ : ∃ S, S + n + 2 = sp - 1 := ⟨sp - 1 - n - 2, by omega⟩
 rw [← hS] at h7 ⊢
 have LL := lie_hd (sremC 3 n U ++ uremC U n)
 have LU := LL.right
 rw [hU] at LU
 have R := srem_runs hl hn1 hn LL.left LU (by omega) (by omega) h0 h1 h7 hw hm a2 a1 (by omega) (by omega)
 refine ⟨fun _ => R.1, fun hz => ?_⟩
 obtain ⟨s', g, D⟩ := R.2 (hz rfl)
 exact ⟨s', g.le (by omega), D.wide (by omega)⟩
theorem rout_shft {n : Nat} {mvl : List Ins} {f : Int → Int} (hn1 : 1 ≤ n) (hn : n ≤ 4) (hl : wln (hdI ++ shftC mvl 3 n) ≤ 65535) (hok : okL mvl = true) (hlen : mvl.length ≤ 4) (hmv : Moves mvl n f) : Rout (hdI ++ shftC mvl 3 n) n 1 false (fun A B => itr f (min B.toNat (16 * n)) A) := by
 intro s p q sp L h0 h1 h7 hw hm
 refine ⟨(fun h => by cases h), fun _ => ?_⟩
 have a1 := L.lp; have a2 := L.lq; have a3 := L.s0; have a4 := L.s1; have a5 := L.pq; have a6 := L.ps; have a7 := L.qs
 obtain ⟨c, hc, -⟩ := wd_nat (hm q)
 have e : mnu s q 1 = (c : Int) := by unfold mnu nu nu; simp [hc]
 obtain ⟨s', g, D⟩ := shft_runs hl hn1 hn (lie_hd _) hok hlen hmv (by omega) h0 h1 h7 hw hm a2 a1 (by omega) hc
 rw [e]
 exact ⟨s', g.le (by omega), D.wide (by omega)⟩
def Comes (n p sp : Nat) (X : Int) (mem : Nat → Int) (M : Ma) : Prop :=
 M.how = 1 ∧ M.took ≤ 20000 ∧ M.r 7 = (sp : Int) ∧ M.out = [] ∧ M.rd = 0 ∧ ∀ j, ¬ (sp - 64 ≤ j ∧ j < sp) → M.mem j = if p ≤ j ∧ j < p + n then wo X (j - p) else mem j
theorem whole {Pr : List Ins} {n m : Nat} {zero : Bool} {f : Int → Int → Int} {C : List Ins} (hPr : Pr = hdI ++ C) (hl : wln Pr ≤ 65535) (R : Rout Pr n m zero f) (s : Rv) (p q sp : Nat) (L : Lay n m p q sp) (h0 : s.r 0 = (p : Int)) (h1 : s.r 1 = (q : Int)) (h7 : s.r 7 = (sp : Int)) (hw : rw8 s) (hm : mw s) (N : Nat) (hN : 20000 ≤ N) :
   (zero = true → mnu s q m = 0 → (Ma.run (Pr.flatMap ws) [] N (s.ma 0 0)).how = 2 ∧ (Ma.run (Pr.flatMap ws) [] N (s.ma 0 0)).trap = 1) ∧
   ((zero = true → mnu s q m ≠ 0) → Comes n p sp (f (mnu s p n) (mnu s q m)) s.mem (Ma.run (Pr.flatMap ws) [] N (s.ma 0 0))) := by
 have a1 := L.lp; have a2 := L.lq; have a3 := L.s0; have a4 := L.s1; have a5 := L.pq; have a6 := L.ps; have a7 := L.qs
 have L0 : Lie Pr 0 (hdI ++ C) := ⟨[], [], by simp [hPr], rfl⟩
 have g0 := fro_call hl (show Lie Pr 0 [⟨26, 0, 0, 3⟩] from L0.left.left) (by decide) (by decide) s
 have LH : Lie Pr 2 [⟨0, 0, 0, 0⟩] := by
   have := L0.left.right
   rw [wl_jmp (by decide) (by decide)] at this
   exact this
 unfold Rv.psh at g0
 have el : lw (s.r 7 - 1) = ((sp - 1 : Nat) : Int) := by rw [h7]; unfold lw; omega
 rw [el, Int.toNat_natCast] at g0
 generalize hs1 : ({ r := upd s.r 7 ((sp - 1 : Nat) : Int), mem := upd s.mem (sp - 1) (0 + 2), c := s.c, z := s.z, n := s.n, v := s.v } : Rv) = s1 at g0
 have f1 : s1.r = upd s.r 7 ((sp - 1 : Nat) : Int) := by rw [← hs1]
 have f2 : s1.mem = upd s.mem (sp - 1) 2 := by rw [← hs1]; rfl
 have w1 : rw8 s1 := by unfold rw8; rw [f1]; exact upd_wd hw (by unfold wd; omega)
 have m1 : mw s1 := by unfold mw; rw [f2]; exact upd_wda hm (by unfold wd; omega)
 have eA : mnu s1 p n = mnu s p n := mnu_congr fun j j1 j2 => by rw [f2, upd_other _ _ _ _ (by omega)]
 have eB : mnu s1 q m = mnu s q m := mnu_congr fun j j1 j2 => by rw [f2, upd_other _ _ _ _ (by omega)]
 have RR := R s1 p q sp L (by rw [f1, upd_other _ _ _ _ (by omega), h0]) (by rw [f1, upd_other _ _ _ _ (by omega), h1]) (by rw [f1, upd_same]) w1 m1
 rw [eA, eB] at RR
 refine ⟨fun hz hb => ?_, fun hz => ?_⟩
 · obtain ⟨k, hk, T⟩ := g0.trp (RR.1 hz hb)
   obtain ⟨j, hj⟩ : ∃ j, N = k + (j + 1) := ⟨N - k - 1, by omega⟩
   rw [hj]
   exact T 0 j
 · obtain ⟨s2, g2, D⟩ := RR.2 hz
   rw [f2, upd_same] at g2
   obtain ⟨k, hk, G⟩ := g0.trans g2
   obtain ⟨j, hj⟩ : ∃ j, N = k + (j + 1) := ⟨N - k - 1, by omega⟩
   obtain ⟨a, b, e1, e2⟩ := LH
   have hh := run_halt a b (by rw [show a ++ (⟨0, 0, 0, 0⟩ : Ins) :: b = Pr by rw [e1]; rfl]; exact hl) s2 (0 + (k : Nat)) j
   rw [show a ++ (⟨0, 0, 0, 0⟩ : Ins) :: b = Pr by rw [e1]; rfl, e2] at hh
   rw [hj, G 0, hh]
   refine ⟨rfl, ?_, ?_, rfl, rfl, fun i hi => ?_⟩
   · show 0 + (k : Int) + 1 ≤ 20000
     omega
   · show s2.r 7 = _
     rw [D.r7]; congr 1; omega
   · show s2.mem i = _
     by_cases hp : p ≤ i ∧ i < p + n
     · rw [if_pos hp, ← D.a]
       have := wo_nu (f := fun i => s2.mem (p + i)) (n := n) (fun i hi => D.m _) (i - p) (by omega)
       unfold mnu
       rw [this, show p + (i - p) = i by omega]
     · rw [if_neg hp, D.rest i hp (by omega), f2, upd_other _ _ _ _ (by omega)]
end Go.Proofs.YtlkoidkdeopgjaaGreatDoor
namespace Go.Proofs.YtlkoidkdeopgjaaGreatDoor
open Go.RowKit
set_option linter.unusedSimpArgs false
set_option linter.unusedVariables false
def Nw (n : Nat) : Prop := n = 1 ∨ n = 2 ∨ n = 4
theorem md_w {n : Nat} (h : Nw n) : md ((16 * n : Nat) : Int) = 65536 ^ n := by
 rcases h with rfl | rfl | rfl <;> rfl
theorem cut_w {n : Nat} (h : Nw n) (x : Int) : cut ((16 * n : Nat) : Int) x = x % 65536 ^ n := by
 unfold cut; rw [md_w h]
theorem mn_w {n : Nat} (h : Nw n) (x : Int) : mn true ((16 * n : Nat) : Int) x = sgv (65536 ^ n) (x % 65536 ^ n) := by
 unfold mn sgn sgv; rw [if_pos rfl, cut_w h, md_w h]
theorem mn_u {n : Nat} (h : Nw n) (x : Int) : mn false ((16 * n : Nat) : Int) x = x % 65536 ^ n := by
 unfold mn; rw [if_neg (by decide), cut_w h]
theorem cut_cut_w {n : Nat} (h : Nw n) (x : Int) : cut ((16 * n : Nat) : Int) (cut ((16 * n : Nat) : Int) x) = x % 65536 ^ n := by
 rw [cut_w h, cut_w h, Int.emod_emod]
theorem md_bd (n : Nat) (x : Int) : 0 ≤ x % 65536 ^ n ∧ x % 65536 ^ n < 65536 ^ n := by
 have hp := pw_pos n
 exact ⟨Int.emod_nonneg _ (by omega), Int.emod_lt_of_pos _ hp⟩
theorem want_srem {n : Nat} (h : Nw n) (a b : Int) : cut ((16 * n : Nat) : Int) (cut ((16 * n : Nat) : Int) ((mn true ((16 * n : Nat) : Int) a).tmod (mn true ((16 * n : Nat) : Int) b))) = (sgv (65536 ^ n) (a % 65536 ^ n)).tmod (sgv (65536 ^ n) (b % 65536 ^ n)) % 65536 ^ n := by
 rw [cut_cut_w h, mn_w h, mn_w h]
theorem sgv_zero {n : Nat} (b : Int) : sgv (65536 ^ n) (b % 65536 ^ n) = 0 ↔ b % 65536 ^ n = 0 := by
 have hB := md_bd n b
 unfold sgv
 split <;> omega
theorem pow_over {n k : Nat} (h : 16 * n ≤ k) : (2 : Int) ^ k = 65536 ^ n * 2 ^ (k - 16 * n) := by
 rw [← two_pow16, ← Int.pow_add, show 16 * n + (k - 16 * n) = k by omega]
theorem want_shl {n : Nat} (h : Nw n) (a c : Int) : cut ((16 * n : Nat) : Int) (cut ((16 * n : Nat) : Int) (cut ((16 * n : Nat) : Int) a * 2 ^ min c.toNat 64)) = itr (fun H => 2 * H % 65536 ^ n) (min c.toNat (16 * n)) (a % 65536 ^ n) := by
 have hn : 16 * n ≤ 64 := by rcases h with rfl | rfl | rfl <;> omega
 have e := itr_up (W := 65536 ^ n) (min c.toNat (16 * n)) (a % 65536 ^ n)
 rw [Int.emod_emod] at e
 rw [cut_cut_w h, cut_w h, e]
 by_cases hc : c.toNat ≤ 16 * n
 · rw [show min c.toNat 64 = min c.toNat (16 * n) by omega]
 · rw [pow_over (show 16 * n ≤ min c.toNat 64 by omega), pow_over (show 16 * n ≤ min c.toNat (16 * n) by omega)]
   rw [show ∀ x y z : Int, x * (y * z) = y * (x * z) from fun x y z => by grind, show ∀ y z : Int, a % 65536 ^ n * (y * z) = y * (a % 65536 ^ n * z) from fun y z => by grind, Int.mul_emod_right, Int.mul_emod_right]
theorem want_shr {n : Nat} (h : Nw n) (a c : Int) : cut ((16 * n : Nat) : Int) (cut ((16 * n : Nat) : Int) (mn false ((16 * n : Nat) : Int) a / 2 ^ min c.toNat 64)) = itr (fun H => H / 2) (min c.toNat (16 * n)) (a % 65536 ^ n) := by
 have hn : 16 * n ≤ 64 := by rcases h with rfl | rfl | rfl <;> omega
 rw [cut_cut_w h, mn_u h, itr_dn]
 have hA := md_bd n a
 by_cases hc : c.toNat ≤ 16 * n
 · rw [show min c.toNat 64 = min c.toNat (16 * n) by omega]
   have := ediv_bd hA.1 (show (0 : Int) ≤ 2 ^ min c.toNat (16 * n) from Int.le_of_lt (Int.pow_pos (by decide)))
   exact Int.emod_eq_of_lt this.1 (by omega)
 · have z : ∀ k, 16 * n ≤ k → a % 65536 ^ n / 2 ^ k = 0 := fun k hk => by
     refine Int.ediv_eq_zero_of_lt hA.1 ?_
     rw [pow_over hk]
     have h1 : (1 : Int) ≤ 2 ^ (k - 16 * n) := Int.pow_pos (by decide)
     have h2 := Int.mul_le_mul_of_nonneg_left h1 (Int.le_of_lt (pw_pos n))
     omega
   rw [z _ (by omega), z _ (by omega)]; simp
theorem want_sar {n : Nat} (h : Nw n) (a c : Int) : cut ((16 * n : Nat) : Int) (cut ((16 * n : Nat) : Int) (mn true ((16 * n : Nat) : Int) a / 2 ^ min c.toNat 64)) = itr (fun H => if 2 * H < 65536 ^ n then H / 2 else (H + 65536 ^ n) / 2) (min c.toNat (16 * n)) (a % 65536 ^ n) := by
 have hn : 16 * n ≤ 64 := by rcases h with rfl | rfl | rfl <;> omega
 have hn1 : 1 ≤ n := by rcases h with rfl | rfl | rfl <;> omega
 have hA := md_bd n a
 rw [cut_cut_w h, mn_w h, itr_sar (pw_pos n) (even_w hn1) _ _ hA.1 hA.2]
 by_cases hc : c.toNat ≤ 16 * n
 · rw [show min c.toNat 64 = min c.toNat (16 * n) by omega]
 · have z : ∀ k, 16 * n ≤ k → sgv (65536 ^ n) (a % 65536 ^ n) / 2 ^ k = if 2 * (a % 65536 ^ n) < 65536 ^ n then 0 else -1 := fun k hk => by
     have h1 : (65536 : Int) ^ n ≤ 2 ^ k := by
       rw [pow_over hk]
       have h1 : (1 : Int) ≤ 2 ^ (k - 16 * n) := Int.pow_pos (by decide)
       have h2 := Int.mul_le_mul_of_nonneg_left h1 (Int.le_of_lt (pw_pos n))
       omega
     unfold sgv
     split
     · exact Int.ediv_eq_zero_of_lt hA.1 (by omega)
     · generalize (2 : Int) ^ k = K at *
       generalize (65536 : Int) ^ n = W at *
       generalize a % W = A at *
       have e : A - W = (A - W + K) + K * (-1) := by omega
       rw [e, Int.add_mul_ediv_left _ _ (by omega), Int.ediv_eq_zero_of_lt (by omega) (by omega)]; rfl
   rw [z _ (by omega), z _ (by omega)]
end Go.Proofs.YtlkoidkdeopgjaaGreatDoor
