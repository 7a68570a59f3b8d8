/-
  Words that are added, taken away and held against each other, with what is carried: one and two of them.
-/
import Derived.Test.YtjlbenbfmookoabEmuShifts0
namespace Go.Proofs.Ytjlbenbfmookoab
open Go.RowKit
set_option linter.unusedSimpArgs false
set_option linter.unusedVariables false

def crg (x y : Nat → Int) (k : Nat) : Nat → Int := fun i => if i < k then x i else if 2 ≤ i ∧ i < 2 + k then y (i - 2) else 0
theorem crg_next (x y : Nat → Int) (k : Nat) (h : k < 2) : upd (upd (crg x y k) k (x k)) (2 + k) (y k) = crg x y (k + 1) := by
  funext i
  unfold upd crg
  by_cases e : i = 2 + k
  · subst e
    rw [if_pos rfl, if_neg (by omega), if_pos (by omega), show 2 + k - 2 = k by omega]
  · rw [if_neg e]
    by_cases e2 : i = k
    · subst e2; rw [if_pos rfl, if_pos (by omega)]
    · rw [if_neg e2]
      by_cases h1 : i < k
      · rw [if_pos h1, if_pos (by omega)]
      · rw [if_neg h1, if_neg (show ¬ i < k + 1 by omega)]
        by_cases h2 : 2 ≤ i ∧ i < 2 + k
        · rw [if_pos h2, if_pos (show 2 ≤ i ∧ i < 2 + (k + 1) by omega)]
        · rw [if_neg h2, if_neg (show ¬ (2 ≤ i ∧ i < 2 + (k + 1)) by omega)]
theorem crg_wd {x y : Nat → Int} (hx : ∀ i, wd (x i)) (hy : ∀ i, wd (y i)) (k i : Nat) : wd (crg x y k i) := by
  unfold crg
  split
  · exact hx i
  · split
    · exact hy _
    · unfold wd; omega
def carI (o0 o1 : Int) : Nat → List Ins
  | 0 => []
  | k + 1 => carI o0 o1 k ++ [⟨if k = 0 then o0 else o1, k, ((2 + k : Nat) : Int), 0⟩]
theorem carI_len (o0 o1 : Int) : ∀ k, (carI o0 o1 k).length = k
  | 0 => rfl
  | k + 1 => by rw [carI, List.length_append, carI_len o0 o1 k]; rfl
theorem carI_right (o0 o1 : Int) (h0 : 5 ≤ o0 ∧ o0 ≤ 13) (h1 : 5 ≤ o1 ∧ o1 ≤ 13) : ∀ k, k ≤ 2 → (∀ i ∈ carI o0 o1 k, wrg i = 0) ∧ (∀ i ∈ carI o0 o1 k, calm i.o = true)
  | 0, _ => by simp [carI]
  | k + 1, h => by
    obtain ⟨g1, g2⟩ := carI_right o0 o1 h0 h1 k (by omega)
    have ho : 5 ≤ (if k = 0 then o0 else o1) ∧ (if k = 0 then o0 else o1) ≤ 13 := by split <;> assumption
    refine ⟨fun i hi => ?_, fun i hi => ?_⟩
    · rw [carI] at hi
      rcases List.mem_append.1 hi with hi | hi
      · exact g1 i hi
      · simp only [List.mem_cons, List.not_mem_nil, or_false] at hi
        subst hi
        generalize (if k = 0 then o0 else o1) = o at *
        exact wr_of (show 0 ≤ o by omega) (show o ≤ 32 by omega) (fun _ => show (0 : Int) ≤ k ∧ (k : Int) ≤ 7 by omega) (fun _ => show (0 : Int) ≤ ((2 + k : Nat) : Int) ∧ ((2 + k : Nat) : Int) ≤ 7 by omega) (fun _ => ⟨by simp, by simp⟩)
    · rw [carI] at hi
      rcases List.mem_append.1 hi with hi | hi
      · exact g2 i hi
      · simp only [List.mem_cons, List.not_mem_nil, or_false] at hi
        subst hi
        generalize (if k = 0 then o0 else o1) = o at *
        show calm o = true
        unfold calm
        simp
        omega
def carS (x y : Nat → Int) (n : Nat) : St := ⟨crg x y n, false, false, false, false, 0, []⟩
theorem carS_wrong {x y : Nat → Int} (hx : ∀ i, wd (x i)) (hy : ∀ i, wd (y i)) (n : Nat) : (carS x y n).wrong = 0 := by
  have W : ∀ {x : Int}, wd x → isw x = true := fun {x} h => by unfold isw; unfold wd at h; simpa using h
  have hg : (carS x y n).good = true := by
    unfold St.good St.regs carS
    have z : isw 0 = true := by decide
    simp only [List.all_cons, List.all_nil, W (crg_wd hx hy n 0), W (crg_wd hx hy n 1), W (crg_wd hx hy n 2), W (crg_wd hx hy n 3), W (crg_wd hx hy n 4), W (crg_wd hx hy n 5), W (crg_wd hx hy n 6), W (crg_wd hx hy n 7), z, Bool.and_self]
  unfold St.wrong
  rw [if_neg (by simp [carS]), if_pos hg]
def Wid2 (n : Nat) (W : Int) : Prop := (n = 1 ∧ W = 16) ∨ (n = 2 ∧ W = 32)
theorem Wid2.wid {n : Nat} {W : Int} (h : Wid2 n W) : Wid n W := by rcases h with h | h; exact .inl h; exact .inr (.inl h)
theorem lw_wd {x : Int} (h : wd x) : lw x = x := by unfold lw; unfold wd at h; omega
theorem oi_sum {s : Int} (h0 : 0 ≤ s) (h1 : s ≤ 131071) : oi (s != lw s) = s / 65536 := by
  unfold lw
  by_cases k : s < 65536
  · have e : s % 65536 = s := by omega
    rw [e]; simp [oi]; omega
  · have e : (s != s % 65536) = true := by simp; omega
    rw [e]; simp [oi]; omega
theorem oi_dif {s : Int} (h0 : -65536 ≤ s) (h1 : s ≤ 65535) : oi (s != lw s) = -(s / 65536) := by
  unfold lw
  by_cases k : 0 ≤ s
  · have e : s % 65536 = s := by omega
    rw [e]; simp [oi]; omega
  · have e : (s != s % 65536) = true := by simp; omega
    rw [e]; simp [oi]; omega
theorem neq_dif {s : Int} (h0 : -65536 ≤ s) (h1 : s ≤ 65535) : (s != lw s) = decide (s < 0) := by
  unfold lw
  by_cases k : 0 ≤ s
  · have e : s % 65536 = s := by omega
    rw [e]; simp; omega
  · have e : (s != s % 65536) = true := by simp; omega
    rw [e]; simp; omega
/-- The sign of a difference, told by two flags. -/
theorem nv_dif {s : Int} (h0 : -65536 ≤ s) (h1 : s ≤ 65535) (d : Int) (hd : lw d = lw s) : (decide (sw (lw d) < 0) != (s != sw (lw d))) = decide (s < 0) := by
  rw [hd]
  have e : sw (lw s) = (s + 32768) % 65536 - 32768 := sw_lw s
  rw [e]
  by_cases k : -32768 ≤ s ∧ s ≤ 32767
  · have e2 : (s + 32768) % 65536 - 32768 = s := by omega
    rw [e2]; simp
  · have e3 : (s != (s + 32768) % 65536 - 32768) = true := by simp; omega
    rw [e3]
    by_cases n : s < 0
    · have a : decide ((s + 32768) % 65536 - 32768 < 0) = false := by simp; omega
      rw [a]; simp [n]
    · have a : decide ((s + 32768) % 65536 - 32768 < 0) = true := by simp; omega
      rw [a]; simp; omega
theorem did_sum (m : Ma) (d s : Nat) (o : Int) (ho : o = 5 ∨ o = 6) : (m.did [] ⟨o, d, s, 0⟩).r = upd m.r d (lw (sumt (m.r d) (m.r s) (o == 6 && m.c))) ∧ (m.did [] ⟨o, d, s, 0⟩).c = (sumt (m.r d) (m.r s) (o == 6 && m.c) != lw (sumt (m.r d) (m.r s) (o == 6 && m.c))) := by
  rcases ho with rfl | rfl <;> simp [Ma.did, bare, hD, hS, hI, lng, Ma.act, Ma.sum, Ma.reg]
theorem did_dif (m : Ma) (d s : Nat) (o : Int) (ho : o = 7 ∨ o = 8) : (m.did [] ⟨o, d, s, 0⟩).r = upd m.r d (lw (dift (m.r d) (m.r s) (o == 8 && m.c))) ∧ (m.did [] ⟨o, d, s, 0⟩).c = (dift (m.r d) (m.r s) (o == 8 && m.c) != lw (dift (m.r d) (m.r s) (o == 8 && m.c))) := by
  rcases ho with rfl | rfl <;> simp [Ma.did, bare, hD, hS, hI, lng, Ma.act, Ma.dif, Ma.cmp, Ma.setR, Ma.reg]
theorem did_12 (m : Ma) (d s : Nat) : m.did [] ⟨12, d, s, 0⟩ = ({ m with took := m.took + 1, pc := m.pc + 1 } : Ma).cmp (m.r d) (m.r s) false := by
  simp [Ma.did, bare, hD, hS, hI, lng, Ma.act, Ma.reg]
theorem did_13 (m : Ma) (d s : Nat) : m.did [] ⟨13, d, s, 0⟩ = { ({ m with took := m.took + 1, pc := m.pc + 1 } : Ma).cmp (m.r d) (m.r s) m.c with z := (lw (dift (m.r d) (m.r s) m.c) == 0) && m.z } := by
  simp [Ma.did, bare, hD, hS, hI, lng, Ma.act, Ma.reg, Ma.cmp]
theorem car_sum {n : Nat} {W : Int} (h : Wid2 n W) (a b : Int) : num n (endM ((startM (carS (w16 (cut W a)) (w16 (cut W b)) n)).line [] (carI 5 6 n))).r = cut W (a + b) := by
  have ha := cut_lo h.wid.isW a
  have ha' := cut_lt h.wid.isW a
  have hb := cut_lo h.wid.isW b
  have hb' := cut_lt h.wid.isW b
  rw [← cut_add]
  rcases h with ⟨rfl, rfl⟩ | ⟨rfl, rfl⟩
  · rw [md_16] at ha' hb'
    generalize cut 16 a = A at *
    generalize cut 16 b = B at *
    have e0 : num 1 (endM ((startM (carS (w16 A) (w16 B) 1)).line [] (carI 5 6 1))).r = (((startM (carS (w16 A) (w16 B) 1)).did [] ⟨5, (0 : Nat), (2 : Nat), 0⟩).r 0) := by simp [num, endM, carI, line_cons, line_nil]
    rw [e0, (did_sum _ 0 2 5 (.inl rfl)).1, upd_same]
    show lw (sumt (w16 A 0) (w16 B 0) false) = _
    rw [w16_0, w16_0]
    unfold sumt lw oi cut
    rw [md_16]
    simp
  · rw [md_32] at ha' hb'
    generalize cut 32 a = A at *
    generalize cut 32 b = B at *
    obtain ⟨m1, hm1⟩ : ∃ m1, m1 = (startM (carS (w16 A) (w16 B) 2)).did [] ⟨5, (0 : Nat), (2 : Nat), 0⟩ := ⟨_, rfl⟩
    obtain ⟨r1, c1⟩ := did_sum (startM (carS (w16 A) (w16 B) 2)) 0 2 5 (.inl rfl)
    rw [← hm1] at r1 c1
    have e0 : num 2 (endM ((startM (carS (w16 A) (w16 B) 2)).line [] (carI 5 6 2))).r = (m1.did [] ⟨6, (1 : Nat), (3 : Nat), 0⟩).r 0 + (m1.did [] ⟨6, (1 : Nat), (3 : Nat), 0⟩).r 1 * 65536 := by rw [hm1]; simp [num, endM, carI, line_cons, line_nil]
    obtain ⟨r2, _⟩ := did_sum m1 1 3 6 (.inr rfl)
    rw [e0, r2, upd_other _ _ _ _ (by decide), upd_same, r1, upd_same, upd_other _ _ _ _ (by decide), upd_other _ _ _ _ (by decide), c1]
    show lw (sumt (w16 A 0) (w16 B 0) false) + lw (sumt (w16 A 1) (w16 B 1) (sumt (w16 A 0) (w16 B 0) false != lw (sumt (w16 A 0) (w16 B 0) false))) * 65536 = _
    have x0 := w16_wd A 0
    have y0 := w16_wd B 0
    have x1 := w16_wd A 1
    have y1 := w16_wd B 1
    have s0 : sumt (w16 A 0) (w16 B 0) false = w16 A 0 + w16 B 0 := by unfold sumt; rw [lw_wd x0, lw_wd y0]; simp [oi]
    rw [s0]
    unfold wd at x0 y0 x1 y1
    have s1 : sumt (w16 A 1) (w16 B 1) (w16 A 0 + w16 B 0 != lw (w16 A 0 + w16 B 0)) = w16 A 1 + w16 B 1 + (w16 A 0 + w16 B 0) / 65536 := by unfold sumt; rw [lw_wd (w16_wd A 1), lw_wd (w16_wd B 1), oi_sum (by omega) (by omega)]
    rw [s1]
    have eA : A = w16 A 0 + w16 A 1 * 65536 := by rw [w16_0, w16_1]; omega
    have eB : B = w16 B 0 + w16 B 1 * 65536 := by rw [w16_0, w16_1]; omega
    generalize w16 A 0 = p at *
    generalize w16 A 1 = q at *
    generalize w16 B 0 = u at *
    generalize w16 B 1 = v at *
    unfold cut lw
    rw [md_32, eA, eB]
    omega
theorem dif_1 {p u : Int} (hp : wd p) (hu : wd u) : dift p u false = p - u := by unfold dift; rw [lw_wd hp, lw_wd hu]; simp [oi]
theorem dif_2 {p u q v : Int} (hp : wd p) (hu : wd u) (hq : wd q) (hv : wd v) : dift q v (p - u != lw (p - u)) = q - v + (p - u) / 65536 := by
  unfold dift
  unfold wd at hp hu
  rw [lw_wd hq, lw_wd hv, oi_dif (by omega) (by omega)]
  omega
theorem car_dif {n : Nat} {W : Int} (h : Wid2 n W) (a b : Int) : num n (endM ((startM (carS (w16 (cut W a)) (w16 (cut W b)) n)).line [] (carI 7 8 n))).r = cut W (a - b) := by
  have ha := cut_lo h.wid.isW a
  have ha' := cut_lt h.wid.isW a
  have hb := cut_lo h.wid.isW b
  have hb' := cut_lt h.wid.isW b
  rw [← cut_sub]
  rcases h with ⟨rfl, rfl⟩ | ⟨rfl, rfl⟩
  · rw [md_16] at ha' hb'
    generalize cut 16 a = A at *
    generalize cut 16 b = B at *
    have e0 : num 1 (endM ((startM (carS (w16 A) (w16 B) 1)).line [] (carI 7 8 1))).r = (((startM (carS (w16 A) (w16 B) 1)).did [] ⟨7, (0 : Nat), (2 : Nat), 0⟩).r 0) := by simp [num, endM, carI, line_cons, line_nil]
    rw [e0, (did_dif _ 0 2 7 (.inl rfl)).1, upd_same]
    show lw (dift (w16 A 0) (w16 B 0) false) = _
    rw [dif_1 (w16_wd A 0) (w16_wd B 0), w16_0, w16_0]
    unfold lw cut
    rw [md_16]
    omega
  · rw [md_32] at ha' hb'
    generalize cut 32 a = A at *
    generalize cut 32 b = B at *
    obtain ⟨m1, hm1⟩ : ∃ m1, m1 = (startM (carS (w16 A) (w16 B) 2)).did [] ⟨7, (0 : Nat), (2 : Nat), 0⟩ := ⟨_, rfl⟩
    obtain ⟨r1, c1⟩ := did_dif (startM (carS (w16 A) (w16 B) 2)) 0 2 7 (.inl rfl)
    rw [← hm1] at r1 c1
    have e0 : num 2 (endM ((startM (carS (w16 A) (w16 B) 2)).line [] (carI 7 8 2))).r = (m1.did [] ⟨8, (1 : Nat), (3 : Nat), 0⟩).r 0 + (m1.did [] ⟨8, (1 : Nat), (3 : Nat), 0⟩).r 1 * 65536 := by rw [hm1]; simp [num, endM, carI, line_cons, line_nil]
    obtain ⟨r2, _⟩ := did_dif m1 1 3 8 (.inr rfl)
    rw [e0, r2, upd_other _ _ _ _ (by decide), upd_same, r1, upd_same, upd_other _ _ _ _ (by decide), upd_other _ _ _ _ (by decide), c1]
    show lw (dift (w16 A 0) (w16 B 0) false) + lw (dift (w16 A 1) (w16 B 1) (dift (w16 A 0) (w16 B 0) false != lw (dift (w16 A 0) (w16 B 0) false))) * 65536 = _
    have x0 := w16_wd A 0
    have y0 := w16_wd B 0
    have x1 := w16_wd A 1
    have y1 := w16_wd B 1
    rw [dif_1 x0 y0, dif_2 x0 y0 x1 y1]
    unfold wd at x0 y0 x1 y1
    have eA : A = w16 A 0 + w16 A 1 * 65536 := by rw [w16_0, w16_1]; omega
    have eB : B = w16 B 0 + w16 B 1 * 65536 := by rw [w16_0, w16_1]; omega
    generalize w16 A 0 = p at *
    generalize w16 A 1 = q at *
    generalize w16 B 0 = u at *
    generalize w16 B 1 = v at *
    unfold cut lw
    rw [md_32, eA, eB]
    omega
theorem sgn_16 (A : Int) (h0 : 0 ≤ A) (h1 : A < 65536) : sgn 16 A = sw A := by
  unfold sgn cut sw
  rw [md_16]
  split <;> omega
theorem car_cmp {n : Nat} {W : Int} (h : Wid2 n W) (a b : Int) : num n (endM ((startM (carS (w16 (cut W a)) (w16 (cut W b)) n)).line [] (carI 12 13 n))).r = cut W a ∧ (∀ i, i < n → wd ((endM ((startM (carS (w16 (cut W a)) (w16 (cut W b)) n)).line [] (carI 12 13 n))).r i)) ∧
    (endM ((startM (carS (w16 (cut W a)) (w16 (cut W b)) n)).line [] (carI 12 13 n))).c = decide (cut W a < cut W b) ∧
    ((endM ((startM (carS (w16 (cut W a)) (w16 (cut W b)) n)).line [] (carI 12 13 n))).n != (endM ((startM (carS (w16 (cut W a)) (w16 (cut W b)) n)).line [] (carI 12 13 n))).v) = decide (sgn W a < sgn W b) ∧
    (endM ((startM (carS (w16 (cut W a)) (w16 (cut W b)) n)).line [] (carI 12 13 n))).z = (cut W (a - b) == 0) := by
  have ha := cut_lo h.wid.isW a
  have ha' := cut_lt h.wid.isW a
  have hb := cut_lo h.wid.isW b
  have hb' := cut_lt h.wid.isW b
  have nc := num_cut h.wid a
  rw [← cut_sub W a b, ← sgn_cut W a, ← sgn_cut W b]
  rcases h with ⟨rfl, rfl⟩ | ⟨rfl, rfl⟩
  · rw [md_16] at ha' hb'
    generalize cut 16 a = A at *
    generalize cut 16 b = B at *
    have e0 : (startM (carS (w16 A) (w16 B) 1)).line [] (carI 12 13 1) = (startM (carS (w16 A) (w16 B) 1)).did [] ⟨12, (0 : Nat), (2 : Nat), 0⟩ := by simp [carI, line_cons, line_nil]
    rw [e0, did_12]
    have x0 := w16_wd A 0
    have y0 := w16_wd B 0
    have eA : w16 A 0 = A := by rw [w16_0]; omega
    have eB : w16 B 0 = B := by rw [w16_0]; omega
    have d0 : dift A B false = A - B := by rw [← eA, ← eB]; exact dif_1 x0 y0
    have g0 : difs A B false = sw A - sw B := by unfold difs; simp [oi]
    have q1 := sgn_16 A ha ha'
    have q2 := sgn_16 B hb hb'
    have b1 := sw_b A
    have b2 := sw_b B
    refine ⟨?_, ?_, ?_, ?_, ?_⟩
    · refine (num_congr (g := w16 A) fun i hi => ?_).trans nc
      obtain rfl : i = 0 := by omega
      rfl
    · intro i hi
      obtain rfl : i = 0 := by omega
      exact x0
    · show (dift (w16 A 0) (w16 B 0) false != lw (dift (w16 A 0) (w16 B 0) false)) = _
      rw [eA, eB, d0, neq_dif (by omega) (by omega)]
      congr 1
      exact propext (by omega)
    · show (decide (sw (lw (dift (w16 A 0) (w16 B 0) false)) < 0) != (difs (w16 A 0) (w16 B 0) false != sw (lw (dift (w16 A 0) (w16 B 0) false)))) = _
      rw [eA, eB, d0, g0, nv_dif (s := sw A - sw B) (by omega) (by omega) (A - B) (by unfold lw sw; omega), q1, q2]
      congr 1
      exact propext (by omega)
    · show (lw (dift (w16 A 0) (w16 B 0) false) == 0) = _
      rw [eA, eB, d0]
      unfold lw cut
      rw [md_16]
  · rw [md_32] at ha' hb'
    generalize cut 32 a = A at *
    generalize cut 32 b = B at *
    have e0 : (startM (carS (w16 A) (w16 B) 2)).line [] (carI 12 13 2) = ((startM (carS (w16 A) (w16 B) 2)).did [] ⟨12, (0 : Nat), (2 : Nat), 0⟩).did [] ⟨13, (1 : Nat), (3 : Nat), 0⟩ := by simp [carI, line_cons, line_nil]
    rw [e0, did_13, did_12]
    have x0 := w16_wd A 0
    have y0 := w16_wd B 0
    have x1 := w16_wd A 1
    have y1 := w16_wd B 1
    have d0 := dif_1 x0 y0
    have d1 := dif_2 x0 y0 x1 y1
    have x0' := x0
    have y0' := y0
    have x1' := x1
    have y1' := y1
    unfold wd at x0' y0' x1' y1'
    have g1 : difs (w16 A 1) (w16 B 1) (w16 A 0 - w16 B 0 != lw (w16 A 0 - w16 B 0)) = sw (w16 A 1) - sw (w16 B 1) + (w16 A 0 - w16 B 0) / 65536 := by
      unfold difs; rw [oi_dif (by omega) (by omega)]; omega
    have eA : A = w16 A 0 + w16 A 1 * 65536 := by rw [w16_0, w16_1]; omega
    have eB : B = w16 B 0 + w16 B 1 * 65536 := by rw [w16_0, w16_1]; omega
    have b1 := sw_b (w16 A 1)
    have b2 := sw_b (w16 B 1)
    have sA : sgn 32 A = w16 A 0 + sw (w16 A 1) * 65536 := by
      unfold sgn cut sw
      rw [md_32]
      split <;> omega
    have sB : sgn 32 B = w16 B 0 + sw (w16 B 1) * 65536 := by
      unfold sgn cut sw
      rw [md_32]
      split <;> omega
    refine ⟨?_, ?_, ?_, ?_, ?_⟩
    · refine (num_congr (g := w16 A) fun i hi => ?_).trans nc
      have : i = 0 ∨ i = 1 := by omega
      rcases this with rfl | rfl <;> rfl
    · intro i hi
      have : i = 0 ∨ i = 1 := by omega
      rcases this with rfl | rfl
      · exact x0
      · exact x1
    · show (dift (w16 A 1) (w16 B 1) (dift (w16 A 0) (w16 B 0) false != lw (dift (w16 A 0) (w16 B 0) false)) != lw (dift (w16 A 1) (w16 B 1) (dift (w16 A 0) (w16 B 0) false != lw (dift (w16 A 0) (w16 B 0) false)))) = _
      rw [d0, d1, neq_dif (by omega) (by omega)]
      congr 1
      exact propext (by omega)
    · show (decide (sw (lw (dift (w16 A 1) (w16 B 1) (dift (w16 A 0) (w16 B 0) false != lw (dift (w16 A 0) (w16 B 0) false)))) < 0) != (difs (w16 A 1) (w16 B 1) (dift (w16 A 0) (w16 B 0) false != lw (dift (w16 A 0) (w16 B 0) false)) != sw (lw (dift (w16 A 1) (w16 B 1) (dift (w16 A 0) (w16 B 0) false != lw (dift (w16 A 0) (w16 B 0) false)))))) = _
      rw [d0, d1, g1, nv_dif (s := sw (w16 A 1) - sw (w16 B 1) + (w16 A 0 - w16 B 0) / 65536) (by omega) (by omega) _ (by unfold lw sw; omega), sA, sB]
      congr 1
      exact propext (by omega)
    · show ((lw (dift (w16 A 1) (w16 B 1) (dift (w16 A 0) (w16 B 0) false != lw (dift (w16 A 0) (w16 B 0) false))) == 0) && (lw (dift (w16 A 0) (w16 B 0) false) == 0)) = _
      rw [d0, d1, Bool.eq_iff_iff]
      unfold lw cut
      rw [md_32]
      simp
      omega
theorem car_wd {n : Nat} {W : Int} (h : Wid2 n W) (x y : Nat → Int) (o0 o1 : Int) (ho : (o0 = 5 ∧ o1 = 6) ∨ (o0 = 7 ∧ o1 = 8)) : ∀ i, i < n → wd ((endM ((startM (carS x y n)).line [] (carI o0 o1 n))).r i) := by
  have L : ∀ z, wd (lw z) := fun z => lw_b z
  rcases h with ⟨rfl, _⟩ | ⟨rfl, _⟩
  · intro i hi
    obtain rfl : i = 0 := by omega
    rcases ho with ⟨rfl, rfl⟩ | ⟨rfl, rfl⟩
    · have e0 : (endM ((startM (carS x y 1)).line [] (carI 5 6 1))).r 0 = (((startM (carS x y 1)).did [] ⟨5, (0 : Nat), (2 : Nat), 0⟩).r 0) := by simp [endM, carI, line_cons, line_nil]
      rw [e0, (did_sum _ 0 2 5 (.inl rfl)).1, upd_same]; exact L _
    · have e0 : (endM ((startM (carS x y 1)).line [] (carI 7 8 1))).r 0 = (((startM (carS x y 1)).did [] ⟨7, (0 : Nat), (2 : Nat), 0⟩).r 0) := by simp [endM, carI, line_cons, line_nil]
      rw [e0, (did_dif _ 0 2 7 (.inl rfl)).1, upd_same]; exact L _
  · intro i hi
    have hi2 : i = 0 ∨ i = 1 := by omega
    rcases ho with ⟨rfl, rfl⟩ | ⟨rfl, rfl⟩
    · have e0 : ∀ i, (endM ((startM (carS x y 2)).line [] (carI 5 6 2))).r i = (((startM (carS x y 2)).did [] ⟨5, (0 : Nat), (2 : Nat), 0⟩).did [] ⟨6, (1 : Nat), (3 : Nat), 0⟩).r i := by simp [endM, carI, line_cons, line_nil]
      rw [e0, (did_sum _ 1 3 6 (.inr rfl)).1]
      rcases hi2 with rfl | rfl
      · rw [upd_other _ _ _ _ (by decide), (did_sum _ 0 2 5 (.inl rfl)).1, upd_same]; exact L _
      · rw [upd_same]; exact L _
    · have e0 : ∀ i, (endM ((startM (carS x y 2)).line [] (carI 7 8 2))).r i = (((startM (carS x y 2)).did [] ⟨7, (0 : Nat), (2 : Nat), 0⟩).did [] ⟨8, (1 : Nat), (3 : Nat), 0⟩).r i := by simp [endM, carI, line_cons, line_nil]
      rw [e0, (did_dif _ 1 3 8 (.inr rfl)).1]
      rcases hi2 with rfl | rfl
      · rw [upd_other _ _ _ _ (by decide), (did_dif _ 0 2 7 (.inl rfl)).1, upd_same]; exact L _
      · rw [upd_same]; exact L _
end Go.Proofs.Ytjlbenbfmookoab
