/-
  What AddWords and SubWords answer of two lists of one to four words: the words that come, in a new block, and the flags.
-/
import Derived.Test.YtmjnihepgglbdaaLoop
namespace Go.Proofs.Ytmjnihepgglbdaa
open Go.RowKit
set_option linter.unusedSimpArgs false
set_option linter.unusedVariables false

theorem Lp.same {w u : World} {k L pr pd pc po pl : Nat} {c : Bool} {out out' : Nat → Int} {f : Bool × Bool × Bool × Bool} (M : Lp w k L pr pd pc po pl c out f u) (h : ∀ j, j < L → out j = out' j) : Lp w k L pr pd pc po pl c out' f u :=
  ⟨M.bel, M.sz, M.d, M.c, M.cf, fun j hj => by rw [← h j hj]; exact M.o j hj, M.of, M.l0, M.l1, M.l2, M.l3, M.lf0, M.lf1, M.lf2, M.lf3, M.r, M.rf⟩

/-- The end of the chain: the words, and the flags in the result. -/
structure Last (w : World) (L pr po : Nat) (out : Nat → Int) (f : Bool × Bool × Bool × Bool) (u : World) : Prop where
  bel : Below w.heap.size w u
  sz : po < u.heap.size
  o : ∀ j, j < L → u.cell? ⟨po, j, none⟩ = some (.int .i64 (out j))
  r0 : u.cell? ⟨pr, 0, none⟩ = some (.bool f.1)
  r1 : u.cell? ⟨pr, 1, none⟩ = some (.bool f.2.1)
  r2 : u.cell? ⟨pr, 2, none⟩ = some (.bool f.2.2.1)
  r3 : u.cell? ⟨pr, 3, none⟩ = some (.bool f.2.2.2)
theorem Last.drew {w u : World} {L pr po : Nat} {out : Nat → Int} {f : Bool × Bool × Bool × Bool} (M : Last w L pr po out f u) : Last w L pr po out f u.drew :=
  ⟨M.bel.drew, M.sz, M.o, M.r0, M.r1, M.r2, M.r3⟩
theorem last_of {w u : World} {k L pr pd pc po pl : Nat} {c z : Bool} {out out' : Nat → Int} {f : Bool × Bool × Bool × Bool} (M : Lp w k L pr pd pc po pl c out f u) (h : Ord w.heap.size pr pd pc po pl) (ho : ∀ j, j < L → out j = out' j) :
    Last w L pr po out' (f.1, z, f.2.2.1, f.2.2.2) (((((u.setCell ⟨pl, 1, none⟩ (.bool z)).setCell ⟨pr, 0, none⟩ (.bool f.1)).setCell ⟨pr, 1, none⟩ (.bool z)).setCell ⟨pr, 2, none⟩ (.bool f.2.2.1)).setCell ⟨pr, 3, none⟩ (.bool f.2.2.2)) := by
  obtain ⟨h0, h1, h2, h3, h4⟩ := h
  have s : ∀ {p : Addr} {t : World} {v : Value}, (t.setCell p v).heap.size = t.heap.size := by intro p t v; simp [World.setCell]
  obtain ⟨v0, e0⟩ := M.r 0 (by decide)
  obtain ⟨v1, e1⟩ := M.r 1 (by decide)
  obtain ⟨v2, e2⟩ := M.r 2 (by decide)
  obtain ⟨v3, e3⟩ := M.r 3 (by decide)
  refine ⟨((((M.bel.setCell (p := ⟨pl, 1, none⟩) (by show _ ≤ pl; omega) _).setCell (p := ⟨pr, 0, none⟩) h0 _).setCell (p := ⟨pr, 1, none⟩) h0 _).setCell (p := ⟨pr, 2, none⟩) h0 _).setCell (p := ⟨pr, 3, none⟩) h0 _, ?_, ?_, ?_, ?_, ?_, ?_⟩
  · rw [s, s, s, s, s]; have := M.sz; omega
  · intro j hj
    rw [oth (ad_ne (.inl (by omega))), oth (ad_ne (.inl (by omega))), oth (ad_ne (.inl (by omega))), oth (ad_ne (.inl (by omega))), oth (ad_ne (.inl (by omega))), ← ho j hj]
    exact M.o j hj
  · rw [oth (ad_ne (.inr (by decide))), oth (ad_ne (.inr (by decide))), oth (ad_ne (.inr (by decide)))]
    exact sam ((oth (ad_ne (.inl (by omega)))).trans e0)
  · rw [oth (ad_ne (.inr (by decide))), oth (ad_ne (.inr (by decide)))]
    exact sam ((oth (ad_ne (.inr (by decide)))).trans ((oth (ad_ne (.inl (by omega)))).trans e1))
  · rw [oth (ad_ne (.inr (by decide)))]
    exact sam ((oth (ad_ne (.inr (by decide)))).trans ((oth (ad_ne (.inr (by decide)))).trans ((oth (ad_ne (.inl (by omega)))).trans e2)))
  · exact sam ((oth (ad_ne (.inr (by decide)))).trans ((oth (ad_ne (.inr (by decide)))).trans ((oth (ad_ne (.inr (by decide)))).trans ((oth (ad_ne (.inl (by omega)))).trans e3))))

theorem make_any (L : Nat) (h : 1 ≤ L) (h' : L ≤ 4) : ∃ cells : Array Value, (∀ j, j < L → cells[j]? = some (.int .i64 0)) ∧ ∀ w : World, (Instr.makeSlice 22 (.int .i64 L) (.int .i64 L)).run Try.prog w = .ok (.slice (some ⟨w.heap.size, 0, none⟩) L L) (w.alloc (.cells cells 3)) := by
  have hl : L = 1 ∨ L = 2 ∨ L = 3 ∨ L = 4 := by omega
  rcases hl with rfl | rfl | rfl | rfl
  · refine ⟨#[.int .i64 0], fun j hj => ?_, fun w => by kernel_rfl⟩
    obtain rfl : j = 0 := by omega
    rfl
  · refine ⟨#[.int .i64 0, .int .i64 0], fun j hj => ?_, fun w => by kernel_rfl⟩
    have hj' : j = 0 ∨ j = 1 := by omega
    rcases hj' with rfl | rfl <;> rfl
  · refine ⟨#[.int .i64 0, .int .i64 0, .int .i64 0], fun j hj => ?_, fun w => by kernel_rfl⟩
    have hj' : j = 0 ∨ j = 1 ∨ j = 2 := by omega
    rcases hj' with rfl | rfl | rfl <;> rfl
  · refine ⟨#[.int .i64 0, .int .i64 0, .int .i64 0, .int .i64 0], fun j hj => ?_, fun w => by kernel_rfl⟩
    have hj' : j = 0 ∨ j = 1 ∨ j = 2 ∨ j = 3 := by omega
    rcases hj' with rfl | rfl | rfl | rfl <;> rfl

theorem few_yes (a : Option Addr) (L k : Nat) (w : World) (h : 1 ≤ L) (h' : L ≤ 4) : Calls Try.prog 34 #[.slice a L k] w fun e w' => e = .returned (.bool true) ∧ w' = w := by
  have e1 : decide ((1 : Int) ≤ (L : Int)) = true := decide_eq_true (by omega)
  have e2 : decide ((L : Int) ≤ 4) = true := decide_eq_true (by omega)
  go_enter Try.func34, Try.ntmps34
  go_wp2
  go_ret
  exact ⟨rfl, rfl⟩

theorem chained_mk (f : Nat) (w : World) : Calls Try.prog 35 #[.func (.func f) #[] #[]] w fun e w' => e = .returned (.func (.func 47) #[] #[.pointer (some ⟨w.heap.size, 0, none⟩), .pointer (some ⟨w.heap.size + 1, 0, none⟩)]) ∧ w' = (w.alloc (.cells #[.func (.func f) #[] #[]] 53)).alloc (.cells #[.bool false] 4) := by
  go_enter Try.func35, Try.ntmps35
  go_wp2
  go_ret
  exact ⟨rfl, rfl⟩

theorem four_end {w u : World} {L pr po : Nat} {out : Nat → Int} {C Z N V : Bool} {v0 v1 v2 v3 : Value} (kb : Below w.heap.size w u) (hz : po < u.heap.size) (ho : ∀ j, j < L → u.cell? ⟨po, j, none⟩ = some (.int .i64 (out j))) (h : w.heap.size ≤ pr ∧ pr < po)
    (e0 : u.cell? ⟨pr, 0, none⟩ = some v0) (e1 : u.cell? ⟨pr, 1, none⟩ = some v1) (e2 : u.cell? ⟨pr, 2, none⟩ = some v2) (e3 : u.cell? ⟨pr, 3, none⟩ = some v3) :
    Last w L pr po out (C, Z, N, V) ((((u.setCell ⟨pr, 0, none⟩ (.bool C)).setCell ⟨pr, 1, none⟩ (.bool Z)).setCell ⟨pr, 2, none⟩ (.bool N)).setCell ⟨pr, 3, none⟩ (.bool V)) := by
  obtain ⟨h0, h1⟩ := h
  have s : ∀ {p : Addr} {t : World} {v : Value}, (t.setCell p v).heap.size = t.heap.size := by intro p t v; simp [World.setCell]
  refine ⟨(((kb.setCell (p := ⟨pr, 0, none⟩) h0 _).setCell (p := ⟨pr, 1, none⟩) h0 _).setCell (p := ⟨pr, 2, none⟩) h0 _).setCell (p := ⟨pr, 3, none⟩) h0 _, ?_, ?_, ?_, ?_, ?_, ?_⟩
  · rw [s, s, s, s]; exact hz
  · intro j hj
    rw [oth (ad_ne (.inl (by omega))), oth (ad_ne (.inl (by omega))), oth (ad_ne (.inl (by omega))), oth (ad_ne (.inl (by omega)))]
    exact ho j hj
  · rw [oth (ad_ne (.inr (by decide))), oth (ad_ne (.inr (by decide))), oth (ad_ne (.inr (by decide)))]
    exact sam e0
  · rw [oth (ad_ne (.inr (by decide))), oth (ad_ne (.inr (by decide)))]
    exact sam ((oth (ad_ne (.inr (by decide)))).trans e1)
  · rw [oth (ad_ne (.inr (by decide)))]
    exact sam ((oth (ad_ne (.inr (by decide)))).trans ((oth (ad_ne (.inr (by decide)))).trans e2))
  · exact sam ((oth (ad_ne (.inr (by decide)))).trans ((oth (ad_ne (.inr (by decide)))).trans ((oth (ad_ne (.inr (by decide)))).trans e3)))

/-- What is carried into word i. -/
def sumcy (xs ys : Nat → Int) : Nat → Bool
  | 0 => false
  | i + 1 => sumt (xs i) (ys i) (sumcy xs ys i) != lw (sumt (xs i) (ys i) (sumcy xs ys i))
/-- Word i. -/
def sumw (xs ys : Nat → Int) (i : Nat) : Int := lw (sumt (xs i) (ys i) (sumcy xs ys i))
/-- Whether the first i words are nought. -/
def sumz (xs ys : Nat → Int) : Nat → Bool
  | 0 => true
  | i + 1 => sumz xs ys i && (sumw xs ys i == 0)
/-- The flags behind i words. -/
def sumf (xs ys : Nat → Int) : Nat → Bool × Bool × Bool × Bool
  | 0 => (false, false, false, false)
  | i + 1 => (sumcy xs ys (i + 1), sumw xs ys i == 0, decide (sw (sumw xs ys i) < 0), sums (xs i) (ys i) (sumcy xs ys i) != sw (sumw xs ys i))

set_option maxRecDepth 100000 in
set_option maxHeartbeats 2000000 in
theorem wbw_sum (L : Nat) (xs ys : Nat → Int) (ba oa ka bb ob kb : Nat) (w : World) (hL : 1 ≤ L) (hL4 : L ≤ 4) (ha : ba < w.heap.size) (hb : bb < w.heap.size)
    (ca : ∀ i, i < L → w.cell? ⟨ba, oa + i, none⟩ = some (.int .i64 (xs i))) (cb : ∀ i, i < L → w.cell? ⟨bb, ob + i, none⟩ = some (.int .i64 (ys i))) :
    Calls Try.prog 20 #[.slice (some ⟨ba, oa, none⟩) L ka, .slice (some ⟨bb, ob, none⟩) L kb, .func (.func 4) #[] #[]] w fun e w' =>
      e = .returned (.tuple #[.slice (some ⟨w.heap.size + 1 + 1 + 1, 0, none⟩) L L, .agg #[.bool (sumf xs ys L).1, .bool (sumz xs ys L), .bool (sumf xs ys L).2.2.1, .bool (sumf xs ys L).2.2.2], .int .i64 0]) ∧ Below w.heap.size w w' ∧ w.heap.size + 1 + 1 + 1 < w'.heap.size ∧ (∀ j, j < L → w'.cell? ⟨w.heap.size + 1 + 1 + 1, j, none⟩ = some (.int .i64 (sumw xs ys j))) := by
  obtain ⟨cells, hcells, hmk⟩ := make_any L hL hL4
  have CA := hide ca
  have CB := hide cb
  clear ca cb
  have HO : Ord w.heap.size w.heap.size (w.heap.size + 1) (w.heap.size + 1 + 1) (w.heap.size + 1 + 1 + 1) (w.heap.size + 1 + 1 + 1 + 1) := by unfold Ord; omega
  have hne : ((L : Int) != (L : Int)) = false := by simp
  go_enter Try.func20, Try.ntmps20
  go_wp2_with (first | (go_at_call 34; refine (few_yes _ _ _ _ hL hL4).mono ?_; rintro e w' ⟨rfl, hw⟩; subst w') | (go_at_call 35; refine (chained_mk _ _).mono ?_; rintro e w' ⟨rfl, hw⟩; subst w'))
  go_loopg [12, 32] L (fun g s t wr => ∃ (i : Nat) (z : Bool), i ≤ L ∧ g = L - i ∧ t = .int .i64 i ∧ s = .bool z ∧ Hid (z = sumz xs ys i) ∧ Lp w 4 L w.heap.size (w.heap.size + 1) (w.heap.size + 1 + 1) (w.heap.size + 1 + 1 + 1) (w.heap.size + 1 + 1 + 1 + 1) (sumcy xs ys i) (fun j => if j < i then sumw xs ys j else 0) (sumf xs ys i) wr)
  case atStart => exact ⟨0, true, Nat.zero_le _, rfl, rfl, rfl, hide rfl, (lp_start w _ L cells _ _ _ _ hcells).same (fun j _ => by simp)⟩
  case round =>
    obtain ⟨i, z, hi, rfl, rfl, rfl, HZ, M⟩ := hrel
    by_cases hlt : i < L
    · have x1 : wr.cell? ⟨ba, oa + i, none⟩ = some (.int .i64 (xs i)) := (M.bel.cell (p := ⟨ba, oa + i, none⟩) ha).trans (unhide CA i hlt)
      have x2 : wr.cell? ⟨bb, ob + i, none⟩ = some (.int .i64 (ys i)) := (M.bel.cell (p := ⟨bb, ob + i, none⟩) hb).trans (unhide CB i hlt)
      have HS : Hid (∀ j, j < L → (if j = i then sumw xs ys i else if j < i then sumw xs ys j else 0) = (if j < i + 1 then sumw xs ys j else 0)) := fun j _ => by
        by_cases e : j = i
        · subst e; rw [if_pos rfl, if_pos (by omega)]
        · rw [if_neg e]
          by_cases e2 : j < i
          · rw [if_pos e2, if_pos (by omega)]
          · rw [if_neg e2, if_neg (by omega)]
      have HC := hide (chained_sum (xs i) (ys i) (sumcy xs ys i))
      have hp1 : w.heap.size + 1 < wr.drew.heap.size := by have := M.sz; show _ < wr.heap.size; omega
      have hp2 : w.heap.size + 1 + 1 < wr.drew.heap.size := by have := M.sz; show _ < wr.heap.size; omega
      have HP1 := hide hp1
      have HP2 := hide hp2
      clear hp1 hp2
      go_upto_region 10 with fail
      go_cut [13] (fun s wx => s = .int .i64 i ∧ Lp w 4 L w.heap.size (w.heap.size + 1) (w.heap.size + 1 + 1) (w.heap.size + 1 + 1 + 1) (w.heap.size + 1 + 1 + 1 + 1) (sumcy xs ys (i + 1)) (fun j => if j < i + 1 then sumw xs ys j else 0) (sumf xs ys (i + 1)) wx)
      case first =>
        go_region_with (first | (go_at_call 47; refine (unhide HC _ (w.heap.size + 1) (w.heap.size + 1 + 1) (unhide HP1) (unhide HP2) M.drew.d M.drew.c M.drew.cf).mono ?_; rintro e v ⟨rfl, on, cc, cf⟩; have M1 := M.drew.call HO on cc cf; have a1 := M1.o i hlt; have a2 := M1.of i hlt; have l0 := M1.l0; have l1 := M1.l1; have l2 := M1.l2; have l3 := M1.l3; have f0 := M1.lf0; have f1 := M1.lf1; have f2 := M1.lf2; have f3 := M1.lf3))
        all_goals
          go_wp2_with fail
          go_meet
          exact ⟨rfl, (M1.put HO hlt _).same (unhide HS)⟩
      case rest =>
        clear x1 x2 HC HP1 HP2
        obtain ⟨rfl, M2⟩ := hcut
        obtain ⟨q, hq⟩ : ∃ q, (sumw xs ys i == 0) = q := ⟨_, rfl⟩
        have l1 : wc.cell? ⟨w.heap.size + 1 + 1 + 1 + 1, 1, none⟩ = some (.bool q) := hq ▸ M2.l1
        have HQ := hide hq
        clear hq
        cases z
        all_goals
          go_wp2_with fail
          go_roundg (L - (i + 1))
          case measure => omega
          case rel =>
            refine ⟨i + 1, _, by omega, rfl, by go_num, rfl, ?_, M2⟩
            have h1 := unhide HZ
            have h2 := unhide HQ
            show _ = (sumz xs ys i && (sumw xs ys i == 0))
            rw [← h1, h2]; simp
    · obtain rfl : i = L := by omega
      clear hlt hi
      have l0 := M.l0
      have l1 := M.l1
      have l2 := M.l2
      have l3 := M.l3
      have f0 := M.lf0
      have f1 := M.lf1
      have f2 := M.lf2
      have f3 := M.lf3
      obtain ⟨v0, r0⟩ := M.r 0 (by decide)
      obtain ⟨v1, r1⟩ := M.r 1 (by decide)
      obtain ⟨v2, r2⟩ := M.r 2 (by decide)
      obtain ⟨v3, r3⟩ := M.r 3 (by decide)
      have g0 := M.rf 0 (by decide)
      have g1 := M.rf 1 (by decide)
      have g2 := M.rf 2 (by decide)
      have g3 := M.rf 3 (by decide)
      have HT : Hid (∀ j, j < i → (if j < i then sumw xs ys j else 0) = sumw xs ys j) := fun j hj => if_pos hj
      go_upto_region 14 with fail
      go_cut [6, 8] (fun s t wx => s = .slice (some ⟨w.heap.size + 1 + 1 + 1, 0, none⟩) i i ∧ t = .int .i64 0 ∧ Last w i w.heap.size (w.heap.size + 1 + 1 + 1) (sumw xs ys) ((sumf xs ys i).1, z, (sumf xs ys i).2.2.1, (sumf xs ys i).2.2.2) wx)
      case first =>
        go_region
        all_goals
          go_wp2_with fail
          go_meet
          exact ⟨rfl, rfl, (last_of M HO (unhide HT)).drew⟩
      case rest =>
        clear M l0 l1 l2 l3 f0 f1 f2 f3 r0 r1 r2 r3 g0 g1 g2 g3
        obtain ⟨rfl, rfl, M⟩ := hcut
        have g0 := M.r0
        have g1 := M.r1
        have g2 := M.r2
        have g3 := M.r3
        go_wp2
        rw [← unhide HZ]
        exact bodyPost_ret (v := .tuple #[.slice (some ⟨w.heap.size + 1 + 1 + 1, 0, none⟩) i i, .agg #[.bool (sumf xs ys i).1, .bool z, .bool (sumf xs ys i).2.2.1, .bool (sumf xs ys i).2.2.2], .int .i64 0]) (by simp [results, Try.results20, go_sem, g0, g1, g2, g3]) rfl ⟨rfl, M.bel, M.sz, M.o⟩

set_option maxHeartbeats 1000000 in
theorem aw_sum (L : Nat) (xs ys : Nat → Int) (ba oa ka bb ob kb : Nat) (w : World) (hL : 1 ≤ L) (hL4 : L ≤ 4) (ha : ba < w.heap.size) (hb : bb < w.heap.size)
    (ca : ∀ i, i < L → w.cell? ⟨ba, oa + i, none⟩ = some (.int .i64 (xs i))) (cb : ∀ i, i < L → w.cell? ⟨bb, ob + i, none⟩ = some (.int .i64 (ys i))) :
    Calls Try.prog 8 #[.slice (some ⟨ba, oa, none⟩) L ka, .slice (some ⟨bb, ob, none⟩) L kb] w fun e w' =>
      e = .returned (.tuple #[.slice (some ⟨w.heap.size + 1 + 1 + 1 + 1, 0, none⟩) L L, .agg #[.bool (sumf xs ys L).1, .bool (sumz xs ys L), .bool (sumf xs ys L).2.2.1, .bool (sumf xs ys L).2.2.2], .int .i64 0]) ∧ Last w L w.heap.size (w.heap.size + 1 + 1 + 1 + 1) (sumw xs ys) ((sumf xs ys L).1, sumz xs ys L, (sumf xs ys L).2.2.1, (sumf xs ys L).2.2.2) w' := by
  have HW := hide (wbw_sum L xs ys ba oa ka bb ob kb (w.alloc (.cells #[.bool false, .bool false, .bool false, .bool false] 24)) hL hL4 (by simp; omega) (by simp; omega) (fun i hi => cell_up _ ha (ca i hi)) (fun i hi => cell_up _ hb (cb i hi)))
  clear ca cb
  simp only [World.size_alloc] at HW
  generalize (sumf xs ys L).1 = C at *
  generalize (sumf xs ys L).2.2.1 = N at *
  generalize (sumf xs ys L).2.2.2 = V at *
  generalize sumz xs ys L = Z at *
  go_enter Try.func8, Try.ntmps8
  go_wp2_with fail
  refine (unhide HW).mono ?_
  rintro e u ⟨rfl, k, hz, ho⟩
  have HO := hide ho
  clear ho HW
  have m0 : u.cell? ⟨w.heap.size, 0, none⟩ = some (.bool false) := by rw [k.cell (p := ⟨w.heap.size, 0, none⟩) (by simp)]; simp [go_sem]
  have m1 : u.cell? ⟨w.heap.size, 1, none⟩ = some (.bool false) := by rw [k.cell (p := ⟨w.heap.size, 1, none⟩) (by simp)]; simp [go_sem]
  have m2 : u.cell? ⟨w.heap.size, 2, none⟩ = some (.bool false) := by rw [k.cell (p := ⟨w.heap.size, 2, none⟩) (by simp)]; simp [go_sem]
  have m3 : u.cell? ⟨w.heap.size, 3, none⟩ = some (.bool false) := by rw [k.cell (p := ⟨w.heap.size, 3, none⟩) (by simp)]; simp [go_sem]
  have n0 : u.frozen? ⟨w.heap.size, 0, none⟩ = false := by rw [k.frozen (p := ⟨w.heap.size, 0, none⟩) (by simp)]; simp [go_sem]
  have n1 : u.frozen? ⟨w.heap.size, 1, none⟩ = false := by rw [k.frozen (p := ⟨w.heap.size, 1, none⟩) (by simp)]; simp [go_sem]
  have n2 : u.frozen? ⟨w.heap.size, 2, none⟩ = false := by rw [k.frozen (p := ⟨w.heap.size, 2, none⟩) (by simp)]; simp [go_sem]
  have n3 : u.frozen? ⟨w.heap.size, 3, none⟩ = false := by rw [k.frozen (p := ⟨w.heap.size, 3, none⟩) (by simp)]; simp [go_sem]
  have kb : Below w.heap.size w u := ((Below.refl w.heap.size w).alloc (Nat.le_refl _) _).trans (k.mono (by simp))
  have E : Last w L w.heap.size (w.heap.size + 1 + 1 + 1 + 1) (sumw xs ys) (C, Z, N, V) ((((u.setCell ⟨w.heap.size, 0, none⟩ (.bool C)).setCell ⟨w.heap.size, 1, none⟩ (.bool Z)).setCell ⟨w.heap.size, 2, none⟩ (.bool N)).setCell ⟨w.heap.size, 3, none⟩ (.bool V)) :=
    four_end kb hz (unhide HO) (by omega) m0 m1 m2 m3
  have g0 := E.r0
  have g1 := E.r1
  have g2 := E.r2
  have g3 := E.r3
  go_wp2
  exact bodyPost_ret (v := .tuple #[.slice (some ⟨w.heap.size + 1 + 1 + 1 + 1, 0, none⟩) L L, .agg #[.bool C, .bool Z, .bool N, .bool V], .int .i64 0]) (by simp [results, Try.results8, go_sem, g0, g1, g2, g3]) rfl ⟨rfl, E⟩

/-- What is carried into word i. -/
def difcy (xs ys : Nat → Int) : Nat → Bool
  | 0 => false
  | i + 1 => dift (xs i) (ys i) (difcy xs ys i) != lw (dift (xs i) (ys i) (difcy xs ys i))
/-- Word i. -/
def difw (xs ys : Nat → Int) (i : Nat) : Int := lw (dift (xs i) (ys i) (difcy xs ys i))
/-- Whether the first i words are nought. -/
def difz (xs ys : Nat → Int) : Nat → Bool
  | 0 => true
  | i + 1 => difz xs ys i && (difw xs ys i == 0)
/-- The flags behind i words. -/
def diff (xs ys : Nat → Int) : Nat → Bool × Bool × Bool × Bool
  | 0 => (false, false, false, false)
  | i + 1 => (difcy xs ys (i + 1), difw xs ys i == 0, decide (sw (difw xs ys i) < 0), difs (xs i) (ys i) (difcy xs ys i) != sw (difw xs ys i))

set_option maxRecDepth 100000 in
set_option maxHeartbeats 2000000 in
theorem wbw_dif (L : Nat) (xs ys : Nat → Int) (ba oa ka bb ob kb : Nat) (w : World) (hL : 1 ≤ L) (hL4 : L ≤ 4) (ha : ba < w.heap.size) (hb : bb < w.heap.size)
    (ca : ∀ i, i < L → w.cell? ⟨ba, oa + i, none⟩ = some (.int .i64 (xs i))) (cb : ∀ i, i < L → w.cell? ⟨bb, ob + i, none⟩ = some (.int .i64 (ys i))) :
    Calls Try.prog 20 #[.slice (some ⟨ba, oa, none⟩) L ka, .slice (some ⟨bb, ob, none⟩) L kb, .func (.func 6) #[] #[]] w fun e w' =>
      e = .returned (.tuple #[.slice (some ⟨w.heap.size + 1 + 1 + 1, 0, none⟩) L L, .agg #[.bool (diff xs ys L).1, .bool (difz xs ys L), .bool (diff xs ys L).2.2.1, .bool (diff xs ys L).2.2.2], .int .i64 0]) ∧ Below w.heap.size w w' ∧ w.heap.size + 1 + 1 + 1 < w'.heap.size ∧ (∀ j, j < L → w'.cell? ⟨w.heap.size + 1 + 1 + 1, j, none⟩ = some (.int .i64 (difw xs ys j))) := by
  obtain ⟨cells, hcells, hmk⟩ := make_any L hL hL4
  have CA := hide ca
  have CB := hide cb
  clear ca cb
  have HO : Ord w.heap.size w.heap.size (w.heap.size + 1) (w.heap.size + 1 + 1) (w.heap.size + 1 + 1 + 1) (w.heap.size + 1 + 1 + 1 + 1) := by unfold Ord; omega
  have hne : ((L : Int) != (L : Int)) = false := by simp
  go_enter Try.func20, Try.ntmps20
  go_wp2_with (first | (go_at_call 34; refine (few_yes _ _ _ _ hL hL4).mono ?_; rintro e w' ⟨rfl, hw⟩; subst w') | (go_at_call 35; refine (chained_mk _ _).mono ?_; rintro e w' ⟨rfl, hw⟩; subst w'))
  go_loopg [12, 32] L (fun g s t wr => ∃ (i : Nat) (z : Bool), i ≤ L ∧ g = L - i ∧ t = .int .i64 i ∧ s = .bool z ∧ Hid (z = difz xs ys i) ∧ Lp w 6 L w.heap.size (w.heap.size + 1) (w.heap.size + 1 + 1) (w.heap.size + 1 + 1 + 1) (w.heap.size + 1 + 1 + 1 + 1) (difcy xs ys i) (fun j => if j < i then difw xs ys j else 0) (diff xs ys i) wr)
  case atStart => exact ⟨0, true, Nat.zero_le _, rfl, rfl, rfl, hide rfl, (lp_start w _ L cells _ _ _ _ hcells).same (fun j _ => by simp)⟩
  case round =>
    obtain ⟨i, z, hi, rfl, rfl, rfl, HZ, M⟩ := hrel
    by_cases hlt : i < L
    · have x1 : wr.cell? ⟨ba, oa + i, none⟩ = some (.int .i64 (xs i)) := (M.bel.cell (p := ⟨ba, oa + i, none⟩) ha).trans (unhide CA i hlt)
      have x2 : wr.cell? ⟨bb, ob + i, none⟩ = some (.int .i64 (ys i)) := (M.bel.cell (p := ⟨bb, ob + i, none⟩) hb).trans (unhide CB i hlt)
      have HS : Hid (∀ j, j < L → (if j = i then difw xs ys i else if j < i then difw xs ys j else 0) = (if j < i + 1 then difw xs ys j else 0)) := fun j _ => by
        by_cases e : j = i
        · subst e; rw [if_pos rfl, if_pos (by omega)]
        · rw [if_neg e]
          by_cases e2 : j < i
          · rw [if_pos e2, if_pos (by omega)]
          · rw [if_neg e2, if_neg (by omega)]
      have HC := hide (chained_dif (xs i) (ys i) (difcy xs ys i))
      have hp1 : w.heap.size + 1 < wr.drew.heap.size := by have := M.sz; show _ < wr.heap.size; omega
      have hp2 : w.heap.size + 1 + 1 < wr.drew.heap.size := by have := M.sz; show _ < wr.heap.size; omega
      have HP1 := hide hp1
      have HP2 := hide hp2
      clear hp1 hp2
      go_upto_region 10 with fail
      go_cut [13] (fun s wx => s = .int .i64 i ∧ Lp w 6 L w.heap.size (w.heap.size + 1) (w.heap.size + 1 + 1) (w.heap.size + 1 + 1 + 1) (w.heap.size + 1 + 1 + 1 + 1) (difcy xs ys (i + 1)) (fun j => if j < i + 1 then difw xs ys j else 0) (diff xs ys (i + 1)) wx)
      case first =>
        go_region_with (first | (go_at_call 47; refine (unhide HC _ (w.heap.size + 1) (w.heap.size + 1 + 1) (unhide HP1) (unhide HP2) M.drew.d M.drew.c M.drew.cf).mono ?_; rintro e v ⟨rfl, on, cc, cf⟩; have M1 := M.drew.call HO on cc cf; have a1 := M1.o i hlt; have a2 := M1.of i hlt; have l0 := M1.l0; have l1 := M1.l1; have l2 := M1.l2; have l3 := M1.l3; have f0 := M1.lf0; have f1 := M1.lf1; have f2 := M1.lf2; have f3 := M1.lf3))
        all_goals
          go_wp2_with fail
          go_meet
          exact ⟨rfl, (M1.put HO hlt _).same (unhide HS)⟩
      case rest =>
        clear x1 x2 HC HP1 HP2
        obtain ⟨rfl, M2⟩ := hcut
        obtain ⟨q, hq⟩ : ∃ q, (difw xs ys i == 0) = q := ⟨_, rfl⟩
        have l1 : wc.cell? ⟨w.heap.size + 1 + 1 + 1 + 1, 1, none⟩ = some (.bool q) := hq ▸ M2.l1
        have HQ := hide hq
        clear hq
        cases z
        all_goals
          go_wp2_with fail
          go_roundg (L - (i + 1))
          case measure => omega
          case rel =>
            refine ⟨i + 1, _, by omega, rfl, by go_num, rfl, ?_, M2⟩
            have h1 := unhide HZ
            have h2 := unhide HQ
            show _ = (difz xs ys i && (difw xs ys i == 0))
            rw [← h1, h2]; simp
    · obtain rfl : i = L := by omega
      clear hlt hi
      have l0 := M.l0
      have l1 := M.l1
      have l2 := M.l2
      have l3 := M.l3
      have f0 := M.lf0
      have f1 := M.lf1
      have f2 := M.lf2
      have f3 := M.lf3
      obtain ⟨v0, r0⟩ := M.r 0 (by decide)
      obtain ⟨v1, r1⟩ := M.r 1 (by decide)
      obtain ⟨v2, r2⟩ := M.r 2 (by decide)
      obtain ⟨v3, r3⟩ := M.r 3 (by decide)
      have g0 := M.rf 0 (by decide)
      have g1 := M.rf 1 (by decide)
      have g2 := M.rf 2 (by decide)
      have g3 := M.rf 3 (by decide)
      have HT : Hid (∀ j, j < i → (if j < i then difw xs ys j else 0) = difw xs ys j) := fun j hj => if_pos hj
      go_upto_region 14 with fail
      go_cut [6, 8] (fun s t wx => s = .slice (some ⟨w.heap.size + 1 + 1 + 1, 0, none⟩) i i ∧ t = .int .i64 0 ∧ Last w i w.heap.size (w.heap.size + 1 + 1 + 1) (difw xs ys) ((diff xs ys i).1, z, (diff xs ys i).2.2.1, (diff xs ys i).2.2.2) wx)
      case first =>
        go_region
        all_goals
          go_wp2_with fail
          go_meet
          exact ⟨rfl, rfl, (last_of M HO (unhide HT)).drew⟩
      case rest =>
        clear M l0 l1 l2 l3 f0 f1 f2 f3 r0 r1 r2 r3 g0 g1 g2 g3
        obtain ⟨rfl, rfl, M⟩ := hcut
        have g0 := M.r0
        have g1 := M.r1
        have g2 := M.r2
        have g3 := M.r3
        go_wp2
        rw [← unhide HZ]
        exact bodyPost_ret (v := .tuple #[.slice (some ⟨w.heap.size + 1 + 1 + 1, 0, none⟩) i i, .agg #[.bool (diff xs ys i).1, .bool z, .bool (diff xs ys i).2.2.1, .bool (diff xs ys i).2.2.2], .int .i64 0]) (by simp [results, Try.results20, go_sem, g0, g1, g2, g3]) rfl ⟨rfl, M.bel, M.sz, M.o⟩

set_option maxHeartbeats 1000000 in
theorem aw_dif (L : Nat) (xs ys : Nat → Int) (ba oa ka bb ob kb : Nat) (w : World) (hL : 1 ≤ L) (hL4 : L ≤ 4) (ha : ba < w.heap.size) (hb : bb < w.heap.size)
    (ca : ∀ i, i < L → w.cell? ⟨ba, oa + i, none⟩ = some (.int .i64 (xs i))) (cb : ∀ i, i < L → w.cell? ⟨bb, ob + i, none⟩ = some (.int .i64 (ys i))) :
    Calls Try.prog 11 #[.slice (some ⟨ba, oa, none⟩) L ka, .slice (some ⟨bb, ob, none⟩) L kb] w fun e w' =>
      e = .returned (.tuple #[.slice (some ⟨w.heap.size + 1 + 1 + 1 + 1, 0, none⟩) L L, .agg #[.bool (diff xs ys L).1, .bool (difz xs ys L), .bool (diff xs ys L).2.2.1, .bool (diff xs ys L).2.2.2], .int .i64 0]) ∧ Last w L w.heap.size (w.heap.size + 1 + 1 + 1 + 1) (difw xs ys) ((diff xs ys L).1, difz xs ys L, (diff xs ys L).2.2.1, (diff xs ys L).2.2.2) w' := by
  have HW := hide (wbw_dif L xs ys ba oa ka bb ob kb (w.alloc (.cells #[.bool false, .bool false, .bool false, .bool false] 24)) hL hL4 (by simp; omega) (by simp; omega) (fun i hi => cell_up _ ha (ca i hi)) (fun i hi => cell_up _ hb (cb i hi)))
  clear ca cb
  simp only [World.size_alloc] at HW
  generalize (diff xs ys L).1 = C at *
  generalize (diff xs ys L).2.2.1 = N at *
  generalize (diff xs ys L).2.2.2 = V at *
  generalize difz xs ys L = Z at *
  go_enter Try.func11, Try.ntmps11
  go_wp2_with fail
  refine (unhide HW).mono ?_
  rintro e u ⟨rfl, k, hz, ho⟩
  have HO := hide ho
  clear ho HW
  have m0 : u.cell? ⟨w.heap.size, 0, none⟩ = some (.bool false) := by rw [k.cell (p := ⟨w.heap.size, 0, none⟩) (by simp)]; simp [go_sem]
  have m1 : u.cell? ⟨w.heap.size, 1, none⟩ = some (.bool false) := by rw [k.cell (p := ⟨w.heap.size, 1, none⟩) (by simp)]; simp [go_sem]
  have m2 : u.cell? ⟨w.heap.size, 2, none⟩ = some (.bool false) := by rw [k.cell (p := ⟨w.heap.size, 2, none⟩) (by simp)]; simp [go_sem]
  have m3 : u.cell? ⟨w.heap.size, 3, none⟩ = some (.bool false) := by rw [k.cell (p := ⟨w.heap.size, 3, none⟩) (by simp)]; simp [go_sem]
  have n0 : u.frozen? ⟨w.heap.size, 0, none⟩ = false := by rw [k.frozen (p := ⟨w.heap.size, 0, none⟩) (by simp)]; simp [go_sem]
  have n1 : u.frozen? ⟨w.heap.size, 1, none⟩ = false := by rw [k.frozen (p := ⟨w.heap.size, 1, none⟩) (by simp)]; simp [go_sem]
  have n2 : u.frozen? ⟨w.heap.size, 2, none⟩ = false := by rw [k.frozen (p := ⟨w.heap.size, 2, none⟩) (by simp)]; simp [go_sem]
  have n3 : u.frozen? ⟨w.heap.size, 3, none⟩ = false := by rw [k.frozen (p := ⟨w.heap.size, 3, none⟩) (by simp)]; simp [go_sem]
  have kb : Below w.heap.size w u := ((Below.refl w.heap.size w).alloc (Nat.le_refl _) _).trans (k.mono (by simp))
  have E : Last w L w.heap.size (w.heap.size + 1 + 1 + 1 + 1) (difw xs ys) (C, Z, N, V) ((((u.setCell ⟨w.heap.size, 0, none⟩ (.bool C)).setCell ⟨w.heap.size, 1, none⟩ (.bool Z)).setCell ⟨w.heap.size, 2, none⟩ (.bool N)).setCell ⟨w.heap.size, 3, none⟩ (.bool V)) :=
    four_end kb hz (unhide HO) (by omega) m0 m1 m2 m3
  have g0 := E.r0
  have g1 := E.r1
  have g2 := E.r2
  have g3 := E.r3
  go_wp2
  exact bodyPost_ret (v := .tuple #[.slice (some ⟨w.heap.size + 1 + 1 + 1 + 1, 0, none⟩) L L, .agg #[.bool C, .bool Z, .bool N, .bool V], .int .i64 0]) (by simp [results, Try.results11, go_sem, g0, g1, g2, g3]) rfl ⟨rfl, E⟩

end Go.Proofs.Ytmjnihepgglbdaa
