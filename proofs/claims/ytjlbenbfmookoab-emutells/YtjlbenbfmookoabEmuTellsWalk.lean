/-
  EmuTells, walked.
-/
import Derived.Test.YtjlbenbfmookoabEmuL
import Derived.Test.YtjlbenbfmookoabAlive3
import Derived.Test.YtjlbenbfmookoabRefT
namespace Go.Proofs.Ytjlbenbfmookoab
open Go.RowKit
set_option linter.unusedSimpArgs false
set_option linter.unusedVariables false

def tellsI : List Ins := [⟨31, 2, 0, 0⟩, ⟨22, 0, 0, 6⟩, ⟨30, 0, 2, 0⟩, ⟨19, 0, 0, 0⟩, ⟨0, 0, 0, 0⟩]
def tellsW : List Int := [32000, 22528, 6, 30752, 19456, 0, 0]
theorem tells_enc : encA tellsI = (tellsW, 0, 0) := by decide
theorem tw0 : oneA tellsW 0 = (⟨31, 2, 0, 0⟩, 1) := by kernel_rfl
theorem tw1 : oneA tellsW 1 = (⟨22, 0, 0, 6⟩, 2) := by kernel_rfl
theorem tw3 : oneA tellsW 3 = (⟨30, 0, 2, 0⟩, 1) := by kernel_rfl
theorem tw4 : oneA tellsW 4 = (⟨19, 0, 0, 0⟩, 2) := by kernel_rfl
theorem tw6 : oneA tellsW 6 = (⟨0, 0, 0, 0⟩, 1) := by kernel_rfl
theorem ts1 (m : Ma) (bs : List Int) (hp : m.pc = 0) (hh : m.how = 0) (hr : m.rd < bs.length) : m.step tellsW bs = { m with took := m.took + 1, pc := 1, c := false, rd := m.rd + 1, r := upd m.r 2 (bs.getD m.rd 0) } := by
  unfold Ma.step
  rw [hp, tw0]
  have hne : ¬ m.rd = bs.length := by omega
  simp [Ma.act, Ma.take, Ma.took1, Ma.setR, hne, hh, lw]
theorem ts1e (m : Ma) (bs : List Int) (hp : m.pc = 0) (hh : m.how = 0) (hr : m.rd = bs.length) : m.step tellsW bs = { m with took := m.took + 1, pc := 1, c := true, r := upd m.r 2 0 } := by
  unfold Ma.step
  rw [hp, tw0]
  simp [Ma.act, Ma.take, Ma.took1, Ma.setR, hr, hh, lw]
theorem ts2 (m : Ma) (bs : List Int) (hp : m.pc = 1) (hh : m.how = 0) : m.step tellsW bs = { m with took := m.took + 1, pc := if m.c = true then 6 else 3 } := by
  unfold Ma.step
  rw [hp, tw1]
  cases hc : m.c <;> simp [Ma.act, Ma.jump, Ma.jumps, hc, hh, lw]
theorem ts3 (m : Ma) (bs : List Int) (hp : m.pc = 3) (hh : m.how = 0) (ho : ¬ m.out.length = 65536) : m.step tellsW bs = { m with took := m.took + 1, pc := 4, out := m.out ++ [m.r 2 % 256] } := by
  unfold Ma.step
  rw [hp, tw3]
  simp [Ma.act, Ma.tell, Ma.reg, hh, ho, lw]
theorem ts4 (m : Ma) (bs : List Int) (hp : m.pc = 4) (hh : m.how = 0) : m.step tellsW bs = { m with took := m.took + 1, pc := 0 } := by
  unfold Ma.step
  rw [hp, tw4]
  simp [Ma.act, Ma.jump, Ma.jumps, hh, lw]
theorem ts6 (m : Ma) (bs : List Int) (hp : m.pc = 6) (hh : m.how = 0) : m.step tellsW bs = { m with took := m.took + 1, how := 1 } := by
  unfold Ma.step
  rw [hp, tw6]
  simp [Ma.act, hp]
theorem run_next (xs bs : List Int) (k : Nat) (m : Ma) (h : m.how = 0) : Ma.run xs bs (k + 1) m = Ma.run xs bs k (m.step xs bs) := by rw [Ma.run, if_pos h]
theorem run3 (xs bs : List Int) (k : Nat) (m m1 m2 m3 : Ma) (h0 : m.how = 0) (e1 : m.step xs bs = m1) (h1 : m1.how = 0) (e2 : m1.step xs bs = m2) (h2 : m2.how = 0) (e3 : m2.step xs bs = m3) : Ma.run xs bs (k + 3) m = Ma.run xs bs k m3 := by
  rw [run_next _ _ (k + 2) _ h0, e1, run_next _ _ (k + 1) _ h1, e2, run_next _ _ k _ h2, e3]
theorem run4 (xs bs : List Int) (k : Nat) (m m1 m2 m3 m4 : Ma) (h0 : m.how = 0) (e1 : m.step xs bs = m1) (h1 : m1.how = 0) (e2 : m1.step xs bs = m2) (h2 : m2.how = 0) (e3 : m2.step xs bs = m3) (h3 : m3.how = 0) (e4 : m3.step xs bs = m4) : Ma.run xs bs (k + 4) m = Ma.run xs bs k m4 := by
  rw [run3 _ _ (k + 1) _ _ _ _ h0 e1 h1 e2 h2 e3, run_next _ _ k _ h3, e4]

theorem tells_run (bs : List Int) (hb : ∀ x ∈ bs, 0 ≤ x ∧ x ≤ 255) (hl : bs.length ≤ 2000) : ∀ (d k : Nat) (m : Ma), d + m.rd = bs.length → m.pc = 0 → m.how = 0 → m.out = bs.take m.rd → m.mem = (fun _ => 0) → m.took = 4 * m.rd →
    (Ma.run tellsW bs (k + 4 * d + 3) m).how = 1 ∧ (Ma.run tellsW bs (k + 4 * d + 3) m).rd = bs.length ∧ (Ma.run tellsW bs (k + 4 * d + 3) m).took = 4 * bs.length + 3 ∧ (Ma.run tellsW bs (k + 4 * d + 3) m).out = bs ∧ (Ma.run tellsW bs (k + 4 * d + 3) m).mem = (fun _ => 0)
  | 0, k, m, h0, hp, hh, ho, hm, ht => by
    have hr : m.rd = bs.length := by omega
    rw [show k + 4 * 0 + 3 = k + 3 by omega, run3 tellsW bs k m _ _ _ hh (ts1e m bs hp hh hr) hh (ts2 _ bs rfl hh) hh (ts6 _ bs rfl hh), run_end _ _ _ _ (by show ¬ (1 : Int) = 0; decide)]
    refine ⟨rfl, hr, ?_, ?_, hm⟩
    · show m.took + 1 + 1 + 1 = _; rw [ht, hr]; omega
    · show m.out = bs; rw [ho, hr, List.take_length]
  | d + 1, k, m, h0, hp, hh, ho, hm, ht => by
    have hr : m.rd < bs.length := by omega
    have hlo : m.out.length = m.rd := by rw [ho, List.length_take]; omega
    have hx := hb bs[m.rd] (List.getElem_mem hr)
    rw [show k + 4 * (d + 1) + 3 = (k + 4 * d + 3) + 4 by omega, run4 tellsW bs (k + 4 * d + 3) m _ _ _ _ hh (ts1 m bs hp hh hr) hh (ts2 _ bs rfl hh) hh (ts3 _ bs rfl hh (by show ¬ m.out.length = 65536; omega)) hh (ts4 _ bs rfl hh)]
    refine tells_run bs hb hl d k _ (by show d + (m.rd + 1) = _; omega) rfl hh ?_ hm ?_
    · show m.out ++ [upd m.r 2 (bs.getD m.rd 0) 2 % 256] = bs.take (m.rd + 1)
      rw [upd_same, ho, List.getD_eq_getElem?_getD, List.getElem?_eq_getElem hr, Option.getD_some, List.take_succ_eq_append_getElem hr, Int.emod_eq_of_lt hx.1 (by omega)]
    · show m.took + 1 + 1 + 1 + 1 = 4 * ((m.rd + 1 : Nat) : Int); rw [ht]; omega
theorem tells_all (bs : List Int) (hb : ∀ x ∈ bs, 0 ≤ x ∧ x ≤ 255) (hl : bs.length ≤ 2000) : (runA tellsW zeroSt bs 10000).2 = 0 ∧ (runA tellsW zeroSt bs 10000).1.how = 1 ∧ (runA tellsW zeroSt bs 10000).1.rd = bs.length ∧ (runA tellsW zeroSt bs 10000).1.took = 4 * bs.length + 3 ∧ (runA tellsW zeroSt bs 10000).1.out = bs ∧ memL (runA tellsW zeroSt bs 10000).1.mem = [] := by
  have e : runA tellsW zeroSt bs 10000 = (Ma.run tellsW bs 10000 (startM zeroSt), 0) := by
    unfold runA
    rw [if_neg (by decide), if_neg (by omega), if_pos (by decide), if_neg (by decide), if_neg (by decide)]
    rfl
  rw [e]
  obtain ⟨g1, g2, g3, g4, g5⟩ := tells_run bs hb hl bs.length (9997 - 4 * bs.length) (startM zeroSt) (by show bs.length + 0 = _; omega) rfl rfl rfl (by show (fun j => ([] : List Int).getD j 0) = _; simp) rfl
  rw [show 9997 - 4 * bs.length + 4 * bs.length + 3 = 10000 by omega] at g1 g2 g3 g4 g5
  exact ⟨rfl, g1, g2, g3, g4, by dsimp only; rw [g5]; exact memL_zero⟩

set_option maxRecDepth 100000 in
set_option maxHeartbeats 2000000 in
theorem walk_emuTells (bs : List Int) (vi : Value) (w : World) (hi : Byts w vi bs) (hb : ∀ x ∈ bs, 0 ≤ x ∧ x ≤ 255) :
    Calls Try.prog 8 #[vi] w fun e w' => e = .returned (.bool true) ∧ Below w.heap.size w w' := by
  have HI := hideI hi
  obtain ⟨io, icap, rfl, hmax, _⟩ := hi.at
  unfold maxLen at hmax
  clear hi
  by_cases hl : 2000 < bs.length
  · have b1 : decide ((2000 : Int) < bs.length) = true := by simp; omega
    go_enter Try.func8, Try.ntmps8
    go_wp2_with fail
    refine (alive3 _).mono ?_
    rintro e w1 ⟨rfl, k1⟩
    go_wp2_with fail
    go_ret
    exact ⟨rfl, k1⟩
  have b1 : decide ((2000 : Int) < bs.length) = false := by simp; omega
  have hl2 : bs.length ≤ 2000 := by omega
  have E := fun v w h => encode_any tellsI v w h
  rw [tells_enc] at E
  have R := hideI (fun vc vm vi w hc hm hi => run_any tellsW zeroSt bs 10000 vc vm vi w hc hm hi hb)
  unfold St.val St.cells zeroSt at R
  dsimp only at R
  have TA := tells_all bs hb hl2
  unfold zeroSt at TA
  generalize hFF : (10000 : Int) = FF at R TA
  generalize runA tellsW _ bs FF = RR at *
  generalize tellsW = TW at *
  obtain ⟨mm, er⟩ := RR
  dsimp only at TA R
  obtain ⟨q0, q1⟩ := TA
  have Q := hideI q1
  clear q1 hb
  subst q0
  go_enter Try.func8, Try.ntmps8
  go_wp2_with fail
  refine (alive3 _).mono ?_
  rintro e w1 ⟨rfl, k1⟩
  have K0 := hideI k1
  clear k1
  go_wp2_with fail
  refine (E _ _ ?h).mono ?_
  case h =>
    refine ⟨rfl, _, 5, rfl, Nat.le_refl _, by decide, (fun h => by cases h), fun _ => ⟨w1.heap.size, 0, rfl, by simp, fun j hj => ?_⟩⟩
    have hj' : j = 0 ∨ j = 1 ∨ j = 2 ∨ j = 3 ∨ j = 4 ∨ j = 5 ∨ j = 6 ∨ j = 7 ∨ j = 8 ∨ j = 9 ∨ j = 10 ∨ j = 11 ∨ j = 12 ∨ j = 13 ∨ j = 14 ∨ j = 15 ∨ j = 16 ∨ j = 17 ∨ j = 18 ∨ j = 19 := by simp [tellsI] at hj; omega
    rcases hj' with rfl | rfl | rfl | rfl | rfl | rfl | rfl | rfl | rfl | rfl | rfl | rfl | rfl | rfl | rfl | rfl | rfl | rfl | rfl | rfl <;> simp [go_sem, cells4, tellsI]
  rintro e w2 ⟨v1, rfl, i1, _, k1⟩
  have I1 := hideI i1
  obtain ⟨ao, cap, rfl, _, _⟩ := i1.at
  clear i1
  have K1 := hideI (bt (bt (unhideI K0) (bt (below_a _ _) k1)) (below_a w2 (.cells #[.int .i64 0, .int .i64 0] 62)))
  clear k1
  go_wp2_with fail
  refine (unhideI R _ (.slice none 0 0) _ _ ((unhideI I1).step (below_a _ _)) (Lies.nil _ _) (Lies.step (unhideI HI) (unhideI K1))).mono ?_
  rintro e w3 ⟨vo, vm, rfl, i2, o2, k2, _⟩
  have KF := (Box.new w2 #[.int .i64 0, .int .i64 0] 62).step k2
  have KK := hideI (bt (unhideI K1) k2)
  have I2 := hideI i2
  have O2 := hideI o2
  obtain ⟨mo, mcap, rfl, _, _⟩ := i2.at
  obtain ⟨oo, ocap, rfl, _, _⟩ := o2.at
  clear i2 o2 k2 R E I1
  unfold ranV
  go_wp2_with (refine wpList_store_row rfl 31 (.tmp 5) (.tmp 27) rfl w3.heap.size (ranC mm (.slice oo mm.out.length ocap) (.slice mo (memL mm.mem).length mcap)) rfl rfl 31 #[.int .i64 0, .int .i64 0, .slice none 0 0, .int .i64 0, .int .i64 0, .int .i64 0, .int .i64 0, .int .i64 0, .int .i64 0, .int .i64 0, .int .i64 0, .int .i64 0, .int .i64 0, .bool false, .bool false, .bool false, .bool false, .int .i64 0, .slice none 0 0] (heap_new _ _) Try.sizeRan rfl (ranC_one _ _ _ _ _ _ _) ?_; have SN := store_new w3 #[.int .i64 0, .int .i64 0, .slice none 0 0, .int .i64 0, .int .i64 0, .int .i64 0, .int .i64 0, .int .i64 0, .int .i64 0, .int .i64 0, .int .i64 0, .int .i64 0, .int .i64 0, .bool false, .bool false, .bool false, .bool false, .int .i64 0, .slice none 0 0] (ranC mm (.slice oo mm.out.length ocap) (.slice mo (memL mm.mem).length mcap)) 31; generalize (w3.alloc (.cells #[.int .i64 0, .int .i64 0, .slice none 0 0, .int .i64 0, .int .i64 0, .int .i64 0, .int .i64 0, .int .i64 0, .int .i64 0, .int .i64 0, .int .i64 0, .int .i64 0, .int .i64 0, .bool false, .bool false, .bool false, .bool false, .int .i64 0, .slice none 0 0] 31)).setRow w3.heap.size (ranC mm (.slice oo mm.out.length ocap) (.slice mo (memL mm.mem).length mcap)) = w4 at *; obtain ⟨PD, k3⟩ := SN; have K3 := hideI (bt (unhideI KK) k3); have p0 := PD.2.1 0 _ rfl; have p2 := PD.2.1 2 _ rfl; have p3 := PD.2.1 3 _ rfl; have p4 := PD.2.1 4 _ rfl; have p18 := PD.2.1 18 _ rfl; have zz := PD.1; obtain ⟨f0, f1⟩ := (KF.step k3).at2; have yy := KF.1; have O3 : Byts w4 (.slice oo mm.out.length ocap) mm.out := Lies.step (unhideI O2) k3; have I3 : Ints w4 (.slice mo (memL mm.mem).length mcap) (memL mm.mem) := (unhideI I2).step k3; obtain ⟨r1, r2, r3, r4, r5⟩ := unhideI Q; rw [r1] at p0; rw [r2] at p3; rw [r3] at p4; rw [r4] at p2 O3; rw [r5] at p18 I3; have HO3 := hideI O3; have HI3 := hideI I3; have HI4 := hideI (Lies.step (unhideI HI) (unhideI K3)); clear PD k3 KF O3 I3 r1 r2 r3 r4 r5 Q O2 I2)
  refine (sameB_yes bs _ _ _ (unhideI HO3) (unhideI HI4)).mono ?_
  rintro e w5 ⟨rfl, k5⟩
  have p18' := cell_keep k5 zz p18
  have K5 := hideI (bt (unhideI K3) k5)
  have HI5 := hideI ((unhideI HI3).step k5)
  go_wp2_with fail
  refine (same1_yes [] _ _ _ (unhideI HI5) (Lies.nil _ _)).mono ?_
  rintro e w6 ⟨rfl, k6⟩
  go_wp2_with fail
  go_ret
  exact ⟨rfl, bt (unhideI K5) k6⟩
end Go.Proofs.Ytjlbenbfmookoab
