/-
  EmuMemory, where it has nothing to say.
-/
import Derived.Test.YtjlbenbfmookoabEmuH
namespace Go.Proofs.Ytjlbenbfmookoab
open Go.RowKit
set_option linter.unusedSimpArgs false
set_option linter.unusedVariables false

theorem was_any (l : List Int) (v : Value) (k : Int) (w : World) (hv : Ints w v l) (h0 : 0 ≤ k) (hk : k ≤ 65535) :
    Calls Try.prog 23 #[v, .int .i64 k] w fun e w' => e = .returned (.int .i64 (l.getD k.toNat 0)) ∧ w' = w := by
  obtain ⟨ao, cap, rfl, hmax, hat⟩ := hv.at
  clear hv
  unfold maxLen at hmax
  obtain ⟨n, rfl⟩ : ∃ n : Nat, k = n := ⟨k.toNat, by omega⟩
  rw [Int.toNat_natCast]
  by_cases h : n < l.length
  · obtain ⟨b, off, rfl, hb, hc⟩ := hat (by intro e; rw [e] at h; simp at h)
    have c0 := hc n h
    have e : Hid (l.getD n 0 = l[n]) := by unfold Hid; rw [List.getD_eq_getElem?_getD, List.getElem?_eq_getElem h]; rfl
    rw [unhideI e]
    clear hc hat
    generalize l[n] = y at *
    go_enter Try.func23, Try.ntmps23
    go_wp2
    go_ret
    exact ⟨rfl, rfl⟩
  · have e : Hid (l.getD n 0 = 0) := by unfold Hid; rw [List.getD_eq_getElem?_getD, List.getElem?_eq_none (by omega)]; rfl
    rw [unhideI e]
    clear hat
    go_enter Try.func23, Try.ntmps23
    go_wp2
    go_ret
    exact ⟨rfl, rfl⟩

/-- The state that the law lays. -/
def memS (s : St) (a x : Int) : St := ⟨upd (upd s.r 1 a) 2 x, s.c, s.z, s.n, s.v, 0, s.mem⟩
theorem isw_of {x : Int} (h : 0 ≤ x) (h' : x ≤ 65535) : isw x = true := by unfold isw; simp; omega
theorem memS_wrong (s : St) (a x : Int) (h : s.wrong = 0) (ha : isw a = true) (hx : isw x = true) : (memS s a x).wrong = 0 := by
  have hg : s.mem.length ≤ 65536 ∧ s.good = true := by
    unfold St.wrong at h
    split at h
    · omega
    · split at h
      · exact ⟨by omega, by assumption⟩
      · omega
  obtain ⟨h1, h2⟩ := hg
  unfold St.good St.regs at h2
  simp only [List.all_cons, List.all_nil, Bool.and_eq_true, Bool.and_true] at h2
  obtain ⟨⟨⟨r0, r1, r2, r3, r4, r5, r6, r7⟩, _⟩, hm⟩ := h2
  have e : (memS s a x).good = true := by
    unfold St.good St.regs memS
    dsimp only
    have z : isw 0 = true := by decide
    simp [upd, r0, ha, hx, r3, r4, r5, r6, r7, z, hm]
  unfold St.wrong
  rw [if_neg (by show ¬ 65536 < s.mem.length; omega), if_pos e]
def memI (off : Int) : List Ins := [⟨4, 1, 2, off⟩, ⟨3, 3, 1, off⟩]
theorem memI_right (off : Int) (h0 : 0 ≤ off) (h1 : off ≤ 65535) : (∀ i ∈ memI off, wrg i = 0) ∧ (∀ i ∈ memI off, calm i.o = true) := by
  refine ⟨fun i hi => ?_, fun i hi => ?_⟩
  · simp only [memI, List.mem_cons, List.not_mem_nil, or_false] at hi
    rcases hi with rfl | rfl
    · exact wr_of (by simp) (by simp) (fun _ => by simp) (fun _ => by simp) (fun _ => ⟨h0, h1⟩)
    · exact wr_of (by simp) (by simp) (fun _ => by simp) (fun _ => by simp) (fun _ => ⟨h0, h1⟩)
  · simp only [memI, List.mem_cons, List.not_mem_nil, or_false] at hi
    rcases hi with rfl | rfl <;> rfl
theorem mem_line (s : St) (a off x : Int) : (endM ((startM (memS s a x)).line [] (memI off))).r 3 = x ∧ (endM ((startM (memS s a x)).line [] (memI off))).mem = upd (fun j => s.mem.getD j 0) (lw (a + off)).toNat x := by
  have b1 : bare ⟨4, 1, 2, off⟩ = ⟨4, 1, 2, off⟩ := rfl
  have b2 : bare ⟨3, 3, 1, off⟩ = ⟨3, 3, 1, off⟩ := rfl
  unfold memI
  rw [line_cons, line_cons, line_nil]
  unfold Ma.did
  rw [b1, b2]
  refine ⟨?_, ?_⟩
  · simp [Ma.act, Ma.st, Ma.setR, Ma.ld, Ma.reg, endM, startM, memS, upd]
  · simp [Ma.act, Ma.st, Ma.setR, Ma.ld, Ma.reg, endM, startM, memS, upd]

set_option maxRecDepth 100000 in
set_option maxHeartbeats 4000000 in
theorem memory_no (s : St) (a off x other : Int) (vm : Value) (w : World) (hm : Ints w vm s.mem) (hno : ¬ (s.wrong = 0 ∧ 0 ≤ a ∧ 0 ≤ off ∧ 0 ≤ x ∧ 0 ≤ other ∧ a ≤ 65535 ∧ off ≤ 65535 ∧ x ≤ 65535 ∧ other ≤ 65535)) :
    Calls Try.prog 7 #[s.val vm, .int .i64 a, .int .i64 off, .int .i64 x, .int .i64 other] w fun e w' => e = .returned (.bool true) ∧ Below w.heap.size w w' := by
  have HM := hideI hm
  obtain ⟨mo, mcap, rfl, hmx, _⟩ := hm.at
  clear hm
  unfold maxLen at hmx
  unfold St.val St.cells
  by_cases h0 : s.wrong = 0
  rotate_left
  · have b0 : (s.wrong != 0) = true := by simp [h0]
    go_enter Try.func7, Try.ntmps7
    go_wp2_with fail
    refine (alive3 _).mono ?_
    rintro e w1 ⟨rfl, k1⟩
    have K1 := hideI (bt (below_a w (.cells #[.int .i64 (s.r 0), .int .i64 (s.r 1), .int .i64 (s.r 2), .int .i64 (s.r 3), .int .i64 (s.r 4), .int .i64 (s.r 5), .int .i64 (s.r 6), .int .i64 (s.r 7), .bool s.c, .bool s.z, .bool s.n, .bool s.v, .int .i64 s.pc, .slice mo s.mem.length mcap] 27)) k1)
    have SB := (Box.new w #[.int .i64 (s.r 0), .int .i64 (s.r 1), .int .i64 (s.r 2), .int .i64 (s.r 3), .int .i64 (s.r 4), .int .i64 (s.r 5), .int .i64 (s.r 6), .int .i64 (s.r 7), .bool s.c, .bool s.z, .bool s.n, .bool s.v, .int .i64 s.pc, .slice mo s.mem.length mcap] 27).step k1
    have s0 := SB.2.1 0 _ rfl
    have s1 := SB.2.1 1 _ rfl
    have s2 := SB.2.1 2 _ rfl
    have s3 := SB.2.1 3 _ rfl
    have s4 := SB.2.1 4 _ rfl
    have s5 := SB.2.1 5 _ rfl
    have s6 := SB.2.1 6 _ rfl
    have s7 := SB.2.1 7 _ rfl
    have s8 := SB.2.1 8 _ rfl
    have s9 := SB.2.1 9 _ rfl
    have s10 := SB.2.1 10 _ rfl
    have s11 := SB.2.1 11 _ rfl
    have s12 := SB.2.1 12 _ rfl
    have s13 := SB.2.1 13 _ rfl
    have l1 := SB.1
    have fz1 := SB.2.2
    have WR := hideI (wrongS_any s (.slice mo s.mem.length mcap) _ ((unhideI HM).step (unhideI K1)))
    unfold St.val St.cells at WR
    clear k1
    go_wp2_with (go_at_call 22; refine (unhideI WR).mono ?_; rintro e w2 ⟨rfl, hw⟩; subst w2)
    go_ret
    exact ⟨rfl, (by repeat (first | exact unhideI K1 | refine Below.setCell ?_ (by first | exact Nat.le_refl _ | (simp; done) | omega | (simp; omega)) _ | refine Below.alloc ?_ (by first | (simp; done) | omega | (simp; omega)) _))⟩
  have b0 : (s.wrong != 0) = false := by simp [h0]
  by_cases h1 : a < 0
  · have b1 : decide (a < 0) = true := by simp [h1]
    go_enter Try.func7, Try.ntmps7
    go_wp2_with fail
    refine (alive3 _).mono ?_
    rintro e w1 ⟨rfl, k1⟩
    have K1 := hideI (bt (below_a w (.cells #[.int .i64 (s.r 0), .int .i64 (s.r 1), .int .i64 (s.r 2), .int .i64 (s.r 3), .int .i64 (s.r 4), .int .i64 (s.r 5), .int .i64 (s.r 6), .int .i64 (s.r 7), .bool s.c, .bool s.z, .bool s.n, .bool s.v, .int .i64 s.pc, .slice mo s.mem.length mcap] 27)) k1)
    have SB := (Box.new w #[.int .i64 (s.r 0), .int .i64 (s.r 1), .int .i64 (s.r 2), .int .i64 (s.r 3), .int .i64 (s.r 4), .int .i64 (s.r 5), .int .i64 (s.r 6), .int .i64 (s.r 7), .bool s.c, .bool s.z, .bool s.n, .bool s.v, .int .i64 s.pc, .slice mo s.mem.length mcap] 27).step k1
    have s0 := SB.2.1 0 _ rfl
    have s1 := SB.2.1 1 _ rfl
    have s2 := SB.2.1 2 _ rfl
    have s3 := SB.2.1 3 _ rfl
    have s4 := SB.2.1 4 _ rfl
    have s5 := SB.2.1 5 _ rfl
    have s6 := SB.2.1 6 _ rfl
    have s7 := SB.2.1 7 _ rfl
    have s8 := SB.2.1 8 _ rfl
    have s9 := SB.2.1 9 _ rfl
    have s10 := SB.2.1 10 _ rfl
    have s11 := SB.2.1 11 _ rfl
    have s12 := SB.2.1 12 _ rfl
    have s13 := SB.2.1 13 _ rfl
    have l1 := SB.1
    have fz1 := SB.2.2
    have WR := hideI (wrongS_any s (.slice mo s.mem.length mcap) _ ((unhideI HM).step (unhideI K1)))
    unfold St.val St.cells at WR
    clear k1
    go_wp2_with (go_at_call 22; refine (unhideI WR).mono ?_; rintro e w2 ⟨rfl, hw⟩; subst w2)
    go_ret
    exact ⟨rfl, (by repeat (first | exact unhideI K1 | refine Below.setCell ?_ (by first | exact Nat.le_refl _ | (simp; done) | omega | (simp; omega)) _ | refine Below.alloc ?_ (by first | (simp; done) | omega | (simp; omega)) _))⟩
  have b1 : decide (a < 0) = false := by simp; omega
  by_cases h2 : off < 0
  · have b2 : decide (off < 0) = true := by simp [h2]
    go_enter Try.func7, Try.ntmps7
    go_wp2_with fail
    refine (alive3 _).mono ?_
    rintro e w1 ⟨rfl, k1⟩
    have K1 := hideI (bt (below_a w (.cells #[.int .i64 (s.r 0), .int .i64 (s.r 1), .int .i64 (s.r 2), .int .i64 (s.r 3), .int .i64 (s.r 4), .int .i64 (s.r 5), .int .i64 (s.r 6), .int .i64 (s.r 7), .bool s.c, .bool s.z, .bool s.n, .bool s.v, .int .i64 s.pc, .slice mo s.mem.length mcap] 27)) k1)
    have SB := (Box.new w #[.int .i64 (s.r 0), .int .i64 (s.r 1), .int .i64 (s.r 2), .int .i64 (s.r 3), .int .i64 (s.r 4), .int .i64 (s.r 5), .int .i64 (s.r 6), .int .i64 (s.r 7), .bool s.c, .bool s.z, .bool s.n, .bool s.v, .int .i64 s.pc, .slice mo s.mem.length mcap] 27).step k1
    have s0 := SB.2.1 0 _ rfl
    have s1 := SB.2.1 1 _ rfl
    have s2 := SB.2.1 2 _ rfl
    have s3 := SB.2.1 3 _ rfl
    have s4 := SB.2.1 4 _ rfl
    have s5 := SB.2.1 5 _ rfl
    have s6 := SB.2.1 6 _ rfl
    have s7 := SB.2.1 7 _ rfl
    have s8 := SB.2.1 8 _ rfl
    have s9 := SB.2.1 9 _ rfl
    have s10 := SB.2.1 10 _ rfl
    have s11 := SB.2.1 11 _ rfl
    have s12 := SB.2.1 12 _ rfl
    have s13 := SB.2.1 13 _ rfl
    have l1 := SB.1
    have fz1 := SB.2.2
    have WR := hideI (wrongS_any s (.slice mo s.mem.length mcap) _ ((unhideI HM).step (unhideI K1)))
    unfold St.val St.cells at WR
    clear k1
    go_wp2_with (go_at_call 22; refine (unhideI WR).mono ?_; rintro e w2 ⟨rfl, hw⟩; subst w2)
    go_ret
    exact ⟨rfl, (by repeat (first | exact unhideI K1 | refine Below.setCell ?_ (by first | exact Nat.le_refl _ | (simp; done) | omega | (simp; omega)) _ | refine Below.alloc ?_ (by first | (simp; done) | omega | (simp; omega)) _))⟩
  have b2 : decide (off < 0) = false := by simp; omega
  by_cases h3 : x < 0
  · have b3 : decide (x < 0) = true := by simp [h3]
    go_enter Try.func7, Try.ntmps7
    go_wp2_with fail
    refine (alive3 _).mono ?_
    rintro e w1 ⟨rfl, k1⟩
    have K1 := hideI (bt (below_a w (.cells #[.int .i64 (s.r 0), .int .i64 (s.r 1), .int .i64 (s.r 2), .int .i64 (s.r 3), .int .i64 (s.r 4), .int .i64 (s.r 5), .int .i64 (s.r 6), .int .i64 (s.r 7), .bool s.c, .bool s.z, .bool s.n, .bool s.v, .int .i64 s.pc, .slice mo s.mem.length mcap] 27)) k1)
    have SB := (Box.new w #[.int .i64 (s.r 0), .int .i64 (s.r 1), .int .i64 (s.r 2), .int .i64 (s.r 3), .int .i64 (s.r 4), .int .i64 (s.r 5), .int .i64 (s.r 6), .int .i64 (s.r 7), .bool s.c, .bool s.z, .bool s.n, .bool s.v, .int .i64 s.pc, .slice mo s.mem.length mcap] 27).step k1
    have s0 := SB.2.1 0 _ rfl
    have s1 := SB.2.1 1 _ rfl
    have s2 := SB.2.1 2 _ rfl
    have s3 := SB.2.1 3 _ rfl
    have s4 := SB.2.1 4 _ rfl
    have s5 := SB.2.1 5 _ rfl
    have s6 := SB.2.1 6 _ rfl
    have s7 := SB.2.1 7 _ rfl
    have s8 := SB.2.1 8 _ rfl
    have s9 := SB.2.1 9 _ rfl
    have s10 := SB.2.1 10 _ rfl
    have s11 := SB.2.1 11 _ rfl
    have s12 := SB.2.1 12 _ rfl
    have s13 := SB.2.1 13 _ rfl
    have l1 := SB.1
    have fz1 := SB.2.2
    have WR := hideI (wrongS_any s (.slice mo s.mem.length mcap) _ ((unhideI HM).step (unhideI K1)))
    unfold St.val St.cells at WR
    clear k1
    go_wp2_with (go_at_call 22; refine (unhideI WR).mono ?_; rintro e w2 ⟨rfl, hw⟩; subst w2)
    go_ret
    exact ⟨rfl, (by repeat (first | exact unhideI K1 | refine Below.setCell ?_ (by first | exact Nat.le_refl _ | (simp; done) | omega | (simp; omega)) _ | refine Below.alloc ?_ (by first | (simp; done) | omega | (simp; omega)) _))⟩
  have b3 : decide (x < 0) = false := by simp; omega
  by_cases h4 : other < 0
  · have b4 : decide (other < 0) = true := by simp [h4]
    go_enter Try.func7, Try.ntmps7
    go_wp2_with fail
    refine (alive3 _).mono ?_
    rintro e w1 ⟨rfl, k1⟩
    have K1 := hideI (bt (below_a w (.cells #[.int .i64 (s.r 0), .int .i64 (s.r 1), .int .i64 (s.r 2), .int .i64 (s.r 3), .int .i64 (s.r 4), .int .i64 (s.r 5), .int .i64 (s.r 6), .int .i64 (s.r 7), .bool s.c, .bool s.z, .bool s.n, .bool s.v, .int .i64 s.pc, .slice mo s.mem.length mcap] 27)) k1)
    have SB := (Box.new w #[.int .i64 (s.r 0), .int .i64 (s.r 1), .int .i64 (s.r 2), .int .i64 (s.r 3), .int .i64 (s.r 4), .int .i64 (s.r 5), .int .i64 (s.r 6), .int .i64 (s.r 7), .bool s.c, .bool s.z, .bool s.n, .bool s.v, .int .i64 s.pc, .slice mo s.mem.length mcap] 27).step k1
    have s0 := SB.2.1 0 _ rfl
    have s1 := SB.2.1 1 _ rfl
    have s2 := SB.2.1 2 _ rfl
    have s3 := SB.2.1 3 _ rfl
    have s4 := SB.2.1 4 _ rfl
    have s5 := SB.2.1 5 _ rfl
    have s6 := SB.2.1 6 _ rfl
    have s7 := SB.2.1 7 _ rfl
    have s8 := SB.2.1 8 _ rfl
    have s9 := SB.2.1 9 _ rfl
    have s10 := SB.2.1 10 _ rfl
    have s11 := SB.2.1 11 _ rfl
    have s12 := SB.2.1 12 _ rfl
    have s13 := SB.2.1 13 _ rfl
    have l1 := SB.1
    have fz1 := SB.2.2
    have WR := hideI (wrongS_any s (.slice mo s.mem.length mcap) _ ((unhideI HM).step (unhideI K1)))
    unfold St.val St.cells at WR
    clear k1
    go_wp2_with (go_at_call 22; refine (unhideI WR).mono ?_; rintro e w2 ⟨rfl, hw⟩; subst w2)
    go_ret
    exact ⟨rfl, (by repeat (first | exact unhideI K1 | refine Below.setCell ?_ (by first | exact Nat.le_refl _ | (simp; done) | omega | (simp; omega)) _ | refine Below.alloc ?_ (by first | (simp; done) | omega | (simp; omega)) _))⟩
  have b4 : decide (other < 0) = false := by simp; omega
  by_cases h5 : 65535 < a
  · have b5 : decide (65535 < a) = true := by simp [h5]
    go_enter Try.func7, Try.ntmps7
    go_wp2_with fail
    refine (alive3 _).mono ?_
    rintro e w1 ⟨rfl, k1⟩
    have K1 := hideI (bt (below_a w (.cells #[.int .i64 (s.r 0), .int .i64 (s.r 1), .int .i64 (s.r 2), .int .i64 (s.r 3), .int .i64 (s.r 4), .int .i64 (s.r 5), .int .i64 (s.r 6), .int .i64 (s.r 7), .bool s.c, .bool s.z, .bool s.n, .bool s.v, .int .i64 s.pc, .slice mo s.mem.length mcap] 27)) k1)
    have SB := (Box.new w #[.int .i64 (s.r 0), .int .i64 (s.r 1), .int .i64 (s.r 2), .int .i64 (s.r 3), .int .i64 (s.r 4), .int .i64 (s.r 5), .int .i64 (s.r 6), .int .i64 (s.r 7), .bool s.c, .bool s.z, .bool s.n, .bool s.v, .int .i64 s.pc, .slice mo s.mem.length mcap] 27).step k1
    have s0 := SB.2.1 0 _ rfl
    have s1 := SB.2.1 1 _ rfl
    have s2 := SB.2.1 2 _ rfl
    have s3 := SB.2.1 3 _ rfl
    have s4 := SB.2.1 4 _ rfl
    have s5 := SB.2.1 5 _ rfl
    have s6 := SB.2.1 6 _ rfl
    have s7 := SB.2.1 7 _ rfl
    have s8 := SB.2.1 8 _ rfl
    have s9 := SB.2.1 9 _ rfl
    have s10 := SB.2.1 10 _ rfl
    have s11 := SB.2.1 11 _ rfl
    have s12 := SB.2.1 12 _ rfl
    have s13 := SB.2.1 13 _ rfl
    have l1 := SB.1
    have fz1 := SB.2.2
    have WR := hideI (wrongS_any s (.slice mo s.mem.length mcap) _ ((unhideI HM).step (unhideI K1)))
    unfold St.val St.cells at WR
    clear k1
    go_wp2_with (go_at_call 22; refine (unhideI WR).mono ?_; rintro e w2 ⟨rfl, hw⟩; subst w2)
    go_ret
    exact ⟨rfl, (by repeat (first | exact unhideI K1 | refine Below.setCell ?_ (by first | exact Nat.le_refl _ | (simp; done) | omega | (simp; omega)) _ | refine Below.alloc ?_ (by first | (simp; done) | omega | (simp; omega)) _))⟩
  have b5 : decide (65535 < a) = false := by simp; omega
  by_cases h6 : 65535 < off
  · have b6 : decide (65535 < off) = true := by simp [h6]
    go_enter Try.func7, Try.ntmps7
    go_wp2_with fail
    refine (alive3 _).mono ?_
    rintro e w1 ⟨rfl, k1⟩
    have K1 := hideI (bt (below_a w (.cells #[.int .i64 (s.r 0), .int .i64 (s.r 1), .int .i64 (s.r 2), .int .i64 (s.r 3), .int .i64 (s.r 4), .int .i64 (s.r 5), .int .i64 (s.r 6), .int .i64 (s.r 7), .bool s.c, .bool s.z, .bool s.n, .bool s.v, .int .i64 s.pc, .slice mo s.mem.length mcap] 27)) k1)
    have SB := (Box.new w #[.int .i64 (s.r 0), .int .i64 (s.r 1), .int .i64 (s.r 2), .int .i64 (s.r 3), .int .i64 (s.r 4), .int .i64 (s.r 5), .int .i64 (s.r 6), .int .i64 (s.r 7), .bool s.c, .bool s.z, .bool s.n, .bool s.v, .int .i64 s.pc, .slice mo s.mem.length mcap] 27).step k1
    have s0 := SB.2.1 0 _ rfl
    have s1 := SB.2.1 1 _ rfl
    have s2 := SB.2.1 2 _ rfl
    have s3 := SB.2.1 3 _ rfl
    have s4 := SB.2.1 4 _ rfl
    have s5 := SB.2.1 5 _ rfl
    have s6 := SB.2.1 6 _ rfl
    have s7 := SB.2.1 7 _ rfl
    have s8 := SB.2.1 8 _ rfl
    have s9 := SB.2.1 9 _ rfl
    have s10 := SB.2.1 10 _ rfl
    have s11 := SB.2.1 11 _ rfl
    have s12 := SB.2.1 12 _ rfl
    have s13 := SB.2.1 13 _ rfl
    have l1 := SB.1
    have fz1 := SB.2.2
    have WR := hideI (wrongS_any s (.slice mo s.mem.length mcap) _ ((unhideI HM).step (unhideI K1)))
    unfold St.val St.cells at WR
    clear k1
    go_wp2_with (go_at_call 22; refine (unhideI WR).mono ?_; rintro e w2 ⟨rfl, hw⟩; subst w2)
    go_ret
    exact ⟨rfl, (by repeat (first | exact unhideI K1 | refine Below.setCell ?_ (by first | exact Nat.le_refl _ | (simp; done) | omega | (simp; omega)) _ | refine Below.alloc ?_ (by first | (simp; done) | omega | (simp; omega)) _))⟩
  have b6 : decide (65535 < off) = false := by simp; omega
  by_cases h7 : 65535 < x
  · have b7 : decide (65535 < x) = true := by simp [h7]
    go_enter Try.func7, Try.ntmps7
    go_wp2_with fail
    refine (alive3 _).mono ?_
    rintro e w1 ⟨rfl, k1⟩
    have K1 := hideI (bt (below_a w (.cells #[.int .i64 (s.r 0), .int .i64 (s.r 1), .int .i64 (s.r 2), .int .i64 (s.r 3), .int .i64 (s.r 4), .int .i64 (s.r 5), .int .i64 (s.r 6), .int .i64 (s.r 7), .bool s.c, .bool s.z, .bool s.n, .bool s.v, .int .i64 s.pc, .slice mo s.mem.length mcap] 27)) k1)
    have SB := (Box.new w #[.int .i64 (s.r 0), .int .i64 (s.r 1), .int .i64 (s.r 2), .int .i64 (s.r 3), .int .i64 (s.r 4), .int .i64 (s.r 5), .int .i64 (s.r 6), .int .i64 (s.r 7), .bool s.c, .bool s.z, .bool s.n, .bool s.v, .int .i64 s.pc, .slice mo s.mem.length mcap] 27).step k1
    have s0 := SB.2.1 0 _ rfl
    have s1 := SB.2.1 1 _ rfl
    have s2 := SB.2.1 2 _ rfl
    have s3 := SB.2.1 3 _ rfl
    have s4 := SB.2.1 4 _ rfl
    have s5 := SB.2.1 5 _ rfl
    have s6 := SB.2.1 6 _ rfl
    have s7 := SB.2.1 7 _ rfl
    have s8 := SB.2.1 8 _ rfl
    have s9 := SB.2.1 9 _ rfl
    have s10 := SB.2.1 10 _ rfl
    have s11 := SB.2.1 11 _ rfl
    have s12 := SB.2.1 12 _ rfl
    have s13 := SB.2.1 13 _ rfl
    have l1 := SB.1
    have fz1 := SB.2.2
    have WR := hideI (wrongS_any s (.slice mo s.mem.length mcap) _ ((unhideI HM).step (unhideI K1)))
    unfold St.val St.cells at WR
    clear k1
    go_wp2_with (go_at_call 22; refine (unhideI WR).mono ?_; rintro e w2 ⟨rfl, hw⟩; subst w2)
    go_ret
    exact ⟨rfl, (by repeat (first | exact unhideI K1 | refine Below.setCell ?_ (by first | exact Nat.le_refl _ | (simp; done) | omega | (simp; omega)) _ | refine Below.alloc ?_ (by first | (simp; done) | omega | (simp; omega)) _))⟩
  have b7 : decide (65535 < x) = false := by simp; omega
  by_cases h8 : 65535 < other
  · have b8 : decide (65535 < other) = true := by simp [h8]
    go_enter Try.func7, Try.ntmps7
    go_wp2_with fail
    refine (alive3 _).mono ?_
    rintro e w1 ⟨rfl, k1⟩
    have K1 := hideI (bt (below_a w (.cells #[.int .i64 (s.r 0), .int .i64 (s.r 1), .int .i64 (s.r 2), .int .i64 (s.r 3), .int .i64 (s.r 4), .int .i64 (s.r 5), .int .i64 (s.r 6), .int .i64 (s.r 7), .bool s.c, .bool s.z, .bool s.n, .bool s.v, .int .i64 s.pc, .slice mo s.mem.length mcap] 27)) k1)
    have SB := (Box.new w #[.int .i64 (s.r 0), .int .i64 (s.r 1), .int .i64 (s.r 2), .int .i64 (s.r 3), .int .i64 (s.r 4), .int .i64 (s.r 5), .int .i64 (s.r 6), .int .i64 (s.r 7), .bool s.c, .bool s.z, .bool s.n, .bool s.v, .int .i64 s.pc, .slice mo s.mem.length mcap] 27).step k1
    have s0 := SB.2.1 0 _ rfl
    have s1 := SB.2.1 1 _ rfl
    have s2 := SB.2.1 2 _ rfl
    have s3 := SB.2.1 3 _ rfl
    have s4 := SB.2.1 4 _ rfl
    have s5 := SB.2.1 5 _ rfl
    have s6 := SB.2.1 6 _ rfl
    have s7 := SB.2.1 7 _ rfl
    have s8 := SB.2.1 8 _ rfl
    have s9 := SB.2.1 9 _ rfl
    have s10 := SB.2.1 10 _ rfl
    have s11 := SB.2.1 11 _ rfl
    have s12 := SB.2.1 12 _ rfl
    have s13 := SB.2.1 13 _ rfl
    have l1 := SB.1
    have fz1 := SB.2.2
    have WR := hideI (wrongS_any s (.slice mo s.mem.length mcap) _ ((unhideI HM).step (unhideI K1)))
    unfold St.val St.cells at WR
    clear k1
    go_wp2_with (go_at_call 22; refine (unhideI WR).mono ?_; rintro e w2 ⟨rfl, hw⟩; subst w2)
    go_ret
    exact ⟨rfl, (by repeat (first | exact unhideI K1 | refine Below.setCell ?_ (by first | exact Nat.le_refl _ | (simp; done) | omega | (simp; omega)) _ | refine Below.alloc ?_ (by first | (simp; done) | omega | (simp; omega)) _))⟩
  have b8 : decide (65535 < other) = false := by simp; omega
  exact absurd ⟨h0, by omega, by omega, by omega, by omega, by omega, by omega, by omega, by omega⟩ hno
end Go.Proofs.Ytjlbenbfmookoab
