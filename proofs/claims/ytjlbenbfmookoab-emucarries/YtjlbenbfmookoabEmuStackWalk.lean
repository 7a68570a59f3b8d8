/-
  EmuStack, walked.
-/
import Derived.Test.YtjlbenbfmookoabEmuStack0
namespace Go.Proofs.Ytjlbenbfmookoab
open Go.RowKit
set_option linter.unusedSimpArgs false
set_option linter.unusedVariables false

theorem pushI_snoc (l : List Int) (k : Nat) (h : k < l.length) : pushI (l.take (k + 1)) = pushI (l.take k) ++ push2 l[k] := by
  unfold pushI
  rw [List.take_succ_eq_append_getElem h, List.flatMap_append]; simp
theorem rev_snoc (l : List Int) (k : Nat) (h : k < l.length) : l.reverse.take (k + 1) = l.reverse.take k ++ [l[l.length - 1 - k]] := by
  rw [List.take_succ_eq_append_getElem (by simpa using h)]
  simp
theorem flat_two (L : List Ins) (i j : Ins) : (L ++ [i, j]).flatMap cells4 = L.flatMap cells4 ++ (cells4 i ++ cells4 j) := by simp
theorem cells_one (L : List Ins) : ∀ u ∈ L.flatMap cells4, u.oneCell' = true := by
  intro u hu
  obtain ⟨i, _, hi⟩ := List.mem_flatMap.1 hu
  exact four_c2 i u hi
/-- A row of instructions, and one of numbers, of the call's own. -/
def OwnI (w : World) (B : Nat) (v : Value) (n : Nat) (L : List Ins) : Prop := w.ownsRow B 45 4 v n (L.flatMap cells4)
def OwnN (w : World) (B : Nat) (v : Value) (n : Nat) (xs : List Int) : Prop := w.ownsRow B 3 1 v n (xs.map int1)
theorem OwnI.two {w : World} {B n : Nat} {v : Value} {L : List Ins} {i j : Ins} (h : w.ownsRow B 45 4 v n (L.flatMap cells4 ++ [.int .i64 i.o, .int .i64 i.d, .int .i64 i.s, .int .i64 i.m, .int .i64 j.o, .int .i64 j.d, .int .i64 j.s, .int .i64 j.m])) : OwnI w B v n (L ++ [i, j]) := by
  unfold OwnI
  rw [flat_two]
  exact h
theorem OwnN.one {w : World} {B n : Nat} {v : Value} {xs : List Int} {x : Int} (h : w.ownsRow B 3 1 v n (xs.map int1 ++ [.int .i64 x])) : OwnN w B v n (xs ++ [x]) := by
  unfold OwnN
  rw [List.map_append]
  exact h
theorem OwnI.kept {w w' : World} {B n n' : Nat} {v u : Value} {L : List Ins} {xs : List Int} (h : OwnI w B v n L) (h' : OwnN w B u n' xs) (g : w.grownBy w' u.ownBlock) : OwnI w' B v n L :=
  World.ownsRow.kept h g (own_apart h h' (by decide))
theorem OwnN.kept {w w' : World} {B n n' : Nat} {v u : Value} {L : List Ins} {xs : List Int} (h : OwnN w B u n xs) (h' : OwnI w B v n' L) (g : w.grownBy w' v.ownBlock) : OwnN w' B u n xs :=
  World.ownsRow.kept h g (own_apart h h' (by decide))
theorem OwnI.new {w : World} {B n : Nat} {v : Value} {L : List Ins} (h : OwnI w B v n L) (o : Obj) : OwnI (w.alloc o) B v n L := World.ownsRow.alloc h o
theorem OwnN.new {w : World} {B n : Nat} {v : Value} {xs : List Int} (h : OwnN w B v n xs) (o : Obj) : OwnN (w.alloc o) B v n xs := World.ownsRow.alloc h o

theorem own_rev {w : World} {B n : Nat} {v : Value} {l : List Int} (h : OwnN w B v n l.reverse) : Ints w v l.reverse := by
  have h1 := Lies.owned h
  have hn : n = l.reverse.length := by have := h.1; simp at this ⊢; omega
  unfold Ints
  rw [← hn]; exact h1
theorem rev_last (l : List Int) (x : Int) (r : List Int) (h : l = x :: r) (hj : l.length - 1 < l.reverse.length) : l.reverse[l.length - 1] = x := by
  subst h
  simp
theorem int_cell {w : World} {ao : Option Addr} {n c : Nat} {xs : List Int} (h : Ints w (.slice ao n c) xs) (i : Nat) (hi : i < xs.length) : ∃ b off, ao = some ⟨b, off, none⟩ ∧ b < w.heap.size ∧ w.cell? ⟨b, off + i, none⟩ = some (.int .i64 xs[i]) := by
  obtain ⟨ao', cap', e, _, hat⟩ := h.at
  simp only [Value.slice.injEq] at e
  obtain ⟨rfl, rfl, rfl⟩ := e
  obtain ⟨b, off, e1, hb, hc⟩ := hat (by intro h; rw [h] at hi; simp at hi)
  exact ⟨b, off, e1, hb, hc i hi⟩
theorem out_cell {w : World} {ao : Option Addr} {n c : Nat} {xs l : List Int} (h : Byts w (.slice ao n c) xs) (hx : xs = l.reverse.map (fun x => x % 256)) (i : Nat) (hi : i < l.reverse.length) : ∃ b off, ao = some ⟨b, off, none⟩ ∧ b < w.heap.size ∧ w.cell? ⟨b, off + i, none⟩ = some (.int .u8 (l.reverse[i] % 256)) := by
  obtain ⟨ao', cap', e, _, hat⟩ := h.at
  simp only [Value.slice.injEq] at e
  obtain ⟨rfl, rfl, rfl⟩ := e
  have hil : i < xs.length := by rw [hx]; simpa using hi
  obtain ⟨b, off, e1, hb, hc⟩ := hat (by intro h; rw [h] at hil; simp at hil)
  refine ⟨b, off, e1, hb, ?_⟩
  rw [hc i hil]
  subst hx
  simp
set_option maxRecDepth 100000 in
set_option maxHeartbeats 4000000 in
theorem walk_emuStack {R : Int → Prop} (s : St) (l : List Int) (vm vl : Value) (w : World) (hm : Ints w vm s.mem) (hl : Ints w vl l) (_ : ∀ x ∈ l, R x) :
    Calls Try.prog 6 #[s.val vm, vl] w fun e w' => e = .returned (.bool true) ∧ Below w.heap.size w w' := by
  have HM := hideI hm
  have HL := hideI hl
  obtain ⟨mo, mcap, rfl, hmx, _⟩ := hm.at
  obtain ⟨lo, lcap, rfl, hlx, hat⟩ := hl.at
  have HA := hideI hat
  clear hm hl hat
  unfold maxLen at hmx hlx
  unfold St.val St.cells
  by_cases h0 : s.wrong = 0
  rotate_left
  · have b0 : (s.wrong != 0) = true := by simp [h0]
    go_enter Try.func6, Try.ntmps6
    go_wp2_with fail
    refine (alive3 _).mono ?_
    rintro e w1 ⟨rfl, k1⟩
    have K1 := hideI (bt (below_a w (.cells #[.int .i64 (s.r 0), .int .i64 (s.r 1), .int .i64 (s.r 2), .int .i64 (s.r 3), .int .i64 (s.r 4), .int .i64 (s.r 5), .int .i64 (s.r 6), .int .i64 (s.r 7), .bool s.c, .bool s.z, .bool s.n, .bool s.v, .int .i64 s.pc, .slice mo s.mem.length mcap] 27)) k1)
    have SB := (Box.new w #[.int .i64 (s.r 0), .int .i64 (s.r 1), .int .i64 (s.r 2), .int .i64 (s.r 3), .int .i64 (s.r 4), .int .i64 (s.r 5), .int .i64 (s.r 6), .int .i64 (s.r 7), .bool s.c, .bool s.z, .bool s.n, .bool s.v, .int .i64 s.pc, .slice mo s.mem.length mcap] 27).step k1
    have s0 := SB.2.1 0 _ rfl
    have s1 := SB.2.1 1 _ rfl
    have s2 := SB.2.1 2 _ rfl
    have s3 := SB.2.1 3 _ rfl
    have s4 := SB.2.1 4 _ rfl
    have s5 := SB.2.1 5 _ rfl
    have s6 := SB.2.1 6 _ rfl
    have s7 := SB.2.1 7 _ rfl
    have s8 := SB.2.1 8 _ rfl
    have s9 := SB.2.1 9 _ rfl
    have s10 := SB.2.1 10 _ rfl
    have s11 := SB.2.1 11 _ rfl
    have s12 := SB.2.1 12 _ rfl
    have s13 := SB.2.1 13 _ rfl
    have l1 := SB.1
    have fz1 := SB.2.2
    have WR := hideI (wrongS_any s (.slice mo s.mem.length mcap) _ ((unhideI HM).step (unhideI K1)))
    unfold St.val St.cells at WR
    clear k1
    go_wp2_with (go_at_call 22; refine (unhideI WR).mono ?_; rintro e w2 ⟨rfl, hw⟩; subst w2)
    go_ret
    exact ⟨rfl, (by repeat (first | exact unhideI K1 | refine Below.setCell ?_ (by first | exact Nat.le_refl _ | (simp; done) | omega | (simp; omega)) _ | refine Below.alloc ?_ (by first | (simp; done) | omega | (simp; omega)) _))⟩
  have b0 : (s.wrong != 0) = false := by simp [h0]
  by_cases h1 : 100 < l.length
  · have b1 : decide ((100 : Int) < l.length) = true := by simp; omega
    go_enter Try.func6, Try.ntmps6
    go_wp2_with fail
    refine (alive3 _).mono ?_
    rintro e w1 ⟨rfl, k1⟩
    have K1 := hideI (bt (below_a w (.cells #[.int .i64 (s.r 0), .int .i64 (s.r 1), .int .i64 (s.r 2), .int .i64 (s.r 3), .int .i64 (s.r 4), .int .i64 (s.r 5), .int .i64 (s.r 6), .int .i64 (s.r 7), .bool s.c, .bool s.z, .bool s.n, .bool s.v, .int .i64 s.pc, .slice mo s.mem.length mcap] 27)) k1)
    have SB := (Box.new w #[.int .i64 (s.r 0), .int .i64 (s.r 1), .int .i64 (s.r 2), .int .i64 (s.r 3), .int .i64 (s.r 4), .int .i64 (s.r 5), .int .i64 (s.r 6), .int .i64 (s.r 7), .bool s.c, .bool s.z, .bool s.n, .bool s.v, .int .i64 s.pc, .slice mo s.mem.length mcap] 27).step k1
    have s0 := SB.2.1 0 _ rfl
    have s1 := SB.2.1 1 _ rfl
    have s2 := SB.2.1 2 _ rfl
    have s3 := SB.2.1 3 _ rfl
    have s4 := SB.2.1 4 _ rfl
    have s5 := SB.2.1 5 _ rfl
    have s6 := SB.2.1 6 _ rfl
    have s7 := SB.2.1 7 _ rfl
    have s8 := SB.2.1 8 _ rfl
    have s9 := SB.2.1 9 _ rfl
    have s10 := SB.2.1 10 _ rfl
    have s11 := SB.2.1 11 _ rfl
    have s12 := SB.2.1 12 _ rfl
    have s13 := SB.2.1 13 _ rfl
    have l1 := SB.1
    have fz1 := SB.2.2
    have WR := hideI (wrongS_any s (.slice mo s.mem.length mcap) _ ((unhideI HM).step (unhideI K1)))
    unfold St.val St.cells at WR
    clear k1
    go_wp2_with (go_at_call 22; refine (unhideI WR).mono ?_; rintro e w2 ⟨rfl, hw⟩; subst w2)
    go_ret
    exact ⟨rfl, (by repeat (first | exact unhideI K1 | refine Below.setCell ?_ (by first | exact Nat.le_refl _ | (simp; done) | omega | (simp; omega)) _ | refine Below.alloc ?_ (by first | (simp; done) | omega | (simp; omega)) _))⟩
  have b1 : decide ((100 : Int) < l.length) = false := by simp; omega
  go_enter Try.func6, Try.ntmps6
  go_wp2_with fail
  refine (alive3 _).mono ?_
  rintro e w1 ⟨rfl, k1⟩
  have K1 := hideI (bt (below_a w (.cells #[.int .i64 (s.r 0), .int .i64 (s.r 1), .int .i64 (s.r 2), .int .i64 (s.r 3), .int .i64 (s.r 4), .int .i64 (s.r 5), .int .i64 (s.r 6), .int .i64 (s.r 7), .bool s.c, .bool s.z, .bool s.n, .bool s.v, .int .i64 s.pc, .slice mo s.mem.length mcap] 27)) k1)
  have SB := (Box.new w #[.int .i64 (s.r 0), .int .i64 (s.r 1), .int .i64 (s.r 2), .int .i64 (s.r 3), .int .i64 (s.r 4), .int .i64 (s.r 5), .int .i64 (s.r 6), .int .i64 (s.r 7), .bool s.c, .bool s.z, .bool s.n, .bool s.v, .int .i64 s.pc, .slice mo s.mem.length mcap] 27).step k1
  have s0 := SB.2.1 0 _ rfl
  have s1 := SB.2.1 1 _ rfl
  have s2 := SB.2.1 2 _ rfl
  have s3 := SB.2.1 3 _ rfl
  have s4 := SB.2.1 4 _ rfl
  have s5 := SB.2.1 5 _ rfl
  have s6 := SB.2.1 6 _ rfl
  have s7 := SB.2.1 7 _ rfl
  have s8 := SB.2.1 8 _ rfl
  have s9 := SB.2.1 9 _ rfl
  have s10 := SB.2.1 10 _ rfl
  have s11 := SB.2.1 11 _ rfl
  have s12 := SB.2.1 12 _ rfl
  have s13 := SB.2.1 13 _ rfl
  have l1 := SB.1
  have fz1 := SB.2.2
  have WR := hideI (wrongS_any s (.slice mo s.mem.length mcap) _ ((unhideI HM).step (unhideI K1)))
  unfold St.val St.cells at WR
  clear k1
  go_wp2_with (go_at_call 22; refine (unhideI WR).mono ?_; rintro e w2 ⟨rfl, hw⟩; subst w2)
  obtain ⟨i0, hi, hz0, hz1, hz2⟩ := info_parts Try.infoInstr
  obtain ⟨j0, hj, hy0, hy1, hy2⟩ := info_parts Try.infoInt
  have SB3 : Hid (Box (w1.setCell ⟨w.heap.size, 12, none⟩ (.int .i64 0)) w.heap.size [.int .i64 (s.r 0), .int .i64 (s.r 1), .int .i64 (s.r 2), .int .i64 (s.r 3), .int .i64 (s.r 4), .int .i64 (s.r 5), .int .i64 (s.r 6), .int .i64 (s.r 7), .bool s.c, .bool s.z, .bool s.n, .bool s.v, .int .i64 0, .slice mo s.mem.length mcap]) := SB.set (j := 12) (by simp)
  have KC3 : Hid (Below w.heap.size w (w1.setCell ⟨w.heap.size, 12, none⟩ (.int .i64 0))) := (by repeat (first | exact unhideI K1 | refine Below.setCell ?_ (by first | exact Nat.le_refl _ | (simp; done) | omega | (simp; omega)) _ | refine Below.alloc ?_ (by first | (simp; done) | omega | (simp; omega)) _))
  have hsz : (w1.setCell ⟨w.heap.size, 12, none⟩ (.int .i64 0)).heap.size = w1.heap.size := by simp [World.setCell]
  obtain ⟨cs, hcs⟩ : ∃ cs : Array Value, cs = #[.int .i64 (s.r 0), .int .i64 (s.r 1), .int .i64 (s.r 2), .int .i64 (s.r 3), .int .i64 (s.r 4), .int .i64 (s.r 5), .int .i64 (s.r 6), .int .i64 (s.r 7), .bool s.c, .bool s.z, .bool s.n, .bool s.v, .int .i64 s.pc, .slice mo s.mem.length mcap] := ⟨_, rfl⟩
  generalize w1.setCell ⟨w.heap.size, 12, none⟩ (.int .i64 0) = W3 at *
  rw [← hcs]
  have SB4 := hideI ((unhideI SB3).step (below_a W3 (.cells cs 27)))
  have KC4 := hideI (bt (unhideI KC3) (below_a W3 (.cells cs 27)))
  generalize W3.alloc (.cells cs 27) = W4 at *
  clear s0 s1 s2 s3 s4 s5 s6 s7 s8 s9 s10 s11 s12 s13 fz1 SB WR K1 l1 SB3 KC3 hsz hcs
  go_loopg [5, 6, 25] l.length (fun g p q t wr => ∃ k : Nat, k ≤ l.length ∧ g = l.length - k ∧ t = .int .i64 k ∧ Hid (∀ x ∈ l.take k, wd x) ∧ Hid (OwnI wr W4.heap.size p (2 * k) (pushI (l.take k))) ∧ Hid (OwnN wr W4.heap.size q k (l.reverse.take k)) ∧ Hid (Below W4.heap.size W4 wr))
  case atStart => exact ⟨0, Nat.zero_le _, rfl, rfl, (fun x hx => by simp at hx), World.ownsRow_nil _ _ _ _, World.ownsRow_nil _ _ _ _, Below.refl _ _⟩
  case round =>
    obtain ⟨k, hk, hgk, rfl, hwd, hp, hq, hb⟩ := hrel
    have hzr := (unhideI hb).size
    by_cases hlt : k < l.length
    · have hne : l ≠ [] := by intro h; rw [h] at hlt; simp at hlt
      obtain ⟨b, off, rfl, hbw, hc⟩ := (unhideI HA) hne
      have kB := hideI (bt (unhideI KC4) (unhideI hb))
      have c0 : wr.cell? ⟨b, off + k, none⟩ = some (.int .i64 l[k]) := by rw [(unhideI kB).cell (p := ⟨b, off + k, none⟩) hbw]; exact hc k hlt
      have hps := hideI (pushI_snoc l k hlt)
      have hrs := hideI (rev_snoc l k hlt)
      have hts := hideI (List.take_succ_eq_append_getElem hlt)
      obtain ⟨ap, cp, rfl⟩ := own_slice (unhideI hp)
      obtain ⟨aq, cq, rfl⟩ := own_slice (unhideI hq)
      by_cases hx0 : l[k] < 0
      · have e0 : decide (l[k] < 0) = true := by simp [hx0]
        generalize l[k] = x at *
        go_wp2_with fail
        go_ret
        exact ⟨rfl, unhideI kB⟩
      have e0 : decide (l[k] < 0) = false := by simp; omega
      by_cases hx1 : 65535 < l[k]
      · have e1 : decide (65535 < l[k]) = true := by simp [hx1]
        generalize l[k] = x at *
        go_wp2_with fail
        go_ret
        exact ⟨rfl, unhideI kB⟩
      have e1 : decide (65535 < l[k]) = false := by simp; omega
      have hc1 := hideI (hc (l.length - 1 - k) (by omega))
      have hi1 : ((l.length : Int) - 1 - k).toNat = l.length - 1 - k := by omega
      have hi2 : (0 : Int) ≤ (l.length : Int) - 1 - k := by omega
      have hi3 : ((l.length : Int) - 1 - k) < l.length := by omega
      have HP8 := hideI ((unhideI hp).new (.cells #[.int .i64 2, .int .i64 0, .int .i64 0, .int .i64 l[k], .int .i64 28, .int .i64 0, .int .i64 0, .int .i64 0] 45))
      generalize l[k] = x at *
      generalize l[l.length - 1 - k] = y at *
      clear hc
      go_wp2_with (first | (at_builtin; refine wpList_append_own _ rfl (.tmp 36) (.tmp 40) 43 rfl W4.heap.size 45 i0 (.agg #[.int .i64 0, .int .i64 0, .int .i64 0, .int .i64 0]) 4 32 Try.underlying43 hi hz0 hz1 hz2 rfl (by decide) _ _ _ rfl (unhideI HP8) ⟨_, 0, none⟩ 2 2 [.int .i64 2, .int .i64 0, .int .i64 0, .int .i64 x, .int .i64 28, .int .i64 0, .int .i64 0, .int .i64 0] rfl rfl (new_c1 _ #[.int .i64 2, .int .i64 0, .int .i64 0, .int .i64 x, .int .i64 28, .int .i64 0, .int .i64 0, .int .i64 0] _ _ rfl) (by simp [Value.oneCell']) (by unfold maxLen; omega) (by omega) (by simp; omega) ?_; intro v3 w3 own3 grow3 _; have P3 := hideI (OwnI.two (i := ⟨2, 0, 0, x⟩) (j := ⟨28, 0, 0, 0⟩) own3); have Q3 := hideI (OwnN.kept ((unhideI hq).new _) (unhideI HP8) grow3); have kW3 := hideI (below_own ((unhideI hb).alloc (by omega) _) (by simp; omega) (unhideI HP8) grow3); have kB3 := hideI (bt (unhideI KC4) (unhideI kW3)); have c1 : w3.cell? ⟨b, off + (l.length - 1 - k), none⟩ = some (.int .i64 y) := (by rw [(unhideI kB3).cell (p := ⟨b, off + (l.length - 1 - k), none⟩) hbw]; exact unhideI hc1); have sz3 := (unhideI kW3).size; have QN := hideI ((unhideI Q3).new (.cells #[.int .i64 y] 3)); clear own3 grow3) | (at_builtin; refine wpList_append_own _ rfl (.tmp 42) (.tmp 51) 22 rfl W4.heap.size 3 j0 (.int .i64 0) 1 8 Try.underlying22 hj hy0 hy1 hy2 rfl (by decide) _ _ _ rfl (unhideI QN) ⟨_, 0, none⟩ 1 1 [.int .i64 y] rfl rfl (one_c1 _ _ _) (one_c2 _ _) (by unfold maxLen; omega) (by omega) (by simp; omega) ?_; intro v4 w4 own4 grow4 _; have P4 := hideI (OwnI.kept ((unhideI P3).new _) (unhideI QN) grow4); have Q4 := hideI (OwnN.one own4); have kW4 := hideI (below_own ((unhideI kW3).alloc (by omega) _) (by simp; omega) (unhideI QN) grow4); clear own4 grow4))
      go_roundg (l.length - (k + 1))
      case measure => omega
      case rel =>
        refine ⟨k + 1, by omega, rfl, by go_num, ?_, ?_, ?_, kW4⟩
        · intro z hz
          rw [unhideI hts] at hz
          rcases List.mem_append.1 hz with h | h
          · exact unhideI hwd z h
          · simp at h; subst h; unfold wd; omega
        · rw [unhideI hps, Nat.mul_succ]; exact unhideI P4
        · rw [unhideI hrs]; exact unhideI Q4
    · have hkn : k = l.length := by omega
      subst hkn
      have hwl : Hid (∀ x ∈ l, wd x) := by have := unhideI hwd; rw [List.take_length] at this; exact this
      have hpI := hideI (unhideI hp)
      rw [List.take_length] at hpI
      have hqN := hideI (unhideI hq)
      rw [show l.reverse.take l.length = l.reverse from List.take_of_length_le (by simp)] at hqN
      have kB := hideI (bt (unhideI KC4) (unhideI hb))
      clear hp hq hwd
      go_wp2_with fail
      go_loopg [5, 56] l.length (fun g p t ws => ∃ j : Nat, j ≤ l.length ∧ g = l.length - j ∧ t = .int .i64 j ∧ Hid (OwnI ws W4.heap.size p (2 * l.length + 2 * j) (pushI l ++ popI j)) ∧ Hid (OwnN ws W4.heap.size u6 l.length l.reverse) ∧ Hid (Below W4.heap.size W4 ws))
      case atStart => exact ⟨0, Nat.zero_le _, rfl, rfl, by simpa [popI] using hpI, hqN, hb⟩
      case round =>
        obtain ⟨j, hj, hgj, rfl, hp, hq, hb2⟩ := hrel
        clear hpI hqN hb kB
        have hzw := (unhideI hb2).size
        by_cases hlt2 : j < l.length
        · have HP8 := hideI ((unhideI hp).new (.cells #[.int .i64 29, .int .i64 1, .int .i64 0, .int .i64 0, .int .i64 30, .int .i64 0, .int .i64 1, .int .i64 0] 45))
          go_wp2_with (at_builtin; refine wpList_append_own _ rfl (.tmp 58) (.tmp 61) 43 rfl W4.heap.size 45 i0 (.agg #[.int .i64 0, .int .i64 0, .int .i64 0, .int .i64 0]) 4 32 Try.underlying43 hi hz0 hz1 hz2 rfl (by decide) _ _ _ rfl (unhideI HP8) ⟨_, 0, none⟩ 2 2 [.int .i64 29, .int .i64 1, .int .i64 0, .int .i64 0, .int .i64 30, .int .i64 0, .int .i64 1, .int .i64 0] rfl rfl (new_c1 _ #[.int .i64 29, .int .i64 1, .int .i64 0, .int .i64 0, .int .i64 30, .int .i64 0, .int .i64 1, .int .i64 0] _ _ rfl) (by simp [Value.oneCell']) (by unfold maxLen; omega) (by omega) (by simp; omega) ?_; intro v3 w3 own3 grow3 _; have P3 := hideI (OwnI.two (i := ⟨29, 1, 0, 0⟩) (j := ⟨30, 0, 1, 0⟩) own3); have Q3 := hideI (OwnN.kept ((unhideI hq).new _) (unhideI HP8) grow3); have kW3 := hideI (below_own ((unhideI hb2).alloc (by omega) _) (by simp; omega) (unhideI HP8) grow3); clear own3 grow3)
          go_roundg (l.length - (j + 1))
          case measure => omega
          case rel => exact ⟨j + 1, by omega, rfl, by go_num, by rw [Nat.mul_succ, ← Nat.add_assoc, popI, ← List.append_assoc]; exact P3, Q3, kW3⟩
        · have hjn : j = l.length := by omega
          subst hjn
          have kB := hideI (bt (unhideI KC4) (unhideI hb2))
          have SB5 := (unhideI SB4).step (unhideI hb2)
          have s0 := SB5.2.1 0 _ rfl
          have s1 := SB5.2.1 1 _ rfl
          have s2 := SB5.2.1 2 _ rfl
          have s3 := SB5.2.1 3 _ rfl
          have s4 := SB5.2.1 4 _ rfl
          have s5 := SB5.2.1 5 _ rfl
          have s6 := SB5.2.1 6 _ rfl
          have s7 := SB5.2.1 7 _ rfl
          have s8 := SB5.2.1 8 _ rfl
          have s9 := SB5.2.1 9 _ rfl
          have s10 := SB5.2.1 10 _ rfl
          have s11 := SB5.2.1 11 _ rfl
          have s12 := SB5.2.1 12 _ rfl
          have s13 := SB5.2.1 13 _ rfl
          have ls := SB5.1
          have fzs := SB5.2.2
          have HS5 := hideI SB5
          obtain ⟨rt1, rt2⟩ := stack_right l (unhideI hwl)
          have hbx := hideI ((unhideI SB4).1)
          have RL := hideI (lawRun_any (stackI l) (stackS s) (.slice mo s.mem.length mcap) _ W4.heap.size _ (by have h := unhideI hp; unfold OwnI at h; rw [stackI_len, show 4 * l.length = 2 * l.length + 2 * l.length by omega]; exact h) hzw ((unhideI HM).step (unhideI kB)) (fun k hk hv => by have := ints_lt (unhideI HM) k hk hv; have := (unhideI hbx); omega) rt1 rt2 (by rw [stackI_len]; omega) (stackS_wrong s h0) rfl)
          obtain ⟨q1, q2, q3⟩ := stack_end l s (by omega) h0
          generalize endM ((startM (stackS s)).line [] (stackI l)) = mm at *
          have Q1 := hideI q1
          have Q2 := hideI q2
          have Q3 := hideI q3
          clear q1 q2 q3 rt1 rt2 SB5
          unfold St.val St.cells stackS at RL
          dsimp only at RL
          go_wp2_with fail
          refine (unhideI RL).mono ?_
          rintro e w5 ⟨vo, vm5, rfl, i5, o5, g5⟩
          have KX5 := hideI (Below.grown (unhideI hb2) g5 hzw (fun k hk => (World.ownsRow.lt (unhideI hp) k hk).1))
          have K5 := hideI (bt (unhideI KC4) (unhideI KX5))
          have HS6 := hideI ((unhideI SB4).step (unhideI KX5))
          have QW := hideI (OwnN.kept (unhideI hq) (unhideI hp) g5)
          obtain ⟨aq, cq, rfl⟩ := own_slice (unhideI QW)
          have WI := hideI (own_rev (unhideI QW))
          have I5 := hideI i5
          have hol : Hid (mm.out.length = l.length) := by unfold Hid; rw [unhideI Q2]; simp
          have O5 := hideI o5
          obtain ⟨m5, c5, rfl, _, _⟩ := i5.at
          obtain ⟨n5, d5, rfl, _, _⟩ := o5.at
          clear i5 o5 g5 RL hb2 hp hq kB HS5 s0 s1 s2 s3 s4 s5 s6 s7 s8 s9 s10 s11 s12 s13 fzs QW KX5
          unfold ranV
          by_cases hl0 : l.length = 0
          · have bl : ((l.length : Int) == 0) = true := by simp [hl0]
            go_wp2_with (refine wpList_store_row rfl 31 (.tmp 9) (.tmp 68) rfl w5.heap.size (ranC mm (.slice n5 mm.out.length d5) (.slice m5 (memL mm.mem).length c5)) rfl rfl 31 #[.int .i64 0, .int .i64 0, .slice none 0 0, .int .i64 0, .int .i64 0, .int .i64 0, .int .i64 0, .int .i64 0, .int .i64 0, .int .i64 0, .int .i64 0, .int .i64 0, .int .i64 0, .bool false, .bool false, .bool false, .bool false, .int .i64 0, .slice none 0 0] (heap_new _ _) Try.sizeRan rfl (ranC_one _ _ _ _ _ _ _) ?_; have SN := hideI (store_new w5 #[.int .i64 0, .int .i64 0, .slice none 0 0, .int .i64 0, .int .i64 0, .int .i64 0, .int .i64 0, .int .i64 0, .int .i64 0, .int .i64 0, .int .i64 0, .int .i64 0, .int .i64 0, .bool false, .bool false, .bool false, .bool false, .int .i64 0, .slice none 0 0] (ranC mm (.slice n5 mm.out.length d5) (.slice m5 (memL mm.mem).length c5)) 31); have SH := hideI (store_heap w5 #[.int .i64 0, .int .i64 0, .slice none 0 0, .int .i64 0, .int .i64 0, .int .i64 0, .int .i64 0, .int .i64 0, .int .i64 0, .int .i64 0, .int .i64 0, .int .i64 0, .int .i64 0, .bool false, .bool false, .bool false, .bool false, .int .i64 0, .slice none 0 0] (ranC mm (.slice n5 mm.out.length d5) (.slice m5 (memL mm.mem).length c5)) 31); generalize (w5.alloc (.cells #[.int .i64 0, .int .i64 0, .slice none 0 0, .int .i64 0, .int .i64 0, .int .i64 0, .int .i64 0, .int .i64 0, .int .i64 0, .int .i64 0, .int .i64 0, .int .i64 0, .int .i64 0, .bool false, .bool false, .bool false, .bool false, .int .i64 0, .slice none 0 0] 31)).setRow w5.heap.size (ranC mm (.slice n5 mm.out.length d5) (.slice m5 (memL mm.mem).length c5)) = w6 at *; have p12 := (unhideI SN).1.2.1 12 _ rfl; rw [unhideI Q1] at p12; have p2 := (unhideI SN).1.2.1 2 _ rfl; rw [unhideI hol] at p2; have p6 := (unhideI SN).1.2.1 6 _ rfl; have zz := (unhideI SN).1.1; have HS7 := (unhideI HS6).step (unhideI SN).2; have t7 := HS7.2.1 7 _ rfl; have lz := HS7.1; have K6 := hideI (bt (unhideI K5) (unhideI SN).2); have O6 := hideI (Lies.step (unhideI O5) (unhideI SN).2); have W6 := hideI (Ints.step (unhideI WI) (unhideI SN).2); clear HS7 SN SH O5 WI I5 HS6)
            go_loopg [92] l.length (fun g t wq => ∃ (i q : Nat), i ≤ l.length ∧ g = l.length - i ∧ t = .int .i64 i ∧ wq = w6.drewN q)
            case atStart => exact ⟨0, 0, Nat.zero_le _, rfl, rfl, rfl⟩
            obtain ⟨i, q, hi3, hgi, rfl, rfl⟩ := hrel
            have hin : i = l.length := by omega
            subst hin
            go_wp2_with fail
            go_quiet (fail)
            go_wp2_with fail
            go_ret
            exact ⟨rfl, bdr (bdr (unhideI K6) _) _⟩
          · have bl : ((l.length : Int) == 0) = false := by simp; exact fun h => hl0 (by rw [h]; rfl)
            obtain ⟨x0, r0, hxr⟩ : ∃ x r, l = x :: r := by cases l with | nil => exact absurd rfl hl0 | cons x r => exact ⟨x, r, rfl⟩
            have q6 := hideI (unhideI Q3 x0 r0 hxr)
            have hlast := hideI (rev_last l x0 r0 hxr)
            clear hxr
            go_wp2_with (refine wpList_store_row rfl 31 (.tmp 9) (.tmp 68) rfl w5.heap.size (ranC mm (.slice n5 mm.out.length d5) (.slice m5 (memL mm.mem).length c5)) rfl rfl 31 #[.int .i64 0, .int .i64 0, .slice none 0 0, .int .i64 0, .int .i64 0, .int .i64 0, .int .i64 0, .int .i64 0, .int .i64 0, .int .i64 0, .int .i64 0, .int .i64 0, .int .i64 0, .bool false, .bool false, .bool false, .bool false, .int .i64 0, .slice none 0 0] (heap_new _ _) Try.sizeRan rfl (ranC_one _ _ _ _ _ _ _) ?_; have SN := hideI (store_new w5 #[.int .i64 0, .int .i64 0, .slice none 0 0, .int .i64 0, .int .i64 0, .int .i64 0, .int .i64 0, .int .i64 0, .int .i64 0, .int .i64 0, .int .i64 0, .int .i64 0, .int .i64 0, .bool false, .bool false, .bool false, .bool false, .int .i64 0, .slice none 0 0] (ranC mm (.slice n5 mm.out.length d5) (.slice m5 (memL mm.mem).length c5)) 31); have SH := hideI (store_heap w5 #[.int .i64 0, .int .i64 0, .slice none 0 0, .int .i64 0, .int .i64 0, .int .i64 0, .int .i64 0, .int .i64 0, .int .i64 0, .int .i64 0, .int .i64 0, .int .i64 0, .int .i64 0, .bool false, .bool false, .bool false, .bool false, .int .i64 0, .slice none 0 0] (ranC mm (.slice n5 mm.out.length d5) (.slice m5 (memL mm.mem).length c5)) 31); generalize (w5.alloc (.cells #[.int .i64 0, .int .i64 0, .slice none 0 0, .int .i64 0, .int .i64 0, .int .i64 0, .int .i64 0, .int .i64 0, .int .i64 0, .int .i64 0, .int .i64 0, .int .i64 0, .int .i64 0, .bool false, .bool false, .bool false, .bool false, .int .i64 0, .slice none 0 0] 31)).setRow w5.heap.size (ranC mm (.slice n5 mm.out.length d5) (.slice m5 (memL mm.mem).length c5)) = w6 at *; have p12 := (unhideI SN).1.2.1 12 _ rfl; rw [unhideI Q1] at p12; have p2 := (unhideI SN).1.2.1 2 _ rfl; rw [unhideI hol] at p2; have p6 := (unhideI SN).1.2.1 6 _ rfl; have zz := (unhideI SN).1.1; have HS7 := (unhideI HS6).step (unhideI SN).2; have t7 := HS7.2.1 7 _ rfl; have lz := HS7.1; have K6 := hideI (bt (unhideI K5) (unhideI SN).2); have O6 := hideI (Lies.step (unhideI O5) (unhideI SN).2); have W6 := hideI (Ints.step (unhideI WI) (unhideI SN).2); clear HS7 SN SH O5 WI I5 HS6)
            go_loopg [92] l.length (fun g t wq => ∃ (i q : Nat), i ≤ l.length ∧ g = l.length - i ∧ t = .int .i64 i ∧ wq = w6.drewN q)
            case atStart => exact ⟨0, 0, Nat.zero_le _, rfl, rfl, rfl⟩
            obtain ⟨i, q, hi3, hgi, rfl, rfl⟩ := hrel
            by_cases hlt3 : i < l.length
            · have hrn : l.reverse ≠ [] := by intro h; have := congrArg List.length h; simp at this; rw [this] at hlt3; simp at hlt3
              have hrl : i < l.reverse.length := by simpa using hlt3
              have hy := unhideI hwl _ (List.mem_reverse.1 (List.getElem_mem hrl))
              obtain ⟨b6, f6, rfl, lb6, c6⟩ := out_cell (unhideI O6) (unhideI Q2) i hrl
              obtain ⟨b7, f7, rfl, lb7, c7⟩ := int_cell (unhideI W6) i hrl
              generalize l.reverse[i] = y at *
              unfold wd at hy
              have hy2 : 0 ≤ y % 256 ∧ y % 256 ≤ 255 := by omega
              have hnn : (y % 256 != y % 256) = false := by simp
              clear O6 W6
              have hti : decide ((i : Int) < (l.length : Int)) = true := by simp; omega
              go_wp2_with fail
              go_quiet (fail)
              go_wp2_with fail
              go_roundg (l.length - (i + 1))
              case measure => omega
              case rel => exact ⟨i + 1, _, by omega, rfl, by go_num, rfl⟩
            have hin : i = l.length := by omega
            subst hin
            go_wp2_with fail
            have hrl : l.length - 1 < l.reverse.length := by simp; omega
            obtain ⟨b7, f7, rfl, lb7, c7⟩ := int_cell (unhideI W6) (l.length - 1) hrl
            rw [unhideI hlast hrl] at c7
            rw [unhideI q6] at p6
            have hi1 : ((l.length : Int) - 1).toNat = l.length - 1 := by omega
            have hi2 : (0 : Int) ≤ (l.length : Int) - 1 := by omega
            have hi4 : ((l.length : Int) - 1) < l.length := by omega
            have hxx : (x0 == x0) = true := by simp
            clear O6 W6 hlast
            go_quiet (fail)
            go_wp2_with fail
            go_ret
            exact ⟨rfl, bdr (bdr (unhideI K6) _) _⟩
end Go.Proofs.Ytjlbenbfmookoab
