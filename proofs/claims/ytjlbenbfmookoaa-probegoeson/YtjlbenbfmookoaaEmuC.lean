/-
  The machine's small parts: place, become, push, pop.
-/
import Derived.Test.YtjlbenbfmookoaaEmuB
import Derived.BigRegion
import Derived.Deep.RegionWith
import Derived.Deep.DeepCutAuto
import Derived.RegionTactic
import Derived.ChangeAlike
import Derived.StillTailTactics
namespace Go.Proofs.Ytjlbenbfmookoaa
open Go.RowKit
set_option linter.unusedSimpArgs false
set_option linter.unusedVariables false
variable {X : Sd}

theorem place_any (x : Int) (w : World) : Calls Try.prog 66 #[.int .i64 x] w fun e w' => e = .returned (.int .i64 (lw x)) ∧ w' = w := by
  have e1 := and_i64 x
  go_enter Try.func66, Try.ntmps66
  go_wp2
  go_ret
  exact ⟨rfl, rfl⟩

/-- A region that draws its order, but for its end: what comes ahead of that only reads. -/
theorem wp_region_head {P : Program} {id : Nat} {Q : Exit → Act → World → Prop} {a : Act} {w : World} {l : List Oper} (n : Nat) (hm : P.follows .mixedOrders = true) (hB : Region.lexTailB .any l.toArray n = true)
    (h : wpStill P l.toArray w.drew (fun a' => wpList P l.toArray Q (l.drop n) a' w.drew) (l.take n) a) : (Code.region id l.toArray true).wp P Q a w := wp_region_still_tail n hm hB h
theorem wrap_ok {x : Int} (h1 : -100000000 ≤ x) (h2 : x ≤ 100000000) : IntKind.i64.wrap x = x := by rw [IntKind.wrap_i64]; omega
theorem Mach.drew {w0 w : World} {p q : Nat} {vc vi vo : Value} {m : Ma} {xs bs : List Int} (h : Mach X w0 w p q vc vi vo m xs bs) : Mach X w0 w.drew p q vc vi vo m xs bs := h.step (Below.refl _ _).drew
theorem Mach.drewN {w0 w : World} {p q : Nat} {vc vi vo : Value} {m : Ma} {xs bs : List Int} (h : Mach X w0 w p q vc vi vo m xs bs) (n : Nat) : Mach X w0 (w.drewN n) p q vc vi vo m xs bs := h.step ⟨rfl, rfl, rfl, Nat.le_refl _, fun _ _ => rfl⟩
theorem Box.drew {w : World} {b : Nat} {cs : List Value} (h : Box w b cs) : Box w.drew b cs := h.step (Below.refl _ _).drew
theorem Kept.drewN {u v : World} {p q : Nat} (h : Kept u v p q) (n : Nat) : Kept u (v.drewN n) p q := ⟨h.1, h.2⟩
theorem Box.kept {u v : World} {p q b : Nat} {cs : List Value} (h : Box u b cs) (k : Kept u v p q) (n1 : b ≠ p) (n2 : b ≠ q) : Box v b cs :=
  ⟨Nat.lt_of_lt_of_le h.1 k.1, fun j x hx => by rw [World.cell?_of_block (w := u) (a := ⟨b, j, none⟩) (k.2 b h.1 n1 n2)]; exact h.2.1 j x hx, fun j => by rw [World.frozen?_of_block (w := u) (a := ⟨b, j, none⟩) (k.2 b h.1 n1 n2)]; exact h.2.2 j⟩
theorem Kept.drew {u v : World} {p q : Nat} (h : Kept u v p q) : Kept u v.drew p q := ⟨h.1, h.2⟩
theorem Mach.reg7 {w0 w : World} {p q : Nat} {vc vi vo : Value} {m : Ma} {xs bs : List Int} (h : Mach X w0 w p q vc vi vo m xs bs) : w.cell? ⟨p, 7, none⟩ = some (.int .i64 (m.reg 7)) := h.reg (d := 7) (by decide) (by decide)
theorem reg_setR (m : Ma) (d x : Int) : (m.setR d x).reg d = x := upd_same _ _ _
theorem cells_flags (m : Ma) (vm vc vi vo : Value) (c z n v : Bool) : ((((cellsM m vm vc vi vo).set 8 (.bool c)).set 9 (.bool z)).set 10 (.bool n)).set 11 (.bool v) = cellsM { m with c := c, z := z, n := n, v := v } vm vc vi vo := rfl
theorem Mach.flags {w0 w : World} {p q : Nat} {vc vi vo : Value} {m : Ma} {xs bs : List Int} (h : Mach X w0 w p q vc vi vo m xs bs) (c z n v : Bool) :
    Mach X w0 ((((w.setCell ⟨p, 8, none⟩ (.bool c)).setCell ⟨p, 9, none⟩ (.bool z)).setCell ⟨p, 10, none⟩ (.bool n)).setCell ⟨p, 11, none⟩ (.bool v)) p q vc vi vo { m with c := c, z := z, n := n, v := v } xs bs :=
  (((h.put (m' := { m with c := c }) 8 (.bool c) (by decide) rfl rfl rfl { h.fine with }).put (m' := { m with c := c, z := z }) 9 (.bool z) (by decide) rfl rfl rfl { h.fine with }).put (m' := { m with c := c, z := z, n := n }) 10 (.bool n) (by decide) rfl rfl rfl { h.fine with }).put 11 (.bool v) (by decide) rfl rfl rfl { h.fine with }

set_option maxHeartbeats 1000000 in
theorem become_any {w0 w : World} {p q : Nat} {vc vi vo : Value} {m : Ma} {xs bs : List Int} (h : Mach X w0 w p q vc vi vo m xs bs) (d x : Int) (cy : Bool) (hd : 0 ≤ d) (hd' : d ≤ 7) (hx : wd x) :
    Calls Try.prog 70 #[.pointer (some ⟨p, 0, none⟩), .int .i64 d, .int .i64 x, .bool cy] w fun e w' => e = .returned (.tuple #[]) ∧ Mach X w0 w' p q vc vi vo (m.become d x cy) xs bs := by
  have HM := hideI h
  have c0 := h.reg hd hd'
  obtain ⟨c8, c9, c10, c11, -, -, -, -, -, -, -, -, -⟩ := h.at
  have fz := h.flat
  have hp := h.pw
  clear h
  unfold wd at hx
  have h15 : x >>> 15 = x / 32768 := by rw [Int.shiftRight_eq_div_pow]; rfl
  go_enter Try.func70, Try.ntmps70
  go_wp2
  go_end0
  exact ⟨rfl, ((unhideI HM).sreg d x hd hd' hx).flags cy (x == 0) (x / 32768 == 1) false⟩

set_option maxHeartbeats 1000000 in
theorem push_any {w0 w : World} {p q : Nat} {vc vi vo : Value} {m : Ma} {xs bs : List Int} (h : Mach X w0 w p q vc vi vo m xs bs) (x : Int) (hx : wd x) :
    Calls Try.prog 73 #[.pointer (some ⟨p, 0, none⟩), .int .i64 x] w fun e w' => e = .returned (.tuple #[]) ∧ Mach X w0 w' p q vc vi vo (m.push x) xs bs ∧ Kept w w' p q := by
  have HM := hideI h
  have c0 : w.cell? ⟨p, 7, none⟩ = some (.int .i64 (m.reg 7)) := h.reg (d := 7) (by decide) (by decide)
  obtain ⟨-, -, -, -, -, c13, -, -, -, -, -, -, -⟩ := h.at
  have fz := h.flat
  have hp := h.pw
  have fq := h.frz
  have hr : wd (m.reg 7) := h.fine.reg (by decide) (by decide)
  have hl := lw_b (m.reg 7 - 1)
  have cm := h.mem (lw (m.reg 7 - 1)).toNat (by omega)
  have hpq := h.hpq
  clear h
  unfold wd at hr
  go_enter Try.func73, Try.ntmps73
  have hwr := wrap_ok (x := m.reg 7 - 1) (by omega) (by omega)
  go_upto_region 1 with fail
  go_cut [4] (fun _ wx => Mach X w0 wx p q vc vi vo (m.setR 7 (lw (m.reg 7 - 1))) xs bs ∧ Kept w wx p q)
  case first =>
    go_region_with (go_at_call 66; refine (place_any _ _).mono ?_; rintro e w1 ⟨rfl, hw⟩; subst w1)
    all_goals (go_wp2_with fail; go_meet; exact ⟨((unhideI HM).sreg 7 (lw (m.reg 7 - 1)) (by decide) (by decide) hl).drew, ((Kept.refl _ _ _).set (.inl rfl)).drew⟩)
  case rest =>
    obtain ⟨h, hk⟩ := hcut
    clear c0 c13 fz hp fq cm HM
    have HM := hideI h
    have c0 := h.reg7
    rw [reg_setR] at c0
    obtain ⟨-, -, -, -, -, c13, -, -, -, -, -, -, -⟩ := h.at
    have fz := h.flat
    have hp := h.pw
    have fq := h.frz
    have cm := h.mem (lw (m.reg 7 - 1)).toNat (by omega)
    clear h
    go_wp2_with fail
    go_region
    all_goals
      go_wp2_with fail
      go_end0
      exact ⟨rfl, ((unhideI HM).sto (lw (m.reg 7 - 1)) x hl hx).drew, (hk.set (.inr rfl)).drew⟩

set_option maxHeartbeats 1000000 in
theorem pop_any {w0 w : World} {p q : Nat} {vc vi vo : Value} {m : Ma} {xs bs : List Int} (h : Mach X w0 w p q vc vi vo m xs bs) :
    Calls Try.prog 74 #[.pointer (some ⟨p, 0, none⟩)] w fun e w' => e = .returned (.int .i64 (m.ld (m.reg 7))) ∧ Mach X w0 w' p q vc vi vo m.pop xs bs ∧ Kept w w' p q := by
  have hr : wd (m.reg 7) := h.fine.reg (by decide) (by decide)
  have hl := lw_b (m.reg 7 + 1)
  have hwr := wrap_ok (x := m.reg 7 + 1) (by unfold wd at hr; omega) (by unfold wd at hr; omega)
  unfold wd at hr
  have HM := hideI h
  have c0 : w.cell? ⟨p, 7, none⟩ = some (.int .i64 (m.reg 7)) := h.reg (d := 7) (by decide) (by decide)
  obtain ⟨-, -, -, -, -, c13, -, -, -, -, -, -, -⟩ := h.at
  have fz := h.flat
  have hp := h.pw
  have cm : w.cell? ⟨q, (m.reg 7).toNat, none⟩ = some (.int .i64 (m.ld (m.reg 7))) := h.mem (m.reg 7).toNat (by omega)
  clear h
  go_enter Try.func74, Try.ntmps74
  go_wp2_with fail
  go_quiet (fail)
  go_wp2_with fail
  go_region_with (go_at_call 66; refine (place_any _ _).mono ?_; rintro e w1 ⟨rfl, hw⟩; subst w1)
  all_goals
    go_wp2_with fail
    go_ret
    exact ⟨rfl, (((unhideI HM).drewN _).sreg 7 (lw (m.reg 7 + 1)) (by decide) (by decide) hl), ((Kept.refl _ _ _).drewN _).set (.inl rfl)⟩

set_option maxHeartbeats 1000000 in
theorem jumps_any {w0 w : World} {p q : Nat} {vc vi vo : Value} {m : Ma} {xs bs : List Int} (h : Mach X w0 w p q vc vi vo m xs bs) (o : Int) :
    Calls Try.prog 72 #[.pointer (some ⟨p, 0, none⟩), .int .i64 o] w fun e w' => e = .returned (.bool (m.jumps o)) ∧ Below w.heap.size w w' := by
  obtain ⟨c8, c9, c10, c11, -, -, -, -, -, -, -, -, -⟩ := h.at
  have fz := h.flat
  have hp := h.pw
  clear h
  generalize hc : m.c = c at *
  generalize hz : m.z = z at *
  generalize hn : m.n = n at *
  generalize hv : m.v = v at *
  have hj : Hid (m.jumps o = if o = 20 then z else if o = 21 then !z else if o = 22 then c else if o = 23 then !c else if o = 24 then n != v else if o = 25 then n == v else true) := by unfold Hid Ma.jumps; rw [hc, hz, hn, hv]
  rw [unhideI hj]
  clear hj hc hz hn hv
  by_cases h20 : o = 20
  · subst h20
    go_enter Try.func72, Try.ntmps72
    go_wp2
    go_ret
    exact ⟨rfl, below_a _ _⟩
  by_cases h21 : o = 21
  · subst h21
    go_enter Try.func72, Try.ntmps72
    go_wp2
    go_ret
    exact ⟨rfl, below_a _ _⟩
  by_cases h22 : o = 22
  · subst h22
    go_enter Try.func72, Try.ntmps72
    go_wp2
    go_ret
    exact ⟨rfl, below_a _ _⟩
  by_cases h23 : o = 23
  · subst h23
    go_enter Try.func72, Try.ntmps72
    go_wp2
    go_ret
    exact ⟨rfl, below_a _ _⟩
  by_cases h24 : o = 24
  · subst h24
    go_enter Try.func72, Try.ntmps72
    go_wp2
    go_ret
    exact ⟨rfl, below_a _ _⟩
  by_cases h25 : o = 25
  · subst h25
    go_enter Try.func72, Try.ntmps72
    go_wp2
    go_ret
    exact ⟨rfl, below_a _ _⟩
  rw [if_neg h20, if_neg h21, if_neg h22, if_neg h23, if_neg h24, if_neg h25]
  go_enter Try.func72, Try.ntmps72
  go_wp2
  go_ret
  exact ⟨rfl, below_a _ _⟩
end Go.Proofs.Ytjlbenbfmookoaa
