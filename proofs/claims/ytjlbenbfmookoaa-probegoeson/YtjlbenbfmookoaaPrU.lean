/-
  probe.Until: where a run stops.
-/
import Derived.Test.YtjlbenbfmookoaaEmuY
import Derived.Deep.OwnRows
namespace Go.Proofs.Ytjlbenbfmookoaa
open Go.RowKit
set_option linter.unusedSimpArgs false
set_option linter.unusedVariables false

theorem Try.infoBool : (Try.prog.info? 4).map (fun i => (i.zero, i.size, i.bytes)) = some (some (.bool false), 1, 1) := by kernel_rfl
/-- Whether a place is one of places. -/
def isAt (pl : List Int) (x : Int) : Bool := decide (x ∈ pl)
theorem isAt_next {pl : List Int} {i : Nat} (h : i < pl.length) (x : Int) : isAt (pl.take (i + 1)) x = (isAt (pl.take i) x || x == pl[i]) := by
  have e : pl.take (i + 1) = pl.take i ++ [pl[i]] := by rw [List.take_add_one, List.getElem?_eq_getElem h]; rfl
  unfold isAt
  rw [e]
  generalize pl.take i = l
  generalize pl[i] = y
  rw [Bool.eq_iff_iff]
  simp

set_option maxRecDepth 100000 in
set_option maxHeartbeats 2000000 in
theorem marked_any (pl : List Int) (v : Value) (w : World) (hv : Ints w v pl) :
    Calls Try.prog 28 #[v] w fun e w' => ∃ rb, e = .returned (.slice (some ⟨rb, 0, none⟩) 65536 65536) ∧ w'.rowIs rb 4 65536 (fun j => .bool (isAt pl (j : Int))) ∧ w.heap.size ≤ rb ∧ Below w.heap.size w w' := by
  obtain ⟨ao, cap, rfl, hmax, hat⟩ := hv.at
  have HA := hideI hat
  clear hat hv
  unfold maxLen at hmax
  obtain ⟨MC, hMC⟩ : ∃ MC, MC = madeCells #[Value.bool false] 65536 := ⟨_, rfl⟩
  have hmk : ∀ w, (Instr.makeSlice 65 (.int .i64 65536) (.int .i64 65536)).run Try.prog w = .ok (.slice (some ⟨w.heap.size, 0, none⟩) 65536 65536) (w.alloc (.cells MC 4)) := by
    rw [hMC]
    exact run_make_row' 65 4 (.bool false) 1 Try.underlying65 Try.infoBool rfl .i64 .i64 65536 (by decide) (by decide)
  have R0 : Hid ((w.alloc (.cells MC 4)).rowIs w.heap.size 4 65536 (fun j => .bool (isAt (pl.take 0) (j : Int)))) := by
    rw [hMC]
    exact World.rowIs_made w (.bool false) 65536 4
  have K0 := hideI (below_a w (.cells MC 4))
  clear hMC
  go_enter Try.func28, Try.ntmps28
  go_wp2_with fail
  clear hmk
  generalize w.alloc (.cells MC 4) = w1 at *
  go_loopg [9] pl.length (fun g t wr => ∃ (i : Nat), i ≤ pl.length ∧ g = pl.length - i ∧ t = .int .i64 i ∧ Hid (wr.rowIs w.heap.size 4 65536 (fun j => .bool (isAt (pl.take i) (j : Int)))) ∧ Hid (Below w.heap.size w wr))
  case atStart => exact ⟨0, Nat.zero_le _, rfl, rfl, R0, K0⟩
  case round =>
    obtain ⟨i, hi, rfl, rfl, R1, K1⟩ := hrel
    clear R0 K0
    by_cases hlt : i < pl.length
    · have hn : pl ≠ [] := by intro h; rw [h] at hlt; simp at hlt
      obtain ⟨b1, o1, rfl, h1, c1⟩ := (unhideI HA) hn
      have x1 : wr.cell? ⟨b1, o1 + i, none⟩ = some (.int .i64 pl[i]) := by rw [(unhideI K1).cell (p := ⟨b1, o1 + i, none⟩) h1]; exact c1 i hlt
      have RN := hideI (fun x : Int => isAt_next hlt x)
      clear c1
      have hnext : Hid (Int.ofNat i + 1 = Int.ofNat (i + 1)) := rfl
      generalize pl[i] = y at *
      by_cases hy : 0 ≤ y ∧ y < 65536
      · have d1 : decide (0 ≤ y) = true := by simpa using hy.1
        have d2 : decide (y < 65536) = true := by simpa using hy.2
        obtain ⟨k, rfl⟩ : ∃ k : Nat, y = k := ⟨y.toNat, by omega⟩
        have hk : k < 65536 := by omega
        have r1 := (unhideI R1).cell hk
        have r2 := (unhideI R1).frozen
        have r3 := (unhideI R1).lt
        have R2 : Hid ((wr.setCell ⟨w.heap.size, k, none⟩ (.bool true)).rowIs w.heap.size 4 65536 (fun j => .bool (isAt (pl.take (i + 1)) (j : Int)))) := ((unhideI R1).set k (.bool true)).congr fun j _ => by
          rw [unhideI RN]
          by_cases e : j = k
          · subst e; simp
          · rw [if_neg e]
            have : ((j : Int) == (k : Int)) = false := by simp; omega
            rw [this, Bool.or_false]
        have K2 : Hid (Below w.heap.size w (wr.setCell ⟨w.heap.size, k, none⟩ (.bool true))) := (unhideI K1).setCell (Nat.le_refl _) _
        go_wp2_with fail
        go_roundg (pl.length - (i + 1))
        case measure => omega
        case rel => exact ⟨i + 1, by omega, rfl, by go_num, R2, K2⟩
      · have R2 : Hid (wr.rowIs w.heap.size 4 65536 (fun j => .bool (isAt (pl.take (i + 1)) (j : Int)))) := (unhideI R1).congr fun j hj => by
          rw [unhideI RN]
          have : ((j : Int) == y) = false := by simp; omega
          rw [this, Bool.or_false]
        by_cases h0 : 0 ≤ y
        · have d1 : decide (0 ≤ y) = true := by simpa using h0
          have d2 : decide (y < 65536) = false := by simp; omega
          go_wp2_with fail
          go_roundg (pl.length - (i + 1))
          case measure => omega
          case rel => exact ⟨i + 1, by omega, rfl, by go_num, R2, K1⟩
        · have d1 : decide (0 ≤ y) = false := by simp; omega
          go_wp2_with fail
          go_roundg (pl.length - (i + 1))
          case measure => omega
          case rel => exact ⟨i + 1, by omega, rfl, by go_num, R2, K1⟩
    · have e : i = pl.length := by omega
      subst e
      have R2 : Hid (wr.rowIs w.heap.size 4 65536 (fun j => .bool (isAt pl (j : Int)))) := by have := unhideI R1; rw [List.take_length] at this; exact this
      go_wp2_with fail
      go_ret
      exact ⟨w.heap.size, rfl, unhideI R2, Nat.le_refl _, unhideI K1⟩
/-- The marks in memory: the slice in block b, its row rb. -/
structure InvU (b rb : Nat) (pl : List Int) (w : World) : Prop where
  box : Box w b [.slice (some ⟨rb, 0, none⟩) 65536 65536]
  row : w.rowIs rb 4 65536 (fun j => .bool (isAt pl (j : Int)))
def FootU (b rb : Nat) (k : Nat) : Prop := k = b ∨ k = rb
theorem InvU.keep {b rb : Nat} {pl : List Int} {u u' : World} (h : InvU b rb pl u) (k : Kpw (fun k => ¬ FootU b rb k) u u') : InvU b rb pl u' :=
  ⟨k.box h.box (fun h => h (.inl rfl)), h.row.of_block (k.block rb h.row.lt (fun h => h (.inr rfl)))⟩
set_option maxRecDepth 100000 in
set_option maxHeartbeats 2000000 in
theorem stops_any {b rb : Nat} {pl : List Int} {u : World} (h : InvU b rb pl u) (x : Int) (hx : wd x) :
    Calls Try.prog 29 (#[.int .i64 x] ++ #[.pointer (some ⟨b, 0, none⟩)]) u fun e u' => e = .returned (.bool (isAt pl x)) ∧ Below u.heap.size u u' := by
  show Calls Try.prog 29 #[.int .i64 x, .pointer (some ⟨b, 0, none⟩)] u _
  unfold wd at hx
  obtain ⟨k, rfl⟩ : ∃ k : Nat, x = k := ⟨x.toNat, by omega⟩
  have hk : k < 65536 := by omega
  have c0 := h.box.2.1 0 _ rfl
  have r0 := h.row.cell hk
  clear h
  go_enter Try.func29, Try.ntmps29
  go_wp2_with fail
  go_ret
  exact ⟨rfl, Below.refl _ _⟩
theorem looks_until (b rb : Nat) (pl : List Int) : Looks (σ := Unit) (γ := Unit) (fun _ _ w => InvU b rb pl w) (fun _ => FootU b rb) (isAt pl) (fun s _ _ => s) (.func (.func 29) #[] #[.pointer (some ⟨b, 0, none⟩)]) .nilFunc where
  lt := fun _ _ _ _ h hk => by rcases hk with rfl | rfl; exact h.box.1; exact h.row.lt
  keep := fun _ _ _ _ h k => h.keep k
  stops := .inr ⟨_, _, rfl, fun _ _ => by kernel_rfl, fun s g u x hx h => stops_any h x hx⟩
  took := .inl ⟨rfl, fun _ _ _ => rfl⟩
end Go.Proofs.Ytjlbenbfmookoaa
