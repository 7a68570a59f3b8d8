/-
  The document's machine: logic, Load, Push, Pop, plain.
-/
import Derived.Test.YtjlbenbfmookoaaR3Az
namespace Go.Proofs.Ytjlbenbfmookoaa
open Go.RowKit
set_option linter.unusedSimpArgs false
set_option linter.unusedVariables false

theorem zA : bA (fun _ => false) = #[.bool false, .bool false, .bool false, .bool false, .bool false, .bool false, .bool false, .bool false, .bool false, .bool false, .bool false, .bool false, .bool false, .bool false, .bool false, .bool false] := rfl
theorem Bits.row {w : World} {b : Nat} {f g : Nat → Bool} (h : Bits w b f) : Bits (w.setRow b (bA g)) b g := setRow_heap _ _ _ _ _ _ h
theorem Bits.rowo {w : World} {b p : Nat} {f : Nat → Bool} {cs : Array Value} (h : Bits w b f) (hne : b ≠ p) : Bits (w.setRow p cs) b f := by unfold Bits; rw [setRow_other w p b cs hne]; exact h
set_option maxRecDepth 100000 in
set_option maxHeartbeats 2000000 in
theorem logic9_any (x y : Int) (w : World) (hx : wd x) (hy : wd y) : Calls Try.prog 48 #[.int .i64 9, .int .i64 x, .int .i64 y] w fun e w' => e = .returned (.int .i64 (nb (fun k => bq x k && bq y k))) ∧ Below w.heap.size w w' := by
  have NB := hide (fun f w => number_any f w)
  go_enter Try.func48, Try.ntmps48
  go_wp2_with fail
  refine (bits_any x w hx).mono ?_
  rintro e w1 ⟨rfl, k1⟩
  have K1 := hide k1
  clear k1
  go_wp2_with fail
  refine (bits_any y w1 hy).mono ?_
  rintro e w2 ⟨rfl, k2⟩
  have K2 := hide ((unhide K1).trans (k2.mono (unhide K1).size))
  have s2 := (unhide K2).size
  clear k2 K1
  have P4 := hide ((bits_new w2 (fun _ => false)).step (below_a _ (.cells (bA fun _ => false) 96)))
  have Q4 := hide (show Bits ((w2.alloc (.cells (bA fun _ => false) 96)).alloc (.cells (bA fun _ => false) 96)) (w2.heap.size + 1) (fun _ => false) by have := bits_new (w2.alloc (.cells (bA fun _ => false) 96)) (fun _ => false); simpa using this)
  have P5 := hide (Bits.row (g := bq x) (unhide P4))
  have Q5 := hide (Bits.rowo (p := w2.heap.size) (cs := bA (bq x)) (unhide Q4) (by omega))
  have P6 := hide (Bits.rowo (p := w2.heap.size + 1) (cs := bA (bq y)) (unhide P5) (by omega))
  have Q6 := hide (Bits.row (g := bq y) (unhide Q5))
  have K6 := hide (Below.row (Below.row (((unhide K2).alloc s2 (.cells (bA fun _ => false) 96)).alloc (by simp; omega) (.cells (bA fun _ => false) 96)) (g := w2.heap.size) s2 (bA (bq x))) (g := w2.heap.size + 1) (by omega) (bA (bq y)))
  rw [zA] at P4 Q4 P5 Q5 P6 Q6 K6
  go_wp2_with (first | (refine wpList_store_row rfl 96 (.tmp 7) (.tmp 11) rfl w2.heap.size (bA (bq x)) rfl rfl 96 _ (unhide P4) Try.sizeBits rfl (bA_one _) ?_) | (refine wpList_store_row rfl 96 (.tmp 8) (.tmp 13) rfl (w2.heap.size + 1) (bA (bq y)) rfl rfl 96 _ (unhide Q5) Try.sizeBits rfl (bA_one _) ?_))
  generalize (((w2.alloc (.cells #[.bool false, .bool false, .bool false, .bool false, .bool false, .bool false, .bool false, .bool false, .bool false, .bool false, .bool false, .bool false, .bool false, .bool false, .bool false, .bool false] 96)).alloc (.cells #[.bool false, .bool false, .bool false, .bool false, .bool false, .bool false, .bool false, .bool false, .bool false, .bool false, .bool false, .bool false, .bool false, .bool false, .bool false, .bool false] 96)).setRow w2.heap.size (bA (bq x))).setRow (w2.heap.size + 1) (bA (bq y)) = w6 at *
  clear P4 Q4 P5 Q5 K2
  generalize w2.heap.size = b at *
  go_loopg [14] 16 (fun g t wr => ∃ i : Nat, i ≤ 16 ∧ g = 16 - i ∧ t = .int .i64 i ∧ Hid (Bits wr b (fun k => if k < i then bq x k && bq y k else bq x k)) ∧ Hid (Bits wr (b + 1) (bq y)) ∧ Hid (Below w.heap.size w wr))
  case atStart => exact ⟨0, Nat.zero_le _, rfl, rfl, hide ((unhide P6).congr (fun j _ => by simp)), Q6, K6⟩
  case round =>
    obtain ⟨i, hi, hg, rfl, hP, hQ, hK⟩ := hrel
    clear P6 Q6 K6
    by_cases hlt : i < 16
    · have hil : (i : Int) < 16 := by omega
      have hi0 : (0 : Int) ≤ (i : Int) := by omega
      have c0 := (unhide hP).at i hlt
      rw [if_neg (Nat.lt_irrefl i)] at c0
      have c1 := (unhide hQ).at i hlt
      have f0 := (unhide hP).frz
      have P1 := hide (((unhide hP).set i hlt (bq x i && bq y i)).congr (g := fun k => if k < i + 1 then bq x k && bq y k else bq x k) (fun j hj => by
        unfold updB
        by_cases e : j = i
        · subst e; rw [if_pos rfl, if_pos (Nat.lt_succ_self _)]
        · rw [if_neg e]
          dsimp only
          by_cases e2 : j < i
          · rw [if_pos e2, if_pos (by omega)]
          · rw [if_neg e2, if_neg (by omega)]))
      have Q1 := hide ((unhide hQ).other (p := b) (j := i) (u := .bool (bq x i && bq y i)) (by omega))
      have K1 := hide ((unhide hK).setCell (p := ⟨b, i, none⟩) s2 (.bool (bq x i && bq y i)))
      clear hP hQ hK
      generalize bq x i = u at *
      generalize bq y i = v at *
      cases u <;> cases v
      all_goals
        go_wp2_with fail
        go_roundg (16 - (i + 1))
        case measure => omega
        case rel => exact ⟨i + 1, by omega, rfl, by go_num, P1, Q1, K1⟩
    · have hil : ¬ (i : Int) < 16 := by omega
      obtain rfl : i = 16 := by omega
      have P1 := hide ((unhide hP).congr (g := fun k => bq x k && bq y k) (fun j hj => by rw [if_pos hj]))
      clear hP
      go_wp2_with (refine wpList_load_row rfl 96 (.tmp 7) rfl b rfl _ _ _ _ (unhide P1) Try.underlying96 rfl Try.sizeBits ?_)
      refine (unhide NB _ _).mono ?_
      rintro e w7 ⟨rfl, k7⟩
      have K7 := hide ((unhide hK).trans (k7.mono (unhide hK).size))
      clear k7
      go_wp2_with fail
      go_ret
      exact ⟨rfl, unhide K7⟩
set_option maxRecDepth 100000 in
set_option maxHeartbeats 2000000 in
theorem logic10_any (x y : Int) (w : World) (hx : wd x) (hy : wd y) : Calls Try.prog 48 #[.int .i64 10, .int .i64 x, .int .i64 y] w fun e w' => e = .returned (.int .i64 (nb (fun k => bq x k || bq y k))) ∧ Below w.heap.size w w' := by
  have NB := hide (fun f w => number_any f w)
  go_enter Try.func48, Try.ntmps48
  go_wp2_with fail
  refine (bits_any x w hx).mono ?_
  rintro e w1 ⟨rfl, k1⟩
  have K1 := hide k1
  clear k1
  go_wp2_with fail
  refine (bits_any y w1 hy).mono ?_
  rintro e w2 ⟨rfl, k2⟩
  have K2 := hide ((unhide K1).trans (k2.mono (unhide K1).size))
  have s2 := (unhide K2).size
  clear k2 K1
  have P4 := hide ((bits_new w2 (fun _ => false)).step (below_a _ (.cells (bA fun _ => false) 96)))
  have Q4 := hide (show Bits ((w2.alloc (.cells (bA fun _ => false) 96)).alloc (.cells (bA fun _ => false) 96)) (w2.heap.size + 1) (fun _ => false) by have := bits_new (w2.alloc (.cells (bA fun _ => false) 96)) (fun _ => false); simpa using this)
  have P5 := hide (Bits.row (g := bq x) (unhide P4))
  have Q5 := hide (Bits.rowo (p := w2.heap.size) (cs := bA (bq x)) (unhide Q4) (by omega))
  have P6 := hide (Bits.rowo (p := w2.heap.size + 1) (cs := bA (bq y)) (unhide P5) (by omega))
  have Q6 := hide (Bits.row (g := bq y) (unhide Q5))
  have K6 := hide (Below.row (Below.row (((unhide K2).alloc s2 (.cells (bA fun _ => false) 96)).alloc (by simp; omega) (.cells (bA fun _ => false) 96)) (g := w2.heap.size) s2 (bA (bq x))) (g := w2.heap.size + 1) (by omega) (bA (bq y)))
  rw [zA] at P4 Q4 P5 Q5 P6 Q6 K6
  go_wp2_with (first | (refine wpList_store_row rfl 96 (.tmp 7) (.tmp 11) rfl w2.heap.size (bA (bq x)) rfl rfl 96 _ (unhide P4) Try.sizeBits rfl (bA_one _) ?_) | (refine wpList_store_row rfl 96 (.tmp 8) (.tmp 13) rfl (w2.heap.size + 1) (bA (bq y)) rfl rfl 96 _ (unhide Q5) Try.sizeBits rfl (bA_one _) ?_))
  generalize (((w2.alloc (.cells #[.bool false, .bool false, .bool false, .bool false, .bool false, .bool false, .bool false, .bool false, .bool false, .bool false, .bool false, .bool false, .bool false, .bool false, .bool false, .bool false] 96)).alloc (.cells #[.bool false, .bool false, .bool false, .bool false, .bool false, .bool false, .bool false, .bool false, .bool false, .bool false, .bool false, .bool false, .bool false, .bool false, .bool false, .bool false] 96)).setRow w2.heap.size (bA (bq x))).setRow (w2.heap.size + 1) (bA (bq y)) = w6 at *
  clear P4 Q4 P5 Q5 K2
  generalize w2.heap.size = b at *
  go_loopg [14] 16 (fun g t wr => ∃ i : Nat, i ≤ 16 ∧ g = 16 - i ∧ t = .int .i64 i ∧ Hid (Bits wr b (fun k => if k < i then bq x k || bq y k else bq x k)) ∧ Hid (Bits wr (b + 1) (bq y)) ∧ Hid (Below w.heap.size w wr))
  case atStart => exact ⟨0, Nat.zero_le _, rfl, rfl, hide ((unhide P6).congr (fun j _ => by simp)), Q6, K6⟩
  case round =>
    obtain ⟨i, hi, hg, rfl, hP, hQ, hK⟩ := hrel
    clear P6 Q6 K6
    by_cases hlt : i < 16
    · have hil : (i : Int) < 16 := by omega
      have hi0 : (0 : Int) ≤ (i : Int) := by omega
      have c0 := (unhide hP).at i hlt
      rw [if_neg (Nat.lt_irrefl i)] at c0
      have c1 := (unhide hQ).at i hlt
      have f0 := (unhide hP).frz
      have P1 := hide (((unhide hP).set i hlt (bq x i || bq y i)).congr (g := fun k => if k < i + 1 then bq x k || bq y k else bq x k) (fun j hj => by
        unfold updB
        by_cases e : j = i
        · subst e; rw [if_pos rfl, if_pos (Nat.lt_succ_self _)]
        · rw [if_neg e]
          dsimp only
          by_cases e2 : j < i
          · rw [if_pos e2, if_pos (by omega)]
          · rw [if_neg e2, if_neg (by omega)]))
      have Q1 := hide ((unhide hQ).other (p := b) (j := i) (u := .bool (bq x i || bq y i)) (by omega))
      have K1 := hide ((unhide hK).setCell (p := ⟨b, i, none⟩) s2 (.bool (bq x i || bq y i)))
      clear hP hQ hK
      generalize bq x i = u at *
      generalize bq y i = v at *
      cases u <;> cases v
      all_goals
        go_wp2_with fail
        go_roundg (16 - (i + 1))
        case measure => omega
        case rel => exact ⟨i + 1, by omega, rfl, by go_num, P1, Q1, K1⟩
    · have hil : ¬ (i : Int) < 16 := by omega
      obtain rfl : i = 16 := by omega
      have P1 := hide ((unhide hP).congr (g := fun k => bq x k || bq y k) (fun j hj => by rw [if_pos hj]))
      clear hP
      go_wp2_with (refine wpList_load_row rfl 96 (.tmp 7) rfl b rfl _ _ _ _ (unhide P1) Try.underlying96 rfl Try.sizeBits ?_)
      refine (unhide NB _ _).mono ?_
      rintro e w7 ⟨rfl, k7⟩
      have K7 := hide ((unhide hK).trans (k7.mono (unhide hK).size))
      clear k7
      go_wp2_with fail
      go_ret
      exact ⟨rfl, unhide K7⟩
set_option maxRecDepth 100000 in
set_option maxHeartbeats 2000000 in
theorem logic11_any (x y : Int) (w : World) (hx : wd x) (hy : wd y) : Calls Try.prog 48 #[.int .i64 11, .int .i64 x, .int .i64 y] w fun e w' => e = .returned (.int .i64 (nb (fun k => bq x k != bq y k))) ∧ Below w.heap.size w w' := by
  have NB := hide (fun f w => number_any f w)
  go_enter Try.func48, Try.ntmps48
  go_wp2_with fail
  refine (bits_any x w hx).mono ?_
  rintro e w1 ⟨rfl, k1⟩
  have K1 := hide k1
  clear k1
  go_wp2_with fail
  refine (bits_any y w1 hy).mono ?_
  rintro e w2 ⟨rfl, k2⟩
  have K2 := hide ((unhide K1).trans (k2.mono (unhide K1).size))
  have s2 := (unhide K2).size
  clear k2 K1
  have P4 := hide ((bits_new w2 (fun _ => false)).step (below_a _ (.cells (bA fun _ => false) 96)))
  have Q4 := hide (show Bits ((w2.alloc (.cells (bA fun _ => false) 96)).alloc (.cells (bA fun _ => false) 96)) (w2.heap.size + 1) (fun _ => false) by have := bits_new (w2.alloc (.cells (bA fun _ => false) 96)) (fun _ => false); simpa using this)
  have P5 := hide (Bits.row (g := bq x) (unhide P4))
  have Q5 := hide (Bits.rowo (p := w2.heap.size) (cs := bA (bq x)) (unhide Q4) (by omega))
  have P6 := hide (Bits.rowo (p := w2.heap.size + 1) (cs := bA (bq y)) (unhide P5) (by omega))
  have Q6 := hide (Bits.row (g := bq y) (unhide Q5))
  have K6 := hide (Below.row (Below.row (((unhide K2).alloc s2 (.cells (bA fun _ => false) 96)).alloc (by simp; omega) (.cells (bA fun _ => false) 96)) (g := w2.heap.size) s2 (bA (bq x))) (g := w2.heap.size + 1) (by omega) (bA (bq y)))
  rw [zA] at P4 Q4 P5 Q5 P6 Q6 K6
  go_wp2_with (first | (refine wpList_store_row rfl 96 (.tmp 7) (.tmp 11) rfl w2.heap.size (bA (bq x)) rfl rfl 96 _ (unhide P4) Try.sizeBits rfl (bA_one _) ?_) | (refine wpList_store_row rfl 96 (.tmp 8) (.tmp 13) rfl (w2.heap.size + 1) (bA (bq y)) rfl rfl 96 _ (unhide Q5) Try.sizeBits rfl (bA_one _) ?_))
  generalize (((w2.alloc (.cells #[.bool false, .bool false, .bool false, .bool false, .bool false, .bool false, .bool false, .bool false, .bool false, .bool false, .bool false, .bool false, .bool false, .bool false, .bool false, .bool false] 96)).alloc (.cells #[.bool false, .bool false, .bool false, .bool false, .bool false, .bool false, .bool false, .bool false, .bool false, .bool false, .bool false, .bool false, .bool false, .bool false, .bool false, .bool false] 96)).setRow w2.heap.size (bA (bq x))).setRow (w2.heap.size + 1) (bA (bq y)) = w6 at *
  clear P4 Q4 P5 Q5 K2
  generalize w2.heap.size = b at *
  go_loopg [14] 16 (fun g t wr => ∃ i : Nat, i ≤ 16 ∧ g = 16 - i ∧ t = .int .i64 i ∧ Hid (Bits wr b (fun k => if k < i then bq x k != bq y k else bq x k)) ∧ Hid (Bits wr (b + 1) (bq y)) ∧ Hid (Below w.heap.size w wr))
  case atStart => exact ⟨0, Nat.zero_le _, rfl, rfl, hide ((unhide P6).congr (fun j _ => by simp)), Q6, K6⟩
  case round =>
    obtain ⟨i, hi, hg, rfl, hP, hQ, hK⟩ := hrel
    clear P6 Q6 K6
    by_cases hlt : i < 16
    · have hil : (i : Int) < 16 := by omega
      have hi0 : (0 : Int) ≤ (i : Int) := by omega
      have c0 := (unhide hP).at i hlt
      rw [if_neg (Nat.lt_irrefl i)] at c0
      have c1 := (unhide hQ).at i hlt
      have f0 := (unhide hP).frz
      have P1 := hide (((unhide hP).set i hlt (bq x i != bq y i)).congr (g := fun k => if k < i + 1 then bq x k != bq y k else bq x k) (fun j hj => by
        unfold updB
        by_cases e : j = i
        · subst e; rw [if_pos rfl, if_pos (Nat.lt_succ_self _)]
        · rw [if_neg e]
          dsimp only
          by_cases e2 : j < i
          · rw [if_pos e2, if_pos (by omega)]
          · rw [if_neg e2, if_neg (by omega)]))
      have Q1 := hide ((unhide hQ).other (p := b) (j := i) (u := .bool (bq x i != bq y i)) (by omega))
      have K1 := hide ((unhide hK).setCell (p := ⟨b, i, none⟩) s2 (.bool (bq x i != bq y i)))
      clear hP hQ hK
      generalize bq x i = u at *
      generalize bq y i = v at *
      go_wp2_with fail
      refine wp_region_head 9 (by kernel_rfl) (by kernel_rfl) ?_
      simp only [List.take_succ_cons, List.take_zero, List.drop_succ_cons, List.drop_zero]
      repeat still_step
      refine wpStill_nil ?_
      go_wp2_with fail
      go_roundg (16 - (i + 1))
      case measure => omega
      case rel => exact ⟨i + 1, by omega, rfl, by go_num, hide (Bits.step (unhide P1) (Below.refl _ _).drew), hide (Bits.step (unhide Q1) (Below.refl _ _).drew), hide ((unhide K1).drew)⟩
    · have hil : ¬ (i : Int) < 16 := by omega
      obtain rfl : i = 16 := by omega
      have P1 := hide ((unhide hP).congr (g := fun k => bq x k != bq y k) (fun j hj => by rw [if_pos hj]))
      clear hP
      go_wp2_with (refine wpList_load_row rfl 96 (.tmp 7) rfl b rfl _ _ _ _ (unhide P1) Try.underlying96 rfl Try.sizeBits ?_)
      refine (unhide NB _ _).mono ?_
      rintro e w7 ⟨rfl, k7⟩
      have K7 := hide ((unhide hK).trans (k7.mono (unhide hK).size))
      clear k7
      go_wp2_with fail
      go_ret
      exact ⟨rfl, unhide K7⟩
theorem Kept.grownq {u v v' : World} {p q : Nat} (h : Kept u v p q) (g : v.grownBy v' (some q)) : Kept u v' p q :=
  ⟨Nat.le_trans h.1 g.size, fun b hb n1 n2 => by rw [g.block b (by have := h.1; omega) (fun e => n2 (Option.some.inj e))]; exact h.2 b hb n1 n2⟩
section
variable {w0 w : World} {p q n : Nat} {vc vm vi vo : Value} {m : Ma} {ms xs bs : List Int}
set_option maxRecDepth 100000 in
set_option maxHeartbeats 1000000 in
theorem load3_any (h : BX w0 w p q n vc vm vi vo m ms xs bs) (a : Int) (h0 : 0 ≤ a) (h1 : a ≤ 1000000) : Calls Try.prog 33 #[.pointer (some ⟨p, 0, none⟩), .int .i64 a] w fun e w' => e = .returned (.int .i64 (m.ld (lw a))) ∧ w' = w := by
  obtain ⟨f, hM, hf⟩ := h.map
  obtain ⟨-, -, -, -, -, -, c14, c15, -, -, -, -, -⟩ := h.at
  have tl := tm_lw h0
  obtain ⟨hl0, hl1⟩ := lw_b a
  have hml : m.ld (lw a) = (f (lw a)).getD (ms.getD (lw a).toNat 0) := by
    have := hf (lw a).toNat (by omega)
    rw [show (((lw a).toNat : Nat) : Int) = lw a by omega] at this
    exact this
  have M := h.mem0.step h.low
  obtain ⟨mo, mcap, rfl, hmx, hat⟩ := M.at
  unfold maxLen at hmx
  have HAT := hide hat
  have HM := hide hM
  have hp := h.pw
  rw [hml]
  clear h hf hM hat M hml
  generalize lw a = b at *
  have hwf := wf_small (x := b) (by omega) (by omega)
  cases hfb : f b with
  | some x =>
    have e1 : (some x : Option Int).getD (ms.getD b.toNat 0) = x := rfl
    rw [e1]
    go_enter Try.func33, Try.ntmps33
    go_wp2_with (refine wpList_lookI rfl (.tmp 13) (.tmp 14) rfl q n f rfl (unhide HM) b rfl hwf ?_; rw [hfb]; dsimp only [Option.getD_some, Option.isSome_some])
    go_ret
    exact ⟨rfl, rfl⟩
  | none =>
    have e1 : (none : Option Int).getD (ms.getD b.toNat 0) = ms.getD b.toNat 0 := rfl
    rw [e1]
    obtain ⟨k, rfl⟩ : ∃ k : Nat, b = k := ⟨b.toNat, by omega⟩
    rw [Int.toNat_natCast]
    by_cases hk : k < ms.length
    · obtain ⟨g, off, rfl, hg, hc⟩ := unhide HAT (by intro h; rw [h] at hk; simp at hk)
      have ck := hc k hk
      have e2 : ms.getD k 0 = ms[k] := by rw [List.getD_eq_getElem?_getD, List.getElem?_eq_getElem hk]; rfl
      rw [e2]
      clear hc
      generalize ms[k] = y at *
      have hk1 : (k : Int) < (ms.length : Int) := by omega
      go_enter Try.func33, Try.ntmps33
      go_wp2_with (refine wpList_lookI rfl (.tmp 13) (.tmp 14) rfl q n f rfl (unhide HM) k rfl hwf ?_; rw [hfb]; dsimp only [Option.getD_none, Option.isSome_none])
      go_ret
      exact ⟨rfl, rfl⟩
    · have e2 : ms.getD k 0 = 0 := by rw [List.getD_eq_getElem?_getD, List.getElem?_eq_none (by omega)]; rfl
      rw [e2]
      have hk1 : ¬ (k : Int) < (ms.length : Int) := by omega
      go_enter Try.func33, Try.ntmps33
      go_wp2_with (refine wpList_lookI rfl (.tmp 13) (.tmp 14) rfl q n f rfl (unhide HM) k rfl hwf ?_; rw [hfb]; dsimp only [Option.getD_none, Option.isSome_none])
      go_ret
      exact ⟨rfl, rfl⟩
theorem dn_lw {x : Int} (h : wd x) : (x + 65535).tmod 65536 = lw (x - 1) := by
  unfold wd at h
  rw [Int.tmod_eq_emod_of_nonneg (by omega)]
  unfold lw
  omega
theorem hi_lw {x : Int} (h : wd x) : decide (32768 ≤ x) = (x / 32768 == 1) := by
  unfold wd at h
  rw [Bool.eq_iff_iff, decide_eq_true_eq, beq_iff_eq]
  omega
set_option maxRecDepth 100000 in
set_option maxHeartbeats 1000000 in
theorem push3_any (h : BX w0 w p q n vc vm vi vo m ms xs bs) (x : Int) (hx : wd x) (hn : n < 2000000) : Calls Try.prog 51 #[.pointer (some ⟨p, 0, none⟩), .int .i64 x] w fun e w' => e = .returned (.tuple #[]) ∧ BX w0 w' p q (n + 1) vc vm vi vo (m.push x) ms xs bs ∧ Kept w w' p q := by
  have c8 := h.reg7
  have fz := h.flat
  have hp := h.pw
  have h7 := h.fine.reg (d := 7) (by decide) (by decide)
  have tl := dn_lw h7
  have hl := lw_b (m.reg 7 - 1)
  have B1 := hide (show BX w0 (w.setCell ⟨p, 8, none⟩ (.int .i64 (lw (m.reg 7 - 1)))).drew p q n vc vm vi vo (m.setR 7 (lw (m.reg 7 - 1))) ms xs bs from (h.sreg 7 (lw (m.reg 7 - 1)) (by decide) (by decide) hl).drew)
  have hd := lw_b (m.reg 7 - 1)
  unfold wd at h7
  obtain ⟨h70, h71⟩ := h7
  have hwr := wrap_ok (x := m.reg 7 + 65535) (by omega) (by omega)
  unfold Ma.push
  clear h
  generalize lw (m.reg 7 - 1) = b at *
  go_enter Try.func51, Try.ntmps51
  go_wp2_with fail
  refine wp_region_head 13 (by kernel_rfl) (by kernel_rfl) ?_
  simp only [List.take_succ_cons, List.take_zero, List.drop_succ_cons, List.drop_zero]
  repeat still_step
  refine wpStill_nil ?_
  go_wp2_with fail
  have Q1 := hide (((Kept.refl w p q).set (b := p) (j := 8) (x := .int .i64 b) (.inl rfl)).drew)
  generalize (w.setCell ⟨p, 8, none⟩ (.int .i64 b)).drew = w1 at *
  clear c8 fz hp
  obtain ⟨f, hM, hf⟩ := (unhide B1).map
  have HM := hide hM
  have HF := hide hf
  have c8 := (unhide B1).reg7
  obtain ⟨-, -, -, -, -, -, -, c15, -, -, -, -, -⟩ := (unhide B1).at
  rw [reg_setR] at c8
  clear hM hf
  obtain ⟨hd0, hd1⟩ := hd
  have hwf := wf_small (x := b) (by omega) (by omega)
  have hwx := wf_small (x := x) (by unfold wd at hx; omega) (by unfold wd at hx; omega)
  refine wp_region_head 11 (by kernel_rfl) (by kernel_rfl) ?_
  simp only [List.take_succ_cons, List.take_zero, List.drop_succ_cons, List.drop_zero]
  repeat still_step
  refine wpStill_nil ?_
  refine wpList_putI rfl (.tmp 20) (.tmp 26) (.tmp 27) rfl q n f rfl (Mi.step (unhide HM) (Below.refl _ _).drew) (by unfold maxLen; omega) b rfl hwf x rfl hwx ?_
  intro w2 M2 g2
  have B2 := hide ((unhide B1).drew.sto b x ⟨hd0, hd1⟩ hx f (unhide HF) M2 g2)
  have Q2 := hide ((unhide Q1).drew.grownq g2)
  clear M2 g2
  go_wp2_with fail
  go_end0
  exact ⟨rfl, unhide B2, unhide Q2⟩
set_option maxRecDepth 100000 in
set_option maxHeartbeats 1000000 in
theorem pop3_any (h : BX w0 w p q n vc vm vi vo m ms xs bs) : Calls Try.prog 52 #[.pointer (some ⟨p, 0, none⟩)] w fun e w' => e = .returned (.int .i64 (m.ld (m.reg 7))) ∧ BX w0 w' p q n vc vm vi vo m.pop ms xs bs ∧ Kept w w' p q := by
  have c8 := h.reg7
  have fz := h.flat
  have hp := h.pw
  have h7 := h.fine.reg (d := 7) (by decide) (by decide)
  have hl := lw_b (m.reg 7 + 1)
  have B1 := hide (show BX w0 (w.setCell ⟨p, 8, none⟩ (.int .i64 (lw (m.reg 7 + 1)))).drew p q n vc vm vi vo m.pop ms xs bs from (h.sreg 7 (lw (m.reg 7 + 1)) (by decide) (by decide) hl).drew)
  unfold wd at h7
  obtain ⟨h70, h71⟩ := h7
  have tl := tm_lw (x := m.reg 7 + 1) (by omega)
  have hwr := wrap_ok (x := m.reg 7 + 1) (by omega) (by omega)
  have LD := load3_any h (m.reg 7) h70 (by omega)
  have e7 : lw (m.reg 7) = m.reg 7 := by unfold lw; omega
  rw [e7] at LD
  clear h e7
  generalize lw (m.reg 7 + 1) = b at *
  generalize m.pop = m2 at *
  go_enter Try.func52, Try.ntmps52
  go_wp2_with fail
  refine LD.mono ?_
  rintro e w1 ⟨rfl, hw⟩
  subst w1
  clear LD
  have Q1 := hide (((Kept.refl w p q).set (b := p) (j := 8) (x := .int .i64 b) (.inl rfl)).drew)
  go_wp2_with fail
  refine wp_region_head 13 (by kernel_rfl) (by kernel_rfl) ?_
  simp only [List.take_succ_cons, List.take_zero, List.drop_succ_cons, List.drop_zero]
  repeat still_step
  refine wpStill_nil ?_
  go_wp2_with fail
  go_ret
  exact ⟨rfl, unhide B1, unhide Q1⟩
set_option maxHeartbeats 1000000 in
theorem plain3_any (h : BX w0 w p q n vc vm vi vo m ms xs bs) (x : Int) (c : Bool) (hx : wd x) : Calls Try.prog 47 #[.pointer (some ⟨p, 0, none⟩), .int .i64 x, .bool c] w fun e w' => e = .returned (.int .i64 x) ∧ BX w0 w' p q n vc vm vi vo { m with c := c, z := x == 0, n := x / 32768 == 1, v := false } ms xs bs ∧ Kept w w' p q := by
  obtain ⟨-, c9, c10, c11, c12, -, -, -, -, -, -, -, -⟩ := h.at
  have fz := h.flat
  have hp := h.pw
  have B1 := hide (h.flags c (x == 0) (decide (32768 ≤ x)) false)
  have Q1 := hide (((((Kept.refl w p q).set (b := p) (j := 9) (x := .bool c) (.inl rfl)).set (b := p) (j := 10) (x := .bool (x == 0)) (.inl rfl)).set (b := p) (j := 11) (x := .bool (decide (32768 ≤ x))) (.inl rfl)).set (b := p) (j := 12) (x := .bool false) (.inl rfl))
  rw [← hi_lw hx]
  clear h
  go_enter Try.func47, Try.ntmps47
  go_wp2_with fail
  go_ret
  exact ⟨rfl, unhide B1, unhide Q1⟩
end
end Go.Proofs.Ytjlbenbfmookoaa
