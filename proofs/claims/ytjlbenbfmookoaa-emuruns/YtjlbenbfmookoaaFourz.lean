/-
  An instruction's four cells, laid to be appended.
-/
import Derived.Test.YtjlbenbfmookoaaInsE
import Derived.Test.YtjlbenbfmookoaaRefE
import Derived.Test.YtjlbenbfmookoaaInsO
namespace Go.Proofs.Ytjlbenbfmookoaa
open Go.RowKit
set_option linter.unusedSimpArgs false
set_option linter.unusedVariables false

theorem Try.infoInstr : (Try.prog.info? 49).map (fun i => (i.zero, i.size, i.bytes)) = some (some (.agg #[.int .i64 0, .int .i64 0, .int .i64 0, .int .i64 0]), 4, 32) := by kernel_rfl

theorem four_c1 (u : World) (i : Ins) (T : TypeId) (B : Nat) (hB : B = u.heap.size) : ∀ j x, (cells4 i)[j]? = some x → (u.alloc (.cells #[.int .i64 i.o, .int .i64 i.d, .int .i64 i.s, .int .i64 i.m] T)).cell? ((⟨B, 0, none⟩ : Addr).add j) = some x := by
  subst hB
  unfold cells4
  intro j x hj
  match j, hj with
  | 0, hj => simp at hj; subst hj; simp [Addr.add]
  | 1, hj => simp at hj; subst hj; simp [Addr.add]
  | 2, hj => simp at hj; subst hj; simp [Addr.add]
  | 3, hj => simp at hj; subst hj; simp [Addr.add]
theorem four_c2 (i : Ins) : ∀ u ∈ cells4 i, u.oneCell' = true := by intro u hu; simp [cells4] at hu; rcases hu with rfl | rfl | rfl | rfl <;> rfl
theorem own_snoc {w : World} {B : Nat} {v : Value} {l : List Ins} {i : Ins} {n : Nat} {cs : List Value} (h : w.ownsRow B 49 4 v n cs) (e : cs = (l ++ [i]).flatMap cells4) (hn : n = l.length + 1) : w.ownsRow B 49 4 v (l ++ [i]).length ((l ++ [i]).flatMap cells4) := by
  have : (l ++ [i]).length = n := by rw [hn]; simp
  rw [← e, this]; exact h
end Go.Proofs.Ytjlbenbfmookoaa

/-
  pairlegalref2.One.
-/
namespace Go.Proofs.Ytjlbenbfmookoaa
open Go.RowKit
set_option linter.unusedSimpArgs false
set_option linter.unusedVariables false

theorem one_high {x : Int} {r : List Int} (h : x < 0 ∨ 65535 < x) : one (x :: r) = (zeroI, 0) := by
  refine one_kind ?_
  unfold kn; simp only [decide_eq_false_iff_not]; omega
theorem enc1_ok {i : Ins} (h : wrg i = 0) : encA [i] = (ws i, 0, 0) := by
  unfold encA
  have := ws_len2 i
  rw [enc_next h (by simp; omega)]; simp [enc]
theorem enc1_bad {i : Ins} (h : wrg i ≠ 0) : encA [i] = ([], wrg i, 0) := by unfold encA; rw [enc_bad h]
theorem ws_head (i : Ins) : ∃ r, ws i = fst i :: r := by unfold ws; split <;> exact ⟨_, rfl⟩
theorem Inss.one (u : World) (i : Ins) (T : TypeId) (B : Nat) (hB : B = u.heap.size) : Inss (u.alloc (.cells #[.int .i64 i.o, .int .i64 i.d, .int .i64 i.s, .int .i64 i.m] T)) (.slice (some ⟨B, 0, none⟩) 1 1) [i] := by
  subst hB
  refine ⟨by simp [cells4], some ⟨u.heap.size, 0, none⟩, 1, rfl, by simp, by unfold maxLen; simp, fun h => ?_, fun _ => ⟨u.heap.size, 0, rfl, by simp, fun j hj => ?_⟩⟩
  · simp at h
  · have hj' : j < (cells4 i).length := by simpa [cells4] using hj
    have := four_c1 u i T u.heap.size rfl j _ (List.getElem?_eq_getElem hj')
    rw [show ((⟨u.heap.size, 0, none⟩ : Addr).add j) = ⟨u.heap.size, 0 + j, none⟩ by unfold Addr.add; split <;> simp_all] at this
    rw [this]
    simp [hj']

/-- Encode of one instruction: what One asks of it. -/
theorem rencode_one (i : Ins) (u : World) (B : Nat) (hB : B = u.heap.size) (T : TypeId) :
    Calls Try.prog 54 #[.slice (some ⟨B, 0, none⟩) 1 1] (u.alloc (.cells #[.int .i64 i.o, .int .i64 i.d, .int .i64 i.s, .int .i64 i.m] T)) fun e w' =>
      Below (u.alloc (.cells #[.int .i64 i.o, .int .i64 i.d, .int .i64 i.s, .int .i64 i.m] T)).heap.size (u.alloc (.cells #[.int .i64 i.o, .int .i64 i.d, .int .i64 i.s, .int .i64 i.m] T)) w' ∧
      ∃ v', e = .returned (.tuple #[v', .agg #[.int .i64 (wrg i), .int .i64 0]]) ∧ (wrg i = 0 → ∃ b off n cap, v' = .slice (some ⟨b, off, none⟩) (n + 1) cap ∧ b < w'.heap.size ∧ w'.cell? ⟨b, off, none⟩ = some (.int .i64 (fst i))) := by
  refine (rencode_any [i] _ _ (Inss.one u i T B hB)).mono ?_
  rintro e w' ⟨v', rfl, hi, _, hb⟩
  refine ⟨hb, v', ?_, ?_⟩
  · by_cases h : wrg i = 0
    · rw [enc1_ok h, h]; rfl
    · rw [enc1_bad h]; rfl
  · intro h
    rw [enc1_ok h] at hi
    obtain ⟨r, hr⟩ := ws_head i
    dsimp only at hi
    rw [hr] at hi
    obtain ⟨ao, cap, rfl, _, hc⟩ := hi.at
    obtain ⟨b, off, rfl, hlt, hcc⟩ := hc (by simp)
    exact ⟨b, off, r.length, cap, rfl, hlt, hcc 0 (by simp)⟩

set_option maxRecDepth 100000 in
set_option maxHeartbeats 4000000 in
theorem rOne_any (xs : List Int) (v : Value) (p : Int) (w : World) (hv : Ints w v xs) :
    Calls Try.prog 32 #[v, .int .i64 p] w fun e w' => e = .returned (.tuple #[agg (oneA xs p).1, .int .i64 (oneA xs p).2]) ∧ Below w.heap.size w w' := by
  obtain ⟨ao, cap, rfl, hmax, hat⟩ := hv.at
  clear hv
  unfold maxLen at hmax
  by_cases hneg : p < 0
  · rw [oneA_neg hneg]
    clear hat
    go_enter Try.func32, Try.ntmps32
    go_wp2
    exact bodyPost_ret (v := .tuple #[.agg #[.int .i64 0, .int .i64 0, .int .i64 0, .int .i64 0], .int .i64 0]) (by simp [results, Try.results32, go_sem]) rfl ⟨rfl, (by repeat (first | exact below_a _ _ | refine Below.setCell ?_ (by first | exact Nat.le_refl _ | (simp; done) | omega | (simp; omega)) _ | refine Below.alloc ?_ (by first | (simp; done) | omega | (simp; omega)) _))⟩
  by_cases hfar : (xs.length : Int) ≤ p
  · rw [oneA_end hfar]
    clear hat
    go_enter Try.func32, Try.ntmps32
    go_wp2
    exact bodyPost_ret (v := .tuple #[.agg #[.int .i64 0, .int .i64 0, .int .i64 0, .int .i64 0], .int .i64 0]) (by simp [results, Try.results32, go_sem]) rfl ⟨rfl, (by repeat (first | exact below_a _ _ | refine Below.setCell ?_ (by first | exact Nat.le_refl _ | (simp; done) | omega | (simp; omega)) _ | refine Below.alloc ?_ (by first | (simp; done) | omega | (simp; omega)) _))⟩
  obtain ⟨k, rfl⟩ : ∃ k : Nat, p = k := ⟨p.toNat, by omega⟩
  have hk : k < xs.length := by omega
  clear hneg hfar
  have hn : xs ≠ [] := by intro h; rw [h] at hk; simp at hk
  obtain ⟨b, off, rfl, hb, hc⟩ := hat hn
  clear hat hn
  have ck := hc k hk
  rw [oneA_at k hk]
  by_cases hx : xs[k] < 0 ∨ 65535 < xs[k]
  · rw [one_high hx]
    clear hc
    generalize xs[k] = x at *
    by_cases h0 : x < 0
    · clear hx
      go_enter Try.func32, Try.ntmps32
      go_wp2
      exact bodyPost_ret (v := .tuple #[.agg #[.int .i64 0, .int .i64 0, .int .i64 0, .int .i64 0], .int .i64 0]) (by simp [results, Try.results32, go_sem]) rfl ⟨rfl, (by repeat (first | exact below_a _ _ | refine Below.setCell ?_ (by first | exact Nat.le_refl _ | (simp; done) | omega | (simp; omega)) _ | refine Below.alloc ?_ (by first | (simp; done) | omega | (simp; omega)) _))⟩
    · have h1 : 65535 < x := by omega
      clear hx
      go_enter Try.func32, Try.ntmps32
      go_wp2
      exact bodyPost_ret (v := .tuple #[.agg #[.int .i64 0, .int .i64 0, .int .i64 0, .int .i64 0], .int .i64 0]) (by simp [results, Try.results32, go_sem]) rfl ⟨rfl, (by repeat (first | exact below_a _ _ | refine Below.setCell ?_ (by first | exact Nat.le_refl _ | (simp; done) | omega | (simp; omega)) _ | refine Below.alloc ?_ (by first | (simp; done) | omega | (simp; omega)) _))⟩
  have hx0 : 0 ≤ xs[k] := by omega
  have hx1 : xs[k] ≤ 65535 := by omega
  clear hx
  by_cases hi : hI (xs[k] / 1024) = true
  · by_cases hend : k + 1 < xs.length
    · rw [drop_at xs (k + 1) hend, one_two hi]
      have ck1 := hc (k + 1) hend
      have ck2 := ck1
      rw [← Nat.add_assoc] at ck1
      clear hc
      generalize xs[k + 1] = y at *
      generalize xs[k] = x at *
      have HA := fun w => has_i (x / 1024) w
      rw [hi] at HA
      clear hi
      have RE := fun u B hB => rencode_one ⟨x / 1024, x / 128 % 8, x / 16 % 8, y⟩ u B hB 49
      by_cases hw : wrg (with2 x y) = 0
      · by_cases hf : fst (with2 x y) = x
        · rw [if_pos (show fit (with2 x y) x = true by unfold fit; simp [hw, hf])]
          unfold with2 at hw hf
          simp only [hw, hf] at RE
          clear hw hf
          go_enter Try.func32, Try.ntmps32
          go_wp2_with fail
          refine (HA _).mono ?_
          rintro e w1 ⟨rfl, k1⟩
          have Z1 := hideI (((Box.new w #[.int .i64 0, .int .i64 0, .int .i64 0, .int .i64 0] 49).step (below_a _ (.cells #[.int .i64 (x / 1024), .int .i64 (x / 128 % 8), .int .i64 (x / 16 % 8), .int .i64 0] 49))).step k1)
          have I1 := hideI ((Box.new (w.alloc (.cells #[.int .i64 0, .int .i64 0, .int .i64 0, .int .i64 0] 49)) #[.int .i64 (x / 1024), .int .i64 (x / 128 % 8), .int .i64 (x / 16 % 8), .int .i64 0] 49).step k1)
          simp only [World.size_alloc] at I1
          have K1 := hideI (bt (bt (below_a _ _) (below_a _ _)) k1)
          have ck := cell_keep (unhideI K1) hb ck
          have l1 : w.heap.size + 1 < w1.heap.size := (unhideI I1).1
          clear k1
          obtain ⟨z0, z1, z2, z3⟩ := (unhideI Z1).at4
          have z4 := (unhideI Z1).2.2
          obtain ⟨i0, i1, i2, i3⟩ := (unhideI I1).at4
          have i4 := (unhideI I1).2.2
          have ck1 := cell_keep (unhideI K1) hb ck1
          have ck2 := cell_keep (unhideI K1) hb ck2
          go_wp2_with fail
          have Z2 := hideI ((unhideI Z1).other (b' := w.heap.size + 1) (j := 3) (u := .int .i64 y) (by omega))
          have I2 := hideI ((unhideI I1).set (j := 3) (u := .int .i64 y) (by simp))
          have K2 := hideI ((unhideI K1).setCell (p := ⟨w.heap.size + 1, 3, none⟩) (by show w.heap.size ≤ w.heap.size + 1; omega) (.int .i64 y))
          refine (RE (w1.setCell ⟨w.heap.size + 1, 3, none⟩ (.int .i64 y)) w1.heap.size (by first | rfl | simp | simp [World.setCell])).mono ?_
          rintro e w3 ⟨k3, v3, rfl, hv3⟩
          have Z3 := hideI (((unhideI Z2).step (below_a _ (.cells #[.int .i64 (x / 1024), .int .i64 (x / 128 % 8), .int .i64 (x / 16 % 8), .int .i64 y] 49))).step k3)
          have I3 := hideI (((unhideI I2).step (below_a _ (.cells #[.int .i64 (x / 1024), .int .i64 (x / 128 % 8), .int .i64 (x / 16 % 8), .int .i64 y] 49))).step k3)
          have K3 := hideI (bt (bt (unhideI K2) (below_a _ (.cells #[.int .i64 (x / 1024), .int .i64 (x / 128 % 8), .int .i64 (x / 16 % 8), .int .i64 y] 49))) k3)
          have l3 : w.heap.size + 1 < w3.heap.size := (unhideI I3).1
          clear k3
          clear z0 z1 z2 z3 z4 i0 i1 i2 i3 i4
          obtain ⟨z0, z1, z2, z3⟩ := (unhideI Z3).at4
          have z4 := (unhideI Z3).2.2
          obtain ⟨i0, i1, i2, i3⟩ := (unhideI I3).at4
          have i4 := (unhideI I3).2.2
          obtain ⟨b3, off3, n3, c3, rfl, lt3, hc3⟩ := hv3 trivial
          have hc4 := cell_keep (below_a w3 (.cells #[.int .i64 0, .int .i64 0] 74)) lt3 hc3
          have Z4 := hideI ((unhideI Z3).step (below_a w3 (.cells #[.int .i64 0, .int .i64 0] 74)))
          have I4 := hideI ((unhideI I3).step (below_a w3 (.cells #[.int .i64 0, .int .i64 0] 74)))
          clear z0 z1 z2 z3 z4 i0 i1 i2 i3 i4
          obtain ⟨z0, z1, z2, z3⟩ := (unhideI Z4).at4
          have z4 := (unhideI Z4).2.2
          obtain ⟨i0, i1, i2, i3⟩ := (unhideI I4).at4
          have i4 := (unhideI I4).2.2
          go_wp2_with fail
          exact bodyPost_ret (v := .tuple #[.agg #[.int .i64 (x / 1024), .int .i64 (x / 128 % 8), .int .i64 (x / 16 % 8), .int .i64 y], .int .i64 2]) (by simp [results, Try.results32, go_sem, z0, z1, z2, z3, z4]) rfl ⟨rfl, (by repeat (first | exact unhideI K3 | refine Below.setCell ?_ (by first | exact Nat.le_refl _ | (simp; done) | omega | (simp; omega)) _ | refine Below.alloc ?_ (by first | (simp; done) | omega | (simp; omega)) _))⟩
        · rw [if_neg (show ¬ fit (with2 x y) x = true by unfold fit; simp [hf])]
          unfold with2 at hw hf
          simp only [hw] at RE
          generalize fst ⟨x / 1024, x / 128 % 8, x / 16 % 8, y⟩ = q at *
          have hq : (q != x) = true := by simp [hf]
          clear hw hf
          go_enter Try.func32, Try.ntmps32
          go_wp2_with fail
          refine (HA _).mono ?_
          rintro e w1 ⟨rfl, k1⟩
          have Z1 := hideI (((Box.new w #[.int .i64 0, .int .i64 0, .int .i64 0, .int .i64 0] 49).step (below_a _ (.cells #[.int .i64 (x / 1024), .int .i64 (x / 128 % 8), .int .i64 (x / 16 % 8), .int .i64 0] 49))).step k1)
          have I1 := hideI ((Box.new (w.alloc (.cells #[.int .i64 0, .int .i64 0, .int .i64 0, .int .i64 0] 49)) #[.int .i64 (x / 1024), .int .i64 (x / 128 % 8), .int .i64 (x / 16 % 8), .int .i64 0] 49).step k1)
          simp only [World.size_alloc] at I1
          have K1 := hideI (bt (bt (below_a _ _) (below_a _ _)) k1)
          have ck := cell_keep (unhideI K1) hb ck
          have l1 : w.heap.size + 1 < w1.heap.size := (unhideI I1).1
          clear k1
          obtain ⟨z0, z1, z2, z3⟩ := (unhideI Z1).at4
          have z4 := (unhideI Z1).2.2
          obtain ⟨i0, i1, i2, i3⟩ := (unhideI I1).at4
          have i4 := (unhideI I1).2.2
          have ck1 := cell_keep (unhideI K1) hb ck1
          have ck2 := cell_keep (unhideI K1) hb ck2
          go_wp2_with fail
          have Z2 := hideI ((unhideI Z1).other (b' := w.heap.size + 1) (j := 3) (u := .int .i64 y) (by omega))
          have I2 := hideI ((unhideI I1).set (j := 3) (u := .int .i64 y) (by simp))
          have K2 := hideI ((unhideI K1).setCell (p := ⟨w.heap.size + 1, 3, none⟩) (by show w.heap.size ≤ w.heap.size + 1; omega) (.int .i64 y))
          refine (RE (w1.setCell ⟨w.heap.size + 1, 3, none⟩ (.int .i64 y)) w1.heap.size (by first | rfl | simp | simp [World.setCell])).mono ?_
          rintro e w3 ⟨k3, v3, rfl, hv3⟩
          have Z3 := hideI (((unhideI Z2).step (below_a _ (.cells #[.int .i64 (x / 1024), .int .i64 (x / 128 % 8), .int .i64 (x / 16 % 8), .int .i64 y] 49))).step k3)
          have I3 := hideI (((unhideI I2).step (below_a _ (.cells #[.int .i64 (x / 1024), .int .i64 (x / 128 % 8), .int .i64 (x / 16 % 8), .int .i64 y] 49))).step k3)
          have K3 := hideI (bt (bt (unhideI K2) (below_a _ (.cells #[.int .i64 (x / 1024), .int .i64 (x / 128 % 8), .int .i64 (x / 16 % 8), .int .i64 y] 49))) k3)
          have l3 : w.heap.size + 1 < w3.heap.size := (unhideI I3).1
          clear k3
          clear z0 z1 z2 z3 z4 i0 i1 i2 i3 i4
          obtain ⟨z0, z1, z2, z3⟩ := (unhideI Z3).at4
          have z4 := (unhideI Z3).2.2
          obtain ⟨i0, i1, i2, i3⟩ := (unhideI I3).at4
          have i4 := (unhideI I3).2.2
          obtain ⟨b3, off3, n3, c3, rfl, lt3, hc3⟩ := hv3 trivial
          have hc4 := cell_keep (below_a w3 (.cells #[.int .i64 0, .int .i64 0] 74)) lt3 hc3
          have Z4 := hideI ((unhideI Z3).step (below_a w3 (.cells #[.int .i64 0, .int .i64 0] 74)))
          have I4 := hideI ((unhideI I3).step (below_a w3 (.cells #[.int .i64 0, .int .i64 0] 74)))
          clear z0 z1 z2 z3 z4 i0 i1 i2 i3 i4
          obtain ⟨z0, z1, z2, z3⟩ := (unhideI Z4).at4
          have z4 := (unhideI Z4).2.2
          obtain ⟨i0, i1, i2, i3⟩ := (unhideI I4).at4
          have i4 := (unhideI I4).2.2
          go_wp2_with fail
          exact bodyPost_ret (v := .tuple #[.agg #[.int .i64 0, .int .i64 0, .int .i64 0, .int .i64 0], .int .i64 0]) (by simp [results, Try.results32, go_sem, z0, z1, z2, z3, z4]) rfl ⟨rfl, (by repeat (first | exact unhideI K3 | refine Below.setCell ?_ (by first | exact Nat.le_refl _ | (simp; done) | omega | (simp; omega)) _ | refine Below.alloc ?_ (by first | (simp; done) | omega | (simp; omega)) _))⟩
      · rw [if_neg (show ¬ fit (with2 x y) x = true by unfold fit; simp [hw])]
        unfold with2 at hw
        generalize wrg ⟨x / 1024, x / 128 % 8, x / 16 % 8, y⟩ = q at *
        have hq : (q != 0) = true := by simp [hw]
        clear hw
        go_enter Try.func32, Try.ntmps32
        go_wp2_with fail
        refine (HA _).mono ?_
        rintro e w1 ⟨rfl, k1⟩
        have Z1 := hideI (((Box.new w #[.int .i64 0, .int .i64 0, .int .i64 0, .int .i64 0] 49).step (below_a _ (.cells #[.int .i64 (x / 1024), .int .i64 (x / 128 % 8), .int .i64 (x / 16 % 8), .int .i64 0] 49))).step k1)
        have I1 := hideI ((Box.new (w.alloc (.cells #[.int .i64 0, .int .i64 0, .int .i64 0, .int .i64 0] 49)) #[.int .i64 (x / 1024), .int .i64 (x / 128 % 8), .int .i64 (x / 16 % 8), .int .i64 0] 49).step k1)
        simp only [World.size_alloc] at I1
        have K1 := hideI (bt (bt (below_a _ _) (below_a _ _)) k1)
        have ck := cell_keep (unhideI K1) hb ck
        have l1 : w.heap.size + 1 < w1.heap.size := (unhideI I1).1
        clear k1
        obtain ⟨z0, z1, z2, z3⟩ := (unhideI Z1).at4
        have z4 := (unhideI Z1).2.2
        obtain ⟨i0, i1, i2, i3⟩ := (unhideI I1).at4
        have i4 := (unhideI I1).2.2
        have ck1 := cell_keep (unhideI K1) hb ck1
        have ck2 := cell_keep (unhideI K1) hb ck2
        go_wp2_with fail
        have Z2 := hideI ((unhideI Z1).other (b' := w.heap.size + 1) (j := 3) (u := .int .i64 y) (by omega))
        have I2 := hideI ((unhideI I1).set (j := 3) (u := .int .i64 y) (by simp))
        have K2 := hideI ((unhideI K1).setCell (p := ⟨w.heap.size + 1, 3, none⟩) (by show w.heap.size ≤ w.heap.size + 1; omega) (.int .i64 y))
        refine (RE (w1.setCell ⟨w.heap.size + 1, 3, none⟩ (.int .i64 y)) w1.heap.size (by first | rfl | simp | simp [World.setCell])).mono ?_
        rintro e w3 ⟨k3, v3, rfl, hv3⟩
        have Z3 := hideI (((unhideI Z2).step (below_a _ (.cells #[.int .i64 (x / 1024), .int .i64 (x / 128 % 8), .int .i64 (x / 16 % 8), .int .i64 y] 49))).step k3)
        have I3 := hideI (((unhideI I2).step (below_a _ (.cells #[.int .i64 (x / 1024), .int .i64 (x / 128 % 8), .int .i64 (x / 16 % 8), .int .i64 y] 49))).step k3)
        have K3 := hideI (bt (bt (unhideI K2) (below_a _ (.cells #[.int .i64 (x / 1024), .int .i64 (x / 128 % 8), .int .i64 (x / 16 % 8), .int .i64 y] 49))) k3)
        have l3 : w.heap.size + 1 < w3.heap.size := (unhideI I3).1
        clear k3
        clear z0 z1 z2 z3 z4 i0 i1 i2 i3 i4
        obtain ⟨z0, z1, z2, z3⟩ := (unhideI Z3).at4
        have z4 := (unhideI Z3).2.2
        obtain ⟨i0, i1, i2, i3⟩ := (unhideI I3).at4
        have i4 := (unhideI I3).2.2
        clear hv3
        have Z4 := hideI ((unhideI Z3).step (below_a w3 (.cells #[.int .i64 q, .int .i64 0] 74)))
        have I4 := hideI ((unhideI I3).step (below_a w3 (.cells #[.int .i64 q, .int .i64 0] 74)))
        clear z0 z1 z2 z3 z4 i0 i1 i2 i3 i4
        obtain ⟨z0, z1, z2, z3⟩ := (unhideI Z4).at4
        have z4 := (unhideI Z4).2.2
        obtain ⟨i0, i1, i2, i3⟩ := (unhideI I4).at4
        have i4 := (unhideI I4).2.2
        go_wp2_with fail
        exact bodyPost_ret (v := .tuple #[.agg #[.int .i64 0, .int .i64 0, .int .i64 0, .int .i64 0], .int .i64 0]) (by simp [results, Try.results32, go_sem, z0, z1, z2, z3, z4]) rfl ⟨rfl, (by repeat (first | exact unhideI K3 | refine Below.setCell ?_ (by first | exact Nat.le_refl _ | (simp; done) | omega | (simp; omega)) _ | refine Below.alloc ?_ (by first | (simp; done) | omega | (simp; omega)) _))⟩
    · rw [List.drop_eq_nil_of_le (by omega), one_end hi]
      clear hc
      generalize xs[k] = x at *
      have HA := fun w => has_i (x / 1024) w
      rw [hi] at HA
      clear hi
      go_enter Try.func32, Try.ntmps32
      go_wp2_with fail
      refine (HA _).mono ?_
      rintro e w1 ⟨rfl, k1⟩
      have Z1 := hideI (((Box.new w #[.int .i64 0, .int .i64 0, .int .i64 0, .int .i64 0] 49).step (below_a _ (.cells #[.int .i64 (x / 1024), .int .i64 (x / 128 % 8), .int .i64 (x / 16 % 8), .int .i64 0] 49))).step k1)
      have I1 := hideI ((Box.new (w.alloc (.cells #[.int .i64 0, .int .i64 0, .int .i64 0, .int .i64 0] 49)) #[.int .i64 (x / 1024), .int .i64 (x / 128 % 8), .int .i64 (x / 16 % 8), .int .i64 0] 49).step k1)
      simp only [World.size_alloc] at I1
      have K1 := hideI (bt (bt (below_a _ _) (below_a _ _)) k1)
      have ck := cell_keep (unhideI K1) hb ck
      have l1 : w.heap.size + 1 < w1.heap.size := (unhideI I1).1
      clear k1
      obtain ⟨z0, z1, z2, z3⟩ := (unhideI Z1).at4
      have z4 := (unhideI Z1).2.2
      obtain ⟨i0, i1, i2, i3⟩ := (unhideI I1).at4
      have i4 := (unhideI I1).2.2
      go_wp2_with fail
      exact bodyPost_ret (v := .tuple #[.agg #[.int .i64 0, .int .i64 0, .int .i64 0, .int .i64 0], .int .i64 0]) (by simp [results, Try.results32, go_sem, z0, z1, z2, z3, z4]) rfl ⟨rfl, (by repeat (first | exact unhideI K1 | refine Below.setCell ?_ (by first | exact Nat.le_refl _ | (simp; done) | omega | (simp; omega)) _ | refine Below.alloc ?_ (by first | (simp; done) | omega | (simp; omega)) _))⟩
  · rw [one_one hi]
    replace hi : hI (xs[k] / 1024) = false := by simpa using hi
    clear hc
    generalize xs[k] = x at *
    have HA := fun w => has_i (x / 1024) w
    rw [hi] at HA
    clear hi
    have RE := fun u B hB => rencode_one ⟨x / 1024, x / 128 % 8, x / 16 % 8, 0⟩ u B hB 49
    by_cases hw : wrg (with2 x 0) = 0
    · by_cases hf : fst (with2 x 0) = x
      · rw [if_pos (show fit (with2 x 0) x = true by unfold fit; simp [hw, hf])]
        unfold with2 at hw hf
        simp only [hw, hf] at RE
        clear hw hf
        go_enter Try.func32, Try.ntmps32
        go_wp2_with fail
        refine (HA _).mono ?_
        rintro e w1 ⟨rfl, k1⟩
        have Z1 := hideI (((Box.new w #[.int .i64 0, .int .i64 0, .int .i64 0, .int .i64 0] 49).step (below_a _ (.cells #[.int .i64 (x / 1024), .int .i64 (x / 128 % 8), .int .i64 (x / 16 % 8), .int .i64 0] 49))).step k1)
        have I1 := hideI ((Box.new (w.alloc (.cells #[.int .i64 0, .int .i64 0, .int .i64 0, .int .i64 0] 49)) #[.int .i64 (x / 1024), .int .i64 (x / 128 % 8), .int .i64 (x / 16 % 8), .int .i64 0] 49).step k1)
        simp only [World.size_alloc] at I1
        have K1 := hideI (bt (bt (below_a _ _) (below_a _ _)) k1)
        have ck := cell_keep (unhideI K1) hb ck
        have l1 : w.heap.size + 1 < w1.heap.size := (unhideI I1).1
        clear k1
        obtain ⟨z0, z1, z2, z3⟩ := (unhideI Z1).at4
        have z4 := (unhideI Z1).2.2
        obtain ⟨i0, i1, i2, i3⟩ := (unhideI I1).at4
        have i4 := (unhideI I1).2.2
        go_wp2_with fail
        refine (RE w1 w1.heap.size (by first | rfl | simp | simp [World.setCell])).mono ?_
        rintro e w3 ⟨k3, v3, rfl, hv3⟩
        have Z3 := hideI (((unhideI Z1).step (below_a _ (.cells #[.int .i64 (x / 1024), .int .i64 (x / 128 % 8), .int .i64 (x / 16 % 8), .int .i64 0] 49))).step k3)
        have I3 := hideI (((unhideI I1).step (below_a _ (.cells #[.int .i64 (x / 1024), .int .i64 (x / 128 % 8), .int .i64 (x / 16 % 8), .int .i64 0] 49))).step k3)
        have K3 := hideI (bt (bt (unhideI K1) (below_a _ (.cells #[.int .i64 (x / 1024), .int .i64 (x / 128 % 8), .int .i64 (x / 16 % 8), .int .i64 0] 49))) k3)
        have l3 : w.heap.size + 1 < w3.heap.size := (unhideI I3).1
        clear k3
        clear z0 z1 z2 z3 z4 i0 i1 i2 i3 i4
        obtain ⟨z0, z1, z2, z3⟩ := (unhideI Z3).at4
        have z4 := (unhideI Z3).2.2
        obtain ⟨i0, i1, i2, i3⟩ := (unhideI I3).at4
        have i4 := (unhideI I3).2.2
        obtain ⟨b3, off3, n3, c3, rfl, lt3, hc3⟩ := hv3 trivial
        have hc4 := cell_keep (below_a w3 (.cells #[.int .i64 0, .int .i64 0] 74)) lt3 hc3
        have Z4 := hideI ((unhideI Z3).step (below_a w3 (.cells #[.int .i64 0, .int .i64 0] 74)))
        have I4 := hideI ((unhideI I3).step (below_a w3 (.cells #[.int .i64 0, .int .i64 0] 74)))
        clear z0 z1 z2 z3 z4 i0 i1 i2 i3 i4
        obtain ⟨z0, z1, z2, z3⟩ := (unhideI Z4).at4
        have z4 := (unhideI Z4).2.2
        obtain ⟨i0, i1, i2, i3⟩ := (unhideI I4).at4
        have i4 := (unhideI I4).2.2
        go_wp2_with fail
        exact bodyPost_ret (v := .tuple #[.agg #[.int .i64 (x / 1024), .int .i64 (x / 128 % 8), .int .i64 (x / 16 % 8), .int .i64 0], .int .i64 1]) (by simp [results, Try.results32, go_sem, z0, z1, z2, z3, z4]) rfl ⟨rfl, (by repeat (first | exact unhideI K3 | refine Below.setCell ?_ (by first | exact Nat.le_refl _ | (simp; done) | omega | (simp; omega)) _ | refine Below.alloc ?_ (by first | (simp; done) | omega | (simp; omega)) _))⟩
      · rw [if_neg (show ¬ fit (with2 x 0) x = true by unfold fit; simp [hf])]
        unfold with2 at hw hf
        simp only [hw] at RE
        generalize fst ⟨x / 1024, x / 128 % 8, x / 16 % 8, 0⟩ = q at *
        have hq : (q != x) = true := by simp [hf]
        clear hw hf
        go_enter Try.func32, Try.ntmps32
        go_wp2_with fail
        refine (HA _).mono ?_
        rintro e w1 ⟨rfl, k1⟩
        have Z1 := hideI (((Box.new w #[.int .i64 0, .int .i64 0, .int .i64 0, .int .i64 0] 49).step (below_a _ (.cells #[.int .i64 (x / 1024), .int .i64 (x / 128 % 8), .int .i64 (x / 16 % 8), .int .i64 0] 49))).step k1)
        have I1 := hideI ((Box.new (w.alloc (.cells #[.int .i64 0, .int .i64 0, .int .i64 0, .int .i64 0] 49)) #[.int .i64 (x / 1024), .int .i64 (x / 128 % 8), .int .i64 (x / 16 % 8), .int .i64 0] 49).step k1)
        simp only [World.size_alloc] at I1
        have K1 := hideI (bt (bt (below_a _ _) (below_a _ _)) k1)
        have ck := cell_keep (unhideI K1) hb ck
        have l1 : w.heap.size + 1 < w1.heap.size := (unhideI I1).1
        clear k1
        obtain ⟨z0, z1, z2, z3⟩ := (unhideI Z1).at4
        have z4 := (unhideI Z1).2.2
        obtain ⟨i0, i1, i2, i3⟩ := (unhideI I1).at4
        have i4 := (unhideI I1).2.2
        go_wp2_with fail
        refine (RE w1 w1.heap.size (by first | rfl | simp | simp [World.setCell])).mono ?_
        rintro e w3 ⟨k3, v3, rfl, hv3⟩
        have Z3 := hideI (((unhideI Z1).step (below_a _ (.cells #[.int .i64 (x / 1024), .int .i64 (x / 128 % 8), .int .i64 (x / 16 % 8), .int .i64 0] 49))).step k3)
        have I3 := hideI (((unhideI I1).step (below_a _ (.cells #[.int .i64 (x / 1024), .int .i64 (x / 128 % 8), .int .i64 (x / 16 % 8), .int .i64 0] 49))).step k3)
        have K3 := hideI (bt (bt (unhideI K1) (below_a _ (.cells #[.int .i64 (x / 1024), .int .i64 (x / 128 % 8), .int .i64 (x / 16 % 8), .int .i64 0] 49))) k3)
        have l3 : w.heap.size + 1 < w3.heap.size := (unhideI I3).1
        clear k3
        clear z0 z1 z2 z3 z4 i0 i1 i2 i3 i4
        obtain ⟨z0, z1, z2, z3⟩ := (unhideI Z3).at4
        have z4 := (unhideI Z3).2.2
        obtain ⟨i0, i1, i2, i3⟩ := (unhideI I3).at4
        have i4 := (unhideI I3).2.2
        obtain ⟨b3, off3, n3, c3, rfl, lt3, hc3⟩ := hv3 trivial
        have hc4 := cell_keep (below_a w3 (.cells #[.int .i64 0, .int .i64 0] 74)) lt3 hc3
        have Z4 := hideI ((unhideI Z3).step (below_a w3 (.cells #[.int .i64 0, .int .i64 0] 74)))
        have I4 := hideI ((unhideI I3).step (below_a w3 (.cells #[.int .i64 0, .int .i64 0] 74)))
        clear z0 z1 z2 z3 z4 i0 i1 i2 i3 i4
        obtain ⟨z0, z1, z2, z3⟩ := (unhideI Z4).at4
        have z4 := (unhideI Z4).2.2
        obtain ⟨i0, i1, i2, i3⟩ := (unhideI I4).at4
        have i4 := (unhideI I4).2.2
        go_wp2_with fail
        exact bodyPost_ret (v := .tuple #[.agg #[.int .i64 0, .int .i64 0, .int .i64 0, .int .i64 0], .int .i64 0]) (by simp [results, Try.results32, go_sem, z0, z1, z2, z3, z4]) rfl ⟨rfl, (by repeat (first | exact unhideI K3 | refine Below.setCell ?_ (by first | exact Nat.le_refl _ | (simp; done) | omega | (simp; omega)) _ | refine Below.alloc ?_ (by first | (simp; done) | omega | (simp; omega)) _))⟩
    · rw [if_neg (show ¬ fit (with2 x 0) x = true by unfold fit; simp [hw])]
      unfold with2 at hw
      generalize wrg ⟨x / 1024, x / 128 % 8, x / 16 % 8, 0⟩ = q at *
      have hq : (q != 0) = true := by simp [hw]
      clear hw
      go_enter Try.func32, Try.ntmps32
      go_wp2_with fail
      refine (HA _).mono ?_
      rintro e w1 ⟨rfl, k1⟩
      have Z1 := hideI (((Box.new w #[.int .i64 0, .int .i64 0, .int .i64 0, .int .i64 0] 49).step (below_a _ (.cells #[.int .i64 (x / 1024), .int .i64 (x / 128 % 8), .int .i64 (x / 16 % 8), .int .i64 0] 49))).step k1)
      have I1 := hideI ((Box.new (w.alloc (.cells #[.int .i64 0, .int .i64 0, .int .i64 0, .int .i64 0] 49)) #[.int .i64 (x / 1024), .int .i64 (x / 128 % 8), .int .i64 (x / 16 % 8), .int .i64 0] 49).step k1)
      simp only [World.size_alloc] at I1
      have K1 := hideI (bt (bt (below_a _ _) (below_a _ _)) k1)
      have ck := cell_keep (unhideI K1) hb ck
      have l1 : w.heap.size + 1 < w1.heap.size := (unhideI I1).1
      clear k1
      obtain ⟨z0, z1, z2, z3⟩ := (unhideI Z1).at4
      have z4 := (unhideI Z1).2.2
      obtain ⟨i0, i1, i2, i3⟩ := (unhideI I1).at4
      have i4 := (unhideI I1).2.2
      go_wp2_with fail
      refine (RE w1 w1.heap.size (by first | rfl | simp | simp [World.setCell])).mono ?_
      rintro e w3 ⟨k3, v3, rfl, hv3⟩
      have Z3 := hideI (((unhideI Z1).step (below_a _ (.cells #[.int .i64 (x / 1024), .int .i64 (x / 128 % 8), .int .i64 (x / 16 % 8), .int .i64 0] 49))).step k3)
      have I3 := hideI (((unhideI I1).step (below_a _ (.cells #[.int .i64 (x / 1024), .int .i64 (x / 128 % 8), .int .i64 (x / 16 % 8), .int .i64 0] 49))).step k3)
      have K3 := hideI (bt (bt (unhideI K1) (below_a _ (.cells #[.int .i64 (x / 1024), .int .i64 (x / 128 % 8), .int .i64 (x / 16 % 8), .int .i64 0] 49))) k3)
      have l3 : w.heap.size + 1 < w3.heap.size := (unhideI I3).1
      clear k3
      clear z0 z1 z2 z3 z4 i0 i1 i2 i3 i4
      obtain ⟨z0, z1, z2, z3⟩ := (unhideI Z3).at4
      have z4 := (unhideI Z3).2.2
      obtain ⟨i0, i1, i2, i3⟩ := (unhideI I3).at4
      have i4 := (unhideI I3).2.2
      clear hv3
      have Z4 := hideI ((unhideI Z3).step (below_a w3 (.cells #[.int .i64 q, .int .i64 0] 74)))
      have I4 := hideI ((unhideI I3).step (below_a w3 (.cells #[.int .i64 q, .int .i64 0] 74)))
      clear z0 z1 z2 z3 z4 i0 i1 i2 i3 i4
      obtain ⟨z0, z1, z2, z3⟩ := (unhideI Z4).at4
      have z4 := (unhideI Z4).2.2
      obtain ⟨i0, i1, i2, i3⟩ := (unhideI I4).at4
      have i4 := (unhideI I4).2.2
      go_wp2_with fail
      exact bodyPost_ret (v := .tuple #[.agg #[.int .i64 0, .int .i64 0, .int .i64 0, .int .i64 0], .int .i64 0]) (by simp [results, Try.results32, go_sem, z0, z1, z2, z3, z4]) rfl ⟨rfl, (by repeat (first | exact unhideI K3 | refine Below.setCell ?_ (by first | exact Nat.le_refl _ | (simp; done) | omega | (simp; omega)) _ | refine Below.alloc ?_ (by first | (simp; done) | omega | (simp; omega)) _))⟩
end Go.Proofs.Ytjlbenbfmookoaa
