/-
  InstrJoined, walked.
-/
import Derived.Test.YthekibklknkinaaFour
import Derived.Test.YthekibklknkinaaRefS
import Derived.Test.YthekibklknkinaaAlive2
import Derived.Test.YthekibklknkinaaOpen
import Derived.Test.YthekibklknkinaaMem2
namespace Go.Proofs.Ythekibklknkinaa
open Go.RowKit
set_option linter.unusedSimpArgs false
set_option linter.unusedVariables false

theorem enc_short (l : List Ins) (h : (encA l).2.1 = 0) : l.length ≤ 65536 := by
  unfold encA at h
  have a := ((enc_ok l 0 [] (by simp)).1 h).2
  have b := flat_len l
  simp only [List.nil_append] at a
  omega
theorem encA_len (l : List Ins) : (encA l).1.length ≤ 65536 := enc_len l 0 [] (by simp)
theorem flat_c2 (l : List Ins) : ∀ u ∈ l.flatMap cells4, u.oneCell' = true := by
  intro u hu
  obtain ⟨i, _, h⟩ := List.mem_flatMap.1 hu
  exact four_c2 i u h
theorem ints_c2 (l : List Int) : ∀ u ∈ l.map int1, u.oneCell' = true := by
  intro u hu
  obtain ⟨i, _, rfl⟩ := List.mem_map.1 hu
  rfl
theorem own_nil (w : World) (B : Nat) (e s : Nat) (h : B ≤ w.heap.size) : (w.alloc (.cells #[] e)).ownsRow B e s (.slice (some ⟨w.heap.size, 0, none⟩) 0 0) 0 [] :=
  World.ownsRow_made w #[] 0 h (by decide) (by simp)

theorem own_joined {w : World} {B : Nat} {v : Value} {l m : List Ins} (h : w.ownsRow B 23 4 v (0 + l.length + m.length) ([] ++ l.flatMap cells4 ++ m.flatMap cells4)) : Inss w v (l ++ m) := by
  have := Lies.owned h
  unfold Inss
  rw [List.length_append, List.flatMap_append]
  simpa using this
theorem own_joined1 {w : World} {B : Nat} {v : Value} {l m : List Int} (h : w.ownsRow B 3 1 v (0 + l.length + m.length) ([] ++ l.map int1 ++ m.map int1)) : Ints w v (l ++ m) := by
  have := Lies.owned h
  unfold Ints
  rw [List.length_append, List.map_append]
  simpa using this

set_option maxHeartbeats 4000000 in
theorem walk_instrJoined (l m : List Ins) (vl vm : Value) (w : World) (hl : Inss w vl l) (_ : ∀ i ∈ l, I64 i.o ∧ I64 i.d ∧ I64 i.s ∧ I64 i.m) (hm : Inss w vm m) (_ : ∀ i ∈ m, I64 i.o ∧ I64 i.d ∧ I64 i.s ∧ I64 i.m) :
    Calls Try.prog 6 #[vl, vm] w fun e w' => e = .returned (.bool true) ∧ Below w.heap.size w w' := by
  obtain ⟨i0, hi, hz0, hz1, hz2⟩ := info_parts Try.infoInstr
  obtain ⟨j0, gi, gz0, gz1, gz2⟩ := info_parts Try.infoInt
  have HL := hideI hl
  have HM := hideI hm
  obtain ⟨lo, lc, rfl, ml, _⟩ := hl.at
  obtain ⟨mo, mc, rfl, mm, _⟩ := hm.at
  clear hl hm
  have E := fun v w h => encode_any l v w h
  have F := fun v w h => encode_any m v w h
  have J := hideI (joined l m)
  have SL := hideI (enc_short l)
  have SM := hideI (enc_short m)
  have LL := encA_len l
  have LM := encA_len m
  have G := fun v w h => encode_any (l ++ m) v w h
  generalize encA l = R at *
  generalize encA m = S at *
  generalize encA (l ++ m) = U at *
  obtain ⟨ws1, e1, n1⟩ := R
  obtain ⟨ws2, e2, n2⟩ := S
  obtain ⟨ws3, e3, n3⟩ := U
  dsimp only at E F G LL LM
  go_enter Try.func6, Try.ntmps6
  go_wp2_with fail
  refine (alive2 _).mono ?_
  rintro e w1 ⟨rfl, k1⟩
  go_wp2_with fail
  refine (E _ _ ((unhideI HL).step k1)).mono ?_
  rintro e w2 ⟨v2, rfl, i2, f2, k2⟩
  have HI2 := hideI i2
  obtain ⟨o2, c2, rfl, _, _⟩ := i2.at
  clear i2
  have K2 := hideI (bt k1 (bt k2 (below_a w2 (.cells #[.int .i64 e1, .int .i64 n1] 38))))
  go_wp2_with fail
  refine (F _ _ ((unhideI HM).step (unhideI K2))).mono ?_
  rintro e w3 ⟨v3, rfl, i3, f3, k3⟩
  have HI3 := hideI i3
  obtain ⟨o3, c3, rfl, _, _⟩ := i3.at
  clear i3
  have K3 := hideI (bt (unhideI K2) k3)
  have BX := (Box.new w2 #[.int .i64 e1, .int .i64 n1] 38).step k3
  obtain ⟨x0, x1⟩ := BX.at2
  have s3 := lt1 k3
  have t3 := (unhideI K3).size
  clear BX
  have K4 := hideI (bt (unhideI K3) (below_a w3 (.cells #[.int .i64 e2, .int .i64 n2] 38)))
  by_cases h1 : e1 = 0
  · subst h1
    by_cases h2 : e2 = 0
    · subst h2
      have sl : l.length ≤ 65536 := (unhideI SL) rfl
      have sm : m.length ≤ 65536 := (unhideI SM) rfl
      have J' := hideI ((unhideI J) rfl rfl)
      clear J SL SM
      have ON := own_nil (w3.alloc (.cells #[.int .i64 0, .int .i64 n2] 38)) (w3.heap.size + 1) 23 4 (by simp)
      simp only [World.size_alloc] at ON
      have HON := hideI ON
      clear ON
      have K5 := hideI (bt (unhideI K4) (below_a (w3.alloc (.cells #[.int .i64 0, .int .i64 n2] 38)) (.cells #[] 23)))
      have t5 := t3
      go_wp2_with (first | (at_builtin; refine append_lies rfl (.tmp 32) (.tmp 33) 36 rfl (w3.heap.size + 1) 23 i0 (.agg #[.int .i64 0, .int .i64 0, .int .i64 0, .int .i64 0]) 4 32 Try.underlying36 hi hz0 hz1 hz2 rfl (by decide) _ _ _ rfl (unhideI HON) _ _ _ rfl ((unhideI HL).step (unhideI K5)) (flat_c2 _) (by unfold maxLen; omega) (by omega) (by simp) ?_; intro v4 w4 own4 grow4; have b4 := below_own ((below_a (w3.alloc (.cells #[.int .i64 0, .int .i64 n2] 38)) (.cells #[] 23)).mono (by simp)) (by simp) (unhideI HON) grow4; have K6 := hideI ((unhideI K4).trans (b4.mono (by omega))); have s4 := b4.size; simp at s4; have O4 := hideI own4; have B4 := hideI b4; clear own4 grow4 b4) | (at_builtin; refine append_lies rfl (.tmp 34) (.tmp 35) 36 rfl (w3.heap.size + 1) 23 i0 (.agg #[.int .i64 0, .int .i64 0, .int .i64 0, .int .i64 0]) 4 32 Try.underlying36 hi hz0 hz1 hz2 rfl (by decide) _ _ _ rfl (unhideI O4) _ _ _ rfl ((unhideI HM).step (unhideI K6)) (flat_c2 _) (by unfold maxLen; omega) (by omega) (by omega) ?_; intro v5 w5 own5 grow5; have K7 := hideI ((below_own (Below.refl (w3.heap.size + 1) w4) (by omega) (unhideI O4) grow5)); have O5 := hideI own5; clear own5 grow5))
      have K8 := hideI ((unhideI K6).trans ((unhideI K7).mono (by omega)))
      have s5 := (unhideI K7).size
      refine (G _ _ (own_joined (unhideI O5))).mono ?_
      rintro e w6 ⟨v6, rfl, i6, f6, k6⟩
      have HI6 := hideI i6
      obtain ⟨o6, c6, rfl, _, _⟩ := i6.at
      clear i6
      have s6 := k6.size
      have K9 := hideI (bt (unhideI K8) k6)
      have t9 := (unhideI K9).size
      rcases unhideI J' with ⟨a1, a2⟩ | ⟨a1, a2⟩
      · subst a1
        have A2 := hideI a2
        clear a2
        have KA := hideI (bt (unhideI K9) (below_a w6 (.cells #[.int .i64 0, .int .i64 n3] 38)))
        have OM := own_nil (w6.alloc (.cells #[.int .i64 0, .int .i64 n3] 38)) (w6.heap.size + 1) 3 1 (by simp)
        simp only [World.size_alloc] at OM
        have HOM := hideI OM
        clear OM
        have KB := hideI (below_a (w6.alloc (.cells #[.int .i64 0, .int .i64 n3] 38)) (.cells #[] 3))
        have KC := hideI (bt ((((unhideI B4).trans (unhideI K7)).trans (k6.mono (by omega))).mono (by simp)) (below_a w6 (.cells #[.int .i64 0, .int .i64 n3] 38)) : Below (w3.alloc (.cells #[.int .i64 0, .int .i64 n2] 38)).heap.size (w3.alloc (.cells #[.int .i64 0, .int .i64 n2] 38)) (w6.alloc (.cells #[.int .i64 0, .int .i64 n3] 38)))
        have I2 := hideI ((((unhideI HI2).step (below_a w2 (.cells #[.int .i64 0, .int .i64 n1] 38))).step k3).step (below_a w3 (.cells #[.int .i64 0, .int .i64 n2] 38)))
        have I3 := hideI ((unhideI HI3).step (below_a w3 (.cells #[.int .i64 0, .int .i64 n2] 38)))
        go_wp2_with (first | (at_builtin; refine append_lies rfl (.tmp 55) (.tmp 56) 24 rfl (w6.heap.size + 1) 3 j0 (.int .i64 0) 1 8 Try.underlying24 gi gz0 gz1 gz2 rfl (by decide) _ _ _ rfl (unhideI HOM) _ _ _ rfl ((unhideI I2).step (bt (unhideI KC) (unhideI KB))) (ints_c2 _) (by unfold maxLen; omega) (by omega) (by simp) ?_; intro v7 w7 own7 grow7; have b7 := below_own ((unhideI KB).mono (by simp)) (by simp) (unhideI HOM) grow7; have s7 := b7.size; simp at s7; have B7 := hideI b7; have O7 := hideI own7; clear own7 grow7 b7) | (at_builtin; refine append_lies rfl (.tmp 57) (.tmp 58) 24 rfl (w6.heap.size + 1) 3 j0 (.int .i64 0) 1 8 Try.underlying24 gi gz0 gz1 gz2 rfl (by decide) _ _ _ rfl (unhideI O7) _ _ _ rfl ((unhideI I3).step ((unhideI KC).trans ((unhideI B7).mono (by have := (unhideI KC).size; simp at this ⊢; omega)))) (ints_c2 _) (by unfold maxLen; omega) (by omega) (by omega) ?_; intro v8 w8 own8 grow8; have b8 := below_own (Below.refl (w6.heap.size + 1) w7) (by omega) (unhideI O7) grow8; have B8 := hideI ((unhideI B7).trans b8); have O8 := hideI own8; clear own8 grow8 b8))
        refine (same1_yes ws3 _ _ _ (((unhideI HI6).step (below_a w6 (.cells #[.int .i64 0, .int .i64 n3] 38))).step (by have t := unhideI B8; simpa only [World.size_alloc] using t)) (by have t := own_joined1 (unhideI O8); rw [unhideI A2]; exact t)).mono ?_
        rintro e w9 ⟨rfl, k9⟩
        go_wp2
        go_ret
        exact ⟨rfl, bt ((unhideI KA).trans ((unhideI B8).mono (by omega))) k9⟩
      · subst a1
        have a3 : (65536 : Int) < ws1.length + ws2.length := by omega
        go_wp2
        go_ret
        exact ⟨rfl, (by repeat (first | exact unhideI K9 | refine Below.setCell ?_ (by first | exact Nat.le_refl _ | (simp; done) | omega | (simp; omega)) _ | refine Below.alloc ?_ (by first | (simp; done) | omega | (simp; omega)) _))⟩
    · have he2 : (e2 != 0) = true := by simp [h2]
      go_wp2
      go_ret
      exact ⟨rfl, (by repeat (first | exact unhideI K3 | refine Below.setCell ?_ (by first | exact Nat.le_refl _ | (simp; done) | omega | (simp; omega)) _ | refine Below.alloc ?_ (by first | (simp; done) | omega | (simp; omega)) _))⟩
  · have he1 : (e1 != 0) = true := by simp [h1]
    go_wp2
    go_ret
    exact ⟨rfl, (by repeat (first | exact unhideI K3 | refine Below.setCell ?_ (by first | exact Nat.le_refl _ | (simp; done) | omega | (simp; omega)) _ | refine Below.alloc ?_ (by first | (simp; done) | omega | (simp; omega)) _))⟩
end Go.Proofs.Ythekibklknkinaa
