/-
  asm.shownFields. (Written by mkShF.py.)
-/
import Derived.Test.YtoopgkbefhoeiaaDoorShA
import Derived.Deep.DeepCutAuto
namespace Go.Proofs.YtoopgkbefhoeiaaDoor
open Go.RowKit
set_option linter.unusedSimpArgs false
set_option linter.unusedVariables false

set_option maxRecDepth 100000 in
set_option maxHeartbeats 4000000 in
theorem shownFields_any (x : Ln) (w : World) (G : Gl w) (hx : fits4 x) : Calls Tryd.prog 37 #[aggL x] w fun e w' => ∃ v, e = .returned v ∧ Lies w' 1 v (shF x).length (txs (shF x)) ∧ Below w.heap.size w w' := by
  obtain ⟨i0, hi, hz0, hz1, hz2⟩ := info_parts Tryd.infoStr4
  obtain ⟨lab, ⟨o, d, s, m⟩, ref⟩ := x
  have B0 := hideI (Box.new w #[.string lab, .int .i64 o, .int .i64 d, .int .i64 s, .int .i64 m, .string ref] 27)
  have K0 := hideI (below_a w (.cells #[.string lab, .int .i64 o, .int .i64 d, .int .i64 s, .int .i64 m, .string ref] 27))
  have G0 := hideI G
  have U := fun w => uses_any o w
  have rt := ba_toList ref
  unfold fits4 at hx
  unfold shF aggL
  dsimp only at *
  obtain ⟨x1, x2, x3⟩ := hx
  clear G
  have hro : ∀ (n : Int), 114 :: Lib.itoa n = rgT n := fun _ => rfl
  by_cases hd : hD o = true
  · skip
    by_cases hs : hS o = true
    · skip
      by_cases hi' : hI o = true
      · skip
        rw [if_pos hd]
        rw [if_pos hs]
        rw [if_pos hi']
        have y1 := x1 hd
        have y2 := x2 hs
        have y3 := x3 hi'
        clear x1 x2 x3
        have IT : ∀ n : Int, (0 ≤ n ∧ n ≤ 65535) → ∀ w, Gl w → Calls Tryd.prog 44 #[.int .i64 n] w fun e w' => e = .returned (.string (ba (Lib.itoa n))) ∧ Below w.heap.size w w' := fun n h w G => itoa_any n (by omega) (by omega) w G
        by_cases he : ref.toList.isEmpty = true
        · rw [if_pos (show emp ref = true from he)]
          go_enter Tryd.func37, Tryd.ntmps37
          go_wp2_with fail
          refine (U _).mono ?_
          rintro e w1 ⟨rfl, k1⟩
          rw [hd, hs, hi']
          have HB := hideI ((unhideI B0).step k1)
          have HK := hideI (bt (unhideI K0) k1)
          have HG := hideI ((unhideI G0).step (bt (unhideI K0) k1))
          have HW := hideI (Below.refl w1.heap.size w1)
          have HO : Hid (w1.ownsRow w1.heap.size 9 1 (.slice none 0 0) ([] : List (List UInt8)).length (txs [])) := World.ownsRow_nil _ _ _ _
          have hwB : w1.heap.size ≤ w1.heap.size := Nat.le_refl _
          clear k1 U B0 K0 G0

          have BU := (unhideI HB).step (unhideI HW)
          have c0 := BU.2.1 0 _ rfl
          have c1 := BU.2.1 1 _ rfl
          have c2 := BU.2.1 2 _ rfl
          have c3 := BU.2.1 3 _ rfl
          have c4 := BU.2.1 4 _ rfl
          have c5 := BU.2.1 5 _ rfl
          clear BU
          go_wp2_with fail
          refine (IT d y1 _ (unhideI HG |>.step (unhideI HW))).mono ?_
          rintro e w2 ⟨rfl, k2⟩

          have HO := hideI (own_step (unhideI HO) k2)
          have HW := hideI ((unhideI HW).trans (k2.mono hwB))
          have hwB := (unhideI HW).size
          clear k2
          have hsl := itoa_size y1
          have hct : (⟨#[114]⟩ : ByteArray) ++ ba (Lib.itoa d) = ba (rgT d) := ba_cat [114] (Lib.itoa d)
          clear c0 c1 c2 c3 c4 c5
          go_upto_region 5 with (at_builtin; (refine wpList_append_own _ rfl (.tmp 18) (.tmp 24) 74 rfl w1.heap.size 9 i0 (.string ⟨#[]⟩) 1 16 Tryd.underlying74 hi hz0 hz1 hz2 rfl (by decide) _ _ _ rfl ((unhideI HO).alloc _) ⟨_, 0, none⟩ 1 1 [.string (ba (rgT d))] rfl rfl (box1 _ _ _ _ rfl) (by intro u hu; simp at hu; subst hu; rfl) (by simp [maxLen]) (by simp) (by rw [World.size_alloc]; omega) ?_; intro v3 w3 own3 grow3 _; have b3 := hideI (below_own ((unhideI HW).alloc (by omega) _) (by rw [World.size_alloc]; omega) ((unhideI HO).alloc _) grow3); have O3 := hideI own3; clear own3 grow3))

          have HO := hideI (own_txs (l := []) (s := rgT d) (unhideI O3))
          have HW := b3
          have hwB := (unhideI HW).size
          clear O3 b3

          have BU := (unhideI HB).step (unhideI HW)
          have c0 := BU.2.1 0 _ rfl
          have c1 := BU.2.1 1 _ rfl
          have c2 := BU.2.1 2 _ rfl
          have c3 := BU.2.1 3 _ rfl
          have c4 := BU.2.1 4 _ rfl
          have c5 := BU.2.1 5 _ rfl
          clear BU
          go_wp2_with fail
          refine (IT s y2 _ (unhideI HG |>.step (unhideI HW))).mono ?_
          rintro e w2 ⟨rfl, k2⟩

          have HO := hideI (own_step (unhideI HO) k2)
          have HW := hideI ((unhideI HW).trans (k2.mono hwB))
          have hwB := (unhideI HW).size
          clear k2
          have hsl := itoa_size y2
          have hct : (⟨#[114]⟩ : ByteArray) ++ ba (Lib.itoa s) = ba (rgT s) := ba_cat [114] (Lib.itoa s)
          clear c0 c1 c2 c3 c4 c5
          go_upto_region 7 with (at_builtin; (refine wpList_append_own _ rfl (.tmp 27) (.tmp 33) 74 rfl w1.heap.size 9 i0 (.string ⟨#[]⟩) 1 16 Tryd.underlying74 hi hz0 hz1 hz2 rfl (by decide) _ _ _ rfl ((unhideI HO).alloc _) ⟨_, 0, none⟩ 1 1 [.string (ba (rgT s))] rfl rfl (box1 _ _ _ _ rfl) (by intro u hu; simp at hu; subst hu; rfl) (by simp [maxLen]) (by simp) (by rw [World.size_alloc]; omega) ?_; intro v3 w3 own3 grow3 _; have b3 := hideI (below_own ((unhideI HW).alloc (by omega) _) (by rw [World.size_alloc]; omega) ((unhideI HO).alloc _) grow3); have O3 := hideI own3; clear own3 grow3))

          have HO := hideI (own_txs (l := [rgT d]) (s := rgT s) (unhideI O3))
          have HW := b3
          have hwB := (unhideI HW).size
          clear O3 b3

          have BU := (unhideI HB).step (unhideI HW)
          have c0 := BU.2.1 0 _ rfl
          have c1 := BU.2.1 1 _ rfl
          have c2 := BU.2.1 2 _ rfl
          have c3 := BU.2.1 3 _ rfl
          have c4 := BU.2.1 4 _ rfl
          have c5 := BU.2.1 5 _ rfl
          clear BU
          go_wp2_with fail
          refine (IT m y3 _ (unhideI HG |>.step (unhideI HW))).mono ?_
          rintro e w2 ⟨rfl, k2⟩

          have HO := hideI (own_step (unhideI HO) k2)
          have HW := hideI ((unhideI HW).trans (k2.mono hwB))
          have hwB := (unhideI HW).size
          clear k2
          clear c0 c1 c2 c3 c4 c5
          go_wp2_with (at_builtin; (refine wpList_append_own _ rfl (.tmp 47) (.tmp 52) 74 rfl w1.heap.size 9 i0 (.string ⟨#[]⟩) 1 16 Tryd.underlying74 hi hz0 hz1 hz2 rfl (by decide) _ _ _ rfl ((unhideI HO).alloc _) ⟨_, 0, none⟩ 1 1 [.string (ba (Lib.itoa m))] rfl rfl (box1 _ _ _ _ rfl) (by intro u hu; simp at hu; subst hu; rfl) (by simp [maxLen]) (by simp) (by rw [World.size_alloc]; omega) ?_; intro v3 w3 own3 grow3 _; have b3 := hideI (below_own ((unhideI HW).alloc (by omega) _) (by rw [World.size_alloc]; omega) ((unhideI HO).alloc _) grow3); have O3 := hideI own3; clear own3 grow3))

          have HO := hideI (own_txs (l := [rgT d, rgT s]) (s := Lib.itoa m) (unhideI O3))
          have HW := b3
          have hwB := (unhideI HW).size
          clear O3 b3
          go_ret
          exact ⟨_, rfl, Lies.owned (unhideI HO), bt (unhideI HK) (unhideI HW)⟩
        · replace he : ref.toList.isEmpty = false := by simpa using he
          rw [if_neg (show ¬ emp ref = true by unfold emp; rw [he]; simp)]
          go_enter Tryd.func37, Tryd.ntmps37
          go_wp2_with fail
          refine (U _).mono ?_
          rintro e w1 ⟨rfl, k1⟩
          rw [hd, hs, hi']
          have HB := hideI ((unhideI B0).step k1)
          have HK := hideI (bt (unhideI K0) k1)
          have HG := hideI ((unhideI G0).step (bt (unhideI K0) k1))
          have HW := hideI (Below.refl w1.heap.size w1)
          have HO : Hid (w1.ownsRow w1.heap.size 9 1 (.slice none 0 0) ([] : List (List UInt8)).length (txs [])) := World.ownsRow_nil _ _ _ _
          have hwB : w1.heap.size ≤ w1.heap.size := Nat.le_refl _
          clear k1 U B0 K0 G0

          have BU := (unhideI HB).step (unhideI HW)
          have c0 := BU.2.1 0 _ rfl
          have c1 := BU.2.1 1 _ rfl
          have c2 := BU.2.1 2 _ rfl
          have c3 := BU.2.1 3 _ rfl
          have c4 := BU.2.1 4 _ rfl
          have c5 := BU.2.1 5 _ rfl
          clear BU
          go_wp2_with fail
          refine (IT d y1 _ (unhideI HG |>.step (unhideI HW))).mono ?_
          rintro e w2 ⟨rfl, k2⟩

          have HO := hideI (own_step (unhideI HO) k2)
          have HW := hideI ((unhideI HW).trans (k2.mono hwB))
          have hwB := (unhideI HW).size
          clear k2
          have hsl := itoa_size y1
          have hct : (⟨#[114]⟩ : ByteArray) ++ ba (Lib.itoa d) = ba (rgT d) := ba_cat [114] (Lib.itoa d)
          clear c0 c1 c2 c3 c4 c5
          go_upto_region 5 with (at_builtin; (refine wpList_append_own _ rfl (.tmp 18) (.tmp 24) 74 rfl w1.heap.size 9 i0 (.string ⟨#[]⟩) 1 16 Tryd.underlying74 hi hz0 hz1 hz2 rfl (by decide) _ _ _ rfl ((unhideI HO).alloc _) ⟨_, 0, none⟩ 1 1 [.string (ba (rgT d))] rfl rfl (box1 _ _ _ _ rfl) (by intro u hu; simp at hu; subst hu; rfl) (by simp [maxLen]) (by simp) (by rw [World.size_alloc]; omega) ?_; intro v3 w3 own3 grow3 _; have b3 := hideI (below_own ((unhideI HW).alloc (by omega) _) (by rw [World.size_alloc]; omega) ((unhideI HO).alloc _) grow3); have O3 := hideI own3; clear own3 grow3))

          have HO := hideI (own_txs (l := []) (s := rgT d) (unhideI O3))
          have HW := b3
          have hwB := (unhideI HW).size
          clear O3 b3

          have BU := (unhideI HB).step (unhideI HW)
          have c0 := BU.2.1 0 _ rfl
          have c1 := BU.2.1 1 _ rfl
          have c2 := BU.2.1 2 _ rfl
          have c3 := BU.2.1 3 _ rfl
          have c4 := BU.2.1 4 _ rfl
          have c5 := BU.2.1 5 _ rfl
          clear BU
          go_wp2_with fail
          refine (IT s y2 _ (unhideI HG |>.step (unhideI HW))).mono ?_
          rintro e w2 ⟨rfl, k2⟩

          have HO := hideI (own_step (unhideI HO) k2)
          have HW := hideI ((unhideI HW).trans (k2.mono hwB))
          have hwB := (unhideI HW).size
          clear k2
          have hsl := itoa_size y2
          have hct : (⟨#[114]⟩ : ByteArray) ++ ba (Lib.itoa s) = ba (rgT s) := ba_cat [114] (Lib.itoa s)
          clear c0 c1 c2 c3 c4 c5
          go_upto_region 7 with (at_builtin; (refine wpList_append_own _ rfl (.tmp 27) (.tmp 33) 74 rfl w1.heap.size 9 i0 (.string ⟨#[]⟩) 1 16 Tryd.underlying74 hi hz0 hz1 hz2 rfl (by decide) _ _ _ rfl ((unhideI HO).alloc _) ⟨_, 0, none⟩ 1 1 [.string (ba (rgT s))] rfl rfl (box1 _ _ _ _ rfl) (by intro u hu; simp at hu; subst hu; rfl) (by simp [maxLen]) (by simp) (by rw [World.size_alloc]; omega) ?_; intro v3 w3 own3 grow3 _; have b3 := hideI (below_own ((unhideI HW).alloc (by omega) _) (by rw [World.size_alloc]; omega) ((unhideI HO).alloc _) grow3); have O3 := hideI own3; clear own3 grow3))

          have HO := hideI (own_txs (l := [rgT d]) (s := rgT s) (unhideI O3))
          have HW := b3
          have hwB := (unhideI HW).size
          clear O3 b3

          have BU := (unhideI HB).step (unhideI HW)
          have c0 := BU.2.1 0 _ rfl
          have c1 := BU.2.1 1 _ rfl
          have c2 := BU.2.1 2 _ rfl
          have c3 := BU.2.1 3 _ rfl
          have c4 := BU.2.1 4 _ rfl
          have c5 := BU.2.1 5 _ rfl
          clear BU
          clear rt
          go_wp2_with (at_builtin; (refine wpList_append_own _ rfl (.tmp 41) (.tmp 44) 74 rfl w1.heap.size 9 i0 (.string ⟨#[]⟩) 1 16 Tryd.underlying74 hi hz0 hz1 hz2 rfl (by decide) _ _ _ rfl ((unhideI HO).alloc _) ⟨_, 0, none⟩ 1 1 [.string ref] rfl rfl (box1 _ _ _ _ rfl) (by intro u hu; simp at hu; subst hu; rfl) (by simp [maxLen]) (by simp) (by rw [World.size_alloc]; omega) ?_; intro v3 w3 own3 grow3 _; have b3 := hideI (below_own ((unhideI HW).alloc (by omega) _) (by rw [World.size_alloc]; omega) ((unhideI HO).alloc _) grow3); have O3 := hideI own3; clear own3 grow3))
          have O4 := unhideI O3
          rw [← ba_toList ref] at O4
          have O3 := hideI O4
          clear O4

          have HO := hideI (own_txs (l := [rgT d, rgT s]) (s := ref.toList) (unhideI O3))
          have HW := b3
          have hwB := (unhideI HW).size
          clear O3 b3
          go_ret
          exact ⟨_, rfl, Lies.owned (unhideI HO), bt (unhideI HK) (unhideI HW)⟩
      · skip
        replace hi' : hI o = false := by simpa using hi'
        rw [if_pos hd]
        rw [if_pos hs]
        rw [if_neg (by rw [hi']; simp)]
        have y1 := x1 hd
        have y2 := x2 hs
        clear x1 x2 x3
        have IT : ∀ n : Int, (0 ≤ n ∧ n ≤ 65535) → ∀ w, Gl w → Calls Tryd.prog 44 #[.int .i64 n] w fun e w' => e = .returned (.string (ba (Lib.itoa n))) ∧ Below w.heap.size w w' := fun n h w G => itoa_any n (by omega) (by omega) w G
        go_enter Tryd.func37, Tryd.ntmps37
        go_wp2_with fail
        refine (U _).mono ?_
        rintro e w1 ⟨rfl, k1⟩
        rw [hd, hs, hi']
        have HB := hideI ((unhideI B0).step k1)
        have HK := hideI (bt (unhideI K0) k1)
        have HG := hideI ((unhideI G0).step (bt (unhideI K0) k1))
        have HW := hideI (Below.refl w1.heap.size w1)
        have HO : Hid (w1.ownsRow w1.heap.size 9 1 (.slice none 0 0) ([] : List (List UInt8)).length (txs [])) := World.ownsRow_nil _ _ _ _
        have hwB : w1.heap.size ≤ w1.heap.size := Nat.le_refl _
        clear k1 U B0 K0 G0

        have BU := (unhideI HB).step (unhideI HW)
        have c0 := BU.2.1 0 _ rfl
        have c1 := BU.2.1 1 _ rfl
        have c2 := BU.2.1 2 _ rfl
        have c3 := BU.2.1 3 _ rfl
        have c4 := BU.2.1 4 _ rfl
        have c5 := BU.2.1 5 _ rfl
        clear BU
        go_wp2_with fail
        refine (IT d y1 _ (unhideI HG |>.step (unhideI HW))).mono ?_
        rintro e w2 ⟨rfl, k2⟩

        have HO := hideI (own_step (unhideI HO) k2)
        have HW := hideI ((unhideI HW).trans (k2.mono hwB))
        have hwB := (unhideI HW).size
        clear k2
        have hsl := itoa_size y1
        have hct : (⟨#[114]⟩ : ByteArray) ++ ba (Lib.itoa d) = ba (rgT d) := ba_cat [114] (Lib.itoa d)
        clear c0 c1 c2 c3 c4 c5
        go_upto_region 5 with (at_builtin; (refine wpList_append_own _ rfl (.tmp 18) (.tmp 24) 74 rfl w1.heap.size 9 i0 (.string ⟨#[]⟩) 1 16 Tryd.underlying74 hi hz0 hz1 hz2 rfl (by decide) _ _ _ rfl ((unhideI HO).alloc _) ⟨_, 0, none⟩ 1 1 [.string (ba (rgT d))] rfl rfl (box1 _ _ _ _ rfl) (by intro u hu; simp at hu; subst hu; rfl) (by simp [maxLen]) (by simp) (by rw [World.size_alloc]; omega) ?_; intro v3 w3 own3 grow3 _; have b3 := hideI (below_own ((unhideI HW).alloc (by omega) _) (by rw [World.size_alloc]; omega) ((unhideI HO).alloc _) grow3); have O3 := hideI own3; clear own3 grow3))

        have HO := hideI (own_txs (l := []) (s := rgT d) (unhideI O3))
        have HW := b3
        have hwB := (unhideI HW).size
        clear O3 b3

        have BU := (unhideI HB).step (unhideI HW)
        have c0 := BU.2.1 0 _ rfl
        have c1 := BU.2.1 1 _ rfl
        have c2 := BU.2.1 2 _ rfl
        have c3 := BU.2.1 3 _ rfl
        have c4 := BU.2.1 4 _ rfl
        have c5 := BU.2.1 5 _ rfl
        clear BU
        go_wp2_with fail
        refine (IT s y2 _ (unhideI HG |>.step (unhideI HW))).mono ?_
        rintro e w2 ⟨rfl, k2⟩

        have HO := hideI (own_step (unhideI HO) k2)
        have HW := hideI ((unhideI HW).trans (k2.mono hwB))
        have hwB := (unhideI HW).size
        clear k2
        have hsl := itoa_size y2
        have hct : (⟨#[114]⟩ : ByteArray) ++ ba (Lib.itoa s) = ba (rgT s) := ba_cat [114] (Lib.itoa s)
        clear c0 c1 c2 c3 c4 c5
        go_upto_region 7 with (at_builtin; (refine wpList_append_own _ rfl (.tmp 27) (.tmp 33) 74 rfl w1.heap.size 9 i0 (.string ⟨#[]⟩) 1 16 Tryd.underlying74 hi hz0 hz1 hz2 rfl (by decide) _ _ _ rfl ((unhideI HO).alloc _) ⟨_, 0, none⟩ 1 1 [.string (ba (rgT s))] rfl rfl (box1 _ _ _ _ rfl) (by intro u hu; simp at hu; subst hu; rfl) (by simp [maxLen]) (by simp) (by rw [World.size_alloc]; omega) ?_; intro v3 w3 own3 grow3 _; have b3 := hideI (below_own ((unhideI HW).alloc (by omega) _) (by rw [World.size_alloc]; omega) ((unhideI HO).alloc _) grow3); have O3 := hideI own3; clear own3 grow3))

        have HO := hideI (own_txs (l := [rgT d]) (s := rgT s) (unhideI O3))
        have HW := b3
        have hwB := (unhideI HW).size
        clear O3 b3

        have BU := (unhideI HB).step (unhideI HW)
        have c0 := BU.2.1 0 _ rfl
        have c1 := BU.2.1 1 _ rfl
        have c2 := BU.2.1 2 _ rfl
        have c3 := BU.2.1 3 _ rfl
        have c4 := BU.2.1 4 _ rfl
        have c5 := BU.2.1 5 _ rfl
        clear BU
        go_wp2_with fail
        go_ret
        exact ⟨_, rfl, Lies.owned (unhideI HO), bt (unhideI HK) (unhideI HW)⟩
    · skip
      replace hs : hS o = false := by simpa using hs
      by_cases hi' : hI o = true
      · skip
        rw [if_pos hd]
        rw [if_neg (by rw [hs]; simp)]
        rw [if_pos hi']
        have y1 := x1 hd
        have y3 := x3 hi'
        clear x1 x2 x3
        have IT : ∀ n : Int, (0 ≤ n ∧ n ≤ 65535) → ∀ w, Gl w → Calls Tryd.prog 44 #[.int .i64 n] w fun e w' => e = .returned (.string (ba (Lib.itoa n))) ∧ Below w.heap.size w w' := fun n h w G => itoa_any n (by omega) (by omega) w G
        by_cases he : ref.toList.isEmpty = true
        · rw [if_pos (show emp ref = true from he)]
          go_enter Tryd.func37, Tryd.ntmps37
          go_wp2_with fail
          refine (U _).mono ?_
          rintro e w1 ⟨rfl, k1⟩
          rw [hd, hs, hi']
          have HB := hideI ((unhideI B0).step k1)
          have HK := hideI (bt (unhideI K0) k1)
          have HG := hideI ((unhideI G0).step (bt (unhideI K0) k1))
          have HW := hideI (Below.refl w1.heap.size w1)
          have HO : Hid (w1.ownsRow w1.heap.size 9 1 (.slice none 0 0) ([] : List (List UInt8)).length (txs [])) := World.ownsRow_nil _ _ _ _
          have hwB : w1.heap.size ≤ w1.heap.size := Nat.le_refl _
          clear k1 U B0 K0 G0

          have BU := (unhideI HB).step (unhideI HW)
          have c0 := BU.2.1 0 _ rfl
          have c1 := BU.2.1 1 _ rfl
          have c2 := BU.2.1 2 _ rfl
          have c3 := BU.2.1 3 _ rfl
          have c4 := BU.2.1 4 _ rfl
          have c5 := BU.2.1 5 _ rfl
          clear BU
          go_wp2_with fail
          refine (IT d y1 _ (unhideI HG |>.step (unhideI HW))).mono ?_
          rintro e w2 ⟨rfl, k2⟩

          have HO := hideI (own_step (unhideI HO) k2)
          have HW := hideI ((unhideI HW).trans (k2.mono hwB))
          have hwB := (unhideI HW).size
          clear k2
          have hsl := itoa_size y1
          have hct : (⟨#[114]⟩ : ByteArray) ++ ba (Lib.itoa d) = ba (rgT d) := ba_cat [114] (Lib.itoa d)
          clear c0 c1 c2 c3 c4 c5
          go_upto_region 5 with (at_builtin; (refine wpList_append_own _ rfl (.tmp 18) (.tmp 24) 74 rfl w1.heap.size 9 i0 (.string ⟨#[]⟩) 1 16 Tryd.underlying74 hi hz0 hz1 hz2 rfl (by decide) _ _ _ rfl ((unhideI HO).alloc _) ⟨_, 0, none⟩ 1 1 [.string (ba (rgT d))] rfl rfl (box1 _ _ _ _ rfl) (by intro u hu; simp at hu; subst hu; rfl) (by simp [maxLen]) (by simp) (by rw [World.size_alloc]; omega) ?_; intro v3 w3 own3 grow3 _; have b3 := hideI (below_own ((unhideI HW).alloc (by omega) _) (by rw [World.size_alloc]; omega) ((unhideI HO).alloc _) grow3); have O3 := hideI own3; clear own3 grow3))

          have HO := hideI (own_txs (l := []) (s := rgT d) (unhideI O3))
          have HW := b3
          have hwB := (unhideI HW).size
          clear O3 b3

          have BU := (unhideI HB).step (unhideI HW)
          have c0 := BU.2.1 0 _ rfl
          have c1 := BU.2.1 1 _ rfl
          have c2 := BU.2.1 2 _ rfl
          have c3 := BU.2.1 3 _ rfl
          have c4 := BU.2.1 4 _ rfl
          have c5 := BU.2.1 5 _ rfl
          clear BU
          go_wp2_with fail
          refine (IT m y3 _ (unhideI HG |>.step (unhideI HW))).mono ?_
          rintro e w2 ⟨rfl, k2⟩

          have HO := hideI (own_step (unhideI HO) k2)
          have HW := hideI ((unhideI HW).trans (k2.mono hwB))
          have hwB := (unhideI HW).size
          clear k2
          clear c0 c1 c2 c3 c4 c5
          go_wp2_with (at_builtin; (refine wpList_append_own _ rfl (.tmp 47) (.tmp 52) 74 rfl w1.heap.size 9 i0 (.string ⟨#[]⟩) 1 16 Tryd.underlying74 hi hz0 hz1 hz2 rfl (by decide) _ _ _ rfl ((unhideI HO).alloc _) ⟨_, 0, none⟩ 1 1 [.string (ba (Lib.itoa m))] rfl rfl (box1 _ _ _ _ rfl) (by intro u hu; simp at hu; subst hu; rfl) (by simp [maxLen]) (by simp) (by rw [World.size_alloc]; omega) ?_; intro v3 w3 own3 grow3 _; have b3 := hideI (below_own ((unhideI HW).alloc (by omega) _) (by rw [World.size_alloc]; omega) ((unhideI HO).alloc _) grow3); have O3 := hideI own3; clear own3 grow3))

          have HO := hideI (own_txs (l := [rgT d]) (s := Lib.itoa m) (unhideI O3))
          have HW := b3
          have hwB := (unhideI HW).size
          clear O3 b3
          go_ret
          exact ⟨_, rfl, Lies.owned (unhideI HO), bt (unhideI HK) (unhideI HW)⟩
        · replace he : ref.toList.isEmpty = false := by simpa using he
          rw [if_neg (show ¬ emp ref = true by unfold emp; rw [he]; simp)]
          go_enter Tryd.func37, Tryd.ntmps37
          go_wp2_with fail
          refine (U _).mono ?_
          rintro e w1 ⟨rfl, k1⟩
          rw [hd, hs, hi']
          have HB := hideI ((unhideI B0).step k1)
          have HK := hideI (bt (unhideI K0) k1)
          have HG := hideI ((unhideI G0).step (bt (unhideI K0) k1))
          have HW := hideI (Below.refl w1.heap.size w1)
          have HO : Hid (w1.ownsRow w1.heap.size 9 1 (.slice none 0 0) ([] : List (List UInt8)).length (txs [])) := World.ownsRow_nil _ _ _ _
          have hwB : w1.heap.size ≤ w1.heap.size := Nat.le_refl _
          clear k1 U B0 K0 G0

          have BU := (unhideI HB).step (unhideI HW)
          have c0 := BU.2.1 0 _ rfl
          have c1 := BU.2.1 1 _ rfl
          have c2 := BU.2.1 2 _ rfl
          have c3 := BU.2.1 3 _ rfl
          have c4 := BU.2.1 4 _ rfl
          have c5 := BU.2.1 5 _ rfl
          clear BU
          go_wp2_with fail
          refine (IT d y1 _ (unhideI HG |>.step (unhideI HW))).mono ?_
          rintro e w2 ⟨rfl, k2⟩

          have HO := hideI (own_step (unhideI HO) k2)
          have HW := hideI ((unhideI HW).trans (k2.mono hwB))
          have hwB := (unhideI HW).size
          clear k2
          have hsl := itoa_size y1
          have hct : (⟨#[114]⟩ : ByteArray) ++ ba (Lib.itoa d) = ba (rgT d) := ba_cat [114] (Lib.itoa d)
          clear c0 c1 c2 c3 c4 c5
          go_upto_region 5 with (at_builtin; (refine wpList_append_own _ rfl (.tmp 18) (.tmp 24) 74 rfl w1.heap.size 9 i0 (.string ⟨#[]⟩) 1 16 Tryd.underlying74 hi hz0 hz1 hz2 rfl (by decide) _ _ _ rfl ((unhideI HO).alloc _) ⟨_, 0, none⟩ 1 1 [.string (ba (rgT d))] rfl rfl (box1 _ _ _ _ rfl) (by intro u hu; simp at hu; subst hu; rfl) (by simp [maxLen]) (by simp) (by rw [World.size_alloc]; omega) ?_; intro v3 w3 own3 grow3 _; have b3 := hideI (below_own ((unhideI HW).alloc (by omega) _) (by rw [World.size_alloc]; omega) ((unhideI HO).alloc _) grow3); have O3 := hideI own3; clear own3 grow3))

          have HO := hideI (own_txs (l := []) (s := rgT d) (unhideI O3))
          have HW := b3
          have hwB := (unhideI HW).size
          clear O3 b3

          have BU := (unhideI HB).step (unhideI HW)
          have c0 := BU.2.1 0 _ rfl
          have c1 := BU.2.1 1 _ rfl
          have c2 := BU.2.1 2 _ rfl
          have c3 := BU.2.1 3 _ rfl
          have c4 := BU.2.1 4 _ rfl
          have c5 := BU.2.1 5 _ rfl
          clear BU
          clear rt
          go_wp2_with (at_builtin; (refine wpList_append_own _ rfl (.tmp 41) (.tmp 44) 74 rfl w1.heap.size 9 i0 (.string ⟨#[]⟩) 1 16 Tryd.underlying74 hi hz0 hz1 hz2 rfl (by decide) _ _ _ rfl ((unhideI HO).alloc _) ⟨_, 0, none⟩ 1 1 [.string ref] rfl rfl (box1 _ _ _ _ rfl) (by intro u hu; simp at hu; subst hu; rfl) (by simp [maxLen]) (by simp) (by rw [World.size_alloc]; omega) ?_; intro v3 w3 own3 grow3 _; have b3 := hideI (below_own ((unhideI HW).alloc (by omega) _) (by rw [World.size_alloc]; omega) ((unhideI HO).alloc _) grow3); have O3 := hideI own3; clear own3 grow3))
          have O4 := unhideI O3
          rw [← ba_toList ref] at O4
          have O3 := hideI O4
          clear O4

          have HO := hideI (own_txs (l := [rgT d]) (s := ref.toList) (unhideI O3))
          have HW := b3
          have hwB := (unhideI HW).size
          clear O3 b3
          go_ret
          exact ⟨_, rfl, Lies.owned (unhideI HO), bt (unhideI HK) (unhideI HW)⟩
      · skip
        replace hi' : hI o = false := by simpa using hi'
        rw [if_pos hd]
        rw [if_neg (by rw [hs]; simp)]
        rw [if_neg (by rw [hi']; simp)]
        have y1 := x1 hd
        clear x1 x2 x3
        have IT : ∀ n : Int, (0 ≤ n ∧ n ≤ 65535) → ∀ w, Gl w → Calls Tryd.prog 44 #[.int .i64 n] w fun e w' => e = .returned (.string (ba (Lib.itoa n))) ∧ Below w.heap.size w w' := fun n h w G => itoa_any n (by omega) (by omega) w G
        go_enter Tryd.func37, Tryd.ntmps37
        go_wp2_with fail
        refine (U _).mono ?_
        rintro e w1 ⟨rfl, k1⟩
        rw [hd, hs, hi']
        have HB := hideI ((unhideI B0).step k1)
        have HK := hideI (bt (unhideI K0) k1)
        have HG := hideI ((unhideI G0).step (bt (unhideI K0) k1))
        have HW := hideI (Below.refl w1.heap.size w1)
        have HO : Hid (w1.ownsRow w1.heap.size 9 1 (.slice none 0 0) ([] : List (List UInt8)).length (txs [])) := World.ownsRow_nil _ _ _ _
        have hwB : w1.heap.size ≤ w1.heap.size := Nat.le_refl _
        clear k1 U B0 K0 G0

        have BU := (unhideI HB).step (unhideI HW)
        have c0 := BU.2.1 0 _ rfl
        have c1 := BU.2.1 1 _ rfl
        have c2 := BU.2.1 2 _ rfl
        have c3 := BU.2.1 3 _ rfl
        have c4 := BU.2.1 4 _ rfl
        have c5 := BU.2.1 5 _ rfl
        clear BU
        go_wp2_with fail
        refine (IT d y1 _ (unhideI HG |>.step (unhideI HW))).mono ?_
        rintro e w2 ⟨rfl, k2⟩

        have HO := hideI (own_step (unhideI HO) k2)
        have HW := hideI ((unhideI HW).trans (k2.mono hwB))
        have hwB := (unhideI HW).size
        clear k2
        have hsl := itoa_size y1
        have hct : (⟨#[114]⟩ : ByteArray) ++ ba (Lib.itoa d) = ba (rgT d) := ba_cat [114] (Lib.itoa d)
        clear c0 c1 c2 c3 c4 c5
        go_upto_region 5 with (at_builtin; (refine wpList_append_own _ rfl (.tmp 18) (.tmp 24) 74 rfl w1.heap.size 9 i0 (.string ⟨#[]⟩) 1 16 Tryd.underlying74 hi hz0 hz1 hz2 rfl (by decide) _ _ _ rfl ((unhideI HO).alloc _) ⟨_, 0, none⟩ 1 1 [.string (ba (rgT d))] rfl rfl (box1 _ _ _ _ rfl) (by intro u hu; simp at hu; subst hu; rfl) (by simp [maxLen]) (by simp) (by rw [World.size_alloc]; omega) ?_; intro v3 w3 own3 grow3 _; have b3 := hideI (below_own ((unhideI HW).alloc (by omega) _) (by rw [World.size_alloc]; omega) ((unhideI HO).alloc _) grow3); have O3 := hideI own3; clear own3 grow3))

        have HO := hideI (own_txs (l := []) (s := rgT d) (unhideI O3))
        have HW := b3
        have hwB := (unhideI HW).size
        clear O3 b3

        have BU := (unhideI HB).step (unhideI HW)
        have c0 := BU.2.1 0 _ rfl
        have c1 := BU.2.1 1 _ rfl
        have c2 := BU.2.1 2 _ rfl
        have c3 := BU.2.1 3 _ rfl
        have c4 := BU.2.1 4 _ rfl
        have c5 := BU.2.1 5 _ rfl
        clear BU
        go_wp2_with fail
        go_ret
        exact ⟨_, rfl, Lies.owned (unhideI HO), bt (unhideI HK) (unhideI HW)⟩
  · skip
    replace hd : hD o = false := by simpa using hd
    by_cases hs : hS o = true
    · skip
      by_cases hi' : hI o = true
      · skip
        rw [if_neg (by rw [hd]; simp)]
        rw [if_pos hs]
        rw [if_pos hi']
        have y2 := x2 hs
        have y3 := x3 hi'
        clear x1 x2 x3
        have IT : ∀ n : Int, (0 ≤ n ∧ n ≤ 65535) → ∀ w, Gl w → Calls Tryd.prog 44 #[.int .i64 n] w fun e w' => e = .returned (.string (ba (Lib.itoa n))) ∧ Below w.heap.size w w' := fun n h w G => itoa_any n (by omega) (by omega) w G
        by_cases he : ref.toList.isEmpty = true
        · rw [if_pos (show emp ref = true from he)]
          go_enter Tryd.func37, Tryd.ntmps37
          go_wp2_with fail
          refine (U _).mono ?_
          rintro e w1 ⟨rfl, k1⟩
          rw [hd, hs, hi']
          have HB := hideI ((unhideI B0).step k1)
          have HK := hideI (bt (unhideI K0) k1)
          have HG := hideI ((unhideI G0).step (bt (unhideI K0) k1))
          have HW := hideI (Below.refl w1.heap.size w1)
          have HO : Hid (w1.ownsRow w1.heap.size 9 1 (.slice none 0 0) ([] : List (List UInt8)).length (txs [])) := World.ownsRow_nil _ _ _ _
          have hwB : w1.heap.size ≤ w1.heap.size := Nat.le_refl _
          clear k1 U B0 K0 G0

          have BU := (unhideI HB).step (unhideI HW)
          have c0 := BU.2.1 0 _ rfl
          have c1 := BU.2.1 1 _ rfl
          have c2 := BU.2.1 2 _ rfl
          have c3 := BU.2.1 3 _ rfl
          have c4 := BU.2.1 4 _ rfl
          have c5 := BU.2.1 5 _ rfl
          clear BU
          go_wp2_with fail
          refine (IT s y2 _ (unhideI HG |>.step (unhideI HW))).mono ?_
          rintro e w2 ⟨rfl, k2⟩

          have HO := hideI (own_step (unhideI HO) k2)
          have HW := hideI ((unhideI HW).trans (k2.mono hwB))
          have hwB := (unhideI HW).size
          clear k2
          have hsl := itoa_size y2
          have hct : (⟨#[114]⟩ : ByteArray) ++ ba (Lib.itoa s) = ba (rgT s) := ba_cat [114] (Lib.itoa s)
          clear c0 c1 c2 c3 c4 c5
          go_upto_region 7 with (at_builtin; (refine wpList_append_own _ rfl (.tmp 27) (.tmp 33) 74 rfl w1.heap.size 9 i0 (.string ⟨#[]⟩) 1 16 Tryd.underlying74 hi hz0 hz1 hz2 rfl (by decide) _ _ _ rfl ((unhideI HO).alloc _) ⟨_, 0, none⟩ 1 1 [.string (ba (rgT s))] rfl rfl (box1 _ _ _ _ rfl) (by intro u hu; simp at hu; subst hu; rfl) (by simp [maxLen]) (by simp) (by rw [World.size_alloc]; omega) ?_; intro v3 w3 own3 grow3 _; have b3 := hideI (below_own ((unhideI HW).alloc (by omega) _) (by rw [World.size_alloc]; omega) ((unhideI HO).alloc _) grow3); have O3 := hideI own3; clear own3 grow3))

          have HO := hideI (own_txs (l := []) (s := rgT s) (unhideI O3))
          have HW := b3
          have hwB := (unhideI HW).size
          clear O3 b3

          have BU := (unhideI HB).step (unhideI HW)
          have c0 := BU.2.1 0 _ rfl
          have c1 := BU.2.1 1 _ rfl
          have c2 := BU.2.1 2 _ rfl
          have c3 := BU.2.1 3 _ rfl
          have c4 := BU.2.1 4 _ rfl
          have c5 := BU.2.1 5 _ rfl
          clear BU
          go_wp2_with fail
          refine (IT m y3 _ (unhideI HG |>.step (unhideI HW))).mono ?_
          rintro e w2 ⟨rfl, k2⟩

          have HO := hideI (own_step (unhideI HO) k2)
          have HW := hideI ((unhideI HW).trans (k2.mono hwB))
          have hwB := (unhideI HW).size
          clear k2
          clear c0 c1 c2 c3 c4 c5
          go_wp2_with (at_builtin; (refine wpList_append_own _ rfl (.tmp 47) (.tmp 52) 74 rfl w1.heap.size 9 i0 (.string ⟨#[]⟩) 1 16 Tryd.underlying74 hi hz0 hz1 hz2 rfl (by decide) _ _ _ rfl ((unhideI HO).alloc _) ⟨_, 0, none⟩ 1 1 [.string (ba (Lib.itoa m))] rfl rfl (box1 _ _ _ _ rfl) (by intro u hu; simp at hu; subst hu; rfl) (by simp [maxLen]) (by simp) (by rw [World.size_alloc]; omega) ?_; intro v3 w3 own3 grow3 _; have b3 := hideI (below_own ((unhideI HW).alloc (by omega) _) (by rw [World.size_alloc]; omega) ((unhideI HO).alloc _) grow3); have O3 := hideI own3; clear own3 grow3))

          have HO := hideI (own_txs (l := [rgT s]) (s := Lib.itoa m) (unhideI O3))
          have HW := b3
          have hwB := (unhideI HW).size
          clear O3 b3
          go_ret
          exact ⟨_, rfl, Lies.owned (unhideI HO), bt (unhideI HK) (unhideI HW)⟩
        · replace he : ref.toList.isEmpty = false := by simpa using he
          rw [if_neg (show ¬ emp ref = true by unfold emp; rw [he]; simp)]
          go_enter Tryd.func37, Tryd.ntmps37
          go_wp2_with fail
          refine (U _).mono ?_
          rintro e w1 ⟨rfl, k1⟩
          rw [hd, hs, hi']
          have HB := hideI ((unhideI B0).step k1)
          have HK := hideI (bt (unhideI K0) k1)
          have HG := hideI ((unhideI G0).step (bt (unhideI K0) k1))
          have HW := hideI (Below.refl w1.heap.size w1)
          have HO : Hid (w1.ownsRow w1.heap.size 9 1 (.slice none 0 0) ([] : List (List UInt8)).length (txs [])) := World.ownsRow_nil _ _ _ _
          have hwB : w1.heap.size ≤ w1.heap.size := Nat.le_refl _
          clear k1 U B0 K0 G0

          have BU := (unhideI HB).step (unhideI HW)
          have c0 := BU.2.1 0 _ rfl
          have c1 := BU.2.1 1 _ rfl
          have c2 := BU.2.1 2 _ rfl
          have c3 := BU.2.1 3 _ rfl
          have c4 := BU.2.1 4 _ rfl
          have c5 := BU.2.1 5 _ rfl
          clear BU
          go_wp2_with fail
          refine (IT s y2 _ (unhideI HG |>.step (unhideI HW))).mono ?_
          rintro e w2 ⟨rfl, k2⟩

          have HO := hideI (own_step (unhideI HO) k2)
          have HW := hideI ((unhideI HW).trans (k2.mono hwB))
          have hwB := (unhideI HW).size
          clear k2
          have hsl := itoa_size y2
          have hct : (⟨#[114]⟩ : ByteArray) ++ ba (Lib.itoa s) = ba (rgT s) := ba_cat [114] (Lib.itoa s)
          clear c0 c1 c2 c3 c4 c5
          go_upto_region 7 with (at_builtin; (refine wpList_append_own _ rfl (.tmp 27) (.tmp 33) 74 rfl w1.heap.size 9 i0 (.string ⟨#[]⟩) 1 16 Tryd.underlying74 hi hz0 hz1 hz2 rfl (by decide) _ _ _ rfl ((unhideI HO).alloc _) ⟨_, 0, none⟩ 1 1 [.string (ba (rgT s))] rfl rfl (box1 _ _ _ _ rfl) (by intro u hu; simp at hu; subst hu; rfl) (by simp [maxLen]) (by simp) (by rw [World.size_alloc]; omega) ?_; intro v3 w3 own3 grow3 _; have b3 := hideI (below_own ((unhideI HW).alloc (by omega) _) (by rw [World.size_alloc]; omega) ((unhideI HO).alloc _) grow3); have O3 := hideI own3; clear own3 grow3))

          have HO := hideI (own_txs (l := []) (s := rgT s) (unhideI O3))
          have HW := b3
          have hwB := (unhideI HW).size
          clear O3 b3

          have BU := (unhideI HB).step (unhideI HW)
          have c0 := BU.2.1 0 _ rfl
          have c1 := BU.2.1 1 _ rfl
          have c2 := BU.2.1 2 _ rfl
          have c3 := BU.2.1 3 _ rfl
          have c4 := BU.2.1 4 _ rfl
          have c5 := BU.2.1 5 _ rfl
          clear BU
          clear rt
          go_wp2_with (at_builtin; (refine wpList_append_own _ rfl (.tmp 41) (.tmp 44) 74 rfl w1.heap.size 9 i0 (.string ⟨#[]⟩) 1 16 Tryd.underlying74 hi hz0 hz1 hz2 rfl (by decide) _ _ _ rfl ((unhideI HO).alloc _) ⟨_, 0, none⟩ 1 1 [.string ref] rfl rfl (box1 _ _ _ _ rfl) (by intro u hu; simp at hu; subst hu; rfl) (by simp [maxLen]) (by simp) (by rw [World.size_alloc]; omega) ?_; intro v3 w3 own3 grow3 _; have b3 := hideI (below_own ((unhideI HW).alloc (by omega) _) (by rw [World.size_alloc]; omega) ((unhideI HO).alloc _) grow3); have O3 := hideI own3; clear own3 grow3))
          have O4 := unhideI O3
          rw [← ba_toList ref] at O4
          have O3 := hideI O4
          clear O4

          have HO := hideI (own_txs (l := [rgT s]) (s := ref.toList) (unhideI O3))
          have HW := b3
          have hwB := (unhideI HW).size
          clear O3 b3
          go_ret
          exact ⟨_, rfl, Lies.owned (unhideI HO), bt (unhideI HK) (unhideI HW)⟩
      · skip
        replace hi' : hI o = false := by simpa using hi'
        rw [if_neg (by rw [hd]; simp)]
        rw [if_pos hs]
        rw [if_neg (by rw [hi']; simp)]
        have y2 := x2 hs
        clear x1 x2 x3
        have IT : ∀ n : Int, (0 ≤ n ∧ n ≤ 65535) → ∀ w, Gl w → Calls Tryd.prog 44 #[.int .i64 n] w fun e w' => e = .returned (.string (ba (Lib.itoa n))) ∧ Below w.heap.size w w' := fun n h w G => itoa_any n (by omega) (by omega) w G
        go_enter Tryd.func37, Tryd.ntmps37
        go_wp2_with fail
        refine (U _).mono ?_
        rintro e w1 ⟨rfl, k1⟩
        rw [hd, hs, hi']
        have HB := hideI ((unhideI B0).step k1)
        have HK := hideI (bt (unhideI K0) k1)
        have HG := hideI ((unhideI G0).step (bt (unhideI K0) k1))
        have HW := hideI (Below.refl w1.heap.size w1)
        have HO : Hid (w1.ownsRow w1.heap.size 9 1 (.slice none 0 0) ([] : List (List UInt8)).length (txs [])) := World.ownsRow_nil _ _ _ _
        have hwB : w1.heap.size ≤ w1.heap.size := Nat.le_refl _
        clear k1 U B0 K0 G0

        have BU := (unhideI HB).step (unhideI HW)
        have c0 := BU.2.1 0 _ rfl
        have c1 := BU.2.1 1 _ rfl
        have c2 := BU.2.1 2 _ rfl
        have c3 := BU.2.1 3 _ rfl
        have c4 := BU.2.1 4 _ rfl
        have c5 := BU.2.1 5 _ rfl
        clear BU
        go_wp2_with fail
        refine (IT s y2 _ (unhideI HG |>.step (unhideI HW))).mono ?_
        rintro e w2 ⟨rfl, k2⟩

        have HO := hideI (own_step (unhideI HO) k2)
        have HW := hideI ((unhideI HW).trans (k2.mono hwB))
        have hwB := (unhideI HW).size
        clear k2
        have hsl := itoa_size y2
        have hct : (⟨#[114]⟩ : ByteArray) ++ ba (Lib.itoa s) = ba (rgT s) := ba_cat [114] (Lib.itoa s)
        clear c0 c1 c2 c3 c4 c5
        go_upto_region 7 with (at_builtin; (refine wpList_append_own _ rfl (.tmp 27) (.tmp 33) 74 rfl w1.heap.size 9 i0 (.string ⟨#[]⟩) 1 16 Tryd.underlying74 hi hz0 hz1 hz2 rfl (by decide) _ _ _ rfl ((unhideI HO).alloc _) ⟨_, 0, none⟩ 1 1 [.string (ba (rgT s))] rfl rfl (box1 _ _ _ _ rfl) (by intro u hu; simp at hu; subst hu; rfl) (by simp [maxLen]) (by simp) (by rw [World.size_alloc]; omega) ?_; intro v3 w3 own3 grow3 _; have b3 := hideI (below_own ((unhideI HW).alloc (by omega) _) (by rw [World.size_alloc]; omega) ((unhideI HO).alloc _) grow3); have O3 := hideI own3; clear own3 grow3))

        have HO := hideI (own_txs (l := []) (s := rgT s) (unhideI O3))
        have HW := b3
        have hwB := (unhideI HW).size
        clear O3 b3

        have BU := (unhideI HB).step (unhideI HW)
        have c0 := BU.2.1 0 _ rfl
        have c1 := BU.2.1 1 _ rfl
        have c2 := BU.2.1 2 _ rfl
        have c3 := BU.2.1 3 _ rfl
        have c4 := BU.2.1 4 _ rfl
        have c5 := BU.2.1 5 _ rfl
        clear BU
        go_wp2_with fail
        go_ret
        exact ⟨_, rfl, Lies.owned (unhideI HO), bt (unhideI HK) (unhideI HW)⟩
    · skip
      replace hs : hS o = false := by simpa using hs
      by_cases hi' : hI o = true
      · skip
        rw [if_neg (by rw [hd]; simp)]
        rw [if_neg (by rw [hs]; simp)]
        rw [if_pos hi']
        have y3 := x3 hi'
        clear x1 x2 x3
        have IT : ∀ n : Int, (0 ≤ n ∧ n ≤ 65535) → ∀ w, Gl w → Calls Tryd.prog 44 #[.int .i64 n] w fun e w' => e = .returned (.string (ba (Lib.itoa n))) ∧ Below w.heap.size w w' := fun n h w G => itoa_any n (by omega) (by omega) w G
        by_cases he : ref.toList.isEmpty = true
        · rw [if_pos (show emp ref = true from he)]
          go_enter Tryd.func37, Tryd.ntmps37
          go_wp2_with fail
          refine (U _).mono ?_
          rintro e w1 ⟨rfl, k1⟩
          rw [hd, hs, hi']
          have HB := hideI ((unhideI B0).step k1)
          have HK := hideI (bt (unhideI K0) k1)
          have HG := hideI ((unhideI G0).step (bt (unhideI K0) k1))
          have HW := hideI (Below.refl w1.heap.size w1)
          have HO : Hid (w1.ownsRow w1.heap.size 9 1 (.slice none 0 0) ([] : List (List UInt8)).length (txs [])) := World.ownsRow_nil _ _ _ _
          have hwB : w1.heap.size ≤ w1.heap.size := Nat.le_refl _
          clear k1 U B0 K0 G0

          have BU := (unhideI HB).step (unhideI HW)
          have c0 := BU.2.1 0 _ rfl
          have c1 := BU.2.1 1 _ rfl
          have c2 := BU.2.1 2 _ rfl
          have c3 := BU.2.1 3 _ rfl
          have c4 := BU.2.1 4 _ rfl
          have c5 := BU.2.1 5 _ rfl
          clear BU
          go_wp2_with fail
          refine (IT m y3 _ (unhideI HG |>.step (unhideI HW))).mono ?_
          rintro e w2 ⟨rfl, k2⟩

          have HO := hideI (own_step (unhideI HO) k2)
          have HW := hideI ((unhideI HW).trans (k2.mono hwB))
          have hwB := (unhideI HW).size
          clear k2
          clear c0 c1 c2 c3 c4 c5
          go_wp2_with (at_builtin; (refine wpList_append_own _ rfl (.tmp 47) (.tmp 52) 74 rfl w1.heap.size 9 i0 (.string ⟨#[]⟩) 1 16 Tryd.underlying74 hi hz0 hz1 hz2 rfl (by decide) _ _ _ rfl ((unhideI HO).alloc _) ⟨_, 0, none⟩ 1 1 [.string (ba (Lib.itoa m))] rfl rfl (box1 _ _ _ _ rfl) (by intro u hu; simp at hu; subst hu; rfl) (by simp [maxLen]) (by simp) (by rw [World.size_alloc]; omega) ?_; intro v3 w3 own3 grow3 _; have b3 := hideI (below_own ((unhideI HW).alloc (by omega) _) (by rw [World.size_alloc]; omega) ((unhideI HO).alloc _) grow3); have O3 := hideI own3; clear own3 grow3))

          have HO := hideI (own_txs (l := []) (s := Lib.itoa m) (unhideI O3))
          have HW := b3
          have hwB := (unhideI HW).size
          clear O3 b3
          go_ret
          exact ⟨_, rfl, Lies.owned (unhideI HO), bt (unhideI HK) (unhideI HW)⟩
        · replace he : ref.toList.isEmpty = false := by simpa using he
          rw [if_neg (show ¬ emp ref = true by unfold emp; rw [he]; simp)]
          go_enter Tryd.func37, Tryd.ntmps37
          go_wp2_with fail
          refine (U _).mono ?_
          rintro e w1 ⟨rfl, k1⟩
          rw [hd, hs, hi']
          have HB := hideI ((unhideI B0).step k1)
          have HK := hideI (bt (unhideI K0) k1)
          have HG := hideI ((unhideI G0).step (bt (unhideI K0) k1))
          have HW := hideI (Below.refl w1.heap.size w1)
          have HO : Hid (w1.ownsRow w1.heap.size 9 1 (.slice none 0 0) ([] : List (List UInt8)).length (txs [])) := World.ownsRow_nil _ _ _ _
          have hwB : w1.heap.size ≤ w1.heap.size := Nat.le_refl _
          clear k1 U B0 K0 G0

          have BU := (unhideI HB).step (unhideI HW)
          have c0 := BU.2.1 0 _ rfl
          have c1 := BU.2.1 1 _ rfl
          have c2 := BU.2.1 2 _ rfl
          have c3 := BU.2.1 3 _ rfl
          have c4 := BU.2.1 4 _ rfl
          have c5 := BU.2.1 5 _ rfl
          clear BU
          clear rt
          go_wp2_with (at_builtin; (refine wpList_append_own _ rfl (.tmp 41) (.tmp 44) 74 rfl w1.heap.size 9 i0 (.string ⟨#[]⟩) 1 16 Tryd.underlying74 hi hz0 hz1 hz2 rfl (by decide) _ _ _ rfl ((unhideI HO).alloc _) ⟨_, 0, none⟩ 1 1 [.string ref] rfl rfl (box1 _ _ _ _ rfl) (by intro u hu; simp at hu; subst hu; rfl) (by simp [maxLen]) (by simp) (by rw [World.size_alloc]; omega) ?_; intro v3 w3 own3 grow3 _; have b3 := hideI (below_own ((unhideI HW).alloc (by omega) _) (by rw [World.size_alloc]; omega) ((unhideI HO).alloc _) grow3); have O3 := hideI own3; clear own3 grow3))
          have O4 := unhideI O3
          rw [← ba_toList ref] at O4
          have O3 := hideI O4
          clear O4

          have HO := hideI (own_txs (l := []) (s := ref.toList) (unhideI O3))
          have HW := b3
          have hwB := (unhideI HW).size
          clear O3 b3
          go_ret
          exact ⟨_, rfl, Lies.owned (unhideI HO), bt (unhideI HK) (unhideI HW)⟩
      · skip
        replace hi' : hI o = false := by simpa using hi'
        rw [if_neg (by rw [hd]; simp)]
        rw [if_neg (by rw [hs]; simp)]
        rw [if_neg (by rw [hi']; simp)]
        clear x1 x2 x3
        have IT : ∀ n : Int, (0 ≤ n ∧ n ≤ 65535) → ∀ w, Gl w → Calls Tryd.prog 44 #[.int .i64 n] w fun e w' => e = .returned (.string (ba (Lib.itoa n))) ∧ Below w.heap.size w w' := fun n h w G => itoa_any n (by omega) (by omega) w G
        go_enter Tryd.func37, Tryd.ntmps37
        go_wp2_with fail
        refine (U _).mono ?_
        rintro e w1 ⟨rfl, k1⟩
        rw [hd, hs, hi']
        have HB := hideI ((unhideI B0).step k1)
        have HK := hideI (bt (unhideI K0) k1)
        have HG := hideI ((unhideI G0).step (bt (unhideI K0) k1))
        have HW := hideI (Below.refl w1.heap.size w1)
        have HO : Hid (w1.ownsRow w1.heap.size 9 1 (.slice none 0 0) ([] : List (List UInt8)).length (txs [])) := World.ownsRow_nil _ _ _ _
        have hwB : w1.heap.size ≤ w1.heap.size := Nat.le_refl _
        clear k1 U B0 K0 G0

        have BU := (unhideI HB).step (unhideI HW)
        have c0 := BU.2.1 0 _ rfl
        have c1 := BU.2.1 1 _ rfl
        have c2 := BU.2.1 2 _ rfl
        have c3 := BU.2.1 3 _ rfl
        have c4 := BU.2.1 4 _ rfl
        have c5 := BU.2.1 5 _ rfl
        clear BU
        go_wp2_with fail
        go_ret
        exact ⟨_, rfl, Lies.owned (unhideI HO), bt (unhideI HK) (unhideI HW)⟩
end Go.Proofs.YtoopgkbefhoeiaaDoor
