/-
  instr.Decode, by its loop.
-/
import Derived.Test.YtoopgkbefhoeiaaGreatDoorInsO
import Derived.Test.YtoopgkbefhoeiaaGreatDoorFour
namespace Go.Proofs.YtoopgkbefhoeiaaGreatDoor
open Go.RowKit
set_option linter.unusedSimpArgs false
set_option linter.unusedVariables false

/-- A place at which none begins; or one, and the place behind it. -/
theorem oneA_cases (xs : List Int) (p : Nat) (g : Nat) (acc : List Ins) (h : p < xs.length) (hg : xs.length ≤ p + g) :
    (oneA xs p = (zeroI, 0) ∧ dec g (xs.drop p) p acc = ([], 2, p)) ∨
    ∃ (i : Ins) (n g' : Nat), oneA xs p = (i, (n : Int)) ∧ (n = 1 ∨ n = 2) ∧ p + n ≤ xs.length ∧ g = g' + 1 ∧ xs.length ≤ (p + n) + g' ∧ dec g (xs.drop p) p acc = dec g' (xs.drop (p + n)) (p + n) (acc ++ [i]) := by
  obtain ⟨g', rfl⟩ : ∃ g', g = g' + 1 := ⟨g - 1, by omega⟩
  have e := drop_at xs p h
  have o := oneA_at p h
  rcases one_cases (xs.drop p) with h0 | ⟨i, r, h1, h2, _, _⟩
  · rw [e] at h0
    refine .inl ⟨by rw [o, h0], ?_⟩
    rw [e, dec_bad (by rw [h0])]
  · have hl := ws_len2 i
    have hn := lng_nat i
    have hp := lng_in i.o
    have hlen : (ws i).length ≤ xs.length - p := by
      have := congrArg List.length h2
      simp at this; omega
    rw [e] at h1
    refine .inr ⟨i, (ws i).length, g', ?_, by omega, by omega, rfl, by omega, ?_⟩
    · rw [o, h1]
      exact Prod.ext rfl (by show lng i.o = _; omega)
    · rw [e, dec_next (by rw [h1]; exact lng_ne _), h1]
      dsimp only
      rw [hn, ← e, List.drop_drop]

set_option maxRecDepth 100000 in
set_option maxHeartbeats 2000000 in
theorem decode_any (xs : List Int) (v : Value) (w : World) (hv : Ints w v xs) :
    Calls Tryz.prog 13 #[v] w fun e w' => ∃ v', e = .returned (.tuple #[v', .agg #[.int .i64 (decA xs).2.1, .int .i64 (decA xs).2.2]]) ∧ Inss w' v' (decA xs).1 ∧ (∀ k, v'.ownBlock = some k → w.heap.size ≤ k) ∧ Below w.heap.size w w' := by
  obtain ⟨i0, hi, hz0, hz1, hz2⟩ := info_parts Tryz.infoInstr
  have HV := hideI hv
  obtain ⟨ao, cap, rfl, hmax, _⟩ := hv.at
  clear hv
  unfold maxLen at hmax
  by_cases hmuch : xs.length ≤ 65536
  · generalize hR : decA xs = R
    have HR : Hid (R = dec xs.length (xs.drop 0) 0 []) := by show R = _; rw [← hR]; unfold decA; rw [if_pos hmuch]; rfl
    clear hR
    go_enter Tryz.func13, Tryz.ntmps13
    go_wp2_with fail
    go_loopg [4, 5] xs.length (fun g v i wr => ∃ (p : Nat) (acc : List Ins), p ≤ xs.length ∧ xs.length ≤ p + g ∧ i = .int .i64 p ∧ acc.length ≤ p ∧ wr.ownsRow (w.heap.size + 1) 34 4 v acc.length (acc.flatMap cells4) ∧ Below (w.heap.size + 1) (w.alloc (.cells #[.int .i64 0, .int .i64 0] 25)) wr ∧ R = dec g (xs.drop p) p acc)
    case atStart => exact ⟨0, [], Nat.zero_le _, by omega, rfl, by simp, World.ownsRow_nil _ _ _ _, Below.refl _ _, unhideI HR⟩
    case round =>
      obtain ⟨p, acc, hp, hg, rfl, ha, hown, hb, he⟩ := hrel
      have HE := hideI he
      have HO := hideI hown
      have HB := hideI hb
      obtain ⟨f0, f1, f2, f3, f4⟩ := fault0 hb
      clear he hown hb
      by_cases hlt : p < xs.length
      · have IV := hideI ((unhideI HV).step (seen (unhideI HB)))
        rcases oneA_cases xs p gk acc hlt hg with ⟨h1, h2⟩ | ⟨i, n, g', h1, h2, h3, rfl, h5, h6⟩
        · have OA := iOne_any xs _ p wr (unhideI IV)
          rw [h1] at OA
          unfold agg zeroI at OA
          dsimp only at OA
          have H2 := hideI h2
          clear h1 h2
          go_wp2_with (go_at_call 31; refine OA.mono ?_; rintro e w1 ⟨rfl, k1⟩; obtain ⟨y0, y1, y2, y3, y4⟩ := fault0 ((unhideI HB).trans (k1.mono (by omega))))
          obtain rfl : R = ([], 2, p) := by rw [unhideI HE, unhideI H2]
          exact bodyPost_ret (v := .tuple #[.slice none 0 0, .agg #[.int .i64 2, .int .i64 p]]) (by simp [results, Tryz.results13, go_sem, y0, y1, y2, y3, y4]) rfl ⟨_, rfl, Lies.nil _ _, (fun _ h => by cases h), (by repeat (first | exact bt (seen (unhideI HB)) k1 | refine Below.setCell ?_ (by first | exact Nat.le_refl _ | (simp; done) | omega | (simp; omega)) _ | refine Below.alloc ?_ (by first | (simp; done) | omega | (simp; omega)) _))⟩
        · have OA := iOne_any xs _ p wr (unhideI IV)
          rw [h1] at OA
          unfold agg at OA
          dsimp only at OA
          have H6 := hideI h6
          have hn0 : ((n : Int) == 0) = false := by simp; omega
          clear h1 h6
          go_wp2_with (first | (go_at_call 31; refine OA.mono ?_; rintro e w1 ⟨rfl, k1⟩; have l1 : w.heap.size < w1.heap.size := (Nat.lt_of_lt_of_le f4 k1.size)) | (at_builtin; refine wpList_append_own _ rfl (.tmp 26) (.tmp 28) 42 rfl (w.heap.size + 1) 34 i0 (.agg #[.int .i64 0, .int .i64 0, .int .i64 0, .int .i64 0]) 4 32 Tryz.underlying42 hi hz0 hz1 hz2 rfl (by decide) _ _ _ rfl (((own_step (unhideI HO) k1).alloc _).alloc _) ⟨_, 0, none⟩ 1 1 (cells4 i) rfl rfl (four_c1 _ i _ _ (by simp)) (four_c2 i) (by unfold maxLen; omega) (by omega) (by simp; omega) ?_; intro v3 w3 own3 grow3 _; have b3 := hideI (below_own ((((unhideI HB).trans (k1.mono (by omega))).alloc (by omega) _).alloc (by simp; omega) _) (by simp; omega) (((own_step (unhideI HO) k1).alloc _).alloc _) grow3); have O3 := hideI own3; clear own3 grow3))
          go_roundg g'
          case measure => omega
          case rel => exact ⟨p + n, acc ++ [i], h3, h5, by go_num, by simp; omega, own_snoc (unhideI O3) (by simp) rfl, unhideI b3, by rw [unhideI HE, unhideI H6]⟩
      · have hkl : p = xs.length := by omega
        go_wp2
        obtain rfl : R = (acc, 0, 0) := by rw [unhideI HE, hkl, List.drop_length, dec_nil]
        refine bodyPost_ret (v := .tuple #[u4, .agg #[.int .i64 0, .int .i64 0]]) (by simp [results, Tryz.results13, go_sem, f0, f1, f2, f3, f4]) rfl ⟨_, rfl, ?_, (fun c h => Nat.le_of_succ_le ((unhideI HO).lt c h).1), (by repeat (first | exact seen (unhideI HB) | refine Below.setCell ?_ (by first | exact Nat.le_refl _ | (simp; done) | omega | (simp; omega)) _ | refine Below.alloc ?_ (by first | (simp; done) | omega | (simp; omega)) _))⟩
        exact Lies.owned (ownsRow_setCell_below (ownsRow_setCell_below (unhideI HO) (by simp) _) (by simp) _)
  · have hR : decA xs = ([], 4, 0) := by unfold decA; rw [if_neg hmuch]
    rw [hR]
    go_enter Tryz.func13, Tryz.ntmps13
    go_wp2
    exact bodyPost_ret (v := .tuple #[.slice none 0 0, .agg #[.int .i64 4, .int .i64 0]]) (by simp [results, Tryz.results13, go_sem]) rfl ⟨_, rfl, Lies.nil _ _, (fun _ h => by cases h), (by repeat (first | exact below_a _ _ | refine Below.setCell ?_ (by first | exact Nat.le_refl _ | (simp; done) | omega | (simp; omega)) _ | refine Below.alloc ?_ (by first | (simp; done) | omega | (simp; omega)) _))⟩
end Go.Proofs.YtoopgkbefhoeiaaGreatDoor
