/-
  The document's answer on lines: Long and Where; and what they have to do with places.
-/
import Derived.Test.YteoifpkbknkpjaaAsP
import Derived.Test.YteoifpkbknkpjaaRefG
namespace Go.Proofs.Yteoifpkbknkpjaa
open Go.RowKit Go.Maps
set_option linter.unusedSimpArgs false
set_option linter.unusedVariables false

/-- How many words lines are. -/
def wl : List Ln → Int
  | [] => 0
  | x :: l => (if emp x.lab = true then lng x.i.o else 0) + wl l
theorem wl_append : ∀ (a b : List Ln), wl (a ++ b) = wl a + wl b
  | [], b => by simp [wl]
  | x :: a, b => by rw [List.cons_append, wl, wl, wl_append a b]; omega
theorem wl_take (l : List Ln) (k : Nat) (h : k < l.length) : wl (l.take (k + 1)) = wl (l.take k) + (if emp (l[k]'h).lab = true then lng (l[k]'h).i.o else 0) := by
  rw [List.take_add_one, List.getElem?_eq_getElem h, Option.toList_some, wl_append]; simp [wl]
theorem plc_words : ∀ (l : List Ln) (k : Nat) (A : Nmd) (n : Int), (plc l k A n).2.2.1 = 0 → (plc l k A n).2.1 = n + wl l ∧ (∀ j, hasA A j = true → hasA (plc l k A n).1 j = true ∧ atA (plc l k A n).1 j = atA A j) ∧ ∀ (q : Nat) (hq : q < l.length), emp (l[q]'hq).lab = false → hasA A (l[q]'hq).lab.toList = false ∧ hasA (plc l k A n).1 (l[q]'hq).lab.toList = true ∧ atA (plc l k A n).1 (l[q]'hq).lab.toList = n + wl (l.take q)
  | [], _, A, n, _ => ⟨by simp [plc, wl], fun j h => ⟨h, rfl⟩, fun q hq => by simp at hq⟩
  | x :: l, k, A, n, h => by
    by_cases hw : wrgL x = 0
    · by_cases he : emp x.lab = true
      · by_cases ht : n + lng x.i.o ≤ 65536
        · rw [plc_ins hw he ht] at h ⊢
          obtain ⟨a, b, c⟩ := plc_words l _ _ _ h
          refine ⟨by rw [a, wl, if_pos he]; omega, b, fun q hq hl => ?_⟩
          cases q with
          | zero => simp at hl; rw [he] at hl; cases hl
          | succ q =>
            obtain ⟨c1, c2, c3⟩ := c q (by simpa using hq) hl
            exact ⟨c1, c2, by rw [List.getElem_cons_succ, c3, List.take_succ_cons, wl, if_pos he]; omega⟩
        · rw [plc_much hw he (by omega)] at h; simp at h
      · replace he : emp x.lab = false := by simpa using he
        by_cases ht : hasA A x.lab.toList = true
        · rw [plc_taken hw he ht] at h; simp at h
        · replace ht : hasA A x.lab.toList = false := by simpa using ht
          rw [plc_label hw he ht] at h ⊢
          obtain ⟨a, b, c⟩ := plc_words l _ _ _ h
          refine ⟨by rw [a, wl, if_neg (by simp [he])]; omega, fun j hj => ?_, fun q hq hl => ?_⟩
          · have e : (x.lab.toList == j) = false := by
              rw [beq_eq_false_iff_ne]; intro e; rw [e, hj] at ht; cases ht
            obtain ⟨b1, b2⟩ := b j (by rw [hasA_snoc, hj]; rfl)
            exact ⟨b1, by rw [b2, atA_snoc_other e]⟩
          · cases q with
            | zero =>
              obtain ⟨b1, b2⟩ := b x.lab.toList (by rw [hasA_snoc]; simp)
              exact ⟨ht, b1, by rw [List.getElem_cons_zero, b2, atA_snoc_new ht]; simp [wl]⟩
            | succ q =>
              obtain ⟨c1, c2, c3⟩ := c q (by simpa using hq) hl
              rw [hasA_snoc] at c1
              exact ⟨(Bool.or_eq_false_iff.1 c1).1, c2, by rw [List.getElem_cons_succ, c3, List.take_succ_cons, wl, if_neg (by simp [he])]; omega⟩
    · rw [plc_bad hw] at h; exact absurd h hw
/-- Where a label lies, looked for from a place on. -/
def whrL : List Ln → List UInt8 → Int → Int
  | [], _, _ => -1
  | x :: l, k, n => if (x.lab.toList == k) = true then n else whrL l k (n + if emp x.lab = true then lng x.i.o else 0)
theorem whr_plc : ∀ (l : List Ln) (k : Nat) (A : Nmd) (n g : Int) (j : List UInt8), (plc l k A n).2.2.1 = 0 → hasA (plc l k A n).1 j = true → hasA A j = false → j ≠ [] → whrL l j g = g - n + atA (plc l k A n).1 j
  | [], _, A, n, g, j, _, h1, h2, _ => by simp [plc] at h1; rw [h1] at h2; cases h2
  | x :: l, k, A, n, g, j, h, h1, h2, hj => by
    by_cases hw : wrgL x = 0
    · by_cases he : emp x.lab = true
      · by_cases ht : n + lng x.i.o ≤ 65536
        · rw [plc_ins hw he ht] at h h1 ⊢
          have hne : (x.lab.toList == j) = false := by
            rw [beq_eq_false_iff_ne]; intro e; unfold emp at he; rw [e] at he; cases j with
            | nil => exact hj rfl
            | cons a b => cases he
          rw [whrL, if_neg (by simp [hne]), if_pos he, whr_plc l _ _ _ _ j h h1 h2 hj]; omega
        · rw [plc_much hw he (by omega)] at h; simp at h
      · replace he : emp x.lab = false := by simpa using he
        by_cases ht : hasA A x.lab.toList = true
        · rw [plc_taken hw he ht] at h; simp at h
        · replace ht : hasA A x.lab.toList = false := by simpa using ht
          rw [plc_label hw he ht] at h h1 ⊢
          by_cases e : x.lab.toList = j
          · subst e
            rw [whrL, if_pos (by simp)]
            have := (plc_words l _ _ _ h).2.1 x.lab.toList (by rw [hasA_snoc]; simp)
            rw [this.2, atA_snoc_new ht]; omega
          · have hne : (x.lab.toList == j) = false := beq_eq_false_iff_ne.2 e
            rw [whrL, if_neg (by simp [hne]), if_neg (by simp [he]), whr_plc l _ _ _ _ j h h1 (by rw [hasA_snoc, h2, hne]; rfl) hj]; omega
    · rw [plc_bad hw] at h; exact absurd h hw
theorem whr_none : ∀ (l : List Ln) (k : Nat) (A : Nmd) (n g : Int) (j : List UInt8), (plc l k A n).2.2.1 = 0 → hasA (plc l k A n).1 j = false → j ≠ [] → whrL l j g = -1
  | [], _, A, n, g, j, _, _, _ => rfl
  | x :: l, k, A, n, g, j, h, h1, hj => by
    by_cases hw : wrgL x = 0
    · by_cases he : emp x.lab = true
      · by_cases ht : n + lng x.i.o ≤ 65536
        · rw [plc_ins hw he ht] at h h1
          have hne : (x.lab.toList == j) = false := by
            rw [beq_eq_false_iff_ne]; intro e; unfold emp at he; rw [e] at he; cases j with
            | nil => exact hj rfl
            | cons a b => cases he
          rw [whrL, if_neg (by simp [hne]), whr_none l _ _ _ _ j h h1 hj]
        · rw [plc_much hw he (by omega)] at h; simp at h
      · replace he : emp x.lab = false := by simpa using he
        by_cases ht : hasA A x.lab.toList = true
        · rw [plc_taken hw he ht] at h; simp at h
        · replace ht : hasA A x.lab.toList = false := by simpa using ht
          rw [plc_label hw he ht] at h h1
          by_cases e : x.lab.toList = j
          · subst e
            have := ((plc_words l _ _ _ h).2.1 x.lab.toList (by rw [hasA_snoc]; simp)).1
            rw [this] at h1; cases h1
          · have hne : (x.lab.toList == j) = false := beq_eq_false_iff_ne.2 e
            rw [whrL, if_neg (by simp [hne]), whr_none l _ _ _ _ j h h1 hj]
    · rw [plc_bad hw] at h; exact absurd h hw
def lngX (x : Ln) : Int := if emp x.lab = true then lng x.i.o else 0
theorem lngX_in (x : Ln) : 0 ≤ lngX x ∧ lngX x ≤ 2 := by unfold lngX; have := lng_in x.i.o; split <;> omega
set_option maxHeartbeats 1000000 in
theorem long4_any (x : Ln) (w : World) : Calls Try.prog 28 #[aggL x] w fun e w' => e = .returned (.int .i64 (lngX x)) ∧ Below w.heap.size w w' := by
  obtain ⟨lab, ⟨o, d, s, m⟩, ref⟩ := x
  unfold aggL lngX emp lng
  dsimp only
  have K0 := hideI (below_a w (.cells #[.string lab, .int .i64 o, .int .i64 d, .int .i64 s, .int .i64 m, .string ref] 54))
  by_cases h1 : lab.toList.isEmpty = true
  · rw [if_pos h1]
    have HI := fun w => has_i o w
    by_cases h2 : hI o = true
    · rw [h2] at HI
      rw [if_pos h2]
      clear h2
      go_enter Try.func28, Try.ntmps28
      go_wp2_with fail
      refine (HI _).mono ?_
      rintro e w1 ⟨rfl, k1⟩
      go_wp2_with fail
      go_ret
      exact ⟨rfl, bt (unhideI K0) k1⟩
    · rw [if_neg h2]
      replace h2 : hI o = false := by simpa using h2
      rw [h2] at HI
      clear h2
      go_enter Try.func28, Try.ntmps28
      go_wp2_with fail
      refine (HI _).mono ?_
      rintro e w1 ⟨rfl, k1⟩
      go_wp2_with fail
      go_ret
      exact ⟨rfl, bt (unhideI K0) k1⟩
  · rw [if_neg h1]
    replace h1 : lab.toList.isEmpty = false := by simpa using h1
    go_enter Try.func28, Try.ntmps28
    go_wp2_with fail
    go_ret
    exact ⟨rfl, unhideI K0⟩
set_option maxRecDepth 100000 in
set_option maxHeartbeats 2000000 in
theorem where_any (l : List Ln) (v : Value) (s : ByteArray) (n0 : Int) (w : World) (hl : Lns w v l) (hlen : l.length ≤ 40000) (h0 : 0 ≤ n0) (h1 : n0 ≤ 100000000) : Calls Try.prog 14 #[v, .string s, .int .i64 n0] w fun e w' => e = .returned (.int .i64 (whrL l s.toList n0)) ∧ Below w.heap.size w w' := by
  obtain ⟨ao, cap, rfl, hmax, hat⟩ := hl.at
  have HA := hideI hat
  generalize hR : whrL l s.toList n0 = R
  have HR : Hid (whrL (l.drop 0) s.toList n0 = R) := hR
  clear hR hat hl
  go_enter Try.func14, Try.ntmps14
  go_wp2_with fail
  go_loopg [2, 11] l.length (fun g vn ii wr => ∃ (k : Nat) (n : Int), k ≤ l.length ∧ g = l.length - k ∧ ii = .int .i64 k ∧ vn = .int .i64 n ∧ 0 ≤ n ∧ n ≤ n0 + 2 * k ∧ Hid (Below w.heap.size w wr) ∧ Hid (whrL (l.drop k) s.toList n = R))
  case atStart => exact ⟨0, n0, Nat.zero_le _, rfl, rfl, rfl, h0, by omega, Below.refl _ _, HR⟩
  case round =>
    obtain ⟨k, n, hk, hg, rfl, rfl, hn0, hn1, HB, HE⟩ := hrel
    clear HR
    by_cases hkl : k < l.length
    · obtain ⟨b2, off2, rfl, hbw2, hc2⟩ := (unhideI HA) (by intro h; rw [h] at hkl; simp at hkl)
      obtain ⟨d0, d1, d2, d3, d4, d5⟩ := hc2 k hkl
      replace d0 := cell_keep (unhideI HB) hbw2 d0
      replace d1 := cell_keep (unhideI HB) hbw2 d1
      replace d2 := cell_keep (unhideI HB) hbw2 d2
      replace d3 := cell_keep (unhideI HB) hbw2 d3
      replace d4 := cell_keep (unhideI HB) hbw2 d4
      replace d5 := cell_keep (unhideI HB) hbw2 d5
      have hd := hideI (drop_at l k hkl)
      generalize l[k] = x at *
      have LG := fun w => long4_any x w
      have lx := lngX_in x
      have HE3 : Hid ((if (x.lab.toList == s.toList) = true then n else whrL (l.drop (k + 1)) s.toList (n + lngX x)) = R) := by show _ = R; rw [← unhideI HE, unhideI hd]; rfl
      generalize lngX x = lgx at *
      obtain ⟨lab, ⟨o, d, sr, mm⟩, ref⟩ := x
      unfold aggL at LG
      clear hc2 HE hd
      dsimp only at *
      have KB := hideI (bt (unhideI HB) (below_a wr (.cells #[.string lab, .int .i64 o, .int .i64 d, .int .i64 sr, .int .i64 mm, .string ref] 54)))
      by_cases heq : (lab.toList == s.toList) = true
      · have hRn : R = n := by rw [← unhideI HE3, if_pos heq]
        subst hRn
        clear HE3
        go_wp2_with fail
        go_ret
        exact ⟨rfl, unhideI KB⟩
      · replace heq : (lab.toList == s.toList) = false := by simpa using heq
        have HE4 : Hid (whrL (l.drop (k + 1)) s.toList (n + lgx) = R) := by show _ = R; rw [← unhideI HE3, if_neg (by simp [heq])]
        clear HE3
        go_wp2_with fail
        refine (LG _).mono ?_
        rintro e w1 ⟨rfl, k1⟩
        have KC := hideI (bt (unhideI KB) k1)
        clear k1
        go_wp2_with fail
        go_roundg (l.length - (k + 1))
        case measure => omega
        case rel => exact ⟨k + 1, n + lgx, by omega, rfl, by go_num, by go_num, by omega, by omega, KC, HE4⟩
    · have hil : k = l.length := by omega
      have hRs : R = -1 := by rw [← unhideI HE, hil, List.drop_length]; rfl
      subst hRs
      clear HE
      go_wp2_with fail
      go_ret
      exact ⟨rfl, unhideI HB⟩
end Go.Proofs.Yteoifpkbknkpjaa
