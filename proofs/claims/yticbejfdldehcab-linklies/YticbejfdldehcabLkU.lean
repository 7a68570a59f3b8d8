/-
  pairlegalref4.Long, Where.
-/
import Derived.Test.YticbejfdldehcabLkV2
import Derived.Test.YticbejfdldehcabRefG
namespace Go.Proofs.Yticbejfdldehcab
open Go.RowKit Go.Maps
set_option linter.unusedSimpArgs false
set_option linter.unusedVariables false

def lngX (x : Ln) : Int := if emp x.lab = true then lng x.i.o else 0
theorem lngX_in (x : Ln) : 0 ≤ lngX x ∧ lngX x ≤ 2 := by unfold lngX; have := lng_in x.i.o; split <;> omega
set_option maxHeartbeats 1000000 in
theorem long4_any (x : Ln) (w : World) : Calls Try.prog 16 #[aggL x] w fun e w' => e = .returned (.int .i64 (lngX x)) ∧ Below w.heap.size w w' := by
  obtain ⟨lab, ⟨o, d, s, m⟩, ref⟩ := x
  unfold aggL lngX emp lng
  dsimp only
  have K0 := hideI (below_a w (.cells #[.string lab, .int .i64 o, .int .i64 d, .int .i64 s, .int .i64 m, .string ref] 43))
  by_cases h1 : lab.toList.isEmpty = true
  · rw [if_pos h1]
    have HI := fun w => has_i o w
    by_cases h2 : hI o = true
    · rw [h2] at HI
      rw [if_pos h2]
      clear h2
      go_enter Try.func16, Try.ntmps16
      go_wp2_with fail
      refine (HI _).mono ?_
      rintro e w1 ⟨rfl, k1⟩
      go_wp2_with fail
      go_ret
      exact ⟨rfl, bt (unhideI K0) k1⟩
    · rw [if_neg h2]
      replace h2 : hI o = false := by simpa using h2
      rw [h2] at HI
      clear h2
      go_enter Try.func16, Try.ntmps16
      go_wp2_with fail
      refine (HI _).mono ?_
      rintro e w1 ⟨rfl, k1⟩
      go_wp2_with fail
      go_ret
      exact ⟨rfl, bt (unhideI K0) k1⟩
  · rw [if_neg h1]
    replace h1 : lab.toList.isEmpty = false := by simpa using h1
    go_enter Try.func16, Try.ntmps16
    go_wp2_with fail
    go_ret
    exact ⟨rfl, unhideI K0⟩
set_option maxRecDepth 100000 in
set_option maxHeartbeats 2000000 in
theorem where_any (l : List Ln) (v : Value) (s : ByteArray) (n0 : Int) (w : World) (hl : Lns w v l) (hlen : l.length ≤ 40000) (h0 : 0 ≤ n0) (h1 : n0 ≤ 100000000) : Calls Try.prog 15 #[v, .string s, .int .i64 n0] w fun e w' => e = .returned (.int .i64 (whrL l s.toList n0)) ∧ Below w.heap.size w w' := by
  obtain ⟨ao, cap, rfl, hmax, hat⟩ := hl.at
  have HA := hideI hat
  generalize hR : whrL l s.toList n0 = R
  have HR : Hid (whrL (l.drop 0) s.toList n0 = R) := hR
  clear hR hat hl
  go_enter Try.func15, Try.ntmps15
  go_wp2_with fail
  go_loopg [2, 11] l.length (fun g vn ii wr => ∃ (k : Nat) (n : Int), k ≤ l.length ∧ g = l.length - k ∧ ii = .int .i64 k ∧ vn = .int .i64 n ∧ 0 ≤ n ∧ n ≤ n0 + 2 * k ∧ Hid (Below w.heap.size w wr) ∧ Hid (whrL (l.drop k) s.toList n = R))
  case atStart => exact ⟨0, n0, Nat.zero_le _, rfl, rfl, rfl, h0, by omega, Below.refl _ _, HR⟩
  case round =>
    obtain ⟨k, n, hk, hg, rfl, rfl, hn0, hn1, HB, HE⟩ := hrel
    clear HR
    by_cases hkl : k < l.length
    · obtain ⟨b2, off2, rfl, hbw2, hc2⟩ := (unhideI HA) (by intro h; rw [h] at hkl; simp at hkl)
      obtain ⟨d0, d1, d2, d3, d4, d5⟩ := hc2 k hkl
      replace d0 := cell_keep (unhideI HB) hbw2 d0
      replace d1 := cell_keep (unhideI HB) hbw2 d1
      replace d2 := cell_keep (unhideI HB) hbw2 d2
      replace d3 := cell_keep (unhideI HB) hbw2 d3
      replace d4 := cell_keep (unhideI HB) hbw2 d4
      replace d5 := cell_keep (unhideI HB) hbw2 d5
      have hd := hideI (drop_at l k hkl)
      generalize l[k] = x at *
      have LG := fun w => long4_any x w
      have lx := lngX_in x
      have HE3 : Hid ((if (x.lab.toList == s.toList) = true then n else whrL (l.drop (k + 1)) s.toList (n + lngX x)) = R) := by show _ = R; rw [← unhideI HE, unhideI hd]; rfl
      generalize lngX x = lgx at *
      obtain ⟨lab, ⟨o, d, sr, mm⟩, ref⟩ := x
      unfold aggL at LG
      clear hc2 HE hd
      dsimp only at *
      have KB := hideI (bt (unhideI HB) (below_a wr (.cells #[.string lab, .int .i64 o, .int .i64 d, .int .i64 sr, .int .i64 mm, .string ref] 43)))
      by_cases heq : (lab.toList == s.toList) = true
      · have hRn : R = n := by rw [← unhideI HE3, if_pos heq]
        subst hRn
        clear HE3
        go_wp2_with fail
        go_ret
        exact ⟨rfl, unhideI KB⟩
      · replace heq : (lab.toList == s.toList) = false := by simpa using heq
        have HE4 : Hid (whrL (l.drop (k + 1)) s.toList (n + lgx) = R) := by show _ = R; rw [← unhideI HE3, if_neg (by simp [heq])]
        clear HE3
        go_wp2_with fail
        refine (LG _).mono ?_
        rintro e w1 ⟨rfl, k1⟩
        have KC := hideI (bt (unhideI KB) k1)
        clear k1
        go_wp2_with fail
        go_roundg (l.length - (k + 1))
        case measure => omega
        case rel => exact ⟨k + 1, n + lgx, by omega, rfl, by go_num, by go_num, by omega, by omega, KC, HE4⟩
    · have hil : k = l.length := by omega
      have hRs : R = -1 := by rw [← unhideI HE, hil, List.drop_length]; rfl
      subst hRs
      clear HE
      go_wp2_with fail
      go_ret
      exact ⟨rfl, unhideI HB⟩
end Go.Proofs.Yticbejfdldehcab
