/-
  The document's answer on lines: upTo and trim.
-/
import Derived.Test.YtoopgkbefhoeiaaGreatDoorRdM
import Derived.Deep.QuietTactic
import Derived.BigQuiet
import Derived.WalkSmall
namespace Go.Proofs.YtoopgkbefhoeiaaGreatDoor
open Go.RowKit
set_option linter.unusedSimpArgs false
set_option linter.unusedVariables false

theorem index_none (c : UInt8) : ∀ a : List UInt8, (∀ x ∈ a, x ≠ c) → Lib.index a [c] = -1
  | [], _ => by simp [Lib.index]
  | x :: a, h => by
    have ih := index_none c a (fun y hy => h y (List.mem_cons_of_mem _ hy))
    have hx : c ≠ x := (h x List.mem_cons_self).symm
    rw [Lib.index, ih]
    simp [hx]
theorem cut_none (c : UInt8) (a : List UInt8) (h : ∀ x ∈ a, x ≠ c) : Lib.cut a [c] = (a, [], false) := by
  unfold Lib.cut
  rw [index_none c a h, if_neg (by decide)]
theorem ba_extract (s : List UInt8) (i j : Nat) : (ba s).extract i j = ba ((s.take j).drop i) := by
  have h : ∀ a b : ByteArray, a.data = b.data → a = b := fun a b h => by cases a; cases b; exact congrArg _ h
  apply h
  rw [ByteArray.data_extract]
  simp [ba, List.drop_take, Array.toList_extract]
set_option maxHeartbeats 1000000 in
theorem upTo_any (s : List UInt8) (c : UInt8) (w : World) (hs : s.length ≤ 1048576) : Calls Tryz.prog 43 #[.string (ba s), .int .u8 (c.toNat : Int)] w fun e w' => e = .returned (.tuple #[.string (ba (Lib.cut s [c]).1), .string (ba (Lib.cut s [c]).2.1), .bool (Lib.cut s [c]).2.2]) ∧ Below w.heap.size w w' := by
  have hsz : (ba s).size = s.length := rfl
  obtain ⟨⟨C1, C2, C3⟩, HR⟩ : ∃ R, Hid (Lib.cut s [c] = R) := ⟨_, rfl⟩
  rw [unhideI HR]
  dsimp only
  go_enter Tryz.func43, Tryz.ntmps43
  go_wp2_with fail
  go_loopg [7] s.length (fun g t wr => ∃ i : Nat, i ≤ s.length ∧ g = s.length - i ∧ t = .int .i64 i ∧ wr = w ∧ Hid (∀ j (h : j < s.length), j < i → s[j]'h ≠ c))
  case atStart => exact ⟨0, Nat.zero_le _, rfl, rfl, rfl, fun j _ h => by omega⟩
  case round =>
    obtain ⟨i, hi, hg, rfl, rfl, N⟩ := hrel
    by_cases hlt : i < s.length
    · have hii : (i : Int) < ((ba s).size : Int) := by rw [hsz]; omega
      have hbi : (ba s)[i]'(by rw [hsz]; exact hlt) = s[i] := rfl
      by_cases hc : s[i] = c
      · have e1 : ((s[i].toNat : Int) == (c.toNat : Int)) = true := by rw [hc]; simp
        have hcut : Lib.cut s [c] = (s.take i, s.drop (i + 1), true) := by
          have h1 : s = s.take i ++ c :: s.drop (i + 1) := by
            conv => lhs; rw [← List.take_append_drop i s, List.drop_eq_getElem_cons hlt, hc]
          conv => lhs; rw [h1]
          exact cut_at c _ _ (fun x hx => by
            obtain ⟨j, hj, rfl⟩ := List.getElem_of_mem hx
            rw [List.length_take] at hj
            rw [List.getElem_take]
            exact unhideI N j (by omega) (by omega))
        rw [unhideI HR] at hcut
        obtain ⟨rfl, rfl, rfl⟩ : C1 = s.take i ∧ C2 = s.drop (i + 1) ∧ C3 = true := by simpa using hcut
        clear hcut hc N HR
        go_wp2_with fail
        go_quiet (fail)
        go_wp2_with fail
        have x1 : (ba s).extract 0 i = ba (s.take i) := by rw [ba_extract]; simp
        have x2 : (ba s).extract (i + 1) s.length = ba (s.drop (i + 1)) := by rw [ba_extract, List.take_length]
        rw [x1, x2]
        exact bodyPost_ret (v := .tuple #[.string (ba (s.take i)), .string (ba (s.drop (i + 1))), .bool true]) (by simp [results, Tryz.results43, go_sem]) rfl ⟨rfl, below_drewN (Below.refl _ _) _⟩
      · have e1 : ((s[i].toNat : Int) == (c.toNat : Int)) = false := by
          rw [beq_eq_false_iff_ne]
          intro h
          exact hc (UInt8.toNat_inj.1 (Int.ofNat_inj.1 h))
        have N2 : Hid (∀ j (h : j < s.length), j < i + 1 → s[j]'h ≠ c) := by
          intro j h hj
          by_cases e : j = i
          · subst e; exact hc
          · exact unhideI N j h (by omega)
        go_wp2_with fail
        go_roundg (s.length - (i + 1))
        case measure => omega
        case rel => exact ⟨i + 1, by omega, rfl, by go_num, rfl, N2⟩
    · have hb : decide ((i : Int) < ((ba s).size : Int)) = false := by rw [hsz]; simp; omega
      have hcut : Lib.cut s [c] = (s, [], false) := cut_none c s (fun x hx => by
        obtain ⟨j, hj, rfl⟩ := List.getElem_of_mem hx
        exact unhideI N j hj (by omega))
      rw [unhideI HR] at hcut
      obtain ⟨rfl, rfl, rfl⟩ : C1 = s ∧ C2 = [] ∧ C3 = false := by simpa using hcut
      clear hcut HR
      go_wp2_with fail
      exact bodyPost_ret (v := .tuple #[.string (ba C1), .string ⟨#[]⟩, .bool false]) (by simp [results, Tryz.results43, go_sem]) rfl ⟨rfl, Below.refl _ _⟩
end Go.Proofs.YtoopgkbefhoeiaaGreatDoor
