/-
  The document's answer on lines: Lines.
-/
import Derived.Test.YtoopgkbefhoeiaaGreatDoorR4P
import Derived.Test.YtoopgkbefhoeiaaGreatDoorR4D
namespace Go.Proofs.YtoopgkbefhoeiaaGreatDoor
open Go.RowKit
set_option linter.unusedSimpArgs false
set_option linter.unusedVariables false

theorem Tryz.infoStr4 : (Tryz.prog.info? 9).map (fun i => (i.zero, i.size, i.bytes)) = some (some (.string ⟨#[]⟩), 1, 16) := by kernel_rfl
/-- Texts, as they lie. -/
def txs (l : List (List UInt8)) : List Value := l.map fun s => .string (ba s)
theorem txs_snoc (l : List (List UInt8)) (s : List UInt8) : txs l ++ [.string (ba s)] = txs (l ++ [s]) := by simp [txs]
theorem own_txs {w : World} {B : Nat} {v : Value} {l : List (List UInt8)} {s : List UInt8} (h : w.ownsRow B 9 1 v (l.length + 1) (txs l ++ [.string (ba s)])) : w.ownsRow B 9 1 v (l ++ [s]).length (txs (l ++ [s])) := by
  rw [txs_snoc] at h
  rw [List.length_append]
  exact h
set_option maxRecDepth 100000 in
set_option maxHeartbeats 4000000 in
theorem lines4_any (s : List UInt8) (w : World) (hs : s.length ≤ 1048576) : Calls Tryz.prog 21 #[.string (ba s)] w fun e w' => ∃ v, e = .returned v ∧ w'.ownsRow w.heap.size 9 1 v (lns4 [] s).length (txs (lns4 [] s)) ∧ Below w.heap.size w w' := by
  obtain ⟨i0, hi, hz0, hz1, hz2⟩ := info_parts Tryz.infoStr4
  generalize hR : lns4 [] s = R
  have HR := hideI hR
  clear hR
  have hsz : (ba s).size = s.length := rfl
  go_enter Tryz.func21, Tryz.ntmps21
  go_wp2_with fail
  go_loopg [3, 4, 5] s.length (fun g vo vf vi wr => ∃ (from_ i : Nat) (acc : List (List UInt8)), from_ ≤ i ∧ i ≤ s.length ∧ g = s.length - i ∧ vf = .int .i64 from_ ∧ vi = .int .i64 i ∧ acc.length ≤ i ∧ Hid (wr.ownsRow w.heap.size 9 1 vo acc.length (txs acc)) ∧ Hid (Below w.heap.size w wr) ∧ Hid (R = acc ++ lns4 ((s.take i).drop from_) (s.drop i)))
  case atStart => exact ⟨0, 0, [], Nat.le_refl _, Nat.zero_le _, rfl, rfl, rfl, Nat.le_refl _, World.ownsRow_nil _ _ _ _, Below.refl _ _, by rw [← unhideI HR]; rfl⟩
  case round =>
    obtain ⟨f, i, acc, hf, hi2, hg, rfl, rfl, ha, HO, HW, HE⟩ := hrel
    clear HR
    have hwB := (unhideI HW).size
    by_cases hlt : i < s.length
    · have hii : (i : Int) < ((ba s).size : Int) := by rw [hsz]; omega
      have hbi : (ba s)[i]'(by rw [hsz]; exact hlt) = s[i] := rfl
      have hE := unhideI HE
      rw [List.drop_eq_getElem_cons hlt, lns4] at hE
      by_cases hc : s[i] = 10
      · have e1 : ((s[i].toNat : Int) == 10) = true := by rw [hc]; rfl
        rw [if_pos hc] at hE
        have HE2 := hideI hE
        clear hE HE
        have x1 : (ba s).extract f i = ba ((s.take i).drop f) := ba_extract s f i
        go_wp2_with (at_builtin; refine wpList_append_own _ rfl (.tmp 16) (.tmp 21) 58 rfl w.heap.size 9 i0 (.string ⟨#[]⟩) 1 16 Tryz.underlying58 hi hz0 hz1 hz2 rfl (by decide) _ _ _ rfl ((unhideI HO).alloc _) ⟨_, 0, none⟩ 1 1 [.string (ba ((s.take i).drop f))] rfl rfl (box1 _ _ _ _ rfl) (by intro u hu; simp at hu; subst hu; rfl) (by unfold maxLen; omega) (by omega) (by simp; omega) ?_; intro v3 w3 own3 grow3 _; have b3 := hideI (below_own ((unhideI HW).alloc (by omega) _) (by simp; omega) ((unhideI HO).alloc _) grow3); have O3 := hideI own3; clear own3 grow3)
        go_roundg (s.length - (i + 1))
        case measure => omega
        case rel => exact ⟨i + 1, i + 1, acc ++ [(s.take i).drop f], by omega, by omega, rfl, by go_num, by go_num, by simp; omega, own_txs (unhideI O3), b3, by
          have e9 : (s.take (i + 1)).drop (i + 1) = [] := List.drop_of_length_le (by rw [List.length_take]; omega)
          show R = _
          rw [unhideI HE2, e9, List.append_assoc]; rfl⟩
      · have e1 : ((s[i].toNat : Int) == 10) = false := by
          rw [beq_eq_false_iff_ne]
          intro h
          exact hc (UInt8.toNat_inj.1 (Int.ofNat_inj.1 h))
        rw [if_neg hc] at hE
        have HE2 := hideI hE
        clear hE HE
        go_wp2_with fail
        go_roundg (s.length - (i + 1))
        case measure => omega
        case rel => exact ⟨f, i + 1, acc, by omega, by omega, rfl, rfl, by go_num, by omega, HO, HW, by
          rw [unhideI HE2, List.take_succ_eq_append_getElem hlt, List.drop_append_of_le_length (by rw [List.length_take]; omega)]; rfl⟩
    · have hb : decide ((i : Int) < ((ba s).size : Int)) = false := by rw [hsz]; simp; omega
      have hE := unhideI HE
      rw [show i = s.length by omega, List.drop_length, List.take_length, lns4] at hE
      by_cases hfl : f < s.length
      · have hb2 : decide ((f : Int) < ((ba s).size : Int)) = true := by rw [hsz]; simp; omega
        rw [if_neg (by intro h; have := congrArg List.length h; simp at this; omega)] at hE
        subst hE
        have x1 : (ba s).extract f s.length = ba (s.drop f) := by rw [ba_extract, List.take_length]
        go_wp2_with (at_builtin; refine wpList_append_own _ rfl (.tmp 29) (.tmp 33) 58 rfl w.heap.size 9 i0 (.string ⟨#[]⟩) 1 16 Tryz.underlying58 hi hz0 hz1 hz2 rfl (by decide) _ _ _ rfl ((unhideI HO).alloc _) ⟨_, 0, none⟩ 1 1 [.string (ba (s.drop f))] rfl rfl (box1 _ _ _ _ rfl) (by intro u hu; simp at hu; subst hu; rfl) (by unfold maxLen; omega) (by omega) (by simp; omega) ?_; intro v3 w3 own3 grow3 _; have b3 := hideI (below_own ((unhideI HW).alloc (by omega) _) (by simp; omega) ((unhideI HO).alloc _) grow3); have O3 := hideI own3; clear own3 grow3)
        go_ret
        exact ⟨_, rfl, own_txs (unhideI O3), unhideI b3⟩
      · have hb2 : decide ((f : Int) < ((ba s).size : Int)) = false := by rw [hsz]; simp; omega
        rw [if_pos (List.drop_of_length_le (by omega)), List.append_nil] at hE
        subst hE
        go_wp2_with fail
        go_ret
        exact ⟨_, rfl, unhideI HO, unhideI HW⟩
end Go.Proofs.YtoopgkbefhoeiaaGreatDoor
