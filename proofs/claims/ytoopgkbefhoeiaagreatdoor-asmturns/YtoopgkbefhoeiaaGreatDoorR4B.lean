/-
  The document's answer on lines: trim.
-/
import Derived.Test.YtoopgkbefhoeiaaGreatDoorR4A
namespace Go.Proofs.YtoopgkbefhoeiaaGreatDoor
open Go.RowKit
set_option linter.unusedSimpArgs false
set_option linter.unusedVariables false

theorem rdrop_cons (p : UInt8 → Bool) (x : UInt8) (l : List UInt8) : ((x :: l).reverse.dropWhile p).reverse = if (l.reverse.dropWhile p).isEmpty = true then (if p x = true then [] else [x]) else x :: (l.reverse.dropWhile p).reverse := by
  rw [List.reverse_cons, List.dropWhile_append]
  split
  · by_cases h : p x = true
    · rw [if_pos h]; simp [h]
    · rw [if_neg h]; simp [h]
  · rw [List.reverse_append]; simp
theorem drops_comm (p : UInt8 → Bool) : ∀ l : List UInt8, ((l.dropWhile p).reverse.dropWhile p).reverse = ((l.reverse.dropWhile p).reverse).dropWhile p
  | [] => rfl
  | x :: l => by
    have ih := drops_comm p l
    rw [rdrop_cons]
    by_cases h : p x = true
    · rw [List.dropWhile_cons_of_pos h, ih, if_pos h]
      split
      · rename_i he
        have he' : l.reverse.dropWhile p = [] := by simpa using he
        rw [he']
        rfl
      · rw [List.dropWhile_cons_of_pos h]
    · rw [List.dropWhile_cons_of_neg h, rdrop_cons, if_neg h]
      split
      · rw [List.dropWhile_cons_of_neg h]
      · rw [List.dropWhile_cons_of_neg h]
theorem trim_comm (s : List UInt8) : Lib.trimRightS (Lib.trimLeftS s [32, 9]) [32, 9] = trimA s := drops_comm (fun b => [32, 9].contains b) s
theorem blank_no {x : UInt8} (h1 : x ≠ 32) (h2 : x ≠ 9) : ((x.toNat : Int) == 32) = false ∧ ((x.toNat : Int) == 9) = false := by
  have a1 : x.toNat ≠ 32 := fun h => h1 (UInt8.toNat_inj.1 h)
  have a2 : x.toNat ≠ 9 := fun h => h2 (UInt8.toNat_inj.1 h)
  refine ⟨beq_eq_false_iff_ne.2 (by omega), beq_eq_false_iff_ne.2 (by omega)⟩
theorem left_cons {x : UInt8} {u : List UInt8} (h : x = 32 ∨ x = 9) : Lib.trimLeftS (x :: u) [32, 9] = Lib.trimLeftS u [32, 9] := by
  unfold Lib.trimLeftS
  rw [List.dropWhile_cons_of_pos (by rcases h with rfl | rfl <;> rfl)]
theorem left_stop {x : UInt8} {u : List UInt8} (h1 : x ≠ 32) (h2 : x ≠ 9) : Lib.trimLeftS (x :: u) [32, 9] = x :: u := by
  unfold Lib.trimLeftS
  rw [List.dropWhile_cons_of_neg (by simp [h1, h2])]
theorem right_snoc {x : UInt8} {u : List UInt8} (h : x = 32 ∨ x = 9) : Lib.trimRightS (u ++ [x]) [32, 9] = Lib.trimRightS u [32, 9] := by
  unfold Lib.trimRightS
  rw [List.reverse_append, List.reverse_singleton, List.singleton_append, List.dropWhile_cons_of_pos (by rcases h with rfl | rfl <;> rfl)]
theorem right_stop {x : UInt8} {u : List UInt8} (h1 : x ≠ 32) (h2 : x ≠ 9) : Lib.trimRightS (u ++ [x]) [32, 9] = u ++ [x] := by
  unfold Lib.trimRightS
  rw [List.reverse_append, List.reverse_singleton, List.singleton_append, List.dropWhile_cons_of_neg (by simp [h1, h2])]
  simp
theorem ba_tail (x : UInt8) (u : List UInt8) : (ba (x :: u)).extract 1 (u.length + 1) = ba u := by rw [ba_extract]; simp
theorem ba_init (x : UInt8) (u : List UInt8) : (ba (u ++ [x])).extract 0 u.length = ba u := by rw [ba_extract]; simp
theorem ba_last (x : UInt8) (u : List UInt8) : (ba (u ++ [x]))[u.length]'(by rw [ba_size]; simp) = x := by
  show (u ++ [x]).toArray[u.length] = x
  simp
set_option maxRecDepth 100000 in
set_option maxHeartbeats 4000000 in
theorem trim_ref (s : List UInt8) (w : World) (hs : s.length ≤ 1048576) : Calls Tryz.prog 44 #[.string (ba s)] w fun e w' => e = .returned (.string (ba (trimA s))) ∧ Below w.heap.size w w' := by
  have HT := hideI (trim_comm s)
  generalize trimA s = T at *
  go_enter Tryz.func44, Tryz.ntmps44
  go_wp2_with fail
  go_loopg [0] s.length (fun g t wr => ∃ u : List UInt8, u.length ≤ 1048576 ∧ g = u.length ∧ t = .string (ba u) ∧ wr = w ∧ Hid (Lib.trimLeftS u [32, 9] = Lib.trimLeftS s [32, 9]))
  case atStart => exact ⟨s, hs, rfl, rfl, rfl, rfl⟩
  case round =>
    obtain ⟨u, hu, hg, rfl, rfl, E⟩ := hrel
    cases u with
    | nil =>
      rw [← unhideI E] at HT
      have hz : (ba ([] : List UInt8)).size = 0 := rfl
      have HT : Hid (Lib.trimRightS [] [32, 9] = T) := HT
      go_wp2_with fail
      go_loopg [0] (([] : List UInt8)).length (fun g t ws => ∃ u : List UInt8, u.length ≤ 1048576 ∧ g = u.length ∧ t = .string (ba u) ∧ ws = wr ∧ Hid (Lib.trimRightS u [32, 9] = T))
      case atStart => exact ⟨([] : List UInt8), hu, rfl, rfl, rfl, HT⟩
      case round =>
        obtain ⟨u, hu, hg, rfl, hwr, E⟩ := hrel
        subst hwr
        rcases List.eq_nil_or_concat u with rfl | ⟨u, x, rfl⟩
        · have eT : T = [] := by rw [← unhideI E]; rfl
          subst eT
          have hz : (ba ([] : List UInt8)).size = 0 := rfl
          go_wp2_with fail
          go_ret
          exact ⟨rfl, Below.refl _ _⟩
        · rw [List.concat_eq_append] at *
          have hz : (ba (u ++ [x])).size = u.length + 1 := by rw [ba_size]; simp
          have hb : (ba (u ++ [x]))[u.length]'(by omega) = x := ba_last x u
          have hm : (((u.length + 1 : Nat) : Int) - 1) = (u.length : Int) := by omega
          have hp : decide ((0 : Int) < ((u.length + 1 : Nat) : Int)) = true := by simp
          have hul : u.length + 1 ≤ 1048576 := by simpa using hu
          have hii : (u.length : Int) < ((u.length + 1 : Nat) : Int) := by omega
          by_cases h1 : x = 32
          · have E2 : Hid (Lib.trimRightS u [32, 9] = T) := by show _ = _; rw [← unhideI E, right_snoc (.inl h1)]
            subst h1
            go_wp2_with fail
            rw [ba_init]
            go_roundg u.length
            case measure => simp at hg; omega
            case rel => exact ⟨u, by omega, rfl, rfl, rfl, E2⟩
          · by_cases h2 : x = 9
            · have E2 : Hid (Lib.trimRightS u [32, 9] = T) := by show _ = _; rw [← unhideI E, right_snoc (.inr h2)]
              subst h2
              go_wp2_with fail
              rw [ba_init]
              go_roundg u.length
              case measure => simp at hg; omega
              case rel => exact ⟨u, by omega, rfl, rfl, rfl, E2⟩
            · obtain ⟨n1, n2⟩ := blank_no h1 h2
              have eT : T = u ++ [x] := by rw [← unhideI E, right_stop h1 h2]
              subst eT
              go_wp2_with fail
              go_ret
              exact ⟨rfl, Below.refl _ _⟩
    | cons x u =>
      have hz : (ba (x :: u)).size = u.length + 1 := rfl
      have hb : (ba (x :: u))[0]'(by omega) = x := rfl
      have hp : decide ((0 : Int) < ((u.length + 1 : Nat) : Int)) = true := by simp
      have hul : u.length + 1 ≤ 1048576 := by simpa using hu
      by_cases h1 : x = 32
      · have E2 : Hid (Lib.trimLeftS u [32, 9] = Lib.trimLeftS s [32, 9]) := by show _ = _; rw [← unhideI E, left_cons (.inl h1)]
        subst h1
        go_wp2_with fail
        rw [ba_tail]
        go_roundg u.length
        case measure => simp at hg; omega
        case rel => exact ⟨u, by omega, rfl, rfl, rfl, E2⟩
      · by_cases h2 : x = 9
        · have E2 : Hid (Lib.trimLeftS u [32, 9] = Lib.trimLeftS s [32, 9]) := by show _ = _; rw [← unhideI E, left_cons (.inr h2)]
          subst h2
          go_wp2_with fail
          rw [ba_tail]
          go_roundg u.length
          case measure => simp at hg; omega
          case rel => exact ⟨u, by omega, rfl, rfl, rfl, E2⟩
        · obtain ⟨n1, n2⟩ := blank_no h1 h2
          rw [← unhideI E, left_stop h1 h2] at HT
          go_wp2_with fail
          clear n1 n2 h1 h2 hb hp hz hul E
          go_loopg [0] ((x :: u)).length (fun g t ws => ∃ u : List UInt8, u.length ≤ 1048576 ∧ g = u.length ∧ t = .string (ba u) ∧ ws = wr ∧ Hid (Lib.trimRightS u [32, 9] = T))
          case atStart => exact ⟨(x :: u), hu, rfl, rfl, rfl, HT⟩
          case round =>
            obtain ⟨u, hu, hg, rfl, hwr, E⟩ := hrel
            subst hwr
            rcases List.eq_nil_or_concat u with rfl | ⟨u, x, rfl⟩
            · have eT : T = [] := by rw [← unhideI E]; rfl
              subst eT
              have hz : (ba ([] : List UInt8)).size = 0 := rfl
              go_wp2_with fail
              go_ret
              exact ⟨rfl, Below.refl _ _⟩
            · rw [List.concat_eq_append] at *
              have hz : (ba (u ++ [x])).size = u.length + 1 := by rw [ba_size]; simp
              have hb : (ba (u ++ [x]))[u.length]'(by omega) = x := ba_last x u
              have hm : (((u.length + 1 : Nat) : Int) - 1) = (u.length : Int) := by omega
              have hp : decide ((0 : Int) < ((u.length + 1 : Nat) : Int)) = true := by simp
              have hul : u.length + 1 ≤ 1048576 := by simpa using hu
              have hii : (u.length : Int) < ((u.length + 1 : Nat) : Int) := by omega
              by_cases h1 : x = 32
              · have E2 : Hid (Lib.trimRightS u [32, 9] = T) := by show _ = _; rw [← unhideI E, right_snoc (.inl h1)]
                subst h1
                go_wp2_with fail
                rw [ba_init]
                go_roundg u.length
                case measure => simp at hg; omega
                case rel => exact ⟨u, by omega, rfl, rfl, rfl, E2⟩
              · by_cases h2 : x = 9
                · have E2 : Hid (Lib.trimRightS u [32, 9] = T) := by show _ = _; rw [← unhideI E, right_snoc (.inr h2)]
                  subst h2
                  go_wp2_with fail
                  rw [ba_init]
                  go_roundg u.length
                  case measure => simp at hg; omega
                  case rel => exact ⟨u, by omega, rfl, rfl, rfl, E2⟩
                · obtain ⟨n1, n2⟩ := blank_no h1 h2
                  have eT : T = u ++ [x] := by rw [← unhideI E, right_stop h1 h2]
                  subst eT
                  go_wp2_with fail
                  go_ret
                  exact ⟨rfl, Below.refl _ _⟩
end Go.Proofs.YtoopgkbefhoeiaaGreatDoor
