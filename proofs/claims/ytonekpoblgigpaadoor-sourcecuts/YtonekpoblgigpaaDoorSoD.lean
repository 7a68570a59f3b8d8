/-
  Texts: blanks and remarks are passed by.
-/
import Derived.Test.YtonekpoblgigpaaDoorSoC
import Derived.Test.YtonekpoblgigpaaDoorShelf
namespace Go.Proofs.YtonekpoblgigpaaDoor
open Go.RowKit
set_option linter.unusedSimpArgs false
set_option linter.unusedVariables false

/-- How long a remark is. -/
def rmk : List UInt8 → Nat
  | [] => 0
  | x :: l => if x = 10 then 0 else rmk l + 1
theorem rmk_le : ∀ l, rmk l ≤ l.length
  | [] => Nat.le_refl _
  | x :: l => by rw [rmk]; have := rmk_le l; split <;> simp <;> omega
theorem rmk_index : ∀ l : List UInt8, (0 ≤ Lib.indexByte l 10 ∧ (rmk l : Int) = Lib.indexByte l 10) ∨ (Lib.indexByte l 10 = -1 ∧ rmk l = l.length)
  | [] => .inr ⟨rfl, rfl⟩
  | x :: l => by
    rw [Lib.indexByte, rmk]
    by_cases h : x = 10
    · subst h; left; simp
    · have h2 : (x == 10) = false := beq_eq_false_iff_ne.2 h
      rw [if_neg h, if_neg (by rw [h2]; decide)]
      rcases rmk_index l with ⟨h3, h4⟩ | ⟨h3, h4⟩
      · left
        rw [if_neg (by simp; omega)]
        exact ⟨by omega, by omega⟩
      · right
        rw [h3, h4]
        exact ⟨rfl, by simp⟩
def blk (x : UInt8) : Bool := ch x == 32 || ch x == 9 || ch x == 10
def isR (l : List UInt8) : Bool := match l with | x :: y :: _ => x == 47 && y == 47 | _ => false
/-- How many bytes are passed by. -/
def skp : Nat → List UInt8 → Nat
  | 0, _ => 0
  | _ + 1, [] => 0
  | f + 1, x :: l => if blk x = true then skp f l + 1 else if isR (x :: l) = true then rmk (x :: l) + skp f ((x :: l).drop (rmk (x :: l))) else 0
theorem rmk_pos {x : UInt8} {l : List UInt8} (h : isR (x :: l) = true) : 1 ≤ rmk (x :: l) := by
  have hx : x = 47 := by
    cases l with
    | nil => simp [isR] at h
    | cons y l => simp only [isR, Bool.and_eq_true, beq_iff_eq] at h; exact h.1
  subst hx
  rw [rmk, if_neg (by decide)]; omega
theorem skp_le : ∀ f l, skp f l ≤ l.length
  | 0, _ => Nat.zero_le _
  | _ + 1, [] => Nat.le_refl _
  | f + 1, x :: l => by
    rw [skp]
    split
    · have := skp_le f l; simp; omega
    · split
      · have h1 := skp_le f ((x :: l).drop (rmk (x :: l)))
        have h2 := rmk_le (x :: l)
        rw [List.length_drop] at h1
        omega
      · omega
theorem skp_fuel : ∀ f l, l.length ≤ f → skp (f + 1) l = skp f l
  | 0, l, h => by
    have : l = [] := List.eq_nil_of_length_eq_zero (by omega)
    subst this; rfl
  | f + 1, [], _ => rfl
  | f + 1, x :: l, h => by
    rw [skp, skp, skp_fuel f l (by simpa using h)]
    split
    · rfl
    · split
      · rename_i hr
        have := rmk_pos hr
        rw [skp_fuel f _ (by rw [List.length_drop]; simp at h ⊢; omega)]
      · rfl
theorem remark_any (l : List UInt8) (w : World) : Calls Tryd.prog 24 #[.string (ba l)] w fun e w' => e = .returned (.int .i64 (rmk l)) ∧ w' = w := by
  have IA := hideI (fun W => Tryd.strings_IndexByte (ba l) 10 W)
  rw [ba_data] at IA
  have hr := rmk_index l
  rw [show ((10 : Int).toNat.toUInt8) = (10 : UInt8) from rfl] at IA
  rcases hr with ⟨h1, h2⟩ | ⟨h1, h2⟩
  · rw [h2]
    generalize Lib.indexByte l 10 = I at *
    clear h2
    go_enter Tryd.func24, Tryd.ntmps24
    go_wp2_with fail
    refine (unhideI IA _).mono ?_
    rintro e w1 ⟨rfl, hw⟩
    subst w1
    go_wp2_with fail
    go_ret
    exact ⟨rfl, rfl⟩
  · rw [h2]
    rw [h1] at IA
    go_enter Tryd.func24, Tryd.ntmps24
    go_wp2_with fail
    refine (unhideI IA _).mono ?_
    rintro e w1 ⟨rfl, hw⟩
    subst w1
    go_wp2_with fail
    go_ret
    exact ⟨rfl, rfl⟩
theorem kept_any (l : List UInt8) (w : World) (hl : l.length ≤ 1048576) : Calls Tryd.prog 25 #[.string (ba l)] w fun e w' => e = .returned (.string (ba l)) ∧ Below w.heap.size w w' := by
  have CA := hideI (fun W => Tryd.stringslite_Clone (ba l) W (by rw [ba_size]; omega))
  have SA : Hid (∀ W, Calls Tryd.prog 33 #[.string (ba l)] W fun e w' => e = .returned (.string (ba l)) ∧ Below W.heap.size W w') := by
    intro W
    go_enter Tryd.func33, Tryd.ntmps33
    go_wp2_with fail
    refine (unhideI CA _).mono ?_
    rintro e w1 ⟨rfl, k1⟩
    go_wp2_with fail
    go_ret
    exact ⟨rfl, k1⟩
  go_enter Tryd.func25, Tryd.ntmps25
  go_wp2_with fail
  refine (unhideI SA _).mono ?_
  rintro e w1 ⟨rfl, k1⟩
  go_wp2_with fail
  go_ret
  exact ⟨rfl, k1⟩
theorem ba_drop (l : List UInt8) (i : Nat) : (ba l).extract i (ba l).size = ba (l.drop i) := by rw [ba_extract, ba_size, List.take_length]
theorem pre_R (l : List UInt8) : Lib.hasPrefix l [47, 47] = isR l := by
  unfold Lib.hasPrefix
  match l with
  | [] => rfl
  | [x] =>
    show ((47 : UInt8) == x && false) = false
    rw [Bool.and_false]
  | x :: y :: r =>
    show ((47 : UInt8) == x && ((47 : UInt8) == y && true)) = (x == 47 && y == 47)
    rw [Bool.and_true, BEq.comm (a := (47 : UInt8)) (b := x), BEq.comm (a := (47 : UInt8)) (b := y)]
theorem u8_eq (x : UInt8) (c : UInt8) : (ch x == ch c) = (x == c) := by
  unfold ch
  by_cases h : x = c
  · subst h; simp
  · have : ¬ x.toNat = c.toNat := fun e => h (UInt8.toNat_inj.1 e)
    rw [beq_eq_false_iff_ne.2 h, beq_eq_false_iff_ne.2 (by omega)]
set_option maxRecDepth 100000 in
set_option maxHeartbeats 4000000 in
theorem skipped_any (l : List UInt8) (a : Nat) (w : World) (hl : l.length ≤ 65536) (ha : a ≤ l.length) : Calls Tryd.prog 16 #[.string (ba l), .int .i64 (a : Int)] w fun e w' => e = .returned (.int .i64 ((a + skp l.length (l.drop a) : Nat) : Int)) ∧ w' = w := by
  generalize hR : a + skp l.length (l.drop a) = R
  have HR := hideI hR
  have HD := hideI (fun i => ba_drop l i)
  have HBS := hideI (ba_size l)
  clear hR
  go_enter Tryd.func16, Tryd.ntmps16
  go_wp2_with fail
  go_loopg [1] (l.length - a) (fun g t wr => ∃ (i f : Nat), i ≤ l.length ∧ g = l.length - i ∧ t = .int .i64 (i : Int) ∧ wr = w ∧ l.length - i ≤ f ∧ Hid (i + skp f (l.drop i) = R))
  case atStart => exact ⟨a, l.length, ha, rfl, rfl, rfl, by omega, HR⟩
  case round =>
    obtain ⟨i, f, hi, hg, rfl, rfl, hf, HE⟩ := hrel
    clear HR
    by_cases hlt : i < l.length
    · have hz : i < (ba l).size := hlt
      have hzI : (i : Int) < ((ba l).size : Int) := by rw [ba_size]; omega
      have hzI2 : ((i : Int) ≤ ((ba l).size : Int)) := by omega
      obtain ⟨f', rfl⟩ : ∃ f', f = f' + 1 := ⟨f - 1, by omega⟩
      have hd := List.drop_eq_getElem_cons hlt
      have ea := ba_at l i hz
      have hch : ch (l[i]'hlt) = (((ba l)[i].toNat : Nat) : Int) := by unfold ch; rw [← ea]
      have HPX := hideI (fun W => Tryd.strings_HasPrefix (ba (l.drop i)) (ba [47, 47]) W)
      rw [ba_data, ba_data, pre_R] at HPX
      have RM := hideI (fun W => remark_any (l.drop i) W)
      have hbe : blk (l[i]'hlt) = ((((((ba l)[i].toNat : Nat) : Int) == 32) || ((((ba l)[i].toNat : Nat) : Int) == 9)) || ((((ba l)[i].toNat : Nat) : Int) == 10)) := by unfold blk; rw [hch]
      clear ea hch
      by_cases h1 : ((((ba l)[i].toNat : Nat) : Int) == 32) = true
      · have hbk : blk (l[i]'hlt) = true := by rw [hbe, h1]; rfl
        clear hbe
        have HE2 : Hid ((i + 1) + skp f' (l.drop (i + 1)) = R) := by
          have := unhideI HE
          rw [hd, skp, if_pos hbk] at this
          unfold Hid; omega
        clear HE hd hbk HPX RM
        go_wp2_with fail
        go_roundg (l.length - (i + 1))
        case measure => omega
        case rel => exact ⟨i + 1, f', by omega, rfl, by go_num, rfl, by omega, HE2⟩
      · replace h1 : ((((ba l)[i].toNat : Nat) : Int) == 32) = false := by simpa using h1
        by_cases h2 : ((((ba l)[i].toNat : Nat) : Int) == 9) = true
        · have hbk : blk (l[i]'hlt) = true := by rw [hbe, h1, h2]; rfl
          clear hbe
          have HE2 : Hid ((i + 1) + skp f' (l.drop (i + 1)) = R) := by
            have := unhideI HE
            rw [hd, skp, if_pos hbk] at this
            unfold Hid; omega
          clear HE hd hbk HPX RM
          go_wp2_with fail
          go_roundg (l.length - (i + 1))
          case measure => omega
          case rel => exact ⟨i + 1, f', by omega, rfl, by go_num, rfl, by omega, HE2⟩
        · replace h2 : ((((ba l)[i].toNat : Nat) : Int) == 9) = false := by simpa using h2
          by_cases h3 : ((((ba l)[i].toNat : Nat) : Int) == 10) = true
          · have hbk : blk (l[i]'hlt) = true := by rw [hbe, h1, h2, h3]; rfl
            clear hbe
            have HE2 : Hid ((i + 1) + skp f' (l.drop (i + 1)) = R) := by
              have := unhideI HE
              rw [hd, skp, if_pos hbk] at this
              unfold Hid; omega
            clear HE hd hbk HPX RM
            go_wp2_with fail
            go_roundg (l.length - (i + 1))
            case measure => omega
            case rel => exact ⟨i + 1, f', by omega, rfl, by go_num, rfl, by omega, HE2⟩
          · replace h3 : ((((ba l)[i].toNat : Nat) : Int) == 10) = false := by simpa using h3
            have hbk : blk (l[i]'hlt) = false := by rw [hbe, h1, h2, h3]; rfl
            have hE := unhideI HE
            rw [hd, skp, if_neg (by simp [hbk]), ← hd] at hE
            have HD1 := hideI (ba_drop l i)
            have ebl : ba [47, 47] = ⟨#[47, 47]⟩ := rfl
            rw [ebl] at HPX
            clear hbe hbk
            by_cases hr : isR (l.drop i) = true
            · rw [if_pos hr] at hE
              rw [hr] at HPX
              have hrp : 1 ≤ rmk (l.drop i) := by rw [hd]; exact rmk_pos (by rw [← hd]; exact hr)
              have hrl := rmk_le (l.drop i)
              rw [List.length_drop] at hrl
              have HE2 : Hid ((i + rmk (l.drop i)) + skp f' (l.drop (i + rmk (l.drop i))) = R) := by
                rw [List.drop_drop] at hE
                unfold Hid; omega
              clear hE HE hd
              generalize rmk (l.drop i) = M at *
              go_wp2_with fail
              rw [unhideI HD1]
              refine (unhideI HPX _).mono ?_
              rintro e w1 ⟨rfl, hw⟩
              subst w1
              go_wp2_with fail
              rw [unhideI HD1]
              refine (unhideI RM _).mono ?_
              rintro e w1 ⟨rfl, hw⟩
              subst w1
              go_wp2_with fail
              go_roundg (l.length - (i + M))
              case measure => omega
              case rel => exact ⟨i + M, f', by omega, rfl, by go_num, rfl, by omega, HE2⟩
            · rw [if_neg hr] at hE
              have hRi : R = i := by omega
              subst hRi
              replace hr : isR (l.drop R) = false := by simpa using hr
              rw [hr] at HPX
              clear hE HE hd
              go_wp2_with fail
              rw [unhideI HD1]
              refine (unhideI HPX _).mono ?_
              rintro e w1 ⟨rfl, hw⟩
              subst w1
              go_wp2_with fail
              go_ret
              exact ⟨rfl, rfl⟩
    · have hzI : ¬ (i : Int) < ((ba l).size : Int) := by rw [ba_size]; omega
      have hRi : R = i := by
        have := unhideI HE
        have h0 := skp_le f (l.drop i)
        rw [List.length_drop] at h0
        omega
      subst hRi
      clear HE
      go_wp2_with fail
      go_ret
      exact ⟨rfl, rfl⟩
end Go.Proofs.YtonekpoblgigpaaDoor
