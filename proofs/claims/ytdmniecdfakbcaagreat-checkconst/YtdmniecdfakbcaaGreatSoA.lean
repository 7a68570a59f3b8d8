/-
  Texts: letters, digits, words: the program's and the document's.
-/
import Derived.Test.YtdmniecdfakbcaaGreatChecked
import Derived.Test.YtdmniecdfakbcaaGreatMem
import Derived.Test.YtdmniecdfakbcaaGreatReg
import Derived.Test.YtdmniecdfakbcaaGreatTyAz
import Derived.Laws.IdiomStrings
import Derived.Deep.LoopGhost
namespace Go.Proofs.YtdmniecdfakbcaaGreat
open Go.RowKit
set_option linter.unusedSimpArgs false
set_option linter.unusedVariables false

theorem hideI {p : Prop} (h : p) : Hid p := h
theorem unhideI {p : Prop} (h : Hid p) : p := h
theorem bt {u v x : World} (k1 : Below u.heap.size u v) (k2 : Below v.heap.size v x) : Below u.heap.size u x := k1.trans (k2.mono k1.size)
def ltr (c : Int) : Bool := decide (97 ≤ c ∧ c ≤ 122) || decide (65 ≤ c ∧ c ≤ 90) || decide (c = 95)
def dgt (c : Int) : Bool := decide (48 ≤ c ∧ c ≤ 57)
theorem ltr_cases (c : Int) : (97 ≤ c ∧ c ≤ 122 ∧ ltr c = true) ∨ (65 ≤ c ∧ c ≤ 90 ∧ ltr c = true) ∨ (c = 95 ∧ ltr c = true) ∨ (c < 65 ∧ ltr c = false) ∨ (122 < c ∧ ltr c = false) ∨ (90 < c ∧ c < 97 ∧ c ≠ 95 ∧ ltr c = false) := by
  unfold ltr
  by_cases h1 : 97 ≤ c ∧ c ≤ 122
  · left; exact ⟨h1.1, h1.2, by simp [h1]⟩
  · by_cases h2 : 65 ≤ c ∧ c ≤ 90
    · right; left; exact ⟨h2.1, h2.2, by simp [h2]⟩
    · by_cases h3 : c = 95
      · right; right; left; exact ⟨h3, by simp [h3]⟩
      · have e : (decide (97 ≤ c ∧ c ≤ 122) || decide (65 ≤ c ∧ c ≤ 90) || decide (c = 95)) = false := by simp only [h1, h2, h3, decide_false, Bool.or_false]
        rw [e]
        right; right; right
        by_cases h4 : c < 65
        · left; exact ⟨h4, rfl⟩
        · by_cases h5 : 122 < c
          · right; left; exact ⟨h5, rfl⟩
          · right; right; exact ⟨by omega, by omega, h3, rfl⟩
theorem isLetter_any (c : Int) (w : World) : Calls Tryz.prog 110 #[.int .u8 c] w fun e w' => e = .returned (.bool (ltr c)) ∧ w' = w := by
  rcases ltr_cases c with ⟨h1, h2, h⟩ | ⟨h1, h2, h⟩ | ⟨h1, h⟩ | ⟨h1, h⟩ | ⟨h1, h⟩ | ⟨h1, h2, h3, h⟩ <;> rw [h]
  · go_enter Tryz.func110, Tryz.ntmps110
    go_wp2
    go_ret
    exact ⟨rfl, rfl⟩
  · have n1 : ¬ 97 ≤ c := by omega
    go_enter Tryz.func110, Tryz.ntmps110
    go_wp2
    go_ret
    exact ⟨rfl, rfl⟩
  · subst h1
    go_enter Tryz.func110, Tryz.ntmps110
    go_wp2
    go_ret
    exact ⟨rfl, rfl⟩
  · have n1 : ¬ 97 ≤ c := by omega
    have n2 : ¬ 65 ≤ c := by omega
    have n3 : (c == 95) = false := by simp; omega
    go_enter Tryz.func110, Tryz.ntmps110
    go_wp2
    go_ret
    exact ⟨rfl, rfl⟩
  · have n1 : 97 ≤ c := by omega
    have n2 : ¬ c ≤ 122 := by omega
    have n3 : 65 ≤ c := by omega
    have n4 : ¬ c ≤ 90 := by omega
    have n5 : (c == 95) = false := by simp; omega
    go_enter Tryz.func110, Tryz.ntmps110
    go_wp2
    go_ret
    exact ⟨rfl, rfl⟩
  · have n1 : ¬ 97 ≤ c := by omega
    have n3 : 65 ≤ c := by omega
    have n4 : ¬ c ≤ 90 := by omega
    have n5 : (c == 95) = false := by simp; omega
    go_enter Tryz.func110, Tryz.ntmps110
    go_wp2
    go_ret
    exact ⟨rfl, rfl⟩
theorem letter8_any (c : Int) (w : World) : Calls Tryz.prog 22 #[.int .u8 c] w fun e w' => e = .returned (.bool (ltr c)) ∧ w' = w := by
  rcases ltr_cases c with ⟨h1, h2, h⟩ | ⟨h1, h2, h⟩ | ⟨h1, h⟩ | ⟨h1, h⟩ | ⟨h1, h⟩ | ⟨h1, h2, h3, h⟩ <;> rw [h]
  · go_enter Tryz.func22, Tryz.ntmps22
    go_wp2
    go_ret
    exact ⟨rfl, rfl⟩
  · have n1 : ¬ 97 ≤ c := by omega
    go_enter Tryz.func22, Tryz.ntmps22
    go_wp2
    go_ret
    exact ⟨rfl, rfl⟩
  · subst h1
    go_enter Tryz.func22, Tryz.ntmps22
    go_wp2
    go_ret
    exact ⟨rfl, rfl⟩
  · have n1 : ¬ 97 ≤ c := by omega
    have n2 : ¬ 65 ≤ c := by omega
    have n3 : (c == 95) = false := by simp; omega
    go_enter Tryz.func22, Tryz.ntmps22
    go_wp2
    go_ret
    exact ⟨rfl, rfl⟩
  · have n1 : 97 ≤ c := by omega
    have n2 : ¬ c ≤ 122 := by omega
    have n3 : 65 ≤ c := by omega
    have n4 : ¬ c ≤ 90 := by omega
    have n5 : (c == 95) = false := by simp; omega
    go_enter Tryz.func22, Tryz.ntmps22
    go_wp2
    go_ret
    exact ⟨rfl, rfl⟩
  · have n1 : ¬ 97 ≤ c := by omega
    have n3 : 65 ≤ c := by omega
    have n4 : ¬ c ≤ 90 := by omega
    have n5 : (c == 95) = false := by simp; omega
    go_enter Tryz.func22, Tryz.ntmps22
    go_wp2
    go_ret
    exact ⟨rfl, rfl⟩
theorem isDigit_any (c : Int) (w : World) : Calls Tryz.prog 125 #[.int .u8 c] w fun e w' => e = .returned (.bool (dgt c)) ∧ w' = w := by
  by_cases h1 : 48 ≤ c
  · by_cases h2 : c ≤ 57
    · have h : dgt c = true := by unfold dgt; simp [h1, h2]
      rw [h]
      go_enter Tryz.func125, Tryz.ntmps125
      go_wp2
      go_ret
      exact ⟨rfl, rfl⟩
    · have h : dgt c = false := by unfold dgt; simp; omega
      rw [h]
      go_enter Tryz.func125, Tryz.ntmps125
      go_wp2
      go_ret
      exact ⟨rfl, rfl⟩
  · have h : dgt c = false := by unfold dgt; simp; omega
    rw [h]
    go_enter Tryz.func125, Tryz.ntmps125
    go_wp2
    go_ret
    exact ⟨rfl, rfl⟩
theorem digit8_any (c : Int) (w : World) : Calls Tryz.prog 23 #[.int .u8 c] w fun e w' => e = .returned (.bool (dgt c)) ∧ w' = w := by
  by_cases h1 : 48 ≤ c
  · by_cases h2 : c ≤ 57
    · have h : dgt c = true := by unfold dgt; simp [h1, h2]
      rw [h]
      go_enter Tryz.func23, Tryz.ntmps23
      go_wp2
      go_ret
      exact ⟨rfl, rfl⟩
    · have h : dgt c = false := by unfold dgt; simp; omega
      rw [h]
      go_enter Tryz.func23, Tryz.ntmps23
      go_wp2
      go_ret
      exact ⟨rfl, rfl⟩
  · have h : dgt c = false := by unfold dgt; simp; omega
    rw [h]
    go_enter Tryz.func23, Tryz.ntmps23
    go_wp2
    go_ret
    exact ⟨rfl, rfl⟩
/-- The bytes of a text, as a list. -/
def ba (l : List UInt8) : ByteArray := ⟨l.toArray⟩
theorem ba_size (l : List UInt8) : (ba l).size = l.length := rfl
theorem ba_data (l : List UInt8) : (ba l).data.toList = l := by simp [ba]
theorem ba_list (l : List UInt8) : (ba l).toList = l := by rw [ByteArray.toList_eq]; simp [ba]
theorem ba_of (s : ByteArray) : ba s.data.toList = s := by cases s; simp [ba]
theorem ba_at (l : List UInt8) (i : Nat) (h : i < (ba l).size) : (ba l)[i]'h = l[i]'(by rw [ba_size] at h; exact h) := by
  have e : (ba l)[i]'h = l.toArray[i]'(by simpa [ba_size] using h) := rfl
  rw [e, List.getElem_toArray]
theorem ba_extract (s : List UInt8) (i j : Nat) : (ba s).extract i j = ba ((s.take j).drop i) := by
  have h : ∀ a b : ByteArray, a.data = b.data → a = b := fun a b h => by cases a; cases b; exact congrArg _ h
  apply h
  rw [ByteArray.data_extract]
  simp [ba, List.drop_take, Array.toList_extract]
def ch (x : UInt8) : Int := ((x.toNat : Nat) : Int)
def wch (x : UInt8) : Bool := ltr (ch x) || dgt (ch x)
/-- How many letters and digits a text begins with. -/
def wlen : List UInt8 → Nat
  | [] => 0
  | x :: l => if wch x = true then wlen l + 1 else 0
theorem wlen_le : ∀ l, wlen l ≤ l.length
  | [] => Nat.le_refl _
  | x :: l => by rw [wlen]; have := wlen_le l; split <;> simp <;> omega
set_option maxRecDepth 100000 in
set_option maxHeartbeats 2000000 in
theorem wordLength_any (l : List UInt8) (w : World) (hl : l.length ≤ 1048576) : Calls Tryz.prog 111 #[.string (ba l)] w fun e w' => e = .returned (.int .i64 (wlen l)) ∧ w' = w := by
  generalize hR : wlen l = R
  have HR : Hid (wlen (l.drop 0) + 0 = R) := hR
  have hsz := ba_size l
  have HSZ := hideI hsz
  clear hR hsz
  go_enter Tryz.func111, Tryz.ntmps111
  go_wp2_with fail
  go_loopg [3] l.length (fun g t wr => ∃ k : Nat, k ≤ l.length ∧ g = l.length - k ∧ t = .int .i64 (k : Int) ∧ wr = w ∧ Hid (wlen (l.drop k) + k = R))
  case atStart => exact ⟨0, Nat.zero_le _, rfl, rfl, rfl, HR⟩
  case round =>
    obtain ⟨k, hk, hg, rfl, rfl, HE⟩ := hrel
    clear HR
    by_cases hlt : k < l.length
    · have hz : k < (ba l).size := by rw [ba_size]; exact hlt
      have hzI : (k : Int) < ((ba l).size : Int) := by omega
      have ea := ba_at l k hz
      have hE := unhideI HE
      rw [List.drop_eq_getElem_cons hlt, wlen] at hE
      have LA := hideI (fun W => isLetter_any (((ba l)[k].toNat : Nat) : Int) W)
      have DA := hideI (fun W => isDigit_any (((ba l)[k].toNat : Nat) : Int) W)
      have ew : wch (l[k]'hlt) = (ltr (((ba l)[k].toNat : Nat) : Int) || dgt (((ba l)[k].toNat : Nat) : Int)) := by unfold wch ch; rw [ea]
      rw [ew] at hE
      have HE2 := hideI hE
      clear hE ew ea HE
      by_cases h1 : ltr (((ba l)[k].toNat : Nat) : Int) = true
      · rw [h1] at LA HE2
        have HE3 : Hid (wlen (l.drop (k + 1)) + (k + 1) = R) := by
          have := unhideI HE2
          rw [Bool.true_or, if_pos rfl] at this
          unfold Hid; omega
        go_wp2_with fail
        refine (unhideI LA _).mono ?_
        rintro e w1 ⟨rfl, hw⟩
        subst w1
        go_wp2_with fail
        go_roundg (l.length - (k + 1))
        case measure => omega
        case rel => exact ⟨k + 1, by omega, rfl, by go_num, rfl, HE3⟩
      · replace h1 : ltr (((ba l)[k].toNat : Nat) : Int) = false := by simpa using h1
        rw [h1] at LA HE2
        by_cases h2 : dgt (((ba l)[k].toNat : Nat) : Int) = true
        · rw [h2] at DA HE2
          have HE3 : Hid (wlen (l.drop (k + 1)) + (k + 1) = R) := by
            have := unhideI HE2
            rw [Bool.or_true, if_pos rfl] at this
            unfold Hid; omega
          go_wp2_with fail
          refine (unhideI LA _).mono ?_
          rintro e w1 ⟨rfl, hw⟩
          subst w1
          go_wp2_with fail
          refine (unhideI DA _).mono ?_
          rintro e w1 ⟨rfl, hw⟩
          subst w1
          go_wp2_with fail
          go_roundg (l.length - (k + 1))
          case measure => omega
          case rel => exact ⟨k + 1, by omega, rfl, by go_num, rfl, HE3⟩
        · replace h2 : dgt (((ba l)[k].toNat : Nat) : Int) = false := by simpa using h2
          rw [h2] at DA HE2
          have hRk : R = k := by
            have := unhideI HE2
            rw [Bool.or_self, if_neg (by decide)] at this
            omega
          subst hRk
          go_wp2_with fail
          refine (unhideI LA _).mono ?_
          rintro e w1 ⟨rfl, hw⟩
          subst w1
          go_wp2_with fail
          refine (unhideI DA _).mono ?_
          rintro e w1 ⟨rfl, hw⟩
          subst w1
          go_wp2_with fail
          go_ret
          exact ⟨rfl, rfl⟩
    · have hz : ¬ k < (ba l).size := by rw [ba_size]; exact hlt
      have hzI : ¬ (k : Int) < ((ba l).size : Int) := by omega
      have hRk : R = k := by
        have := unhideI HE
        rw [List.drop_eq_nil_of_le (by omega), wlen] at this
        omega
      subst hRk
      go_wp2_with fail
      go_ret
      exact ⟨rfl, rfl⟩
end Go.Proofs.YtdmniecdfakbcaaGreat
