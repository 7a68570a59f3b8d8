/-
  Types of numbers: what Valid, Promote, Common and Convert answer; nothing that was there has turned.
-/
import Derived.Test.YtaidefdbjcgcbaaGreatPlainz
import Derived.Test.YtaidefdbjcgcbaaGreatDivz
import Derived.Test.YtaidefdbjcgcbaaGreatChecked
import Derived.Test.YtaidefdbjcgcbaaGreatMemz
import Derived.Test.YtaidefdbjcgcbaaGreatRegz
import Derived.Laws.IdiomStrings
import Derived.Deep.LoopGhost
namespace Go.Proofs.YtaidefdbjcgcbaaGreat
open Go.RowKit
set_option linter.unusedSimpArgs false
set_option linter.unusedVariables false

theorem bT {u v x : World} (k1 : Below u.heap.size u v) (k2 : Below v.heap.size v x) : Below u.heap.size u x := k1.trans (k2.mono k1.size)

theorem Box.put0 {w : World} {b : Nat} {x y : Value} (h : Box w b [x, y]) (u : Value) : (w.setCell ⟨b, 0, none⟩ u).cell? ⟨b, 0, none⟩ = some u := (h.set (j := 0) (u := u) (by simp)).2.1 0 _ rfl
theorem Box.put1 {w : World} {b : Nat} {x y : Value} (h : Box w b [x, y]) (u v : Value) : ((w.setCell ⟨b, 0, none⟩ u).setCell ⟨b, 1, none⟩ v).cell? ⟨b, 1, none⟩ = some v := ((h.set (j := 0) (u := u) (by simp)).set (j := 1) (u := v) (by simp)).2.1 1 _ rfl
theorem Box.put {w : World} {b : Nat} {x y : Value} (h : Box w b [x, y]) (u v : Value) : Box ((w.setCell ⟨b, 0, none⟩ u).setCell ⟨b, 1, none⟩ v) b [u, v] := (h.set (j := 0) (u := u) (by simp)).set (j := 1) (u := v) (by simp)

theorem tvalid_yes (b : Int) (s : Bool) (w : World) (h : IsW b) : Calls Tryz.prog 83 #[.agg #[.int .i64 b, .bool s]] w fun e w' => e = .returned (.bool true) ∧ Below w.heap.size w w' := by
  go_enter Tryz.func83, Tryz.ntmps83
  go_wp2_with (go_at_call 120; refine (width_yes _ h _).mono ?_; rintro e w' ⟨rfl, rfl⟩)
  go_ret
  exact ⟨rfl, below_a _ _⟩
theorem tvalid_no (b : Int) (s : Bool) (w : World) (h : NoW b) : Calls Tryz.prog 83 #[.agg #[.int .i64 b, .bool s]] w fun e w' => e = .returned (.bool false) ∧ Below w.heap.size w w' := by
  go_enter Tryz.func83, Tryz.ntmps83
  go_wp2_with (go_at_call 120; refine (width_no _ _ h).mono ?_; rintro e w' ⟨rfl, rfl⟩)
  go_ret
  exact ⟨rfl, below_a _ _⟩

theorem i16_any (w : World) : Calls Tryz.prog 126 #[] w fun e w' => e = .returned (.agg #[.int .i64 16, .bool true]) ∧ Below w.heap.size w w' := by
  go_enter Tryz.func126, Tryz.ntmps126
  go_wp2
  exact bodyPost_ret (v := .agg #[.int .i64 16, .bool true]) (by simp [results, Tryz.results126, go_sem]) rfl ⟨rfl, (by repeat (first | exact (Below.refl _ _) | refine Below.setCell ?_ (by first | exact Nat.le_refl _ | (simp; done) | omega | (simp; omega)) _ | refine Below.alloc ?_ (by first | (simp; done) | omega | (simp; omega)) _))⟩

/-- A type made as wide as a word. -/
def pb (b : Int) : Int := if b < 16 then 16 else b
def ps (b : Int) (s : Bool) : Bool := if b < 16 then true else s
theorem promote_any (b : Int) (s : Bool) (w : World) : Calls Tryz.prog 124 #[.agg #[.int .i64 b, .bool s]] w fun e w' => e = .returned (.agg #[.int .i64 (pb b), .bool (ps b s)]) ∧ Below w.heap.size w w' := by
  by_cases h : b < 16
  · have e1 : pb b = 16 := by unfold pb; rw [if_pos h]
    have e2 : ps b s = true := by unfold ps; rw [if_pos h]
    rw [e1, e2]
    have h0 : decide (b < 16) = true := by simpa using h
    clear e1 e2
    go_enter Tryz.func124, Tryz.ntmps124
    go_wp2_with (go_at_call 126; refine (i16_any _).mono ?_; rintro e w1 ⟨rfl, k1⟩; have B1 := hide (((Box.new (w.alloc (.cells #[.int .i64 b, .bool s] 34)) #[.int .i64 0, .bool false] 34)).step k1); obtain ⟨z0, z1⟩ := (unhide B1).at2; have zf := (unhide B1).2.2; have zl := (unhide B1).1; have p0 := (unhide B1).put0; have p1 := (unhide B1).put1; simp only [World.size_alloc] at z0 z1 zf zl p0 p1)
    exact bodyPost_ret (v := .agg #[.int .i64 16, .bool true]) (by simp [results, Tryz.results124, go_sem, p0, p1]) rfl ⟨rfl, (by repeat (first | exact (bT (below_a _ _) (bT (below_a _ _) k1)) | refine Below.setCell ?_ (by first | exact Nat.le_refl _ | (simp; done) | omega | (simp; omega)) _ | refine Below.alloc ?_ (by first | (simp; done) | omega | (simp; omega)) _))⟩
  · have e1 : pb b = b := by unfold pb; rw [if_neg h]
    have e2 : ps b s = s := by unfold ps; rw [if_neg h]
    rw [e1, e2]
    have h0 : decide (b < 16) = false := by simpa using h
    clear e1 e2
    go_enter Tryz.func124, Tryz.ntmps124
    go_wp2
    exact bodyPost_ret (v := .agg #[.int .i64 b, .bool s]) (by simp [results, Tryz.results124, go_sem]) rfl ⟨rfl, (by repeat (first | exact (Below.refl _ _) | refine Below.setCell ?_ (by first | exact Nat.le_refl _ | (simp; done) | omega | (simp; omega)) _ | refine Below.alloc ?_ (by first | (simp; done) | omega | (simp; omega)) _))⟩
end Go.Proofs.YtaidefdbjcgcbaaGreat

/-
  Texts: letters, digits, words: the program's and the document's.
-/
namespace Go.Proofs.YtaidefdbjcgcbaaGreat
open Go.RowKit
set_option linter.unusedSimpArgs false
set_option linter.unusedVariables false

theorem hideI {p : Prop} (h : p) : Hid p := h
theorem unhideI {p : Prop} (h : Hid p) : p := h
theorem bt {u v x : World} (k1 : Below u.heap.size u v) (k2 : Below v.heap.size v x) : Below u.heap.size u x := k1.trans (k2.mono k1.size)
def ltr (c : Int) : Bool := decide (97 ≤ c ∧ c ≤ 122) || decide (65 ≤ c ∧ c ≤ 90) || decide (c = 95)
def dgt (c : Int) : Bool := decide (48 ≤ c ∧ c ≤ 57)
theorem ltr_cases (c : Int) : (97 ≤ c ∧ c ≤ 122 ∧ ltr c = true) ∨ (65 ≤ c ∧ c ≤ 90 ∧ ltr c = true) ∨ (c = 95 ∧ ltr c = true) ∨ (c < 65 ∧ ltr c = false) ∨ (122 < c ∧ ltr c = false) ∨ (90 < c ∧ c < 97 ∧ c ≠ 95 ∧ ltr c = false) := by
  unfold ltr
  by_cases h1 : 97 ≤ c ∧ c ≤ 122
  · left; exact ⟨h1.1, h1.2, by simp [h1]⟩
  · by_cases h2 : 65 ≤ c ∧ c ≤ 90
    · right; left; exact ⟨h2.1, h2.2, by simp [h2]⟩
    · by_cases h3 : c = 95
      · right; right; left; exact ⟨h3, by simp [h3]⟩
      · have e : (decide (97 ≤ c ∧ c ≤ 122) || decide (65 ≤ c ∧ c ≤ 90) || decide (c = 95)) = false := by simp only [h1, h2, h3, decide_false, Bool.or_false]
        rw [e]
        right; right; right
        by_cases h4 : c < 65
        · left; exact ⟨h4, rfl⟩
        · by_cases h5 : 122 < c
          · right; left; exact ⟨h5, rfl⟩
          · right; right; exact ⟨by omega, by omega, h3, rfl⟩
theorem isLetter_any (c : Int) (w : World) : Calls Tryz.prog 21 #[.int .u8 c] w fun e w' => e = .returned (.bool (ltr c)) ∧ w' = w := by
  rcases ltr_cases c with ⟨h1, h2, h⟩ | ⟨h1, h2, h⟩ | ⟨h1, h⟩ | ⟨h1, h⟩ | ⟨h1, h⟩ | ⟨h1, h2, h3, h⟩ <;> rw [h]
  · go_enter Tryz.func21, Tryz.ntmps21
    go_wp2
    go_ret
    exact ⟨rfl, rfl⟩
  · have n1 : ¬ 97 ≤ c := by omega
    go_enter Tryz.func21, Tryz.ntmps21
    go_wp2
    go_ret
    exact ⟨rfl, rfl⟩
  · subst h1
    go_enter Tryz.func21, Tryz.ntmps21
    go_wp2
    go_ret
    exact ⟨rfl, rfl⟩
  · have n1 : ¬ 97 ≤ c := by omega
    have n2 : ¬ 65 ≤ c := by omega
    have n3 : (c == 95) = false := by simp; omega
    go_enter Tryz.func21, Tryz.ntmps21
    go_wp2
    go_ret
    exact ⟨rfl, rfl⟩
  · have n1 : 97 ≤ c := by omega
    have n2 : ¬ c ≤ 122 := by omega
    have n3 : 65 ≤ c := by omega
    have n4 : ¬ c ≤ 90 := by omega
    have n5 : (c == 95) = false := by simp; omega
    go_enter Tryz.func21, Tryz.ntmps21
    go_wp2
    go_ret
    exact ⟨rfl, rfl⟩
  · have n1 : ¬ 97 ≤ c := by omega
    have n3 : 65 ≤ c := by omega
    have n4 : ¬ c ≤ 90 := by omega
    have n5 : (c == 95) = false := by simp; omega
    go_enter Tryz.func21, Tryz.ntmps21
    go_wp2
    go_ret
    exact ⟨rfl, rfl⟩
theorem letter8_any (c : Int) (w : World) : Calls Tryz.prog 55 #[.int .u8 c] w fun e w' => e = .returned (.bool (ltr c)) ∧ w' = w := by
  rcases ltr_cases c with ⟨h1, h2, h⟩ | ⟨h1, h2, h⟩ | ⟨h1, h⟩ | ⟨h1, h⟩ | ⟨h1, h⟩ | ⟨h1, h2, h3, h⟩ <;> rw [h]
  · go_enter Tryz.func55, Tryz.ntmps55
    go_wp2
    go_ret
    exact ⟨rfl, rfl⟩
  · have n1 : ¬ 97 ≤ c := by omega
    go_enter Tryz.func55, Tryz.ntmps55
    go_wp2
    go_ret
    exact ⟨rfl, rfl⟩
  · subst h1
    go_enter Tryz.func55, Tryz.ntmps55
    go_wp2
    go_ret
    exact ⟨rfl, rfl⟩
  · have n1 : ¬ 97 ≤ c := by omega
    have n2 : ¬ 65 ≤ c := by omega
    have n3 : (c == 95) = false := by simp; omega
    go_enter Tryz.func55, Tryz.ntmps55
    go_wp2
    go_ret
    exact ⟨rfl, rfl⟩
  · have n1 : 97 ≤ c := by omega
    have n2 : ¬ c ≤ 122 := by omega
    have n3 : 65 ≤ c := by omega
    have n4 : ¬ c ≤ 90 := by omega
    have n5 : (c == 95) = false := by simp; omega
    go_enter Tryz.func55, Tryz.ntmps55
    go_wp2
    go_ret
    exact ⟨rfl, rfl⟩
  · have n1 : ¬ 97 ≤ c := by omega
    have n3 : 65 ≤ c := by omega
    have n4 : ¬ c ≤ 90 := by omega
    have n5 : (c == 95) = false := by simp; omega
    go_enter Tryz.func55, Tryz.ntmps55
    go_wp2
    go_ret
    exact ⟨rfl, rfl⟩
theorem isDigit_any (c : Int) (w : World) : Calls Tryz.prog 45 #[.int .u8 c] w fun e w' => e = .returned (.bool (dgt c)) ∧ w' = w := by
  by_cases h1 : 48 ≤ c
  · by_cases h2 : c ≤ 57
    · have h : dgt c = true := by unfold dgt; simp [h1, h2]
      rw [h]
      go_enter Tryz.func45, Tryz.ntmps45
      go_wp2
      go_ret
      exact ⟨rfl, rfl⟩
    · have h : dgt c = false := by unfold dgt; simp; omega
      rw [h]
      go_enter Tryz.func45, Tryz.ntmps45
      go_wp2
      go_ret
      exact ⟨rfl, rfl⟩
  · have h : dgt c = false := by unfold dgt; simp; omega
    rw [h]
    go_enter Tryz.func45, Tryz.ntmps45
    go_wp2
    go_ret
    exact ⟨rfl, rfl⟩
theorem digit8_any (c : Int) (w : World) : Calls Tryz.prog 56 #[.int .u8 c] w fun e w' => e = .returned (.bool (dgt c)) ∧ w' = w := by
  by_cases h1 : 48 ≤ c
  · by_cases h2 : c ≤ 57
    · have h : dgt c = true := by unfold dgt; simp [h1, h2]
      rw [h]
      go_enter Tryz.func56, Tryz.ntmps56
      go_wp2
      go_ret
      exact ⟨rfl, rfl⟩
    · have h : dgt c = false := by unfold dgt; simp; omega
      rw [h]
      go_enter Tryz.func56, Tryz.ntmps56
      go_wp2
      go_ret
      exact ⟨rfl, rfl⟩
  · have h : dgt c = false := by unfold dgt; simp; omega
    rw [h]
    go_enter Tryz.func56, Tryz.ntmps56
    go_wp2
    go_ret
    exact ⟨rfl, rfl⟩
/-- The bytes of a text, as a list. -/
def ba (l : List UInt8) : ByteArray := ⟨l.toArray⟩
theorem ba_size (l : List UInt8) : (ba l).size = l.length := rfl
theorem ba_data (l : List UInt8) : (ba l).data.toList = l := by simp [ba]
theorem ba_list (l : List UInt8) : (ba l).toList = l := by rw [ByteArray.toList_eq]; simp [ba]
theorem ba_of (s : ByteArray) : ba s.data.toList = s := by cases s; simp [ba]
theorem ba_at (l : List UInt8) (i : Nat) (h : i < (ba l).size) : (ba l)[i]'h = l[i]'(by rw [ba_size] at h; exact h) := by
  have e : (ba l)[i]'h = l.toArray[i]'(by simpa [ba_size] using h) := rfl
  rw [e, List.getElem_toArray]
theorem ba_extract (s : List UInt8) (i j : Nat) : (ba s).extract i j = ba ((s.take j).drop i) := by
  have h : ∀ a b : ByteArray, a.data = b.data → a = b := fun a b h => by cases a; cases b; exact congrArg _ h
  apply h
  rw [ByteArray.data_extract]
  simp [ba, List.drop_take, Array.toList_extract]
def ch (x : UInt8) : Int := ((x.toNat : Nat) : Int)
def wch (x : UInt8) : Bool := ltr (ch x) || dgt (ch x)
/-- How many letters and digits a text begins with. -/
def wlen : List UInt8 → Nat
  | [] => 0
  | x :: l => if wch x = true then wlen l + 1 else 0
theorem wlen_le : ∀ l, wlen l ≤ l.length
  | [] => Nat.le_refl _
  | x :: l => by rw [wlen]; have := wlen_le l; split <;> simp <;> omega
set_option maxRecDepth 100000 in
set_option maxHeartbeats 2000000 in
theorem wordLength_any (l : List UInt8) (w : World) (hl : l.length ≤ 1048576) : Calls Tryz.prog 22 #[.string (ba l)] w fun e w' => e = .returned (.int .i64 (wlen l)) ∧ w' = w := by
  generalize hR : wlen l = R
  have HR : Hid (wlen (l.drop 0) + 0 = R) := hR
  have hsz := ba_size l
  have HSZ := hideI hsz
  clear hR hsz
  go_enter Tryz.func22, Tryz.ntmps22
  go_wp2_with fail
  go_loopg [3] l.length (fun g t wr => ∃ k : Nat, k ≤ l.length ∧ g = l.length - k ∧ t = .int .i64 (k : Int) ∧ wr = w ∧ Hid (wlen (l.drop k) + k = R))
  case atStart => exact ⟨0, Nat.zero_le _, rfl, rfl, rfl, HR⟩
  case round =>
    obtain ⟨k, hk, hg, rfl, rfl, HE⟩ := hrel
    clear HR
    by_cases hlt : k < l.length
    · have hz : k < (ba l).size := by rw [ba_size]; exact hlt
      have hzI : (k : Int) < ((ba l).size : Int) := by omega
      have ea := ba_at l k hz
      have hE := unhideI HE
      rw [List.drop_eq_getElem_cons hlt, wlen] at hE
      have LA := hideI (fun W => isLetter_any (((ba l)[k].toNat : Nat) : Int) W)
      have DA := hideI (fun W => isDigit_any (((ba l)[k].toNat : Nat) : Int) W)
      have ew : wch (l[k]'hlt) = (ltr (((ba l)[k].toNat : Nat) : Int) || dgt (((ba l)[k].toNat : Nat) : Int)) := by unfold wch ch; rw [ea]
      rw [ew] at hE
      have HE2 := hideI hE
      clear hE ew ea HE
      by_cases h1 : ltr (((ba l)[k].toNat : Nat) : Int) = true
      · rw [h1] at LA HE2
        have HE3 : Hid (wlen (l.drop (k + 1)) + (k + 1) = R) := by
          have := unhideI HE2
          rw [Bool.true_or, if_pos rfl] at this
          unfold Hid; omega
        go_wp2_with fail
        refine (unhideI LA _).mono ?_
        rintro e w1 ⟨rfl, hw⟩
        subst w1
        go_wp2_with fail
        go_roundg (l.length - (k + 1))
        case measure => omega
        case rel => exact ⟨k + 1, by omega, rfl, by go_num, rfl, HE3⟩
      · replace h1 : ltr (((ba l)[k].toNat : Nat) : Int) = false := by simpa using h1
        rw [h1] at LA HE2
        by_cases h2 : dgt (((ba l)[k].toNat : Nat) : Int) = true
        · rw [h2] at DA HE2
          have HE3 : Hid (wlen (l.drop (k + 1)) + (k + 1) = R) := by
            have := unhideI HE2
            rw [Bool.or_true, if_pos rfl] at this
            unfold Hid; omega
          go_wp2_with fail
          refine (unhideI LA _).mono ?_
          rintro e w1 ⟨rfl, hw⟩
          subst w1
          go_wp2_with fail
          refine (unhideI DA _).mono ?_
          rintro e w1 ⟨rfl, hw⟩
          subst w1
          go_wp2_with fail
          go_roundg (l.length - (k + 1))
          case measure => omega
          case rel => exact ⟨k + 1, by omega, rfl, by go_num, rfl, HE3⟩
        · replace h2 : dgt (((ba l)[k].toNat : Nat) : Int) = false := by simpa using h2
          rw [h2] at DA HE2
          have hRk : R = k := by
            have := unhideI HE2
            rw [Bool.or_self, if_neg (by decide)] at this
            omega
          subst hRk
          go_wp2_with fail
          refine (unhideI LA _).mono ?_
          rintro e w1 ⟨rfl, hw⟩
          subst w1
          go_wp2_with fail
          refine (unhideI DA _).mono ?_
          rintro e w1 ⟨rfl, hw⟩
          subst w1
          go_wp2_with fail
          go_ret
          exact ⟨rfl, rfl⟩
    · have hz : ¬ k < (ba l).size := by rw [ba_size]; exact hlt
      have hzI : ¬ (k : Int) < ((ba l).size : Int) := by omega
      have hRk : R = k := by
        have := unhideI HE
        rw [List.drop_eq_nil_of_le (by omega), wlen] at this
        omega
      subst hRk
      go_wp2_with fail
      go_ret
      exact ⟨rfl, rfl⟩
end Go.Proofs.YtaidefdbjcgcbaaGreat
