/-
  The document's linker as a plain function.
-/
import Derived.Test.YteoifpkbknkpjaaL5B
import Derived.Test.YteoifpkbknkpjaaL5Az
import Derived.Test.YteoifpkbknkpjaaLkXz
import Derived.Test.YteoifpkbknkpjaaLkL0
import Derived.Maps.AppendAt
import Derived.Laws.OwnMore
import Derived.OneCell
namespace Go.Proofs.Yteoifpkbknkpjaa
open Go.RowKit Go.Maps
set_option linter.unusedSimpArgs false
set_option linter.unusedVariables false

/-- Which unit has what unit m speaks of; below 0: none. -/
def rfU (us : List Un) (m : Int) (k : List UInt8) : Int := if ownK k = true ∧ 0 ≤ whrL (uLn us m) k 0 then m else holdU us 0 k
def addO (o : List Int) (h : Int) : List Int := if o.any (fun k => k == h) = true then o else o ++ [h]
/-- The order grows by what a unit's lines speak of. -/
def ordU (us : List Un) (m : Int) : List Ln → List Int → Bool × List Int
  | [], o => (true, o)
  | y :: r, o => if emp y.ref = true then ordU us m r o else if rfU us m y.ref.toList < 0 then (false, o) else ordU us m r (addO o (rfU us m y.ref.toList))
/-- How many words units are. -/
def sumL (us : List Un) : List Int → Int
  | [] => 0
  | m :: l => lenU us m + sumL us l
def ordR (us : List Un) : Nat → Nat → List Int → List Int × Int × Int
  | 0, _, o => (o, 0, 0)
  | f + 1, i, o => match o[i]? with
    | none => (o, 0, 0)
    | some m => if 65536 < sumL us (o.take (i + 1)) then ([], 4, m) else if (ordU us m (uLn us m) o).1 = true then ordR us f (i + 1) (ordU us m (uLn us m) o).2 else ([], 6, m)
theorem begL_at (us : List Un) : ∀ (o : List Int) (n : Int) (j : Nat), j ≤ o.length → (begL us o n)[j]? = some (n + sumL us (o.take j))
  | [], n, j, h => by simp at h; subst h; simp [begL, sumL]
  | m :: o, n, 0, _ => by simp [begL, sumL]
  | m :: o, n, j + 1, h => by
    rw [begL, List.getElem?_cons_succ, begL_at us o _ j (by simpa using h), List.take_succ_cons, sumL]
    congr 1; omega
theorem begL_len (us : List Un) : ∀ (o : List Int) (n : Int), (begL us o n).length = o.length + 1
  | [], n => rfl
  | m :: o, n => by rw [begL, List.length_cons, begL_len us o, List.length_cons]
theorem lenU_ln (us : List Un) (m : Int) : lenU us m = wl (uLn us m) := by
  unfold lenU uLn
  rw [List.getD_eq_getElem?_getD]
  cases us[m.toNat]? <;> rfl
theorem lenU_in {us : List Un} (hl : ∀ u ∈ us, u.lines.length ≤ 40000) (m : Int) : 0 ≤ lenU us m ∧ lenU us m ≤ 80000 := by
  rw [lenU_ln]
  have := wl_le (uLn us m)
  have h2 : (uLn us m).length ≤ 40000 := by
    unfold uLn
    cases h : us[m.toNat]? with
    | none => simp
    | some u => exact hl u (List.mem_of_getElem? h)
  omega
theorem sumL_in {us : List Un} (hl : ∀ u ∈ us, u.lines.length ≤ 40000) : ∀ (o : List Int), 0 ≤ sumL us o ∧ sumL us o ≤ 80000 * o.length
  | [] => by simp [sumL]
  | m :: o => by
    have a := lenU_in hl m
    have b := sumL_in hl o
    simp only [sumL, List.length_cons]
    omega
theorem begL_in {us : List Un} (hl : ∀ u ∈ us, u.lines.length ≤ 40000) {o : List Int} (ho : o.length ≤ 400) : ∀ x ∈ begL us o 0, 0 ≤ x ∧ x ≤ 100000000 := by
  intro x hx
  obtain ⟨j, hj, rfl⟩ := List.getElem_of_mem hx
  rw [begL_len] at hj
  have e := begL_at us o 0 j (by omega)
  rw [List.getElem?_eq_getElem (by rw [begL_len]; exact hj)] at e
  have e2 := Option.some.inj e
  have h := sumL_in hl (o.take j)
  have h2 : (o.take j).length ≤ o.length := List.length_take_le' _ _
  omega
/-- A line's instruction, with places for labels. -/
def insR (us : List Un) (o b : List Int) (m a : Int) (y : Ln) : Ins := if emp y.ref = true then y.i else ⟨y.i.o, y.i.d, y.i.s, (plcR us o b y.ref.toList m a).tmod 65536⟩
def wdR (us : List Un) (o b : List Int) (m a : Int) : List Ln → List Int
  | [] => []
  | y :: l => (if emp y.lab = true then (encA [insR us o b m a y]).1 else []) ++ wdR us o b m a l
def spR (us : List Un) (o b : List Int) (m a : Int) : List Ln → List (ByteArray × Int)
  | [] => []
  | y :: l => (if emp y.lab = true then [] else if ownK y.lab.toList = true then [] else [(y.lab, plcR us o b y.lab.toList m a)]) ++ spR us o b m a l
def imgW (us : List Un) (o b : List Int) : List Int → List Int → List Int
  | m :: o', a :: b' => wdR us o b m a (uLn us m) ++ imgW us o b o' b'
  | _, _ => []
def imgS (us : List Un) (o b : List Int) : List Int → List Int → List (ByteArray × Int)
  | m :: o', a :: b' => spR us o b m a (uLn us m) ++ imgS us o b o' b'
  | _, _ => []
def chkR (us : List Un) : Int × Int := if 400 < us.length then ((5 : Int), (0 : Int)) else chkU us us 0
def linkR (us : List Un) (e : List UInt8) : Im × Int × Int :=
  if (chkR us).1 = 0 then
    (if e = [] ∨ holdU us 0 e < 0 then (im0, 6, (us.length : Int))
     else if (ordR us 400 0 [holdU us 0 e]).2.1 = 0 then (⟨imgW us (ordR us 400 0 [holdU us 0 e]).1 (begL us (ordR us 400 0 [holdU us 0 e]).1 0) (ordR us 400 0 [holdU us 0 e]).1 (begL us (ordR us 400 0 [holdU us 0 e]).1 0), (ordR us 400 0 [holdU us 0 e]).1, imgS us (ordR us 400 0 [holdU us 0 e]).1 (begL us (ordR us 400 0 [holdU us 0 e]).1 0) (ordR us 400 0 [holdU us 0 e]).1 (begL us (ordR us 400 0 [holdU us 0 e]).1 0)⟩, 0, 0)
     else (im0, (ordR us 400 0 [holdU us 0 e]).2))
  else (im0, chkR us)
theorem chkU_ok {all : List Un} : ∀ (l : List Un) (i : Nat), (chkU all l i).1 = 0 → ∀ u ∈ l, u.lines.length ≤ 40000 ∧ (plc u.lines 0 [] 0).2.2.1 = 0
  | [], _, _ => by simp
  | x :: r, i, h => by
    intro u hu
    rw [chkU] at h
    by_cases h5 : 40000 < x.lines.length
    · rw [if_pos h5] at h; simp at h
    · rw [if_neg h5] at h
      by_cases hp : (plc x.lines 0 [] 0).2.2.1 = 0
      · rw [if_pos hp] at h
        by_cases ha : x.lines.any (badU all i) = true
        · rw [if_pos ha] at h; simp at h
        · rw [if_neg ha] at h
          rcases List.mem_cons.1 hu with rfl | hu
          · exact ⟨by omega, hp⟩
          · exact chkU_ok r _ h u hu
      · rw [if_neg hp] at h; exact absurd h hp
theorem chkR_ok {us : List Un} (h : (chkR us).1 = 0) : us.length ≤ 400 ∧ ∀ u ∈ us, u.lines.length ≤ 40000 ∧ (plc u.lines 0 [] 0).2.2.1 = 0 := by
  unfold chkR at h
  by_cases h4 : 400 < us.length
  · rw [if_pos h4] at h; simp at h
  · rw [if_neg h4] at h; exact ⟨by omega, chkU_ok us 0 h⟩
theorem hold_in : ∀ (us : List Un) (n : Nat) (k : List UInt8), holdU us n k < (n + us.length : Nat) ∧ -1 ≤ holdU us n k
  | [], n, k => by simp [holdU]; omega
  | u :: l, n, k => by
    rw [holdU]
    have := hold_in l (n + 1) k
    simp only [List.length_cons]
    split <;> omega
/-- What is in the order: each once. -/
theorem fewO : ∀ (n : Nat) (o : List Int), o.Nodup → (∀ x ∈ o, 0 ≤ x ∧ x < (n : Int)) → o.length ≤ n
  | 0, o, _, h => by
    cases o with
    | nil => simp
    | cons x l => have := h x List.mem_cons_self; omega
  | n + 1, o, hn, h => by
    by_cases hm : (n : Int) ∈ o
    · have e := fewO n (o.erase (n : Int)) (hn.erase _) (fun x hx => by
        have h1 := h x (List.mem_of_mem_erase hx)
        have h2 : x ≠ (n : Int) := fun e => by subst e; exact (List.Nodup.not_mem_erase hn) hx
        omega)
      rw [List.length_erase_of_mem hm] at e
      omega
    · have e := fewO n o hn (fun x hx => by
        have h1 := h x hx
        have h2 : x ≠ (n : Int) := fun e => by subst e; exact hm hx
        omega)
      omega
/-- The order while units are found. -/
structure Odr (us : List Un) (o : List Int) : Prop where
  nd : o.Nodup
  rg : ∀ x ∈ o, 0 ≤ x ∧ x < us.length
theorem Odr.few {us : List Un} {o : List Int} (h : Odr us o) : o.length ≤ us.length := fewO _ _ h.nd h.rg
theorem Odr.add {us : List Un} {o : List Int} (h : Odr us o) {x : Int} (h0 : 0 ≤ x) (h1 : x < us.length) (hn : o.any (fun k => k == x) = false) : Odr us (o ++ [x]) := by
  refine ⟨?_, fun y hy => ?_⟩
  · rw [List.nodup_append]
    refine ⟨h.nd, by simp, fun a ha b hb => ?_⟩
    simp at hb; subst hb
    intro e; subst e
    have := List.any_eq_false.1 hn a ha
    simp at this
  · rcases List.mem_append.1 hy with hy | hy
    · exact h.rg y hy
    · simp at hy; subst hy; exact ⟨h0, h1⟩
theorem rfU_in {us : List Un} {m : Nat} (hm : m < us.length) (k : List UInt8) : rfU us (m : Int) k < us.length := by
  unfold rfU
  split
  · omega
  · have := (hold_in us 0 k).1; omega
end Go.Proofs.Yteoifpkbknkpjaa

/-
  The document's linker: Link where it refuses.
-/
namespace Go.Proofs.Yteoifpkbknkpjaa
open Go.RowKit Go.Maps
set_option linter.unusedSimpArgs false
set_option linter.unusedVariables false

/-- What lies in memory when Check has told. -/
structure L5S (w w4 : World) (v : Value) (us : List Un) : Prop where
  bu : Box w4 w.heap.size [v]
  bi : Box w4 (w.heap.size + 1) [.slice none 0 0, .slice none 0 0, .slice none 0 0]
  bf : Box w4 (w.heap.size + 1 + 1) [.int .i64 0, .int .i64 0]
  un : Uns w4 v us
  bel : Below w.heap.size w w4
  sz : w.heap.size + 1 + 1 + 1 ≤ w4.heap.size
theorem L5S.step {w w4 w5 : World} {v : Value} {us : List Un} (h : L5S w w4 v us) (k : Below w4.heap.size w4 w5) : L5S w w5 v us := ⟨h.bu.step k, h.bi.step k, h.bf.step k, h.un.step k, bt h.bel k, Nat.le_trans h.sz k.size⟩
theorem L5S.start {w : World} {v : Value} {us : List Un} (h : Uns w v us) : L5S w (((w.alloc (.cells #[v] 22)).alloc (.cells #[.slice none 0 0, .slice none 0 0, .slice none 0 0] 26)).alloc (.cells #[.int .i64 0, .int .i64 0] 29)) v us := by
  have s1 : (w.alloc (.cells #[v] 22)).heap.size = w.heap.size + 1 := by simp
  have s2 : ((w.alloc (.cells #[v] 22)).alloc (.cells #[.slice none 0 0, .slice none 0 0, .slice none 0 0] 26)).heap.size = w.heap.size + 1 + 1 := by simp
  have k1 := below_a w (.cells #[v] 22)
  have k2 := below_a (w.alloc (.cells #[v] 22)) (.cells #[.slice none 0 0, .slice none 0 0, .slice none 0 0] 26)
  have k3 := below_a ((w.alloc (.cells #[v] 22)).alloc (.cells #[.slice none 0 0, .slice none 0 0, .slice none 0 0] 26)) (.cells #[.int .i64 0, .int .i64 0] 29)
  have b2 := Box.new (w.alloc (.cells #[v] 22)) #[.slice none 0 0, .slice none 0 0, .slice none 0 0] 26
  have b3 := Box.new ((w.alloc (.cells #[v] 22)).alloc (.cells #[.slice none 0 0, .slice none 0 0, .slice none 0 0] 26)) #[.int .i64 0, .int .i64 0] 29
  rw [s1] at b2
  rw [s2] at b3
  exact ⟨((Box.new w #[v] 22).step k2).step k3, b2.step k3, b3, ((h.step k1).step k2).step k3, bt (bt k1 k2) k3, by simp⟩
theorem L5S.ret {w w6 : World} {v : Value} {us : List Un} (h : L5S w w6 v us) (a b : Int) : ∃ W, W = ((((w6.setCell ⟨w.heap.size + 1, 0, none⟩ (.slice none 0 0)).setCell ⟨w.heap.size + 1, 1, none⟩ (.slice none 0 0)).setCell ⟨w.heap.size + 1, 2, none⟩ (.slice none 0 0)).setCell ⟨w.heap.size + 1 + 1, 0, none⟩ (.int .i64 a)).setCell ⟨w.heap.size + 1 + 1, 1, none⟩ (.int .i64 b) ∧ Box W (w.heap.size + 1) [.slice none 0 0, .slice none 0 0, .slice none 0 0] ∧ Box W (w.heap.size + 1 + 1) [.int .i64 a, .int .i64 b] ∧ Below w.heap.size w W := by
  refine ⟨_, rfl, ?_, ?_, ?_⟩
  · exact ((((h.bi.set (j := 0) (u := .slice none 0 0) (by simp)).set (j := 1) (u := .slice none 0 0) (by simp)).set (j := 2) (u := .slice none 0 0) (by simp)).other (by omega)).other (by omega)
  · exact ((((h.bf.other (by omega)).other (by omega)).other (by omega)).set (j := 0) (u := .int .i64 a) (by simp)).set (j := 1) (u := .int .i64 b) (by simp)
  · have := h.bel
    have k := h.sz
    exact (by repeat (first | exact this | refine Below.setCell ?_ (by first | exact Nat.le_refl _ | (simp; done) | omega | (simp; omega)) _ | refine Below.alloc ?_ (by first | (simp; done) | omega | (simp; omega)) _))
theorem im0_ret1 {w w' : World} (h : Below w.heap.size w w') (a b : Int) : LinkRet w (im0, a, b) (.returned (.tuple #[.agg #[.slice none 0 0, .slice none 0 0, .slice none 0 0], .agg #[.int .i64 a, .int .i64 b]])) w' := ⟨_, _, _, rfl, Lies.nil _ _, Lies.nil _ _, Lies.nil _ _, h⟩
set_option maxRecDepth 100000 in
set_option maxHeartbeats 4000000 in
theorem link5_bad (us : List Un) (v : Value) (entry : ByteArray) (w : World) (hU : Uns w v us) (h : (chkR us).1 ≠ 0) :
    Calls Try.prog 5 #[v, .string entry] w fun e w' => LinkRet w (linkR us entry.toList) e w' := by
  have LS := L5S.start hU
  obtain ⟨ao, cap, rfl, hmax, hat⟩ := hU
  unfold maxLen at hmax
  have CK := hideI (check5_any us _ _ LS.un)
  have EK : (if 400 < us.length then ((5 : Int), (0 : Int)) else chkU us us 0) = chkR us := rfl
  rw [EK] at CK
  replace LS := hideI LS
  have hL : linkR us entry.toList = (im0, chkR us) := by unfold linkR; rw [if_neg h]
  rw [hL]
  generalize chkR us = C at *
  obtain ⟨c1, c2⟩ := C
  dsimp only at *
  have hc2 : (c1 != 0) = true := by simpa using h
  clear hat EK h hL
  go_enter Try.func5, Try.ntmps5
  go_wp2_with fail
  refine (unhideI CK).mono ?_
  rintro e w4 ⟨rfl, k4⟩
  replace LS := hideI ((unhideI LS).step k4)
  clear k4 CK
  have HB1 := (unhideI LS).bu
  have HB2 := (unhideI LS).bi
  have HB3 := (unhideI LS).bf
  have e0 := HB1.2.1 0 _ rfl
  have i0 := HB2.2.1 0 _ rfl
  have i1 := HB2.2.1 1 _ rfl
  have i2 := HB2.2.1 2 _ rfl
  have ifz := HB2.2.2
  have ibl := HB2.1
  have f0 := HB3.2.1 0 _ rfl
  have f1 := HB3.2.1 1 _ rfl
  have ffz := HB3.2.2
  have fbl := HB3.1
  have ubl := HB1.1
  clear HB1 HB2 HB3
  obtain ⟨WF, hWF, BI, BF, KF⟩ := (unhideI LS).ret c1 c2
  have BI0 := hideI BI
  have BF0 := hideI BF
  have KF0 := hideI KF
  have HWF := hideI hWF
  clear BI BF KF hWF
  go_wp2_with fail
  go_region_with fail
  all_goals (
    go_wp2_with fail
    rw [← unhideI HWF]
    clear HWF
    have r0 := (unhideI BI0).2.1 0 _ rfl
    have r1 := (unhideI BI0).2.1 1 _ rfl
    have r2 := (unhideI BI0).2.1 2 _ rfl
    have r3 := (unhideI BF0).2.1 0 _ rfl
    have r4 := (unhideI BF0).2.1 1 _ rfl
    have r5 := (unhideI BI0).1
    have r6 := (unhideI BF0).1
    exact bodyPost_ret (v := .tuple #[.agg #[.slice none 0 0, .slice none 0 0, .slice none 0 0], .agg #[.int .i64 c1, .int .i64 c2]]) (by simp [results, Try.results5, go_sem, r0, r1, r2, r3, r4, r5, r6]) rfl (im0_ret1 (((unhideI KF0).trans ((below_a _ _).mono (unhideI KF0).size)).drew) c1 c2))
set_option maxRecDepth 100000 in
set_option maxHeartbeats 4000000 in
theorem link5_none (us : List Un) (v : Value) (entry : ByteArray) (w : World) (hU : Uns w v us) (hc : (chkR us).1 = 0) (h2 : entry.toList = [] ∨ holdU us 0 entry.toList < 0) :
    Calls Try.prog 5 #[v, .string entry] w fun e w' => LinkRet w (linkR us entry.toList) e w' := by
  have LS := L5S.start hU
  obtain ⟨ao, cap, rfl, hmax, hat⟩ := hU
  unfold maxLen at hmax
  have CK := hideI (check5_any us _ _ LS.un)
  have EK : (if 400 < us.length then ((5 : Int), (0 : Int)) else chkU us us 0) = chkR us := rfl
  rw [EK, hc] at CK
  replace LS := hideI LS
  have HO := hideI (fun W h => holder_any us (.slice ao us.length cap) entry W h)
  have hL : linkR us entry.toList = (im0, 6, (us.length : Int)) := by unfold linkR; rw [if_pos hc, if_pos h2]
  rw [hL]
  generalize holdU us 0 entry.toList = H at *
  have H2 := hideI h2
  clear hat EK h2 hL hc
  go_enter Try.func5, Try.ntmps5
  go_wp2_with fail
  refine (unhideI CK).mono ?_
  rintro e w4 ⟨rfl, k4⟩
  replace LS := hideI ((unhideI LS).step k4)
  clear k4 CK
  have HB1 := (unhideI LS).bu
  have HB2 := (unhideI LS).bi
  have HB3 := (unhideI LS).bf
  have e0 := HB1.2.1 0 _ rfl
  have i0 := HB2.2.1 0 _ rfl
  have i1 := HB2.2.1 1 _ rfl
  have i2 := HB2.2.1 2 _ rfl
  have ifz := HB2.2.2
  have ibl := HB2.1
  have f0 := HB3.2.1 0 _ rfl
  have f1 := HB3.2.1 1 _ rfl
  have ffz := HB3.2.2
  have fbl := HB3.1
  have ubl := HB1.1
  clear HB1 HB2 HB3
  have KF := hideI (below_a w4 (.cells #[.int .i64 0, .int .i64 (chkR us).2] 29))
  go_wp2_with fail
  generalize w4.alloc (.cells #[.int .i64 0, .int .i64 (chkR us).2] 29) = w5 at *
  replace LS := hideI ((unhideI LS).step (unhideI KF))
  clear e0 i0 i1 i2 ifz ibl f0 f1 ffz fbl ubl KF
  refine (unhideI HO _ (unhideI LS).un).mono ?_
  rintro e w6 ⟨rfl, k6⟩
  replace LS := hideI ((unhideI LS).step k6)
  clear k6 HO
  have HB1 := (unhideI LS).bu
  have HB2 := (unhideI LS).bi
  have HB3 := (unhideI LS).bf
  have e0 := HB1.2.1 0 _ rfl
  have i0 := HB2.2.1 0 _ rfl
  have i1 := HB2.2.1 1 _ rfl
  have i2 := HB2.2.1 2 _ rfl
  have ifz := HB2.2.2
  have ibl := HB2.1
  have f0 := HB3.2.1 0 _ rfl
  have f1 := HB3.2.1 1 _ rfl
  have ffz := HB3.2.2
  have fbl := HB3.1
  have ubl := HB1.1
  clear HB1 HB2 HB3
  obtain ⟨c1, hc1⟩ : ∃ c : Int, c = 6 := ⟨_, rfl⟩
  obtain ⟨c2, hc2⟩ : ∃ c : Int, c = (us.length : Int) := ⟨_, rfl⟩
  obtain ⟨WF, hWF, BI, BF, KF⟩ := (unhideI LS).ret c1 c2
  have BI0 := hideI BI
  have BF0 := hideI BF
  have KF0 := hideI KF
  have HWF := hideI hWF
  clear BI BF KF hWF
  subst hc1
  subst hc2
  by_cases hz : entry.toList = []
  · have hz' : entry.toList.isEmpty = true := by rw [hz]; rfl
    clear H2 hz
    go_wp2_with fail
    go_region_with fail
    all_goals (
      go_wp2_with fail
      rw [← unhideI HWF]
      clear HWF
      have r0 := (unhideI BI0).2.1 0 _ rfl
      have r1 := (unhideI BI0).2.1 1 _ rfl
      have r2 := (unhideI BI0).2.1 2 _ rfl
      have r3 := (unhideI BF0).2.1 0 _ rfl
      have r4 := (unhideI BF0).2.1 1 _ rfl
      have r5 := (unhideI BI0).1
      have r6 := (unhideI BF0).1
      exact bodyPost_ret (v := .tuple #[.agg #[.slice none 0 0, .slice none 0 0, .slice none 0 0], .agg #[.int .i64 6, .int .i64 (us.length : Int)]]) (by simp [results, Try.results5, go_sem, r0, r1, r2, r3, r4, r5, r6]) rfl (im0_ret1 (unhideI KF0).drew 6 _))
  · have hz' : entry.toList.isEmpty = false := by simpa using hz
    have hlt : H < 0 := by
      rcases unhideI H2 with h2 | h2
      · exact absurd h2 hz
      · exact h2
    clear H2 hz
    go_wp2_with fail
    go_region_with fail
    all_goals (
      go_wp2_with fail
      rw [← unhideI HWF]
      clear HWF
      have r0 := (unhideI BI0).2.1 0 _ rfl
      have r1 := (unhideI BI0).2.1 1 _ rfl
      have r2 := (unhideI BI0).2.1 2 _ rfl
      have r3 := (unhideI BF0).2.1 0 _ rfl
      have r4 := (unhideI BF0).2.1 1 _ rfl
      have r5 := (unhideI BI0).1
      have r6 := (unhideI BF0).1
      exact bodyPost_ret (v := .tuple #[.agg #[.slice none 0 0, .slice none 0 0, .slice none 0 0], .agg #[.int .i64 6, .int .i64 (us.length : Int)]]) (by simp [results, Try.results5, go_sem, r0, r1, r2, r3, r4, r5, r6]) rfl (im0_ret1 (unhideI KF0).drew 6 _))
end Go.Proofs.Yteoifpkbknkpjaa

/-
  The document's linker: the order while units are found.
-/
namespace Go.Proofs.Yteoifpkbknkpjaa
open Go.RowKit Go.Maps
set_option linter.unusedSimpArgs false
set_option linter.unusedVariables false

/-- The order in memory: a row of the call's own, and the box in which it lies. -/
structure OrdAt (us : List Un) (w6 : World) (o : List Int) (vo : Value) (W : World) : Prop where
  box : Box W (w6.heap.size + 1) [vo]
  own : W.ownsRow w6.heap.size 3 1 vo o.length (o.map int1)
  ne : vo.ownBlock ≠ some (w6.heap.size + 1)
  bel : Below w6.heap.size w6 W
  odr : Odr us o
theorem OrdAt.step {us : List Un} {w6 W W' : World} {o : List Int} {vo : Value} (h : OrdAt us w6 o vo W) (k : Below W.heap.size W W') : OrdAt us w6 o vo W' := ⟨h.box.step k, own_step h.own k, h.ne, h.bel.trans (k.mono h.bel.size), h.odr⟩
theorem OrdAt.start {us : List Un} {w6 : World} {H : Int} (h0 : 0 ≤ H) (h1 : H < us.length) : OrdAt us w6 [H] (.slice (some ⟨w6.heap.size, 0, none⟩) 1 1) ((w6.alloc (.cells #[.int .i64 H] 3)).alloc (.cells #[.slice (some ⟨w6.heap.size, 0, none⟩) 1 1] 23)) := by
  have b := Box.new (w6.alloc (.cells #[.int .i64 H] 3)) #[.slice (some ⟨w6.heap.size, 0, none⟩) 1 1] 23
  rw [show (w6.alloc (.cells #[.int .i64 H] 3)).heap.size = w6.heap.size + 1 by simp] at b
  refine ⟨b, ?_, ?_, ?_, ⟨by simp, fun x hx => ?_⟩⟩
  · exact (World.ownsRow_lit (base := w6.heap.size) (e := 3) (size := 1) w6 #[.int .i64 H] 1 (Nat.le_refl _) (by unfold maxLen; omega) rfl).alloc _
  · show some w6.heap.size ≠ some (w6.heap.size + 1)
    intro h; injection h; omega
  · exact bt (below_a _ _) (below_a _ _)
  · simp at hx; subst hx; exact ⟨h0, h1⟩
/-- A slice's beginning. -/
theorem Ints.cut {w : World} {ao : Option Addr} {n c : Nat} {l : List Int} (h : Ints w (.slice ao n c) l) {k : Nat} (hk : k ≤ l.length) (h0 : 0 < k) : Ints w (.slice ao k c) (l.take k) := by
  unfold Ints Lies at *
  obtain ⟨h1, ao', cap, h2, h3, h4, h5, h6⟩ := h
  injection h2 with e1 e2 e3
  subst e1 e2 e3
  have hn : (l.take k).length = k := by rw [List.length_take]; omega
  refine ⟨by simp, ao, c, by rw [hn], by omega, h4, h5, fun _ => ?_⟩
  obtain ⟨b, off, e, hb, hc⟩ := h6 (by omega)
  refine ⟨b, off, e, hb, fun j hj => ?_⟩
  rw [hn] at hj
  rw [hc j (by omega), List.map_take, List.getElem?_take, if_pos (by omega)]
theorem hold_own {k : List UInt8} (h : ownK k = true) : ∀ (us : List Un) (n : Nat), holdU us n k = -1
  | [], _ => rfl
  | u :: l, n => by rw [holdU, if_neg (by simp [h]), hold_own h l]
theorem ordU_skip {us : List Un} {m : Int} {y : Ln} {r : List Ln} {o : List Int} (h : emp y.ref = true) : ordU us m (y :: r) o = ordU us m r o := by rw [ordU, if_pos h]
theorem ordU_none {us : List Un} {m : Int} {y : Ln} {r : List Ln} {o : List Int} (h : emp y.ref = false) (h1 : rfU us m y.ref.toList < 0) : ordU us m (y :: r) o = (false, o) := by rw [ordU, if_neg (by simp [h]), if_pos h1]
theorem ordU_next {us : List Un} {m : Int} {y : Ln} {r : List Ln} {o : List Int} (h : emp y.ref = false) (h1 : ¬ rfU us m y.ref.toList < 0) : ordU us m (y :: r) o = ordU us m r (addO o (rfU us m y.ref.toList)) := by rw [ordU, if_neg (by simp [h]), if_neg h1]
theorem ordR_at {us : List Un} {f i : Nat} {o : List Int} (h : i < o.length) : ordR us (f + 1) i o = if 65536 < sumL us (o.take (i + 1)) then ([], 4, o[i]'h) else if (ordU us (o[i]'h) (uLn us (o[i]'h)) o).1 = true then ordR us f (i + 1) (ordU us (o[i]'h) (uLn us (o[i]'h)) o).2 else ([], 6, o[i]'h) := by rw [ordR, List.getElem?_eq_getElem h]
theorem ordR_end {us : List Un} {f i : Nat} {o : List Int} (h : o.length ≤ i) : ordR us f i o = (o, 0, 0) := by
  cases f with
  | zero => rfl
  | succ f => rw [ordR, List.getElem?_eq_none h]
end Go.Proofs.Yteoifpkbknkpjaa
