/-
  asm.shown: a right line as it is written; asm.Show: lines.
-/
import Derived.Test.YtoopgkbefhoeiaaDoorShF
namespace Go.Proofs.YtoopgkbefhoeiaaDoor
open Go.RowKit
set_option linter.unusedSimpArgs false
set_option linter.unusedVariables false

/-- The word of a kind. -/
def kwO (o : Int) : List UInt8 := kwL.getD o.toNat []
/-- A right line as it is written. -/
def shL (x : Ln) : List UInt8 :=
  if emp x.lab = false then x.lab.toList ++ [58, 10]
  else 9 :: (kwO x.i.o ++ ((if shF x = [] then [] else 32 :: Lib.join (shF x) [44, 32]) ++ [10]))
theorem right_facts {x : Ln} (h : wrgL x = 0) : (emp x.lab = false ∧ nm x.lab = true ∧ emp x.ref = true ∧ isZ x.i = true) ∨ (emp x.lab = true ∧ wrg x.i = 0 ∧ 0 ≤ x.i.o ∧ x.i.o ≤ 32 ∧ (hD x.i.o = true → 0 ≤ x.i.d ∧ x.i.d ≤ 7) ∧ (hS x.i.o = true → 0 ≤ x.i.s ∧ x.i.s ≤ 7) ∧ (hI x.i.o = true → 0 ≤ x.i.m ∧ x.i.m ≤ 65535) ∧ (emp x.ref = true ∨ (nm x.ref = true ∧ may x.i.o = true ∧ x.i.m = 0))) := by
  unfold wrgL at h
  by_cases h1 : emp x.lab = false
  · rw [if_pos h1] at h
    by_cases h2 : nm x.lab = true
    · rw [if_pos h2] at h
      by_cases h3 : emp x.ref = true ∧ isZ x.i = true
      · exact .inl ⟨h1, h2, h3.1, h3.2⟩
      · rw [if_neg h3] at h; exact absurd h (by decide)
    · rw [if_neg h2] at h; exact absurd h (by decide)
  · rw [if_neg h1] at h
    have h1' : emp x.lab = true := by simpa using h1
    by_cases h2 : wrg x.i ≠ 0
    · rw [if_pos h2] at h; exact absurd h h2
    · rw [if_neg h2] at h
      have hw : wrg x.i = 0 := Classical.not_not.1 h2
      have hw2 := hw
      unfold wrg at hw2
      by_cases hk : kn x.i.o = true
      · rw [if_pos hk] at hw2
        by_cases hb : bad x.i = true
        · rw [if_pos hb] at hw2; exact absurd hw2 (by decide)
        · have hb' : bad x.i = false := by simpa using hb
          have hk' : 0 ≤ x.i.o ∧ x.i.o ≤ 32 := by unfold kn at hk; simpa using hk
          unfold bad at hb'
          simp only [Bool.or_eq_false_iff, Bool.and_eq_false_iff] at hb'
          obtain ⟨⟨b1, b2⟩, b3⟩ := hb'
          have key : ∀ (hx : Bool) (v t : Int), (hx = false ∨ (!inR v t) = false) → hx = true → 0 ≤ v ∧ v ≤ t := by
            intro hx v t h1 h2
            rcases h1 with h1 | h1
            · rw [h1] at h2; cases h2
            · unfold inR at h1; simpa using h1
          refine .inr ⟨h1', hw, hk'.1, hk'.2, key _ _ _ b1, key _ _ _ b2, key _ _ _ b3, ?_⟩
          by_cases h3 : emp x.ref = true
          · exact .inl h3
          · rw [if_neg h3] at h
            by_cases h4 : nm x.ref = true
            · rw [if_pos h4] at h
              by_cases h5 : may x.i.o = true ∧ x.i.m = 0
              · exact .inr ⟨h4, h5⟩
              · rw [if_neg h5] at h; exact absurd h (by decide)
            · rw [if_neg h4] at h; exact absurd h (by decide)
      · rw [if_neg hk] at hw2; exact absurd hw2 (by decide)
theorem emp_size {s : ByteArray} (h : emp s = true) : s.size = 0 := by
  unfold emp at h
  rw [ByteArray.toList_eq] at h
  show s.data.size = 0
  rw [← Array.length_toList, List.length_eq_zero_iff]
  exact List.isEmpty_iff.1 h
theorem shF_len {x : Ln} (h : fits4 x) (hr : x.ref.size ≤ 32) : (shF x).length ≤ 3 ∧ (Lib.join (shF x) [44, 32]).length ≤ 100 := by
  have hrl : x.ref.toList.length ≤ 32 := by rw [ByteArray.toList_eq]; simpa using hr
  have e1 : hD x.i.o = true → (rgT x.i.d).length ≤ 6 := fun e => by have := itoa_len (h.1 e); unfold rgT; simp; omega
  have e2 : hS x.i.o = true → (rgT x.i.s).length ≤ 6 := fun e => by have := itoa_len (h.2.1 e); unfold rgT; simp; omega
  have e3 : hI x.i.o = true → (if emp x.ref = true then Lib.itoa x.i.m else x.ref.toList).length ≤ 32 := fun e => by
    have := itoa_len (h.2.2 e)
    split <;> omega
  unfold shF
  generalize (if emp x.ref = true then Lib.itoa x.i.m else x.ref.toList) = a at *
  generalize rgT x.i.d = b at *
  generalize rgT x.i.s = c at *
  cases hd : hD x.i.o <;> cases hs : hS x.i.o <;> cases hi : hI x.i.o <;> simp [hd, hs, hi, Lib.join, List.intercalate] at e1 e2 e3 ⊢ <;> omega
theorem kwO_at (o : Int) (h0 : 0 ≤ o) (h1 : o ≤ 32) : ∃ (k : Nat) (hk : k < 33), o = (k : Int) ∧ kwO o = kwL[k]'(by exact hk) := by
  refine ⟨o.toNat, by omega, by omega, ?_⟩
  have hk : o.toNat < kwL.length := by show o.toNat < 33; omega
  unfold kwO
  rw [List.getD_eq_getElem?_getD, List.getElem?_eq_getElem hk]
  rfl
theorem kwO_len (o : Int) (h0 : 0 ≤ o) (h1 : o ≤ 32) : (kwO o).length ≤ 4 := by
  obtain ⟨k, hk, -, e⟩ := kwO_at o h0 h1
  rw [e]
  exact kd_short ⟨k, hk⟩
theorem kw_cell {w : World} (G : Gl w) {k : Nat} (hk : k < 33) : w.cell? ⟨0, k, none⟩ = some (.string (ba (kwL[k]'hk))) := by
  obtain ⟨t, fr, h⟩ := G.kw
  rw [Lib.cell_of_heap h k]
  have hk' : k < kwL.length := hk
  simp [hk']
  rfl
set_option maxRecDepth 100000 in
set_option maxHeartbeats 4000000 in
theorem shown_any (x : Ln) (w : World) (G : Gl w) (hx : wrgL x = 0) : Calls Tryd.prog 20 #[aggL x] w fun e w' => e = .returned (.string (ba (shL x))) ∧ Below w.heap.size w w' := by
  rcases right_facts hx with ⟨h1, h2, -, -⟩ | ⟨h1, -, h3, h4, h5, h6, h7, h8⟩
  · have hs := (nm_size h2).1
    have hl : shL x = x.lab.toList ++ [58, 10] := by unfold shL; rw [if_pos h1]
    rw [hl, ← ba_cat, ba_toList]
    obtain ⟨lab, ⟨o, d, s, m⟩, ref⟩ := x
    unfold aggL
    dsimp only at *
    have hb : ba [58, 10] = ⟨#[58, 10]⟩ := rfl
    have h1' : lab.toList.isEmpty = false := h1
    have hn : ¬ (9223372036854775807 < lab.size + 2) := by omega
    clear hl h1 hx G
    have K0 := hideI (below_a w (.cells #[.string lab, .int .i64 o, .int .i64 d, .int .i64 s, .int .i64 m, .string ref] 27))
    rw [hb]
    go_enter Tryd.func20, Tryd.ntmps20
    go_wp2_with fail
    go_ret
    exact ⟨rfl, unhideI K0⟩
  · have hf : fits4 x := ⟨fun e => ⟨(h5 e).1, by have := (h5 e).2; omega⟩, fun e => ⟨(h6 e).1, by have := (h6 e).2; omega⟩, h7⟩
    have hr : x.ref.size ≤ 32 := by
      rcases h8 with h | ⟨h, -⟩
      · rw [emp_size h]; omega
      · exact (nm_size h).1
    obtain ⟨f1, f2⟩ := shF_len hf hr
    have hl : shL x = 9 :: (kwO x.i.o ++ ((if shF x = [] then [] else 32 :: Lib.join (shF x) [44, 32]) ++ [10])) := by unfold shL; rw [if_neg (by rw [h1]; simp)]
    obtain ⟨k, hk, hok, hkw⟩ := kwO_at x.i.o h3 h4
    have hkl := kd_short ⟨k, hk⟩
    rw [hl, hkw]
    have K0 := below_a w (.cells #[.string x.lab, .int .i64 x.i.o, .int .i64 x.i.d, .int .i64 x.i.s, .int .i64 x.i.m, .string x.ref] 27)
    have G1 := G.step K0
    have hcl := kw_cell G1 hk
    have SF := shownFields_any x _ G1 hf
    have HK0 := hideI K0
    generalize shF x = fs at *
    dsimp only at hkl
    generalize kwL[k] = kw at *
    have hki : (k : Int) < 33 := by omega
    have h1' : x.lab.toList.isEmpty = true := h1
    have hn1 : ¬ (9223372036854775807 < 1 + (ba kw).size) := by rw [ba_size]; omega
    unfold aggL at SF ⊢
    rw [hok] at *
    clear hl hkw hf h5 h6 h7 h8 hx K0 G G1 hr h3 h4 h1 hok
    obtain ⟨R, HR⟩ : ∃ R, Hid (ba (9 :: (kw ++ ((if fs = [] then [] else 32 :: Lib.join fs [44, 32]) ++ [10]))) = R) := ⟨_, hideI rfl⟩
    rw [unhideI HR]
    have hc1 : (⟨#[9]⟩ : ByteArray) ++ ba kw = ba (9 :: kw) := ba_cat [9] kw
    go_enter Tryd.func20, Tryd.ntmps20
    go_wp2_with fail
    refine SF.mono ?_
    rintro e w2 ⟨v, rfl, l2, k2⟩
    have K2 := hideI (bt (unhideI HK0) k2)
    obtain ⟨-, ao, rc, rfl, hrc1, hrc2, -, hrow⟩ := l2
    clear SF k2 hcl HK0 hn1 hc1
    by_cases hfs : fs = []
    · subst hfs
      have hz : decide ((0 : Int) < (([] : List (List UInt8)).length : Int)) = false := rfl
      have hc2 : ba (9 :: kw) ++ (⟨#[10]⟩ : ByteArray) = R := by rw [← unhideI HR, if_pos rfl]; exact ba_cat (9 :: kw) [10]
      have hn2 : ¬ (9223372036854775807 < (ba (9 :: kw)).size + 1) := by rw [ba_size, List.length_cons]; omega
      generalize ba (9 :: kw) = bk at *
      clear hrow HR
      go_wp2_with fail
      go_ret
      exact ⟨rfl, unhideI K2⟩
    · have hR := unhideI HR
      rw [if_neg hfs] at hR
      clear HR
      have hpos : 0 < fs.length := List.length_pos_iff.2 hfs
      obtain ⟨b, off, rfl, hb, hc⟩ := hrow (by omega)
      have hz : decide ((0 : Int) < (fs.length : Int)) = true := by simpa using hpos
      have hmp : ((fs.map ba).map (·.data.toList)) = fs := by
        rw [List.map_map]
        conv => rhs; rw [← List.map_id fs]
        exact List.map_congr_left fun a _ => ba_data a
      have JN := Tryd.strings_Join b off rc (fs.map ba) ⟨#[44, 32]⟩ w2 (fun j y hy => by
        have hj : j < fs.length := by have := (List.getElem?_eq_some_iff.1 hy).1; simpa using this
        rw [hc j (by omega)]
        rw [List.getElem?_map, List.getElem?_eq_getElem hj] at hy
        obtain rfl := Option.some.inj hy
        simp [txs, hj]) hb (by rw [List.length_map]; omega) (by rw [List.length_map]; omega) (by rw [hmp]; show (Lib.join fs [44, 32]).length ≤ _; omega)
      rw [hmp, List.length_map] at JN
      have JN2 : Calls Tryd.prog 38 #[.slice (some ⟨b, off, none⟩) fs.length rc, .string ⟨#[44, 32]⟩] w2 fun e w' => e = .returned (.string (ba (Lib.join fs [44, 32]))) ∧ Below w2.heap.size w2 w' := JN
      clear JN hmp hc hrow
      generalize Lib.join fs [44, 32] = jn at *
      go_wp2_with fail
      refine JN2.mono ?_
      rintro e w3 ⟨rfl, k3⟩
      have K3 := hideI (bt (unhideI K2) k3)
      clear JN2 k3 K2
      have hc2 : (⟨#[32]⟩ : ByteArray) ++ ba jn = ba (32 :: jn) := ba_cat [32] jn
      have hn2 : ¬ (9223372036854775807 < 1 + (ba jn).size) := by rw [ba_size]; omega
      have hc3 : ba (9 :: kw) ++ ba (32 :: jn) = ba (9 :: kw ++ 32 :: jn) := ba_cat _ _
      have hn3 : ¬ (9223372036854775807 < (ba (9 :: kw)).size + (ba (32 :: jn)).size) := by rw [ba_size, ba_size, List.length_cons, List.length_cons]; omega
      have hc4 : ba (9 :: kw ++ 32 :: jn) ++ (⟨#[10]⟩ : ByteArray) = R := by
        rw [← hR, show (9 :: (kw ++ (32 :: jn ++ [10]))) = (9 :: kw ++ 32 :: jn) ++ [10] by simp]
        exact ba_cat _ _
      have hn4 : ¬ (9223372036854775807 < (ba (9 :: kw ++ 32 :: jn)).size + 1) := by rw [ba_size, List.length_append, List.length_cons, List.length_cons]; omega
      clear hR
      generalize ba (9 :: kw ++ 32 :: jn) = b2 at *
      generalize ba (32 :: jn) = b3 at *
      generalize ba (9 :: kw) = b4 at *
      generalize ba jn = b5 at *
      go_wp2_with fail
      go_ret
      exact ⟨rfl, unhideI K3⟩

/-- Lines written one behind the other. -/
def shwT : List Ln → Nat → List UInt8 → List UInt8 × Int × Int
  | [], _, acc => (acc, 0, 0)
  | x :: l, n, acc => if wrgL x = 0 then shwT l (n + 1) (acc ++ shL x) else ([], wrgL x, (n : Int))
def shwA (l : List Ln) : List UInt8 × Int × Int := if 40000 < l.length then ([], 5, 0) else shwT l 0 []
theorem shL_len {x : Ln} (h : wrgL x = 0) : (shL x).length ≤ 200 := by
  unfold shL
  rcases right_facts h with ⟨h1, h2, -, -⟩ | ⟨h1, -, h3, h4, h5, h6, h7, h8⟩
  · rw [if_pos h1]
    have := (nm_size h2).1
    have e : x.lab.toList.length = x.lab.size := by rw [ByteArray.toList_eq]; simp
    simp; omega
  · rw [if_neg (by rw [h1]; simp)]
    have hf : fits4 x := ⟨fun e => ⟨(h5 e).1, by have := (h5 e).2; omega⟩, fun e => ⟨(h6 e).1, by have := (h6 e).2; omega⟩, h7⟩
    have hr : x.ref.size ≤ 32 := by
      rcases h8 with h | ⟨h, -⟩
      · rw [emp_size h]; omega
      · exact (nm_size h).1
    obtain ⟨f1, f2⟩ := shF_len hf hr
    have hk := kwO_len x.i.o h3 h4
    by_cases hs : shF x = []
    · rw [if_pos hs]; simp; omega
    · rw [if_neg hs]; simp; omega
theorem bytes_cat (l m : List UInt8) : Lib.byteCells l ++ Lib.strCells (ba m) = Lib.byteCells (l ++ m) := by
  unfold Lib.strCells
  simp [Lib.byteCells, ba]
set_option maxRecDepth 100000 in
set_option maxHeartbeats 4000000 in
theorem show_any (l : List Ln) (v : Value) (w : World) (G : Gl w) (hv : Lns w v l) : Calls Tryd.prog 8 #[v] w fun e w' => e = .returned (.tuple #[.string (ba (shwA l).1), .agg #[.int .i64 (shwA l).2.1, .int .i64 (shwA l).2.2]]) ∧ Below w.heap.size w w' := by
  obtain ⟨ao, ca, rfl, hmax, hat⟩ := hv.at
  have HA := hideI hat
  clear hat hv
  unfold maxLen at hmax
  unfold shwA
  by_cases h1 : 40000 < l.length
  · rw [if_pos h1]
    have h1' : (40000 : Int) < (l.length : Int) := by omega
    go_enter Tryd.func8, Tryd.ntmps8
    go_wp2_with fail
    exact bodyPost_ret (v := .tuple #[.string ⟨#[]⟩, .agg #[.int .i64 5, .int .i64 0]]) (by simp [results, Tryd.results8, go_sem]) rfl ⟨rfl, (by repeat (first | exact below_a _ _ | refine Below.setCell ?_ (by first | exact Nat.le_refl _ | (simp; done) | omega | (simp; omega)) _ | refine Below.alloc ?_ (by first | (simp; done) | omega | (simp; omega)) _))⟩
  rw [if_neg h1]
  have h1' : ¬ (40000 : Int) < (l.length : Int) := by omega
  generalize hR : shwT l 0 [] = R
  have HR : Hid (R = shwT (l.drop 0) 0 []) := hR.symm
  clear hR
  have HB0 := hideI (Box.new w #[.int .i64 0, .int .i64 0] 31)
  have HK0 := hideI (below_a w (.cells #[.int .i64 0, .int .i64 0] 31))
  have s0 : (w.alloc (.cells #[.int .i64 0, .int .i64 0] 31)).heap.size = w.heap.size + 1 := by simp
  have FB := hideI (Lib.fresh_isBuilder 45 5 (w.alloc (.cells #[.int .i64 0, .int .i64 0] 31)))
  rw [s0] at FB
  go_enter Tryd.func8, Tryd.ntmps8
  go_wp2_with fail
  have HK1 : Hid (Below (w.heap.size + 1) (w.alloc (.cells #[.int .i64 0, .int .i64 0] 31)) ((w.alloc (.cells #[.int .i64 0, .int .i64 0] 31)).alloc (.cells #[.pointer none, .slice none 0 0] 45))) := hideI ((Below.refl _ _).alloc (by rw [s0]; omega) _)
  generalize (w.alloc (.cells #[.int .i64 0, .int .i64 0] 31)).alloc (.cells #[.pointer none, .slice none 0 0] 45) = w2 at *
  generalize w.alloc (.cells #[.int .i64 0, .int .i64 0] 31) = w1 at *
  have HG := hideI G
  clear G
  go_loopg [14] l.length (fun g vi ws => ∃ (k : Nat) (acc : List UInt8), k ≤ l.length ∧ g = l.length - k ∧ vi = .int .i64 k ∧ acc.length ≤ 200 * k ∧ Hid (Lib.IsBuilder 45 5 (w.heap.size + 1) (w.heap.size + 1) (Lib.byteCells acc) ws) ∧ Hid (Below (w.heap.size + 1) w1 ws) ∧ Hid (R = shwT (l.drop k) k acc))
  case atStart => exact ⟨0, [], Nat.zero_le _, rfl, rfl, Nat.le_refl _, FB, HK1, HR⟩
  case round =>
    obtain ⟨k, acc, hk, hg, rfl, hacc, HF, HW, HE⟩ := hrel
    clear HR FB HK1
    have hwr : w.heap.size + 1 ≤ wr.heap.size := by have := (unhideI HW).size; omega
    have BW := hideI ((unhideI HB0).step (by rw [s0]; exact unhideI HW))
    have KW := hideI ((unhideI HK0).trans ((unhideI HW).mono (Nat.le_succ _)))
    by_cases hlt : k < l.length
    · have hn : l ≠ [] := by intro h; rw [h] at hlt; simp at hlt
      obtain ⟨b, off, rfl, hb, hc⟩ := (unhideI HA) hn
      obtain ⟨x0, x1, x2, x3, x4, x5⟩ := hc k hlt
      replace x0 := cell_keep (unhideI KW) hb x0
      replace x1 := cell_keep (unhideI KW) hb x1
      replace x2 := cell_keep (unhideI KW) hb x2
      replace x3 := cell_keep (unhideI KW) hb x3
      replace x4 := cell_keep (unhideI KW) hb x4
      replace x5 := cell_keep (unhideI KW) hb x5
      have hE := unhideI HE
      rw [List.drop_eq_getElem_cons hlt, shwT] at hE
      have hki : (k : Int) < (l.length : Int) := by omega
      clear hc
      generalize l[k] = x at *
      have WR := fun w => wrongL_any x w
      have SH := fun w G h => shown_any x w G h
      have SZ := hideI (fun h => shL_len (x := x) h)
      generalize shL x = sx at *
      have HE2 := hideI hE
      have kA := below_a wr (.cells #[.string x.lab, .int .i64 x.i.o, .int .i64 x.i.d, .int .i64 x.i.s, .int .i64 x.i.m, .string x.ref] 27)
      have HKA := hideI kA
      have HX := hideI (Box.new wr #[.string x.lab, .int .i64 x.i.o, .int .i64 x.i.d, .int .i64 x.i.s, .int .i64 x.i.m, .string x.ref] 27)
      unfold aggL at WR SH
      clear hE HE kA
      go_wp2_with fail
      generalize wr.alloc (.cells #[.string x.lab, .int .i64 x.i.o, .int .i64 x.i.d, .int .i64 x.i.s, .int .i64 x.i.m, .string x.ref] 27) = wa at *
      refine (WR _).mono ?_
      rintro e w3 ⟨rfl, k3⟩
      have K3 := hideI (bt (unhideI HKA) k3)
      have B3 := (unhideI BW).step (unhideI K3)
      have X3 := (unhideI HX).step k3
      have c0 := X3.2.1 0 _ rfl
      have c1 := X3.2.1 1 _ rfl
      have c2 := X3.2.1 2 _ rfl
      have c3 := X3.2.1 3 _ rfl
      have c4 := X3.2.1 4 _ rfl
      have c5 := X3.2.1 5 _ rfl
      clear WR k3 HKA HX x0 x1 x2 x3 x4 x5
      have hE := unhideI HE2
      by_cases hw : wrgL x = 0
      · rw [if_pos hw] at hE
        have HE := hideI hE
        have hsx := unhideI SZ hw
        have G3 := (unhideI HG).step (bt (unhideI KW) (unhideI K3))
        have SH3 := SH _ G3 hw
        have HF3 := hideI (builder_step (unhideI HF) (unhideI K3))
        rw [hw]
        clear SH SZ hE HE2 G3 B3 X3
        go_wp2_with fail
        refine SH3.mono ?_
        rintro e w4 ⟨rfl, k4⟩
        have HF4 := hideI (builder_step (unhideI HF3) k4)
        have K4 := hideI (bt (unhideI K3) k4)
        have WS := write_any (w.heap.size + 1) (w.heap.size + 1) (Lib.byteCells acc) (ba sx) w4 (unhideI HF4) (by simp [Lib.byteCells, ba_size]; omega) (by have := (unhideI K4).size; omega)
        rw [bytes_cat] at WS
        clear SH3 k4 HF3 K3 c0 c1 c2 c3 c4 c5
        go_wp2_with fail
        refine WS.mono ?_
        rintro e w5 ⟨rfl, h5, k5⟩
        have HF5 := hideI h5
        have HW5 := hideI (((unhideI HW).trans ((unhideI K4).mono (by omega))).trans k5)
        clear WS h5 k5
        go_wp2_with fail
        go_roundg (l.length - (k + 1))
        case measure => omega
        case rel => exact ⟨k + 1, acc ++ sx, by omega, rfl, by go_num, by rw [List.length_append]; omega, HF5, HW5, HE⟩
      · rw [if_neg hw] at hE
        generalize wrgL x = er at *
        obtain rfl : R = ([], er, (k : Int)) := hE
        have hw0 : (er == 0) = false := by simpa using hw
        obtain ⟨y0, y1⟩ := B3.at2
        have y2 := B3.2.2
        have y4 : w.heap.size < w3.heap.size := B3.1
        have K3' := hideI (bt (unhideI KW) (unhideI K3))
        clear HE2 SH SZ B3 X3 c0 c1 c2 c3 c4 c5
        go_wp2_with fail
        exact bodyPost_ret (v := .tuple #[.string ⟨#[]⟩, .agg #[.int .i64 er, .int .i64 k]]) (by simp [results, Tryd.results8, go_sem, y0, y1, y2, y4]) rfl ⟨rfl, (by repeat (first | exact unhideI K3' | refine Below.setCell ?_ (by first | exact Nat.le_refl _ | (simp; done) | omega | (simp; omega)) _ | refine Below.alloc ?_ (by first | (simp; done) | omega | (simp; omega)) _))⟩
    · have hE := unhideI HE
      have hke : k = l.length := by omega
      rw [hke, List.drop_length] at hE
      obtain rfl : R = (acc, 0, 0) := hE
      have hki : ¬ (k : Int) < (l.length : Int) := by omega
      have ST : Calls Tryd.prog 21 #[.pointer (some ⟨w.heap.size + 1, 0, none⟩)] wr fun e w' => e = .returned (.string (ba acc)) ∧ Below (w.heap.size + 1) wr w' := Tryd.Builder_String_any (w.heap.size + 1) (w.heap.size + 1) acc wr (unhideI HF) hwr
      clear HE hke
      go_wp2_with fail
      refine ST.mono ?_
      rintro e w3 ⟨rfl, k3⟩
      have B3 := (unhideI HB0).step (by rw [s0]; exact (unhideI HW).trans k3)
      obtain ⟨y0, y1⟩ := B3.at2
      have y2 := B3.2.2
      have y4 : w.heap.size < w3.heap.size := B3.1
      have K3' := hideI ((unhideI KW).trans (k3.mono (Nat.le_succ _)))
      clear ST k3 B3
      go_wp2_with fail
      exact bodyPost_ret (v := .tuple #[.string (ba acc), .agg #[.int .i64 0, .int .i64 0]]) (by simp [results, Tryd.results8, go_sem, y0, y1, y2, y4]) rfl ⟨rfl, (by repeat (first | exact unhideI K3' | refine Below.setCell ?_ (by first | exact Nat.le_refl _ | (simp; done) | omega | (simp; omega)) _ | refine Below.alloc ?_ (by first | (simp; done) | omega | (simp; omega)) _))⟩
end Go.Proofs.YtoopgkbefhoeiaaDoor
