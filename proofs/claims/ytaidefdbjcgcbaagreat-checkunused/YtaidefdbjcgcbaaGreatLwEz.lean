/-
  What is wrong with a program: the program's own looker: lists of statements.
-/
import Derived.Test.YtaidefdbjcgcbaaGreatCkJz
namespace Go.Proofs.YtaidefdbjcgcbaaGreat
open Go.RowKit Go.Great
set_option linter.unusedSimpArgs false
set_option linter.unusedVariables false

theorem row_alloc (w : World) (Z A : Array Value) (T : TypeId) : (w.alloc (.cells Z T)).setRow w.heap.size A = w.alloc (.cells A T) := by
  unfold World.setRow World.alloc
  congr 1
  apply Array.ext_getElem?
  intro i
  rw [Array.getElem?_modify]
  by_cases h : w.heap.size = i
  · subst h; simp
  · rw [if_neg h, Array.getElem?_push, Array.getElem?_push, if_neg (Ne.symm h), if_neg (Ne.symm h)]
theorem heapNew0 (w : World) (o : Obj) : (w.alloc o).heap[w.heap.size]? = some o := by show (w.heap.push _)[w.heap.size]? = _; simp
/-- What lies behind a statement's cells. -/
structure SvL (B : Nat) (w : World) (x : Sm) (v : Sv) : Prop where
  hx : ExL B w v.xk x.x.kids
  hi : ExL B w v.ik x.i.kids
  h1 : SmL B w v.init x.init
  h2 : SmL B w v.step x.step
  h3 : SmL B w v.body x.body
  h4 : SmL B w v.els x.els
theorem SvL.step {B : Nat} {w w' : World} {x : Sm} {v : Sv} (h : SvL B w x v) (k : Below B w w') : SvL B w' x v := ⟨h.hx.step k, h.hi.step k, h.h1.step k, h.h2.step k, h.h3.step k, h.h4.step k⟩
theorem ExL.slice {B : Nat} {w : World} {v : Value} {xs : List Ex} (h : ExL B w v xs) : ∃ ao cap, v = .slice ao xs.length cap := by
  obtain ⟨ao, cap, e, -, -⟩ := h.at
  exact ⟨ao, cap, e⟩
theorem SmL.slice {B : Nat} {w : World} {v : Value} {xs : List Sm} (h : SmL B w v xs) : ∃ ao cap, v = .slice ao xs.length cap := by
  obtain ⟨ao, cap, e, -, -⟩ := h.at
  exact ⟨ao, cap, e⟩
theorem SvL.one {B : Nat} {w : World} {x : Sm} {v : Sv} (h : SvL B w x v) : (smA x v).all (·.oneCell') = true := by
  obtain ⟨a1, c1, e1⟩ := h.hx.slice
  obtain ⟨a2, c2, e2⟩ := h.hi.slice
  obtain ⟨a3, c3, e3⟩ := h.h1.slice
  obtain ⟨a4, c4, e4⟩ := h.h2.slice
  obtain ⟨a5, c5, e5⟩ := h.h3.slice
  obtain ⟨a6, c6, e6⟩ := h.h4.slice
  unfold smA smC exC
  rw [e1, e2, e3, e4, e5, e6]
  simp [Value.oneCell']
/-- A list of statements read: one of them. -/
theorem SmL.read {B : Nat} {w : World} {ao : Option Addr} {n cap : Nat} {xs : List Sm} (h : SmL B w (.slice ao n cap) xs) (i : Nat) (hi : i < xs.length) : ∃ b off v, ao = some ⟨b, off, none⟩ ∧ b < w.heap.size ∧ w.rangeAt b (off + i * 21) (smA xs[i] v).toList ∧ SvL B w xs[i] v ∧ SmF xs[i] := by
  have hn : xs ≠ [] := by intro e; rw [e] at hi; simp at hi
  obtain ⟨ao', cap', e1, -, hat⟩ := h.at
  injection e1 with e1 _ e2
  subst e1 e2
  obtain ⟨b, off, rfl, -, hb, hc⟩ := hat hn
  obtain ⟨v, hf, a1, a2, a3, a4, a5, a6, cs⟩ := hc i hi
  refine ⟨b, off, v, rfl, hb, fun j u hu => ?_, ⟨a1, a2, a3, a4, a5, a6⟩, hf⟩
  have hj : j < 21 := by
    have := (List.getElem?_eq_some_iff.1 hu).1
    simpa [smA_size] using this
  rw [cs j hj]
  simpa [smA] using hu
set_option maxHeartbeats 1000000 in
theorem swstat_any (x : Sm) (v : Sv) (w : World) : Calls Tryz.prog 149 #[.agg (smA x v)] w fun e w' => e = .returned (.int .i64 (wSmF x.k x.b x.nm)) ∧ Below w.heap.size w w' := by
  have ka := below_a w (.cells (smA x v) 103)
  obtain ⟨c0, c1, c2, c3, c4⟩ := (SmB.new w x v).own
  generalize smA x v = A at *
  generalize hW : w.alloc (.cells A 103) = w1 at *
  generalize x.k = k at *
  generalize x.b = b at *
  generalize x.s = s at *
  generalize x.nm = nm at *
  have NA := hideI (swnamed_any b s nm w1)
  have MA := hideI (swname_any nm w1)
  by_cases h2 : k = 2
  · have hw : wSmF k b nm = wTyped b nm := by unfold wSmF; rw [if_pos h2]
    rw [hw]
    subst h2
    go_enter Tryz.func149, Tryz.ntmps149
    go_wp2_with (refine wpList_boxTo rfl 103 (.tmp 0) rfl (some 1) rfl _ rfl A rfl ?_; rw [hW])
    refine (unhideI NA).mono ?_
    rintro e w2 ⟨rfl, k2⟩
    go_wp2_with fail
    go_ret
    exact ⟨rfl, bT ka k2⟩
  · have e2 : (k == 2) = false := beq_eq_false_iff_ne.2 h2
    by_cases h3 : k = 3
    · have hw : wSmF k b nm = wName nm := by unfold wSmF; rw [if_neg h2, if_pos h3]
      rw [hw]
      subst h3
      go_enter Tryz.func149, Tryz.ntmps149
      go_wp2_with (refine wpList_boxTo rfl 103 (.tmp 0) rfl (some 1) rfl _ rfl A rfl ?_; rw [hW])
      refine (unhideI MA).mono ?_
      rintro e w2 ⟨rfl, k2⟩
      go_wp2_with fail
      go_ret
      exact ⟨rfl, bT ka k2⟩
    · have e3 : (k == 3) = false := beq_eq_false_iff_ne.2 h3
      have hw : wSmF k b nm = 0 := by unfold wSmF; rw [if_neg h2, if_neg h3]
      rw [hw]
      go_enter Tryz.func149, Tryz.ntmps149
      go_wp2_with (refine wpList_boxTo rfl 103 (.tmp 0) rfl (some 1) rfl _ rfl A rfl ?_; rw [hW])
      go_ret
      exact ⟨rfl, ka⟩
theorem lkSs_cons (x : Sm) (xs : List Sm) (d c : Nat) : lkSs (x :: xs) d c = if (lkS x d c).1 ≠ 0 then lkS x d c else lkSs xs d (lkS x d c).2 := by rw [lkSs]
/-- What the looker says of a statement, wherever it lies. -/
def LSm (x : Sm) : Prop := ∀ (B lb c d : Nat) (v : Sv) (w : World), Box w lb [.int .i64 (c : Int)] → B ≤ lb → c ≤ 20000 → d ≤ 101 → SvL B w x v → SmF x →
  Calls Tryz.prog 121 #[.pointer (some ⟨lb, 0, none⟩), .agg (smA x v), .int .i64 (d : Int)] w fun e w' => e = .returned (.int .i64 (lkS x d c).1) ∧ Ctd w w' lb (lkS x d c).2
set_option maxHeartbeats 1000000 in
theorem lstats_any (xs : List Sm) (LE : ∀ x ∈ xs, ∀ d c, c ≤ 20000 → (lkS x d c).1 = 0 → (lkS x d c).2 ≤ 20000) (IH : ∀ x ∈ xs, LSm x) (B lb c d : Nat) (v : Value) (w : World) (hb : Box w lb [.int .i64 (c : Int)]) (hB : B ≤ lb) (hc : c ≤ 20000) (hd : d ≤ 101) (hx : SmL B w v xs) :
    Calls Tryz.prog 84 #[.pointer (some ⟨lb, 0, none⟩), v, .int .i64 (d : Int)] w fun e w' => e = .returned (.int .i64 (lkSs xs d c).1) ∧ Ctd w w' lb (lkSs xs d c).2 := by
  obtain ⟨ao, cap, rfl, hmax, -⟩ := hx.at
  have HX := hideI hx
  have HB := hideI hb
  have hlb := hb.1
  have HLE := hideI LE
  clear hb hx LE
  generalize hR : lkSs xs d c = R
  unfold maxLen at hmax
  go_enter Tryz.func84, Tryz.ntmps84
  go_wp2_with fail
  go_loopg [12] xs.length (fun g t wr => ∃ (i ci : Nat), i ≤ xs.length ∧ g = xs.length - i ∧ t = .int .i64 (i : Int) ∧ ci ≤ 20000 ∧ Hid (Ctd w wr lb ci) ∧ Hid (lkSs (xs.drop i) d ci = R))
  case atStart => exact ⟨0, c, Nat.zero_le _, rfl, rfl, hc, ⟨unhideI HB, Kb.refl _ _⟩, hR⟩
  case round =>
    obtain ⟨i, ci, hi, hg, rfl, hci, HC, HE⟩ := hrel
    generalize wr = W0 at *
    have hsz := (unhideI HC).kb.size
    by_cases hlt : i < xs.length
    · have hxw : SmL B W0 (.slice ao xs.length cap) xs := (unhideI HX).step ((unhideI HC).kb.below (by omega) hB)
      obtain ⟨b1, o1, sv, rfl, hbw, hra, hsv, hf⟩ := hxw.read i hlt
      have HRA := hideI hra
      have ONE := hideI hsv.one
      have hiI : (i : Int) < (xs.length : Int) := by omega
      have hi0 : (0 : Int) ≤ (i : Int) := by omega
      have HD := hideI (show xs.drop i = xs[i] :: xs.drop (i + 1) from List.drop_eq_getElem_cons hlt)
      have HIH := hideI (IH xs[i] (List.getElem_mem hlt))
      have ka := below_a W0 (.cells (smA xs[i] sv) 103)
      have CA := hideI (unhideI HIH B lb ci d sv _ ((unhideI HC).box.step ka) hB hci hd (hsv.step (ka.mono (by omega))) hf)
      have KA := hideI (Kb.of (b := lb) ka)
      have LE := hideI (unhideI HLE xs[i] (List.getElem_mem hlt) d ci hci)
      have NB := hideI (SmB.new W0 xs[i] sv).heap
      have hAs := hideI (smA_size xs[i] sv)
      rw [unhideI HD, lkSs_cons] at HE
      clear hra hxw hsv HIH ka HD hf
      generalize xs[i] = y at *
      generalize lkS y d ci = ry at *
      obtain ⟨er, cn⟩ := ry
      dsimp only at CA LE HE
      generalize smA y sv = A at *
      go_wp2_with (first | (refine wpList_load_mid rfl 103 (.tmp 14) rfl b1 (o1 + i * 21) rfl A.toList _ (unhideI HRA) Tryz.underlying103 rfl (by rw [Array.length_toList, unhideI hAs]; exact Tryz.sizeStat) ?_) | (refine wpList_store_row rfl 103 (.tmp 8) (.tmp 15) rfl W0.heap.size A rfl rfl _ _ (heapNew0 _ _) (by rw [unhideI hAs]; exact Tryz.sizeStat) (by rw [unhideI hAs]; rfl) (unhideI ONE) ?_; rw [row_alloc]) | (refine wpList_load_row rfl 103 (.tmp 8) rfl W0.heap.size rfl _ A _ _ (unhideI NB) Tryz.underlying103 rfl (by rw [unhideI hAs]; exact Tryz.sizeStat) ?_))
      refine (unhideI CA).mono ?_
      rintro e w1 ⟨rfl, k1⟩
      have K1 := hideI (show Ctd w w1 lb cn from ⟨k1.box, ((unhideI HC).kb.trans (unhideI KA)).trans k1.kb⟩)
      clear CA k1 KA HC NB HRA ONE hAs
      by_cases he : er = 0
      · subst he
        go_wp2_with fail
        go_roundg (xs.length - (i + 1))
        case measure => omega
        case rel =>
          have h2 := unhideI HE
          rw [if_neg (by simp)] at h2
          exact ⟨i + 1, cn, by omega, rfl, by go_num, unhideI LE (by simp), K1, h2⟩
      · have ee : (er == 0) = false := beq_eq_false_iff_ne.2 he
        have h2 := unhideI HE
        rw [if_pos he] at h2
        subst h2
        go_wp2_with fail
        go_ret
        exact ⟨rfl, unhideI K1⟩
    · have hiI : ¬ (i : Int) < (xs.length : Int) := by omega
      have h2 := unhideI HE
      rw [List.drop_eq_nil_of_le (by omega), lkSs] at h2
      subst h2
      go_wp2_with fail
      go_ret
      exact ⟨rfl, unhideI HC⟩
/-- What stands by the way in an SFor. -/
def lkB (l : List Sm) (d c : Nat) : Int × Nat := if 1 < l.length then (5, c) else if isSE l = true then lkSs l d c else (8, c)
set_option maxHeartbeats 1000000 in
theorem ldone_any (xs : List Sm) (LE : ∀ x ∈ xs, ∀ d c, c ≤ 20000 → (lkS x d c).1 = 0 → (lkS x d c).2 ≤ 20000) (IH : ∀ x ∈ xs, LSm x) (B lb c d : Nat) (v : Value) (w : World) (hb : Box w lb [.int .i64 (c : Int)]) (hB : B ≤ lb) (hc : c ≤ 20000) (hd : d ≤ 101) (hx : SmL B w v xs) :
    Calls Tryz.prog 169 #[.pointer (some ⟨lb, 0, none⟩), v, .int .i64 (d : Int)] w fun e w' => e = .returned (.int .i64 (lkB xs d c).1) ∧ Ctd w w' lb (lkB xs d c).2 := by
  have SA := hideI (fun W hb' hx' => lstats_any xs LE IH B lb c d v W hb' hB hc hd hx')
  clear LE IH
  obtain ⟨ao, cap, rfl, hmax, -⟩ := hx.at
  unfold maxLen at hmax
  have hlb := hb.1
  have C0 := hideI (show Ctd w w lb c from ⟨hb, Kb.refl _ _⟩)
  unfold lkB
  by_cases h1 : 1 < xs.length
  · rw [if_pos h1]
    have h1I : (1 : Int) < (xs.length : Int) := by omega
    go_enter Tryz.func169, Tryz.ntmps169
    go_wp2_with fail
    go_ret
    exact ⟨rfl, unhideI C0⟩
  · rw [if_neg h1]
    have h1I : ¬ (1 : Int) < (xs.length : Int) := by omega
    have HX := hideI hx
    clear hx
    generalize hR : (if isSE xs = true then lkSs xs d c else (8, c)) = R
    have HR := hideI hR
    clear hR
    go_enter Tryz.func169, Tryz.ntmps169
    go_wp2_with fail
    go_loopg [14] xs.length (fun g t wr => ∃ (i : Nat), i ≤ xs.length ∧ g = xs.length - i ∧ t = .int .i64 (i : Int) ∧ Hid (isSE (xs.take i) = true) ∧ Hid (Below w.heap.size w wr))
    case atStart => exact ⟨0, Nat.zero_le _, rfl, rfl, rfl, Below.refl _ _⟩
    case round =>
      obtain ⟨i, hi, hg, rfl, HE, HK⟩ := hrel
      generalize wr = W0 at *
      have hsz := (unhideI HK).size
      by_cases hlt : i < xs.length
      · have hxw : SmL B W0 (.slice ao xs.length cap) xs := (unhideI HX).step ((unhideI HK).mono (by omega))
        obtain ⟨b1, o1, sv, rfl, hbw, hra, hsv, hf⟩ := hxw.read i hlt
        have HRA := hideI hra
        have ONE := hideI hsv.one
        have hiI : (i : Int) < (xs.length : Int) := by omega
        have hi0 : (0 : Int) ≤ (i : Int) := by omega
        have ka := below_a W0 (.cells (smA xs[i] sv) 103)
        have KA := hideI (bT (unhideI HK) ka)
        obtain ⟨c0, c1, c2, c3, c4⟩ := (SmB.new W0 xs[i] sv).own
        have hAs := hideI (smA_size xs[i] sv)
        have ET := hideI (show isSE (xs.take (i + 1)) = (isSE (xs.take i) && decide (xs[i].k = 3 ∨ xs[i].k = 4)) by unfold isSE; rw [List.take_succ_eq_append_getElem hlt, List.all_append]; simp)
        have EA := hideI (show isSE xs = true → decide (xs[i].k = 3 ∨ xs[i].k = 4) = true from fun h => by unfold isSE at h; exact List.all_eq_true.1 h _ (List.getElem_mem hlt))
        clear hra hxw hsv hf ka c1 c2 c3 c4
        generalize xs[i] = y at *
        generalize smA y sv = A at *
        generalize y.k = yk at *
        have RW := row_alloc W0
        generalize hW1 : W0.alloc (.cells A 103) = W1 at *
        by_cases h3 : yk = 3 ∨ yk = 4
        · rcases h3 with rfl | rfl
          all_goals
            go_wp2_with (first | (refine wpList_load_mid rfl 103 (.tmp 16) rfl b1 (o1 + i * 21) rfl A.toList _ (unhideI HRA) Tryz.underlying103 rfl (by rw [Array.length_toList, unhideI hAs]; exact Tryz.sizeStat) ?_) | (refine wpList_store_row rfl 103 (.tmp 8) (.tmp 17) rfl W0.heap.size A rfl rfl _ _ (heapNew0 _ _) (by rw [unhideI hAs]; exact Tryz.sizeStat) (by rw [unhideI hAs]; rfl) (unhideI ONE) ?_; rw [row_alloc, hW1]))
            go_roundg (xs.length - (i + 1))
            case measure => omega
            case rel =>
              refine ⟨i + 1, by omega, rfl, by go_num, ?_, KA⟩
              show isSE (xs.take (i + 1)) = true
              rw [unhideI ET, unhideI HE]; rfl
        · have e3 : (yk != 3) = true := by apply bne_iff_ne.2; omega
          have e4 : (yk != 4) = true := by apply bne_iff_ne.2; omega
          have hns : isSE xs ≠ true := fun h => by have := unhideI EA h; simp at this; omega
          have hR := unhideI HR
          rw [if_neg hns] at hR
          subst hR
          go_wp2_with (first | (refine wpList_load_mid rfl 103 (.tmp 16) rfl b1 (o1 + i * 21) rfl A.toList _ (unhideI HRA) Tryz.underlying103 rfl (by rw [Array.length_toList, unhideI hAs]; exact Tryz.sizeStat) ?_) | (refine wpList_store_row rfl 103 (.tmp 8) (.tmp 17) rfl W0.heap.size A rfl rfl _ _ (heapNew0 _ _) (by rw [unhideI hAs]; exact Tryz.sizeStat) (by rw [unhideI hAs]; rfl) (unhideI ONE) ?_; rw [row_alloc, hW1]))
          go_ret
          exact ⟨rfl, Ctd.of (unhideI C0).box (unhideI KA)⟩
      · have hiI : ¬ (i : Int) < (xs.length : Int) := by omega
        have hse := unhideI HE
        rw [List.take_of_length_le (by omega)] at hse
        have hR := unhideI HR
        rw [if_pos hse] at hR
        have CS := hideI (unhideI SA W0 ((unhideI C0).box.step (unhideI HK)) ((unhideI HX).step ((unhideI HK).mono (by omega))))
        rw [hR] at CS
        clear hR HR
        go_wp2_with fail
        refine (unhideI CS).mono ?_
        rintro e w1 ⟨rfl, k1⟩
        go_wp2_with fail
        go_ret
        exact ⟨rfl, (Ctd.of (unhideI C0).box (unhideI HK)).trans k1⟩
end Go.Proofs.YtaidefdbjcgcbaaGreat
