/-
  Writing: statements as plain functions; a block of them.
-/
import Derived.Test.YtbakhengcgclmaaGreatDoorSwQz
namespace Go.Proofs.YtbakhengcgclmaaGreatDoor
open Go.RowKit Go.Great
set_option linter.unusedSimpArgs false
set_option linter.unusedVariables false

mutual
/-- A statement, n tabs deep, without the tabs ahead of it and the line feed behind it. -/
def stT : Sm → Nat → List UInt8
  | .mk k b s nm has x i init step body els, n =>
    if k = 5 then ([105, 102, 32, 40] ++ shE x 1 ++ [41, 32]) ++ ([123, 10] ++ stL body (n + 1) ++ (List.replicate n 9 ++ [125])) ++ (if 0 < els.length then [32, 101, 108, 115, 101, 32] ++ ([123, 10] ++ stL els (n + 1) ++ (List.replicate n 9 ++ [125])) else [])
    else if k = 6 then ([119, 104, 105, 108, 101, 32, 40] ++ shE x 1 ++ [41, 32]) ++ ([123, 10] ++ stL body (n + 1) ++ (List.replicate n 9 ++ [125]))
    else if k = 7 then forT (.mk k b s nm has x i init step body els) ++ ([123, 10] ++ stL body (n + 1) ++ (List.replicate n 9 ++ [125]))
    else if k = 11 then [123, 10] ++ stL body (n + 1) ++ (List.replicate n 9 ++ [125])
    else clT (.mk k b s nm has x i init step body els) ++ [59]
def stL : List Sm → Nat → List UInt8
  | [], _ => []
  | y :: ys, n => (List.replicate n 9 ++ stT y n ++ [10]) ++ stL ys n
end
/-- A row of a block. -/
def lnT (n : Nat) (y : Sm) : List UInt8 := List.replicate n 9 ++ stT y n ++ [10]
theorem stL_eq (xs : List Sm) (n : Nat) : stL xs n = (xs.map (lnT n)).flatten := by
  induction xs with
  | nil => rw [stL]; rfl
  | cons y ys ih => rw [stL, ih]; rfl
/-- A block. -/
def blT (xs : List Sm) (n : Nat) : List UInt8 := [123, 10] ++ stL xs (n + 1) ++ (List.replicate n 9 ++ [125])
theorem stT_eq (x : Sm) (n : Nat) : stT x n =
    if x.k = 5 then ([105, 102, 32, 40] ++ shE x.x 1 ++ [41, 32]) ++ blT x.body n ++ (if 0 < x.els.length then [32, 101, 108, 115, 101, 32] ++ blT x.els n else [])
    else if x.k = 6 then ([119, 104, 105, 108, 101, 32, 40] ++ shE x.x 1 ++ [41, 32]) ++ blT x.body n
    else if x.k = 7 then forT x ++ blT x.body n
    else if x.k = 11 then blT x.body n
    else clT x ++ [59] := by
  obtain ⟨k, b, s, nm, has, x, i, l1, l2, l3, l4⟩ := x
  rw [stT]; rfl
/-- All expressions of a statement are such as are written. -/
inductive OkS : Sm → Prop
  | mk (x : Sm) (hc : OkC x) (h1 : x.k = 7 → ∀ y ∈ x.init, OkC y) (h2 : x.k = 7 → ∀ y ∈ x.step, OkC y) (h3 : x.k = 5 ∨ x.k = 6 ∨ x.k = 7 ∨ x.k = 11 → ∀ y ∈ x.body, OkS y) (h4 : x.k = 5 → ∀ y ∈ x.els, OkS y) : OkS x
/-- What the writer makes of a statement, wherever it lies. -/
def WSm (x : Sm) : Prop := ∀ (B b n mb : Nat) (t : List UInt8) (v : Sv) (w : World), Wz w B b (.map (some mb)) n t → Env B b mb w → SvL B w x v → SmF x → OkS x → t.length + (stT x n).length ≤ 1000000000000 →
  Calls Tryz.prog 50 #[.pointer (some ⟨b, 0, none⟩), .agg (smA x v)] w fun e w' => e = .returned (.tuple #[]) ∧ Wz w' B b (.map (some mb)) n (t ++ stT x n) ∧ Wd B b w w'
/-- On the way through a block. -/
structure Bn (w W : World) (B b n mb : Nat) (t : List UInt8) : Prop where
  z : Wz W B b (.map (some mb)) n t
  e : Env B b mb W
  d : Wd B b w W
theorem Bn.next {w W W' : World} {B b n n' mb : Nat} {t t' : List UInt8} (h : Bn w W B b n mb t) (q : Wd B b W W') (z : Wz W' B b (.map (some mb)) n' t') : Bn w W' B b n' mb t' := ⟨z, h.e.step q, h.d.trans q⟩
theorem Bn.alloc {w W : World} {B b n mb : Nat} {t : List UInt8} (h : Bn w W B b n mb t) (o : Obj) : Bn w (W.alloc o) B b n mb t := by
  have hal := below_a W o
  exact h.next (Wd.of hal h.e.le) (h.z.step hal)
theorem bn_tabs {w W : World} {B b n mb : Nat} {t : List UInt8} (h : Bn w W B b n mb t) (y : Sm) (u : Sv) (hy : SvL B W y u) (hl : t.length + n ≤ 1000000000000) : Calls Tryz.prog 49 #[.pointer (some ⟨b, 0, none⟩)] (W.alloc (.cells (smA y u) 90)) fun e W' => e = .returned (.tuple #[]) ∧ Bn w W' B b n mb (t ++ List.replicate n 9) ∧ SmB W' W.heap.size y u ∧ SvL B W' y u := by
  have ha := h.alloc (.cells (smA y u) 90)
  have ka := below_a W (.cells (smA y u) 90)
  have hlt := h.z.lt
  have hle := h.e.le
  exact (wtabs_any B b n _ t _ ha.z (by omega) ha.e.le).mono fun _ _ ⟨h1, h2, h3⟩ => ⟨h1, ha.next h3 h2, (SmB.new W y u).wf h3.wf (by omega), (hy.step (ka.mono hle)).step h3.below⟩
theorem bn_stat {w W : World} {B b n mb : Nat} {t : List UInt8} (h : Bn w W B b n mb t) (y : Sm) (u : Sv) (hw : WSm y) (hy : SvL B W y u) (hf : SmF y) (ho : OkS y) (hl : t.length + (stT y n).length ≤ 1000000000000) : Calls Tryz.prog 50 #[.pointer (some ⟨b, 0, none⟩), .agg (smA y u)] W fun e W' => e = .returned (.tuple #[]) ∧ Bn w W' B b n mb (t ++ stT y n) :=
  (hw B b n mb t u W h.z h.e hy hf ho hl).mono fun _ _ ⟨h1, h2, h3⟩ => ⟨h1, h.next h3 h2⟩
theorem bn_byte {w W : World} {B b n mb : Nat} {t : List UInt8} (h : Bn w W B b n mb t) (c : UInt8) (hl : t.length + 1 ≤ 1000000000000) : Calls Tryz.prog 28 #[.pointer (some ⟨b, 0, none⟩), .int .u8 ((c.toNat : Nat) : Int)] W fun e W' => (∃ v, e = .returned v) ∧ Bn w W' B b n mb (t ++ [c]) :=
  (zbyte_any B b n _ t c W h.z (by omega) h.e.le).mono fun _ _ ⟨h1, h2, h3⟩ => ⟨h1, h.next h3 h2⟩
set_option maxRecDepth 100000 in
set_option maxHeartbeats 2000000 in
theorem wblock_any (xs : List Sm) (IH : ∀ y ∈ xs, WSm y) (ho : ∀ y ∈ xs, OkS y) (B b n mb : Nat) (t : List UInt8) (v : Value) (w : World) (h : Wz w B b (.map (some mb)) n t) (E : Env B b mb w) (hx : SmL B w v xs) (hl : t.length + (blT xs n).length ≤ 1000000000000) :
    Calls Tryz.prog 30 #[.pointer (some ⟨b, 0, none⟩), v] w fun e w' => e = .returned (.tuple #[]) ∧ Wz w' B b (.map (some mb)) n (t ++ blT xs n) ∧ Wd B b w w' := by
  obtain ⟨ao, cap, rfl, hmax, -⟩ := hx.at
  unfold maxLen at hmax
  have HX := hideI hx
  have hlen : (blT xs n).length = 2 + (xs.map (lnT (n + 1))).flatten.length + (n + 1) := by unfold blT; rw [stL_eq]; simp only [List.length_append, List.length_cons, List.length_nil, List.length_replicate]
  rw [hlen] at hl
  have HL := hideI hl
  have hnI : (n : Int) + 1 ≤ 1000000000000 := by omega
  have hn0 : (0 : Int) ≤ (n : Int) := by omega
  have HO := hideI ho
  have HI := hideI IH
  have S0 := hideI (show Bn w w B b n mb t from ⟨h, E, Wd.refl _ _ _⟩)
  have hlt := h.lt
  have WS := hideI (zstr_any B b n _ t ⟨#[123, 10]⟩ w h (by show _ + 2 ≤ _; omega) E.le)
  clear hx hl hlen ho IH h E
  go_enter_defers Tryz.func30, Tryz.ntmps30
  go_wp2_with fail
  refine (unhideI WS).mono ?_
  rintro e W1 ⟨⟨u, rfl⟩, z1, k1⟩
  obtain ⟨c2, c3⟩ := z1.cells
  have hth := z1.thaw 3
  have hlt1 := z1.lt
  have S1 := hideI ((unhideI S0).next k1 z1)
  obtain ⟨z2, k2⟩ := z1.deep (n + 1)
  have S2 := hideI ((unhideI S1).next k2 z2)
  have hlt2 := z2.lt
  clear WS z1 k1 S0 z2 k2 S1
  simp only [show ((n + 1 : Nat) : Int) = (n : Int) + 1 from rfl] at S2 hlt2
  go_wp2_with fail
  go_loopg [20] xs.length (fun g y wr => ∃ (i : Nat), i ≤ xs.length ∧ g = xs.length - i ∧ y = .int .i64 (i : Int) ∧ Hid (Bn w wr B b (n + 1) mb (t ++ [123, 10] ++ ((xs.take i).map (lnT (n + 1))).flatten)))
  case atStart => exact ⟨0, Nat.zero_le _, rfl, rfl, hideI (by simpa using unhideI S2)⟩
  case round =>
    obtain ⟨i, hi, hg, rfl, HC⟩ := hrel
    generalize wr = W0 at *
    clear S2 c2 c3 hth hlt1 hlt2
    have hb1 : b < W0.heap.size := (unhideI HC).z.lt
    by_cases hlt : i < xs.length
    · have hxw := (unhideI HX).step (unhideI HC).d.below
      obtain ⟨b1, o1, sv, rfl, hbw, hra, hsv, hf⟩ := hxw.read i hlt
      have HRA := hideI hra
      have ONE := hideI hsv.one
      have hiI : (i : Int) < (xs.length : Int) := by omega
      have hi0 : (0 : Int) ≤ (i : Int) := by omega
      have HFL : ((xs.take i).map (lnT (n + 1))).flatten.length + ((n + 1) + (stT xs[i] (n + 1)).length + 1) ≤ (xs.map (lnT (n + 1))).flatten.length := by
        have := flat_take_le (lnT (n + 1)) xs i hlt
        have e : (lnT (n + 1) xs[i]).length = (n + 1) + (stT xs[i] (n + 1)).length + 1 := by unfold lnT; simp only [List.length_append, List.length_cons, List.length_nil, List.length_replicate]
        omega
      have CA := hideI (bn_tabs (unhideI HC) xs[i] sv hsv (by have := unhideI HL; simp only [List.length_append, List.length_cons, List.length_nil]; omega))
      have CD := hideI (fun (W : World) (s : Bn w W B b (n + 1) mb (t ++ [123, 10] ++ ((xs.take i).map (lnT (n + 1))).flatten ++ List.replicate (n + 1) 9)) (q : SvL B W xs[i] sv) => bn_stat s xs[i] sv (unhideI HI xs[i] (List.getElem_mem hlt)) q hf (unhideI HO _ (List.getElem_mem hlt)) (by have := unhideI HL; simp only [List.length_append, List.length_cons, List.length_nil, List.length_replicate]; omega))
      have CF := hideI (fun (W : World) (s : Bn w W B b (n + 1) mb (t ++ [123, 10] ++ ((xs.take i).map (lnT (n + 1))).flatten ++ List.replicate (n + 1) 9 ++ stT xs[i] (n + 1))) => bn_byte s 10 (by have := unhideI HL; simp only [List.length_append, List.length_cons, List.length_nil, List.length_replicate]; omega))
      have hAs := hideI (smA_size xs[i] sv)
      have FT := hideI (show t ++ [123, 10] ++ ((xs.take (i + 1)).map (lnT (n + 1))).flatten = t ++ [123, 10] ++ ((xs.take i).map (lnT (n + 1))).flatten ++ List.replicate (n + 1) 9 ++ stT xs[i] (n + 1) ++ [10] by
        rw [flat_take (lnT (n + 1)) xs i hlt]; unfold lnT; simp only [List.append_assoc])
      have HN := hideI (fun (W : World) (q : SmB W W0.heap.size xs[i] sv) => q.heap)
      have HN2 := hideI (fun (W : World) (q : SmB W W0.heap.size xs[i] sv) => q.lt)
      clear hra hxw hsv hf HFL
      generalize xs[i] = y at *
      generalize smA y sv = A at *
      go_wp2_with (first | (refine wpList_load_mid rfl 90 (.tmp 22) rfl b1 (o1 + i * 21) rfl A.toList _ (unhideI HRA) Tryz.underlying90 rfl (by rw [Array.length_toList, unhideI hAs]; exact Tryz.sizeStat) ?_) | (refine wpList_store_row rfl 90 (.tmp 5) (.tmp 23) rfl W0.heap.size A rfl rfl _ _ (heapNew0 _ _) (by rw [unhideI hAs]; exact Tryz.sizeStat) (by rw [unhideI hAs]; rfl) (unhideI ONE) ?_; rw [row_alloc]))
      refine (unhideI CA).mono ?_
      rintro e w1 ⟨rfl, k1, k2, k3⟩
      have CE := hideI (unhideI CD w1 k1 k3)
      have NB := hideI (unhideI HN w1 k2)
      have hs8 : W0.heap.size < w1.heap.size := unhideI HN2 w1 k2
      clear CA k1 k2 k3 HC HRA ONE CD HN HN2
      go_wp2_with (refine wpList_load_row rfl 90 (.tmp 5) rfl W0.heap.size rfl _ A _ _ (unhideI NB) Tryz.underlying90 rfl (by rw [unhideI hAs]; exact Tryz.sizeStat) ?_)
      refine (unhideI CE).mono ?_
      rintro e w2 ⟨rfl, k4⟩
      have hb4 : b < w2.heap.size := k4.z.lt
      have CG := hideI (unhideI CF w2 k4)
      clear CE k4 NB hAs CF
      go_wp2_with fail
      refine (unhideI CG).mono ?_
      rintro e w3 ⟨⟨u3, rfl⟩, k5⟩
      have K5 := hideI k5
      clear CG k5
      go_wp2_with fail
      go_roundg (xs.length - (i + 1))
      case measure => omega
      case rel =>
        refine ⟨i + 1, by omega, rfl, by go_num, ?_⟩
        rw [unhideI FT]
        exact K5
    · have hiI : ¬ (i : Int) < (xs.length : Int) := by omega
      have hil : xs.take i = xs := List.take_of_length_le (by omega)
      rw [hil] at HC
      clear hil
      go_wp2_with fail
      refine leaves_cons (f := 48) (args := #[.pointer (some ⟨b, 0, none⟩)]) (by simp) (by simp [go_sem]) ?_
      refine (wcloseD_any B b n (.map (some mb)) _ .returning W0 (unhideI HC).z (by have := unhideI HL; simp only [List.length_append, List.length_cons, List.length_nil]; omega) (unhideI HC).e.le).mono ?_
      rintro e u' w8 ⟨rfl, rfl, z8, k8⟩
      refine ⟨_, results_none rfl _ _ _, rfl, ?_, (unhideI HC).d.trans k8⟩
      have e : t ++ blT xs n = t ++ [123, 10] ++ (xs.map (lnT (n + 1))).flatten ++ (List.replicate n 9 ++ [125]) := by unfold blT; rw [stL_eq]; simp only [List.append_assoc]
      rw [e]
      exact z8
end Go.Proofs.YtbakhengcgclmaaGreatDoor
