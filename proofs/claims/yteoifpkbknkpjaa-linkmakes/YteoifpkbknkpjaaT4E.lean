/-
  The document's answer on lines: Check.
-/
import Derived.Test.YteoifpkbknkpjaaT4B
import Derived.Test.YteoifpkbknkpjaaT4F
namespace Go.Proofs.Yteoifpkbknkpjaa
open Go.RowKit Go.Maps
set_option linter.unusedSimpArgs false
set_option linter.unusedVariables false

theorem Try.zeroB (w : World) : (zeroValue 4).run Try.prog w = .ok (.bool false) w := by kernel_rfl
theorem plainElem_bool_inv {H : Type} {P : Program} {e : TypeId} (he : P.underlying e = some .bool) {v : Value} {z : DataW H × List MemPlace} (h : plainElem P e v = some z) : ∃ a, v = .bool a ∧ z = (.lit (.bool a), []) := by
  unfold plainElem at h
  rw [he] at h
  cases v <;> simp at h
  exact ⟨_, rfl, h.symm⟩
/-- Block b is a map that has just these names. -/
def Mb (w : World) (b : Nat) (A : Nmd) : Prop := ∃ D : DataW Unit, w.ownsMap Try.prog 9 (plainElem Try.prog 4) b A.length D ∧ ∀ k : List UInt8, D.atKey (.string k) (.lit (.bool false)) = .lit (.bool (hasA A k))
theorem Mb.made (w : World) : Mb (w.alloc (.map #[] 0)) w.heap.size [] := ⟨_, World.ownsMap_made _ _ _ _, fun _ => rfl⟩
theorem Mb.lt {w : World} {b : Nat} {A : Nmd} (h : Mb w b A) : b < w.heap.size := by obtain ⟨D, h1, _⟩ := h; exact h1.lt
theorem Mb.step {w w' : World} {b : Nat} {A : Nmd} (h : Mb w b A) (k : Below w.heap.size w w') : Mb w' b A := by
  have hl := h.lt
  obtain ⟨D, ⟨es, c, h1, h2⟩, h3⟩ := h
  exact ⟨D, ⟨es, c, by rw [k.block b hl]; exact h1, h2⟩, h3⟩
theorem Mb.put {w : World} {b : Nat} {A : Nmd} {k : List UInt8} {x : Int} {D : DataW Unit} (hD : IsMap D) (h2 : ∀ k : List UInt8, D.atKey (.string k) (.lit (.bool false)) = .lit (.bool (hasA A k))) (h1 : w.ownsMap Try.prog 9 (plainElem Try.prog 4) b (A.length + 1) (D.put (.string k) (.lit (.bool true)))) : Mb w b (A ++ [(k, x)]) := by
  refine ⟨_, by rw [List.length_append]; exact h1, fun j => ?_⟩
  by_cases e : k = j
  · subst e
    rw [atKey_put_same hD (show WideAt.IsKeyLit (.string k) from trivial), hasA_snoc]; simp
  · have e1 : (k == j) = false := beq_eq_false_iff_ne.2 e
    have e2 : (Lit.string j) ≠ Lit.string k := fun h => e (by injection h with h; exact h.symm)
    rw [atKey_put_other e2, hasA_snoc, e1, Bool.or_false]; exact h2 j
section
variable {w : World} {ops : Array Oper} {rest : List Oper} {o : Oper} {a : Act} {Q : Exit → Act → World → Prop}
set_option maxRecDepth 100000 in
theorem wpList_lookB (hg : o.guard = none) (m x : Operand) (hop : o.op = Op.lookup 87 m x false) (b : Nat) (A : Nmd) (hm : a.eval m = .map (some b)) (hM : Mb w b A) (s : ByteArray) (hx : a.eval x = .string s) (hs : s.size ≤ maxLen)
    (hK : wpList Try.prog ops Q rest (a.put o.dst (.bool (hasA A s.toList))) w) : wpList Try.prog ops Q (o :: rest) a w := by
  obtain ⟨D, h1, h2⟩ := hM
  refine wpList_plain hg fun K' hK' => ?_
  obtain ⟨v, ps, hrun, hv⟩ := h1.lookup Try.keyS Try.underlying87 (Try.zeroB _) (plainElem_bool Try.underlying4 false) (Go.WideMaps.keyOf_string_mk Try.underlying9 hs)
  rw [h2] at hv
  obtain ⟨c, rfl, hc⟩ := plainElem_bool_inv Try.underlying4 hv
  obtain rfl : c = hasA A s.data.toList := by
    injection hc with hc _
    injection hc with hc
    injection hc with hc
    exact hc.symm
  unfold Oper.wp
  simp [execOp, hop, hm, hx, hrun, Result.andThen]
  rw [ByteArray.toList_eq] at hK
  exact hK' _ _ hK
set_option maxRecDepth 100000 in
theorem wpList_putB (hg : o.guard = none) (m x v : Operand) (hop : o.op = Op.mapUpdate 87 m x v) (b : Nat) (A : Nmd) (hm : a.eval m = .map (some b)) (hM : Mb w b A) (hl : A.length < maxLen) (s : ByteArray) (hx : a.eval x = .string s) (hs : s.size ≤ maxLen) (y : Int) (hv : a.eval v = .bool true)
    (hK : ∀ w', Mb w' b (A ++ [(s.toList, y)]) → w.grownBy w' (some b) → wpList Try.prog ops Q rest (a.put o.dst undef) w') : wpList Try.prog ops Q (o :: rest) a w := by
  obtain ⟨D, h1, h2⟩ := hM
  refine wpList_mapUpdate_own w hg m x v _ hop 9 4 Try.keyS Try.underlying87 _ b _ D hm h1 hl _ _ _ hx hv (Go.WideMaps.keyOf_string_mk Try.underlying9 hs) _ [] (plainElem_bool Try.underlying4 true) ?_
  intro w' hown hgrow
  refine hK w' ?_ hgrow
  have := Mb.put (k := s.data.toList) (x := y) h1.isMap h2 hown
  rw [← ByteArray.toList_eq] at this
  exact this
end
theorem below_grownM {w w' : World} {row : Option Nat} {B : Nat} (h : w.grownBy w' row) (hB : B ≤ w.heap.size) (hr : ∀ j, row = some j → B ≤ j) : Below B w w' := ⟨h.os, h.tape, h.output, h.size, fun k hk => h.block k (by omega) (fun e => by have := hr k e.symm; omega)⟩
theorem Box.grownM {u u' : World} {m b : Nat} {bs : List Value} (h : Box u b bs) (hg : u.grownBy u' (some m)) (hne : b ≠ m) : Box u' b bs := by
  have hb := hg.block b h.1 (fun e => hne (by injection e))
  exact ⟨Nat.lt_of_lt_of_le h.1 hg.size, fun j v hv => by rw [World.cell?_of_block (w := u) (a := ⟨b, j, none⟩) hb]; exact h.2.1 j v hv, fun j => by rw [World.frozen?_of_block (w := u) (a := ⟨b, j, none⟩) hb]; exact h.2.2 j⟩
theorem drop_atL (l : List Ln) (k : Nat) (h : k < l.length) : l.drop k = l[k] :: l.drop (k + 1) := List.drop_eq_getElem_cons h
set_option maxRecDepth 100000 in
set_option maxHeartbeats 4000000 in
theorem check4_any (l : List Ln) (v : Value) (n0 : Int) (w : World) (hv : Lns w v l) (hlen : l.length ≤ 40000) (h0 : 0 ≤ n0) (h1 : n0 ≤ 65536) : Calls Try.prog 27 #[v, .int .i64 n0] w fun e w' => e = .returned (.tuple #[.int .i64 (plc l 0 [] n0).2.1, .agg #[.int .i64 (plc l 0 [] n0).2.2.1, .int .i64 ((plc l 0 [] n0).2.2.2 : Int)]]) ∧ Below w.heap.size w w' := by
  obtain ⟨ao, ca, rfl, hmax, hat⟩ := hv.at
  have HA := hideI hat
  clear hat hv
  unfold maxLen at hmax
  generalize hR : plc l 0 [] n0 = R
  have HR : Hid (R = plc (l.drop 0) 0 [] n0) := hR.symm
  clear hR
  have hmm := @run_makeMap Try.prog
  have HB0 := hideI (Box.new w #[.int .i64 0, .int .i64 0] 29)
  have HK0 := hideI (below_a w (.cells #[.int .i64 0, .int .i64 0] 29))
  have s0 : (w.alloc (.cells #[.int .i64 0, .int .i64 0] 29)).heap.size = w.heap.size + 1 := by simp
  have M0 := hideI (Mb.made (w.alloc (.cells #[.int .i64 0, .int .i64 0] 29)))
  have KM := hideI (below_a (w.alloc (.cells #[.int .i64 0, .int .i64 0] 29)) (.map #[] 0))
  rw [s0] at M0 KM
  go_enter Try.func27, Try.ntmps27
  go_wp2_with fail
  clear hmm
  generalize (w.alloc (.cells #[.int .i64 0, .int .i64 0] 29)).alloc (.map #[] 0) = w2 at *
  generalize w.alloc (.cells #[.int .i64 0, .int .i64 0] 29) = w1 at *
  go_loopg [1, 13] l.length (fun g vn vi ws => ∃ (k : Nat) (A : Nmd) (n : Int), k ≤ l.length ∧ g = l.length - k ∧ vn = .int .i64 n ∧ vi = .int .i64 k ∧ 0 ≤ n ∧ n ≤ 65536 ∧ A.length ≤ k ∧ Hid (Mb ws (w.heap.size + 1) A) ∧ Hid (Below (w.heap.size + 1) w1 ws) ∧ Hid (R = plc (l.drop k) k A n))
  case atStart => exact ⟨0, [], n0, Nat.zero_le _, rfl, rfl, rfl, h0, h1, Nat.le_refl _, M0, KM, HR⟩
  case round =>
    obtain ⟨k, A, n, hk, hg, rfl, rfl, hn0, hn1, hAl, HM, HW, HE⟩ := hrel
    clear HR M0 KM
    have hwr : w.heap.size + 1 ≤ wr.heap.size := by have := (unhideI HW).size; omega
    have hml := (unhideI HM).lt
    have BW := hideI ((unhideI HB0).step (by rw [s0]; exact unhideI HW))
    have KW := hideI ((unhideI HK0).trans ((unhideI HW).mono (Nat.le_succ _)))
    by_cases hlt : k < l.length
    · have hn : l ≠ [] := by intro h; rw [h] at hlt; simp at hlt
      obtain ⟨b, off, rfl, hb, hc⟩ := (unhideI HA) hn
      obtain ⟨x0, x1, x2, x3, x4, x5⟩ := hc k hlt
      replace x0 := cell_keep (unhideI KW) hb x0
      replace x1 := cell_keep (unhideI KW) hb x1
      replace x2 := cell_keep (unhideI KW) hb x2
      replace x3 := cell_keep (unhideI KW) hb x3
      replace x4 := cell_keep (unhideI KW) hb x4
      replace x5 := cell_keep (unhideI KW) hb x5
      have hE := unhideI HE
      rw [drop_atL l k hlt] at hE
      have hki : (k : Int) < (l.length : Int) := by omega
      clear hc
      generalize l[k] = x at *
      have WR := fun w => wrong4_any x w
      have LG := fun w => long4_any x w
      have HE2 := hideI hE
      have kA := below_a wr (.cells #[.string x.lab, .int .i64 x.i.o, .int .i64 x.i.d, .int .i64 x.i.s, .int .i64 x.i.m, .string x.ref] 54)
      have HKA := hideI kA
      have HX := hideI (Box.new wr #[.string x.lab, .int .i64 x.i.o, .int .i64 x.i.d, .int .i64 x.i.s, .int .i64 x.i.m, .string x.ref] 54)
      unfold aggL at WR LG
      clear hE HE kA
      go_wp2_with fail
      generalize wr.alloc (.cells #[.string x.lab, .int .i64 x.i.o, .int .i64 x.i.d, .int .i64 x.i.s, .int .i64 x.i.m, .string x.ref] 54) = wa at *
      refine (WR _).mono ?_
      rintro e w3 ⟨rfl, k3⟩
      have K3 := hideI (bt (unhideI HKA) k3)
      have B3 := (unhideI BW).step (unhideI K3)
      have X3 := hideI ((unhideI HX).step k3)
      have XU := unhideI X3
      have c0 := XU.2.1 0 _ rfl
      have c1 := XU.2.1 1 _ rfl
      have c2 := XU.2.1 2 _ rfl
      have c3 := XU.2.1 3 _ rfl
      have c4 := XU.2.1 4 _ rfl
      have c5 := XU.2.1 5 _ rfl
      clear WR k3 HKA HX x0 x1 x2 x3 x4 x5 XU
      have hE := unhideI HE2
      have K3' := hideI (bt (unhideI KW) (unhideI K3))
      have hB3 : w.heap.size + 1 ≤ w3.heap.size := Nat.le_trans hwr (unhideI K3).size
      have M3 := hideI ((unhideI HM).step (unhideI K3))
      have W3 := hideI ((unhideI HW).trans ((unhideI K3).mono hwr))
      obtain ⟨y0, y1⟩ := B3.at2
      have y2 := B3.2.2
      have y4 : w.heap.size < w3.heap.size := B3.1
      have HB3 := hideI B3
      clear B3 K3 HM HW HE2 KW BW
      by_cases hw : wrgL x = 0
      · by_cases he : emp x.lab = true
        · have hlx : lngX x = lng x.i.o := by unfold lngX; rw [if_pos he]
          obtain ⟨q1, q2⟩ := lng_in x.i.o
          have he' : x.lab.toList.isEmpty = true := he
          rw [hlx] at LG
          by_cases ht : n + lng x.i.o ≤ 65536
          · rw [plc_ins hw he ht] at hE
            have HE := hideI hE
            rw [hw]
            clear hE hw he hlx
            generalize lng x.i.o = q at *
            go_wp2_with fail
            refine (LG _).mono ?_
            rintro e w7 ⟨rfl, k7⟩
            have M7 := hideI ((unhideI M3).step k7)
            have W7 := hideI ((unhideI W3).trans (k7.mono hB3))
            clear k7 LG c0 c1 c2 c3 c4 c5 y0 y1 y2 y4 M3 W3
            go_wp2_with fail
            go_roundg (l.length - (k + 1))
            case measure => omega
            case rel => exact ⟨k + 1, A, n + q, by omega, rfl, rfl, by go_num, by omega, ht, by omega, M7, W7, HE⟩
          · rw [plc_much hw he (by omega)] at hE
            obtain rfl : R = ([], 0, 4, k) := hE
            rw [hw]
            clear hw he hlx
            generalize lng x.i.o = q at *
            have ht' : 65536 < n + q := by omega
            go_wp2_with fail
            refine (LG _).mono ?_
            rintro e w7 ⟨rfl, k7⟩
            have B7 := (unhideI HB3).step k7
            have K7 := hideI (bt (unhideI K3') k7)
            clear y0 y1 y2 y4
            obtain ⟨y0, y1⟩ := B7.at2
            have y2 := B7.2.2
            have y4 : w.heap.size < w7.heap.size := B7.1
            clear k7 LG c0 c1 c2 c3 c4 c5 M3 W3 B7
            go_wp2_with fail
            exact bodyPost_ret (v := .tuple #[.int .i64 0, .agg #[.int .i64 4, .int .i64 k]]) (by simp [results, Try.results27, go_sem, y0, y1, y2, y4]) rfl ⟨rfl, (by repeat (first | exact unhideI K7 | refine Below.setCell ?_ (by first | exact Nat.le_refl _ | (simp; done) | omega | (simp; omega)) _ | refine Below.alloc ?_ (by first | (simp; done) | omega | (simp; omega)) _))⟩
        · replace he : emp x.lab = false := by simpa using he
          have he' : x.lab.toList.isEmpty = false := he
          obtain ⟨hnm, -, -⟩ := wrgL_lab hw he
          have hsz : x.lab.size ≤ maxLen := Nat.le_trans (nm_size hnm).1 (by unfold maxLen; omega)
          have hlx : lngX x = 0 := by unfold lngX; rw [if_neg (by rw [he]; simp)]
          rw [hlx] at LG
          by_cases ht : hasA A x.lab.toList = true
          · rw [plc_taken hw he ht] at hE
            obtain rfl : R = ([], 0, 7, k) := hE
            rw [hw]
            clear hw he hlx hnm LG
            go_wp2_with (at_lookup; refine wpList_lookB rfl (.tmp 28) (.tmp 30) rfl (w.heap.size + 1) A rfl (unhideI M3) x.lab rfl hsz ?_; rw [ht])
            exact bodyPost_ret (v := .tuple #[.int .i64 0, .agg #[.int .i64 7, .int .i64 k]]) (by simp [results, Try.results27, go_sem, y0, y1, y2, y4]) rfl ⟨rfl, (by repeat (first | exact unhideI K3' | refine Below.setCell ?_ (by first | exact Nat.le_refl _ | (simp; done) | omega | (simp; omega)) _ | refine Below.alloc ?_ (by first | (simp; done) | omega | (simp; omega)) _))⟩
          · replace ht : hasA A x.lab.toList = false := by simpa using ht
            rw [plc_label hw he ht] at hE
            have HE := hideI hE
            rw [hw]
            clear hE hw he hlx hnm
            go_wp2_with (first | (at_lookup; refine wpList_lookB rfl (.tmp 28) (.tmp 30) rfl (w.heap.size + 1) A rfl (unhideI M3) x.lab rfl hsz ?_; rw [ht]) | (at_mapUpdate; refine wpList_putB rfl (.tmp 34) (.tmp 36) (.const (.bool true)) rfl (w.heap.size + 1) A rfl (unhideI M3) (by unfold maxLen; omega) x.lab rfl hsz n rfl ?_; intro w5 m5 r5; have M5 := hideI m5; have W5 := hideI ((unhideI W3).trans (below_grownM r5 hB3 (fun j hj => by cases hj; exact Nat.le_refl _))); have X5 := (unhideI X3).grownM r5 (by omega); have hB5 : w.heap.size + 1 ≤ w5.heap.size := (Nat.le_trans hB3 r5.size); have d0 := X5.2.1 0 _ rfl; have d1 := X5.2.1 1 _ rfl; have d2 := X5.2.1 2 _ rfl; have d3 := X5.2.1 3 _ rfl; have d4 := X5.2.1 4 _ rfl; have d5 := X5.2.1 5 _ rfl; clear m5 r5 X5))
            refine (LG _).mono ?_
            rintro e w7 ⟨rfl, k7⟩
            have M7 := hideI ((unhideI M5).step k7)
            have W7 := hideI ((unhideI W5).trans (k7.mono hB5))
            clear k7 LG c0 c1 c2 c3 c4 c5 d0 d1 d2 d3 d4 d5 y0 y1 y2 y4 M3 W3 M5 W5
            go_wp2_with fail
            go_roundg (l.length - (k + 1))
            case measure => omega
            case rel => exact ⟨k + 1, _, n, by omega, rfl, by go_num, by go_num, hn0, hn1, by simp; omega, M7, W7, HE⟩
      · rw [plc_bad hw] at hE
        generalize wrgL x = er at *
        obtain rfl : R = ([], 0, er, k) := hE
        have hw0 : (er != 0) = true := by simpa using hw
        clear c0 c1 c2 c3 c4 c5 hw LG M3 W3
        go_wp2_with fail
        exact bodyPost_ret (v := .tuple #[.int .i64 0, .agg #[.int .i64 er, .int .i64 k]]) (by simp [results, Try.results27, go_sem, y0, y1, y2, y4]) rfl ⟨rfl, (by repeat (first | exact unhideI K3' | refine Below.setCell ?_ (by first | exact Nat.le_refl _ | (simp; done) | omega | (simp; omega)) _ | refine Below.alloc ?_ (by first | (simp; done) | omega | (simp; omega)) _))⟩
    · have hE := unhideI HE
      have hke : k = l.length := by omega
      rw [hke, List.drop_length] at hE
      obtain rfl : R = (A, n, 0, 0) := hE
      have hki : ¬ (k : Int) < (l.length : Int) := by omega
      have B3 := unhideI BW
      obtain ⟨y0, y1⟩ := B3.at2
      have y2 := B3.2.2
      have y4 : w.heap.size < wr.heap.size := B3.1
      clear HE hke B3
      go_wp2_with fail
      exact bodyPost_ret (v := .tuple #[.int .i64 n, .agg #[.int .i64 0, .int .i64 0]]) (by simp [results, Try.results27, go_sem, y0, y1, y2, y4]) rfl ⟨rfl, (by repeat (first | exact unhideI KW | refine Below.setCell ?_ (by first | exact Nat.le_refl _ | (simp; done) | omega | (simp; omega)) _ | refine Below.alloc ?_ (by first | (simp; done) | omega | (simp; omega)) _))⟩
end Go.Proofs.Yteoifpkbknkpjaa
