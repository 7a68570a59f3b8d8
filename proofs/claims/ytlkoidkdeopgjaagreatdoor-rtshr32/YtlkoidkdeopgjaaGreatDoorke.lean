/-
  AsP0, AsP, AsR0, AsQ.
-/
import Derived.Test.YtlkoidkdeopgjaaGreatDoorkd
import Derived.Test.YtlkoidkdeopgjaaGreatDoorkc
import Derived.Maps.OwnSet
import Derived.Maps.OwnOps
import Derived.StringKeys
set_option maxHeartbeats 4000000
set_option maxRecDepth 100000
namespace Go.Proofs.YtlkoidkdeopgjaaGreatDoor
open Go.RowKit Go.Maps
set_option linter.unusedSimpArgs false
set_option linter.unusedVariables false
abbrev Nmd := List (List UInt8 × Int)
def hasA (A : Nmd) (k : List UInt8) : Bool := A.any fun p => p.1 == k
def atA (A : Nmd) (k : List UInt8) : Int := match A.find? (fun p => p.1 == k) with | some p => p.2 | none => 0
theorem hasA_snoc (A : Nmd) (k j : List UInt8) (x : Int) : hasA (A ++ [(k, x)]) j = (hasA A j || (k == j)) := by simp [hasA]
theorem atA_snoc_new {A : Nmd} {k : List UInt8} {x : Int} (h : hasA A k = false) : atA (A ++ [(k, x)]) k = x := by
 unfold atA hasA at *
 have : A.find? (fun p => p.1 == k) = none := by
   rw [List.find?_eq_none]; intro p hp; rw [List.any_eq_false] at h; exact h p hp
 rw [List.find?_append, this]; simp
theorem atA_snoc_other {A : Nmd} {k j : List UInt8} {x : Int} (h : (k == j) = false) : atA (A ++ [(k, x)]) j = atA A j := by
 unfold atA
 rw [List.find?_append]
 cases e : A.find? (fun p => p.1 == j) with
 | some p => simp
 | none => simp [h]
theorem Tryz.keyS : Keyed Tryz.prog 9 := string_keyed Tryz.underlying9
theorem Tryz.zeroI (w : World) : (zeroValue 3).run Tryz.prog w = .ok (.int .i64 0) w := by kernel_rfl
def Mp (w : World) (b : Nat) (A : Nmd) : Prop := ∃ D : DataW Unit, w.ownsMap Tryz.prog 9 (plainElem Tryz.prog 3) b A.length D ∧ ∀ k : List UInt8, Maps.has D (.string k) = hasA A k ∧ D.atKey (.string k) (.lit (.int .i64 0)) = .lit (.int .i64 (atA A k))
theorem Mp.made (w : World) : Mp (w.alloc (.map #[] 0)) w.heap.size [] := ⟨_, World.ownsMap_made _ _ _ _, fun k => ⟨rfl, rfl⟩⟩
theorem Mp.lt {w : World} {b : Nat} {A : Nmd} (h : Mp w b A) : b < w.heap.size := by obtain ⟨D, h1, _⟩ := h; exact h1.lt
theorem Mp.step {w w' : World} {b : Nat} {A : Nmd} (h : Mp w b A) (k : Below w.heap.size w w') : Mp w' b A := by
 have hl := h.lt
 obtain ⟨D, ⟨es, c, h1, h2⟩, h3⟩ := h
 exact ⟨D, ⟨es, c, by rw [k.block b hl]; exact h1, h2⟩, h3⟩
theorem Mp.setCell {w : World} {b p j : Nat} {A : Nmd} {u : Value} (h : Mp w b A) (hne : b ≠ p) : Mp (w.setCell ⟨p, j, none⟩ u) b A := by
 obtain ⟨D, h1, h2⟩ := h
 exact ⟨D, h1.setCell hne u, h2⟩
theorem Mp.put {w : World} {b : Nat} {A : Nmd} {k : List UInt8} {x : Int} (hn : hasA A k = false) {D : DataW Unit} (hD : IsMap D) (h2 : ∀ k : List UInt8, Maps.has D (.string k) = hasA A k ∧ D.atKey (.string k) (.lit (.int .i64 0)) = .lit (.int .i64 (atA A k))) (h1 : w.ownsMap Tryz.prog 9 (plainElem Tryz.prog 3) b (A.length + 1) (D.put (.string k) (.lit (.int .i64 x)))) : Mp w b (A ++ [(k, x)]) := by
 refine ⟨_, by rw [List.length_append]; exact h1, fun j => ?_⟩
 by_cases e : k = j
 · subst e
   exact ⟨by rw [has_put_same hD (show WideAt.IsKeyLit (.string k) from trivial), hasA_snoc]; simp, by rw [atKey_put_same hD (show WideAt.IsKeyLit (.string k) from trivial), atA_snoc_new hn]⟩
 · have e1 : (k == j) = false := beq_eq_false_iff_ne.2 e
   have e2 : (Lit.string j) ≠ Lit.string k := fun h => e (by injection h with h; exact h.symm)
   exact ⟨by rw [has_put_other e2, hasA_snoc, e1, Bool.or_false]; exact (h2 j).1, by rw [atKey_put_other e2, atA_snoc_other e1]; exact (h2 j).2⟩
section
variable {w : World} {ops : Array Oper} {rest : List Oper} {o : Oper} {a : Act} {Q : Exit → Act → World → Prop}
theorem wpList_look_ok (hg : o.guard = none) (m x : Operand) (hop : o.op = Op.lookup 107 m x true) (b : Nat) (A : Nmd) (hm : a.eval m = .map (some b)) (hM : Mp w b A) (s : ByteArray) (hx : a.eval x = .string s) (hs : s.size ≤ maxLen)
   (hK : wpList Tryz.prog ops Q rest (a.put o.dst (.tuple #[.int .i64 (atA A s.toList), .bool (hasA A s.toList)])) w) : wpList Tryz.prog ops Q (o :: rest) a w := by
 obtain ⟨D, h1, h2⟩ := hM
 refine wpList_lookup_own_ok_int w hg m x _ hop 9 3 .i64 Tryz.keyS Tryz.underlying107 Tryz.underlying3 (Tryz.zeroI _) b _ D hm h1 _ _ hx (Go.WideMaps.keyOf_string_mk Tryz.underlying9 hs) ?_
 intro c hat _
 rw [(h2 _).2] at hat
 rw [(h2 _).1]
 injection hat with hat
 injection hat with _ hat
 subst hat
 rw [← ByteArray.toList_eq]
 exact hK
theorem wpList_put (hg : o.guard = none) (m x v : Operand) (hop : o.op = Op.mapUpdate 107 m x v) (b : Nat) (A : Nmd) (hm : a.eval m = .map (some b)) (hM : Mp w b A) (hl : A.length < maxLen) (s : ByteArray) (hx : a.eval x = .string s) (hs : s.size ≤ maxLen) (y : Int) (hv : a.eval v = .int .i64 y) (hy : (Lit.int .i64 y).wf = true) (hn : hasA A s.toList = false)
   (hK : ∀ w', Mp w' b (A ++ [(s.toList, y)]) → w.grownBy w' (some b) → wpList Tryz.prog ops Q rest (a.put o.dst undef) w') : wpList Tryz.prog ops Q (o :: rest) a w := by
 obtain ⟨D, h1, h2⟩ := hM
 refine wpList_mapUpdate_own w hg m x v _ hop 9 3 Tryz.keyS Tryz.underlying107 _ b _ D hm h1 hl _ _ _ hx hv (Go.WideMaps.keyOf_string_mk Tryz.underlying9 hs) _ [] (plainElem_int Tryz.underlying3 hy) ?_
 intro w' hown hgrow
 refine hK w' ?_ hgrow
 have := Mp.put (k := s.data.toList) (x := y) (by rw [← ByteArray.toList_eq]; exact hn) h1.isMap h2 hown
 rw [← ByteArray.toList_eq] at this
 exact this
end
def cellsL (x : Ln) : List Value := [.string x.lab, .int .i64 x.i.o, .int .i64 x.i.d, .int .i64 x.i.s, .int .i64 x.i.m, .string x.ref]
def Lns (w : World) (v : Value) (l : List Ln) : Prop := Lies w 6 v l.length (l.flatMap cellsL)
theorem Lns.step {w w' : World} {v : Value} {l : List Ln} (h : Lns w v l) (k : Below w.heap.size w w') : Lns w' v l := Lies.step h k
theorem flat6 : ∀ (l : List Ln) (i : Nat) (h : i < l.length) (j : Nat), j < 6 → (l.flatMap cellsL)[i * 6 + j]? = (cellsL (l[i]'h))[j]?
 | [], i, h, _, _ => by simp at h
 | x :: l, 0, h, j, hj => by
   rw [List.flatMap_cons, List.getElem?_append_left (by simp [cellsL]; omega)]; simp
 | x :: l, i + 1, h, j, hj => by
   have ih := flat6 l i (by simpa using h) j hj
   rw [List.flatMap_cons, List.getElem?_append_right (by simp [cellsL]; omega)]
   rw [show (i + 1) * 6 + j - (cellsL x).length = i * 6 + j by simp [cellsL]; omega, ih]
   simp
theorem Lns.at {w : World} {v : Value} {l : List Ln} (h : Lns w v l) : ∃ ao cap, v = .slice ao l.length cap ∧ l.length ≤ maxLen ∧ (l ≠ [] → ∃ b off, ao = some ⟨b, off, none⟩ ∧ b < w.heap.size ∧ ∀ j (hj : j < l.length), w.cell? ⟨b, off + j * 6, none⟩ = some (.string (l[j]'hj).lab) ∧ w.cell? ⟨b, off + j * 6 + 1, none⟩ = some (.int .i64 (l[j]'hj).i.o) ∧ w.cell? ⟨b, off + j * 6 + 2, none⟩ = some (.int .i64 (l[j]'hj).i.d) ∧ w.cell? ⟨b, off + j * 6 + 3, none⟩ = some (.int .i64 (l[j]'hj).i.s) ∧ w.cell? ⟨b, off + j * 6 + 4, none⟩ = some (.int .i64 (l[j]'hj).i.m) ∧ w.cell? ⟨b, off + j * 6 + 5, none⟩ = some (.string (l[j]'hj).ref)) := by
 obtain ⟨_, ao, cap, rfl, h3, h4, _, h5⟩ := h
 refine ⟨ao, cap, rfl, Nat.le_trans h3 h4, fun hn => ?_⟩
 obtain ⟨b, off, rfl, hb, hc⟩ := h5 (by intro h; exact hn (List.eq_nil_of_length_eq_zero h))
 refine ⟨b, off, rfl, hb, fun j hj => ?_⟩
 have f := flat6 l j hj
 refine ⟨?_, ?_, ?_, ?_, ?_, ?_⟩
 · rw [hc (j * 6) (by omega)]; exact f 0 (by omega)
 · rw [Nat.add_assoc, hc (j * 6 + 1) (by omega)]; exact f 1 (by omega)
 · rw [Nat.add_assoc, hc (j * 6 + 2) (by omega)]; exact f 2 (by omega)
 · rw [Nat.add_assoc, hc (j * 6 + 3) (by omega)]; exact f 3 (by omega)
 · rw [Nat.add_assoc, hc (j * 6 + 4) (by omega)]; exact f 4 (by omega)
 · rw [Nat.add_assoc, hc (j * 6 + 5) (by omega)]; exact f 5 (by omega)
theorem nm_size {s : ByteArray} (h : nm s = true) : s.size ≤ 32 ∧ s.toList.isEmpty = false := by
 unfold nm at h
 simp only [Bool.and_eq_true, Bool.not_eq_true', decide_eq_true_eq] at h
 exact ⟨h.1.2, h.1.1.1⟩
theorem wrgL_lab {x : Ln} (h : wrgL x = 0) (hl : emp x.lab = false) : nm x.lab = true ∧ emp x.ref = true ∧ isZ x.i = true := by
 unfold wrgL at h
 rw [if_pos hl] at h
 by_cases h1 : nm x.lab = true
 · rw [if_pos h1] at h
   by_cases h2 : emp x.ref = true ∧ isZ x.i = true
   · exact ⟨h1, h2⟩
   · rw [if_neg h2] at h; omega
 · rw [if_neg h1] at h; omega
theorem wrgL_ins {x : Ln} (h : wrgL x = 0) (hl : emp x.lab = true) : wrg x.i = 0 ∧ (emp x.ref = true ∨ (nm x.ref = true ∧ may x.i.o = true ∧ x.i.m = 0)) := by
 unfold wrgL at h
 rw [if_neg (by simp [hl])] at h
 by_cases h1 : wrg x.i = 0
 · rw [if_neg (by simp [h1])] at h
   refine ⟨h1, ?_⟩
   by_cases h2 : emp x.ref = true
   · exact .inl h2
   · rw [if_neg h2] at h
     by_cases h3 : nm x.ref = true
     · rw [if_pos h3] at h
       by_cases h4 : may x.i.o = true ∧ x.i.m = 0
       · exact .inr ⟨h3, h4⟩
       · rw [if_neg h4] at h; omega
     · rw [if_neg h3] at h; omega
 · rw [if_pos h1] at h; exact absurd h h1
def plc : List Ln → Nat → Nmd → Int → Nmd × Int × Int × Nat
 | [], _, A, n => (A, n, 0, 0)
 | x :: l, k, A, n =>
   if wrgL x = 0 then
     (if emp x.lab = true then (if n + lng x.i.o ≤ 65536 then plc l (k + 1) A (n + lng x.i.o) else ([], 0, 4, k))
     else if hasA A x.lab.toList = true then ([], 0, 7, k) else plc l (k + 1) (A ++ [(x.lab.toList, n)]) n)
   else ([], 0, wrgL x, k)
def plcA (l : List Ln) : Nmd × Int × Int × Nat := if l.length ≤ 40000 then plc l 0 [] 0 else ([], 0, 5, 0)
end Go.Proofs.YtlkoidkdeopgjaaGreatDoor
namespace Go.Proofs.YtlkoidkdeopgjaaGreatDoor
open Go.RowKit Go.Maps
set_option linter.unusedSimpArgs false
set_option linter.unusedVariables false
theorem plc_bad {x : Ln} {l : List Ln} {k : Nat} {A : Nmd} {n : Int} (h : wrgL x ≠ 0) : plc (x :: l) k A n = ([], 0, wrgL x, k) := by rw [plc, if_neg h]
theorem plc_taken {x : Ln} {l : List Ln} {k : Nat} {A : Nmd} {n : Int} (h : wrgL x = 0) (e : emp x.lab = false) (t : hasA A x.lab.toList = true) : plc (x :: l) k A n = ([], 0, 7, k) := by rw [plc, if_pos h, if_neg (by simp [e]), if_pos t]
theorem plc_label {x : Ln} {l : List Ln} {k : Nat} {A : Nmd} {n : Int} (h : wrgL x = 0) (e : emp x.lab = false) (t : hasA A x.lab.toList = false) : plc (x :: l) k A n = plc l (k + 1) (A ++ [(x.lab.toList, n)]) n := by rw [plc, if_pos h, if_neg (by simp [e]), if_neg (by simp [t])]
theorem plc_ins {x : Ln} {l : List Ln} {k : Nat} {A : Nmd} {n : Int} (h : wrgL x = 0) (e : emp x.lab = true) (t : n + lng x.i.o ≤ 65536) : plc (x :: l) k A n = plc l (k + 1) A (n + lng x.i.o) := by rw [plc, if_pos h, if_pos e, if_pos t]
theorem plc_much {x : Ln} {l : List Ln} {k : Nat} {A : Nmd} {n : Int} (h : wrgL x = 0) (e : emp x.lab = true) (t : 65536 < n + lng x.i.o) : plc (x :: l) k A n = ([], 0, 4, k) := by rw [plc, if_pos h, if_pos e, if_neg (by omega)]
def PlcRet (w w' : World) (v : Value) (R : Nmd × Int × Int × Nat) : Prop := ∃ m, v = .tuple #[m, .int .i64 R.2.1, .agg #[.int .i64 R.2.2.1, .int .i64 R.2.2.2]] ∧ (R.2.2.1 = 0 → ∃ b, m = .map (some b) ∧ w.heap.size ≤ b ∧ Mp w' b R.1) ∧ (R.2.2.1 ≠ 0 → m = .map none) ∧ Below w.heap.size w w'
theorem places_any (l : List Ln) (v : Value) (w : World) (hl : Lns w v l) :
   Calls Tryz.prog 80 #[v] w fun e w' => ∃ u, e = .returned u ∧ PlcRet w w' u (plcA l) := by
 obtain ⟨ao, cap, rfl, hmax, hat⟩ := hl.at
 clear hl
 have HA := zH hat
 clear hat
 unfold maxLen at hmax
 have hmm := @run_makeMap Tryz.prog
 by_cases hmuch : l.length ≤ 40000
 · generalize hR : plcA l = R
   have HR : Hid (R = plc (l.drop 0) 0 [] 0) := by show R = _; rw [← hR]; unfold plcA; rw [if_pos hmuch]; rfl
   clear hR
   have hmu : decide (40000 < (l.length : Int)) = false := decide_eq_false (by omega)
   go_enter Tryz.func80, Tryz.ntmps80
   go_wp2_with fail
   clear hmm hmu
   go_loopg [6, 21] l.length (fun g n i wr => ∃ (k : Nat) (A : Nmd) (nn : Int), k ≤ l.length ∧ g = l.length - k ∧ n = .int .i64 nn ∧ i = .int .i64 k ∧ 0 ≤ nn ∧ nn ≤ 65536 ∧ A.length ≤ k ∧ Hid (Mp wr (w.heap.size + 1) A) ∧ Hid (Below (w.heap.size + 1) (w.alloc (.cells #[.int .i64 0, .int .i64 0] 83)) wr) ∧ Hid (R = plc (l.drop k) k A nn))
   case atStart => exact ⟨0, [], 0, Nat.zero_le _, rfl, rfl, rfl, by decide, by decide, Nat.le_refl _, by have := Mp.made (w.alloc (.cells #[.int .i64 0, .int .i64 0] 83)); simp only [World.size_alloc] at this; exact this, (Below.refl _ _).alloc (by simp) _, uI HR⟩
   case round =>
     obtain ⟨k, A, nn, hk, hg, rfl, rfl, hn0, hn1, hAl, HM, HB, HE⟩ := hrel
     obtain ⟨f0, f1, f2, f3, f4⟩ := fault0 (uI HB)
     by_cases hlt : k < l.length
     · have hne : l ≠ [] := by intro h; rw [h] at hlt; simp at hlt
       obtain ⟨b, off, rfl, hbw, hc⟩ := (uI HA) hne
       have hbs := (seen (uI HB))
       obtain ⟨c0, c1, c2, c3, c4, c5⟩ := hc k hlt
       replace c0 := cell_keep hbs hbw c0
       replace c1 := cell_keep hbs hbw c1
       replace c2 := cell_keep hbs hbw c2
       replace c3 := cell_keep hbs hbw c3
       replace c4 := cell_keep hbs hbw c4
       replace c5 := cell_keep hbs hbw c5
       have hd := zH (drop_at l k hlt)
       generalize l[k] = x at *
       obtain ⟨lab, ⟨o, d, s, m⟩, ref⟩ := x
       clear hc hbs hne
       dsimp only at *
       have WA := fun w => wrongL_any ⟨lab, ⟨o, d, s, m⟩, ref⟩ w
       unfold aggL at WA
       dsimp only at WA
       have BX := zH (Box.new wr #[.string lab, .int .i64 o, .int .i64 d, .int .i64 s, .int .i64 m, .string ref] 75)
       by_cases hw : wrgL ⟨lab, ⟨o, d, s, m⟩, ref⟩ = 0
       · rw [hw] at WA
         by_cases he : lab.toList.isEmpty = true
         · obtain ⟨hwi, -⟩ := wrgL_ins hw he
           obtain ⟨hkn, -⟩ := wr_zero hwi
           have LO := fun w => long_ok o w
           rw [ke_yes hkn, if_pos hkn] at LO
           obtain ⟨q1, q2⟩ := lng_in o
           by_cases ht : nn + lng o ≤ 65536
           · have HE2 : Hid (R = plc (l.drop (k + 1)) (k + 1) A (nn + lng o)) := by show R = _; rw [uI HE, uI hd, plc_ins hw he ht]
             clear HE hd hw hkn hwi
             generalize lng o = q at *
             go_wp2_with fail
             refine (WA _).mono ?_
             rintro e w1 ⟨rfl, k1⟩
             have B1 := zH ((uI BX).step k1)
             have K1 := zH ((uI HB).trans ((bt (below_a _ _) k1).mono (by omega)))
             have M1 := zH (((uI HM).step (below_a wr (.cells #[.string lab, .int .i64 o, .int .i64 d, .int .i64 s, .int .i64 m, .string ref] 75))).step k1)
             have s1 := lt1 k1
             obtain ⟨g0, g1, g2, g3, g4⟩ := fault0 (uI K1)
             have p0 := (uI B1).2.1 0 _ rfl
             have p1 := (uI B1).2.1 1 _ rfl
             have p2 := (uI B1).2.1 2 _ rfl
             have p3 := (uI B1).2.1 3 _ rfl
             have p4 := (uI B1).2.1 4 _ rfl
             have p5 := (uI B1).2.1 5 _ rfl
             clear k1 f0 f1 f2 f3 f4 c0 c1 c2 c3 c4 c5
             go_wp2_with fail
             refine (LO _).mono ?_
             rintro e w2 ⟨rfl, k2⟩
             have K2 := zH ((uI K1).trans (k2.mono (by omega)))
             have M2 := zH ((uI M1).step k2)
             clear k2 g0 g1 g2 g3 g4 p0 p1 p2 p3 p4 p5
             go_wp2_with fail
             go_roundg (l.length - (k + 1))
             case measure => omega
             case rel => exact ⟨k + 1, A, nn + q, by omega, rfl, rfl, by go_num, by omega, ht, by omega, M2, K2, HE2⟩
           · obtain rfl : R = ([], 0, 4, k) := by rw [uI HE, uI hd, plc_much hw he (by show 65536 < nn + lng o; omega)]
             have ht2 : 65536 < nn + lng o := by omega
             clear HE hd hw hkn hwi ht
             generalize lng o = q at *
             go_wp2_with fail
             refine (WA _).mono ?_
             rintro e w1 ⟨rfl, k1⟩
             have B1 := zH ((uI BX).step k1)
             have K1 := zH ((uI HB).trans ((bt (below_a _ _) k1).mono (by omega)))
             have M1 := zH (((uI HM).step (below_a wr (.cells #[.string lab, .int .i64 o, .int .i64 d, .int .i64 s, .int .i64 m, .string ref] 75))).step k1)
             have s1 := lt1 k1
             obtain ⟨g0, g1, g2, g3, g4⟩ := fault0 (uI K1)
             have p0 := (uI B1).2.1 0 _ rfl
             have p1 := (uI B1).2.1 1 _ rfl
             have p2 := (uI B1).2.1 2 _ rfl
             have p3 := (uI B1).2.1 3 _ rfl
             have p4 := (uI B1).2.1 4 _ rfl
             have p5 := (uI B1).2.1 5 _ rfl
             clear k1 f0 f1 f2 f3 f4 c0 c1 c2 c3 c4 c5
             go_wp2_with fail
             refine (LO _).mono ?_
             rintro e w2 ⟨rfl, k2⟩
             have K2 := zH ((uI K1).trans (k2.mono (by omega)))
             clear k2 g0 g1 g2 g3 g4 p0 p1 p2 p3 p4 p5
             obtain ⟨g0, g1, g2, g3, g4⟩ := fault0 (uI K2)
             go_wp2_with fail
             exact bodyPost_ret (v := .tuple #[.map none, .int .i64 0, .agg #[.int .i64 4, .int .i64 k]]) (by simp [results, Tryz.results80, go_sem, g0, g1, g2, g3, g4]) rfl ⟨_, rfl, _, rfl, fun h => (by simp at h), fun _ => rfl, (by repeat (first | exact seen (uI K2) | refine Below.setCell ?_ (by first | exact Nat.le_refl _ | (simp; done) | omega | (simp; omega)) _ | refine Below.alloc ?_ (by first | (simp; done) | omega | (simp; omega)) _))⟩
         · replace he : lab.toList.isEmpty = false := by simpa using he
           obtain ⟨hnm, -, -⟩ := wrgL_lab hw he
           have hsz : lab.size ≤ maxLen := Nat.le_trans (nm_size hnm).1 (by unfold maxLen; omega)
           clear hnm
           by_cases ht : hasA A lab.toList = true
           · obtain rfl : R = ([], 0, 7, k) := by rw [uI HE, uI hd, plc_taken hw he ht]
             clear HE hd hw
             go_wp2_with fail
             refine (WA _).mono ?_
             rintro e w1 ⟨rfl, k1⟩
             have B1 := zH ((uI BX).step k1)
             have K1 := zH ((uI HB).trans ((bt (below_a _ _) k1).mono (by omega)))
             have M1 := zH (((uI HM).step (below_a wr (.cells #[.string lab, .int .i64 o, .int .i64 d, .int .i64 s, .int .i64 m, .string ref] 75))).step k1)
             have s1 := lt1 k1
             obtain ⟨g0, g1, g2, g3, g4⟩ := fault0 (uI K1)
             have p0 := (uI B1).2.1 0 _ rfl
             have p1 := (uI B1).2.1 1 _ rfl
             have p2 := (uI B1).2.1 2 _ rfl
             have p3 := (uI B1).2.1 3 _ rfl
             have p4 := (uI B1).2.1 4 _ rfl
             have p5 := (uI B1).2.1 5 _ rfl
             clear k1 f0 f1 f2 f3 f4 c0 c1 c2 c3 c4 c5
             go_wp2_with (at_lookup; refine wpList_look_ok rfl (.tmp 37) (.tmp 39) rfl (w.heap.size + 1) A rfl (uI M1) lab rfl hsz ?_)
             exact bodyPost_ret (v := .tuple #[.map none, .int .i64 0, .agg #[.int .i64 7, .int .i64 k]]) (by simp [results, Tryz.results80, go_sem, g0, g1, g2, g3, g4]) rfl ⟨_, rfl, _, rfl, fun h => (by simp at h), fun _ => rfl, (by repeat (first | exact seen (uI K1) | refine Below.setCell ?_ (by first | exact Nat.le_refl _ | (simp; done) | omega | (simp; omega)) _ | refine Below.alloc ?_ (by first | (simp; done) | omega | (simp; omega)) _))⟩
           · replace ht : hasA A lab.toList = false := by simpa using ht
             have HE2 : Hid (R = plc (l.drop (k + 1)) (k + 1) (A ++ [(lab.toList, nn)]) nn) := by show R = _; rw [uI HE, uI hd, plc_label hw he ht]
             clear HE hd hw
             go_wp2_with fail
             refine (WA _).mono ?_
             rintro e w1 ⟨rfl, k1⟩
             have B1 := zH ((uI BX).step k1)
             have K1 := zH ((uI HB).trans ((bt (below_a _ _) k1).mono (by omega)))
             have M1 := zH (((uI HM).step (below_a wr (.cells #[.string lab, .int .i64 o, .int .i64 d, .int .i64 s, .int .i64 m, .string ref] 75))).step k1)
             have s1 := lt1 k1
             obtain ⟨g0, g1, g2, g3, g4⟩ := fault0 (uI K1)
             have p0 := (uI B1).2.1 0 _ rfl
             have p1 := (uI B1).2.1 1 _ rfl
             have p2 := (uI B1).2.1 2 _ rfl
             have p3 := (uI B1).2.1 3 _ rfl
             have p4 := (uI B1).2.1 4 _ rfl
             have p5 := (uI B1).2.1 5 _ rfl
             clear k1 f0 f1 f2 f3 f4 c0 c1 c2 c3 c4 c5
             go_wp2_with (first | (at_lookup; refine wpList_look_ok rfl (.tmp 37) (.tmp 39) rfl (w.heap.size + 1) A rfl (uI M1) lab rfl hsz ?_) | (at_mapUpdate; refine wpList_put rfl (.tmp 46) (.tmp 48) (.tmp 49) rfl (w.heap.size + 1) A rfl (uI M1) (by unfold maxLen; omega) lab rfl hsz nn rfl (WalkArith.wf_i64 (by omega)) ht ?_; intro w2 m2 r2; have M2 := zH m2; have K2 := zH ((uI K1).grown r2 (by omega) (fun j hj => by cases hj; exact Nat.le_refl _)); clear m2 r2 g0 g1 g2 g3 g4 p0 p1 p2 p3 p4 p5))
             go_roundg (l.length - (k + 1))
             case measure => omega
             case rel => exact ⟨k + 1, _, nn, by omega, rfl, rfl, by go_num, hn0, hn1, by simp; omega, M2, K2, HE2⟩
       · have HW := zH hw
         have hw1 : (wrgL ⟨lab, ⟨o, d, s, m⟩, ref⟩ != 0) = true := by simp [hw]
         have hRq : R = ([], 0, wrgL ⟨lab, ⟨o, d, s, m⟩, ref⟩, k) := by rw [uI HE, uI hd, plc_bad hw]
         clear HE hd hw
         generalize wrgL ⟨lab, ⟨o, d, s, m⟩, ref⟩ = q at *
         subst hRq
         go_wp2_with fail
         refine (WA _).mono ?_
         rintro e w1 ⟨rfl, k1⟩
         have B1 := zH ((uI BX).step k1)
         have K1 := zH ((uI HB).trans ((bt (below_a _ _) k1).mono (by omega)))
         have M1 := zH (((uI HM).step (below_a wr (.cells #[.string lab, .int .i64 o, .int .i64 d, .int .i64 s, .int .i64 m, .string ref] 75))).step k1)
         have s1 := lt1 k1
         obtain ⟨g0, g1, g2, g3, g4⟩ := fault0 (uI K1)
         have p0 := (uI B1).2.1 0 _ rfl
         have p1 := (uI B1).2.1 1 _ rfl
         have p2 := (uI B1).2.1 2 _ rfl
         have p3 := (uI B1).2.1 3 _ rfl
         have p4 := (uI B1).2.1 4 _ rfl
         have p5 := (uI B1).2.1 5 _ rfl
         clear k1 f0 f1 f2 f3 f4 c0 c1 c2 c3 c4 c5
         go_wp2_with fail
         exact bodyPost_ret (v := .tuple #[.map none, .int .i64 0, .agg #[.int .i64 q, .int .i64 k]]) (by simp [results, Tryz.results80, go_sem, g0, g1, g2, g3, g4]) rfl ⟨_, rfl, _, rfl, fun h => absurd h (uI HW), fun _ => rfl, (by repeat (first | exact seen (uI K1) | refine Below.setCell ?_ (by first | exact Nat.le_refl _ | (simp; done) | omega | (simp; omega)) _ | refine Below.alloc ?_ (by first | (simp; done) | omega | (simp; omega)) _))⟩
     · have hkl : k = l.length := by omega
       go_wp2_with fail
       obtain rfl : R = (A, nn, 0, 0) := by rw [uI HE, hkl, List.drop_length]; rfl
       exact bodyPost_ret (v := .tuple #[.map (some (w.heap.size + 1)), .int .i64 nn, .agg #[.int .i64 0, .int .i64 0]]) (by simp [results, Tryz.results80, go_sem, f0, f1, f2, f3, f4]) rfl ⟨_, rfl, _, rfl, fun _ => ⟨_, rfl, by omega, ((uI HM).setCell (by omega)).setCell (by omega)⟩, fun h => absurd rfl h, (by repeat (first | exact seen (uI HB) | refine Below.setCell ?_ (by first | exact Nat.le_refl _ | (simp; done) | omega | (simp; omega)) _ | refine Below.alloc ?_ (by first | (simp; done) | omega | (simp; omega)) _))⟩
 · have hmu : decide (40000 < (l.length : Int)) = true := decide_eq_true (by omega)
   have hR : plcA l = ([], 0, 5, 0) := by unfold plcA; rw [if_neg hmuch]
   rw [hR]
   go_enter Tryz.func80, Tryz.ntmps80
   go_wp2_with fail
   exact bodyPost_ret (v := .tuple #[.map none, .int .i64 0, .agg #[.int .i64 5, .int .i64 0]]) (by simp [results, Tryz.results80, go_sem]) rfl ⟨_, rfl, _, rfl, fun h => absurd h (by decide), fun _ => rfl, (by repeat (first | exact below_a _ _ | refine Below.setCell ?_ (by first | exact Nat.le_refl _ | (simp; done) | omega | (simp; omega)) _ | refine Below.alloc ?_ (by first | (simp; done) | omega | (simp; omega)) _))⟩
end Go.Proofs.YtlkoidkdeopgjaaGreatDoor
namespace Go.Proofs.YtlkoidkdeopgjaaGreatDoor
open Go.RowKit Go.Maps
set_option linter.unusedSimpArgs false
set_option linter.unusedVariables false
structure Kpt (X : Nat → Prop) (w w' : World) : Prop where
 os : w'.os = w.os
 tape : w'.tape = w.tape
 output : w'.output = w.output
 size : w.heap.size ≤ w'.heap.size
 block : ∀ k, k < w.heap.size → ¬ X k → w'.heap[k]? = w.heap[k]?
theorem Kpt.refl (X : Nat → Prop) (w : World) : Kpt X w w := ⟨rfl, rfl, rfl, Nat.le_refl _, fun _ _ _ => rfl⟩
theorem Kpt.of {X : Nat → Prop} {w w' : World} (h : Below w.heap.size w w') : Kpt X w w' := ⟨h.os, h.tape, h.output, h.size, fun k hk _ => h.block k hk⟩
theorem Kpt.trans {X Y Z : Nat → Prop} {a b c : World} (h : Kpt X a b) (k : Kpt Y b c) (hX : ∀ n, X n → Z n) (hY : ∀ n, Y n → n < a.heap.size → Z n) : Kpt Z a c :=
 ⟨k.os.trans h.os, k.tape.trans h.tape, k.output.trans h.output, Nat.le_trans h.size k.size, fun n hn hz => by rw [k.block n (Nat.lt_of_lt_of_le hn h.size) (fun y => hz (hY n y hn)), h.block n hn (fun x => hz (hX n x))]⟩
theorem Kpt.below {X : Nat → Prop} {w w' : World} {B : Nat} (h : Kpt X w w') (hB : B ≤ w.heap.size) (hX : ∀ n, X n → B ≤ n) : Below B w w' := ⟨h.os, h.tape, h.output, h.size, fun k hk => h.block k (by omega) (fun x => by have := hX k x; omega)⟩
theorem Kpt.cell {X : Nat → Prop} {w w' : World} (h : Kpt X w w') {b o : Nat} (hb : b < w.heap.size) (hx : ¬ X b) : w'.cell? ⟨b, o, none⟩ = w.cell? ⟨b, o, none⟩ := by
 unfold World.cell?; rw [h.block b hb hx]
theorem Kpt.frozen {X : Nat → Prop} {w w' : World} (h : Kpt X w w') {b o : Nat} (hb : b < w.heap.size) (hx : ¬ X b) : w'.frozen? ⟨b, o, none⟩ = w.frozen? ⟨b, o, none⟩ := by
 unfold World.frozen?; rw [h.block b hb hx]
theorem Box.kpt {X : Nat → Prop} {w w' : World} {b : Nat} {cs : List Value} (h : Box w b cs) (k : Kpt X w w') (hx : ¬ X b) : Box w' b cs :=
 ⟨Nat.lt_of_lt_of_le h.1 k.size, fun j u hu => by rw [k.cell h.1 hx]; exact h.2.1 j u hu, fun j => by rw [k.frozen h.1 hx]; exact h.2.2 j⟩
theorem Mp.kpt {X : Nat → Prop} {w w' : World} {b : Nat} {A : Nmd} (h : Mp w b A) (k : Kpt X w w') (hx : ¬ X b) : Mp w' b A := by
 have hl := h.lt
 obtain ⟨D, ⟨es, c, h1, h2⟩, h3⟩ := h
 exact ⟨D, ⟨es, c, by rw [k.block b hl hx]; exact h1, h2⟩, h3⟩
theorem own_kpt {X : Nat → Prop} {w w' : World} {B e s n : Nat} {v : Value} {cs : List Value} (h : w.ownsRow B e s v n cs) (k : Kpt X w w') (hx : ∀ c, v.ownBlock = some c → ¬ X c) : w'.ownsRow B e s v n cs := by
 refine ⟨h.1, ?_⟩
 rcases h.2 with h0 | ⟨g, cap, row, h1, h2, h3, h4⟩
 · exact .inl h0
 · refine .inr ⟨g, cap, row, h1, h2, ?_, h4⟩
   have hg : g < w.heap.size := (Array.getElem?_eq_some_iff.1 h3).1
   rw [k.block g hg (hx g (by rw [h1]; rfl))]; exact h3
theorem Kpt.setCell {X : Nat → Prop} (w : World) {c j : Nat} (v : Value) (hx : X c) : Kpt X w (w.setCell ⟨c, j, none⟩ v) :=
 ⟨rfl, rfl, rfl, by simp, fun k _ hk => by
   have : c ≠ k := fun e => hk (e ▸ hx)
   simp [World.setCell, Array.getElem?_modify, this]⟩
theorem Kpt.grown {X : Nat → Prop} {w w' : World} {row : Option Nat} (h : w.grownBy w' row) (hx : ∀ k, row = some k → X k) : Kpt X w w' :=
 ⟨h.os, h.tape, h.output, h.size, fun k hk hn => h.block k hk (fun e => hn (hx k e.symm))⟩
theorem Kpt.mono {X Y : Nat → Prop} {w w' : World} (h : Kpt X w w') (hxy : ∀ k, X k → Y k) : Kpt Y w w' := ⟨h.os, h.tape, h.output, h.size, fun k hk hn => h.block k hk (fun x => hn (hxy k x))⟩
def rsv {σ : Type} (fnd : σ → List UInt8 → σ × Int × Bool) : List Ln → Nat → σ → List Ins → (List Ins × Int × Nat) × σ
 | [], _, s, acc => ((acc, 0, 0), s)
 | x :: l, k, s, acc =>
   if emp x.lab = false then rsv fnd l (k + 1) s acc
   else if emp x.ref = true then rsv fnd l (k + 1) s (acc ++ [x.i])
   else if (fnd s x.ref.toList).2.2 = true then rsv fnd l (k + 1) (fnd s x.ref.toList).1 (acc ++ [⟨x.i.o, x.i.d, x.i.s, (fnd s x.ref.toList).2.1 % 65536⟩])
   else (([], 6, k), (fnd s x.ref.toList).1)
section
variable {σ : Type} {fnd : σ → List UInt8 → σ × Int × Bool} {x : Ln} {l : List Ln} {k : Nat} {s : σ} {acc : List Ins}
theorem rsv_lab (h : emp x.lab = false) : rsv fnd (x :: l) k s acc = rsv fnd l (k + 1) s acc := by rw [rsv, if_pos h]
theorem rsv_ins (h : emp x.lab = true) (h2 : emp x.ref = true) : rsv fnd (x :: l) k s acc = rsv fnd l (k + 1) s (acc ++ [x.i]) := by rw [rsv, if_neg (by simp [h]), if_pos h2]
theorem rsv_ref (h : emp x.lab = true) (h2 : emp x.ref = false) (h3 : (fnd s x.ref.toList).2.2 = true) : rsv fnd (x :: l) k s acc = rsv fnd l (k + 1) (fnd s x.ref.toList).1 (acc ++ [⟨x.i.o, x.i.d, x.i.s, (fnd s x.ref.toList).2.1 % 65536⟩]) := by rw [rsv, if_neg (by simp [h]), if_neg (by simp [h2]), if_pos h3]
theorem rsv_none (h : emp x.lab = true) (h2 : emp x.ref = false) (h3 : (fnd s x.ref.toList).2.2 = false) : rsv fnd (x :: l) k s acc = (([], 6, k), (fnd s x.ref.toList).1) := by rw [rsv, if_neg (by simp [h]), if_neg (by simp [h2]), if_neg (by simp [h3])]
end
def RsvRet {σ γ : Type} (Inv : σ → γ → World → Prop) (Foot : γ → Nat → Prop) (w : World) (gh0 : γ) (R : (List Ins × Int × Nat) × σ) (e : Ending) (w' : World) : Prop :=
 ∃ vi gh, e = .returned (.tuple #[vi, .agg #[.int .i64 R.1.2.1, .int .i64 R.1.2.2]]) ∧ Inss w' vi R.1.1 ∧ (∀ k, vi.ownBlock = some k → w.heap.size ≤ k ∧ ¬ Foot gh k) ∧ Inv R.2 gh w' ∧ Kpt (Foot gh0) w w' ∧ ∀ k, Foot gh k → Foot gh0 k ∨ w.heap.size ≤ k
end Go.Proofs.YtlkoidkdeopgjaaGreatDoor
namespace Go.Proofs.YtlkoidkdeopgjaaGreatDoor
open Go.RowKit Go.Maps
set_option linter.unusedSimpArgs false
set_option linter.unusedVariables false
theorem plc_right : ∀ (l : List Ln) (k : Nat) (A : Nmd) (n : Int), (plc l k A n).2.2.1 = 0 → ∀ x ∈ l, wrgL x = 0
 | [], _, _, _, _ => by simp
 | x :: l, k, A, n, h => by
   by_cases hw : wrgL x = 0
   · by_cases he : emp x.lab = true
     · by_cases ht : n + lng x.i.o ≤ 65536
       · rw [plc_ins hw he ht] at h
         intro y hy
         rcases List.mem_cons.1 hy with rfl | hy
         · exact hw
         · exact plc_right l _ _ _ h y hy
       · rw [plc_much hw he (by omega)] at h; simp at h
     · replace he : emp x.lab = false := by simpa using he
       by_cases ht : hasA A x.lab.toList = true
       · rw [plc_taken hw he ht] at h; simp at h
       · replace ht : hasA A x.lab.toList = false := by simpa using ht
         rw [plc_label hw he ht] at h
         intro y hy
         rcases List.mem_cons.1 hy with rfl | hy
         · exact hw
         · exact plc_right l _ _ _ h y hy
   · rw [plc_bad hw] at h; exact absurd h hw
theorem plcA_right {l : List Ln} (h : (plcA l).2.2.1 = 0) : l.length ≤ 40000 ∧ ∀ x ∈ l, wrgL x = 0 := by
 unfold plcA at h
 by_cases hm : l.length ≤ 40000
 · rw [if_pos hm] at h; exact ⟨hm, plc_right _ _ _ _ h⟩
 · rw [if_neg hm] at h; simp at h
end Go.Proofs.YtlkoidkdeopgjaaGreatDoor
