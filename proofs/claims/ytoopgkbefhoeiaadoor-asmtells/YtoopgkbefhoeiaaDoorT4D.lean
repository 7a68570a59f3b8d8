/-
  The document's answer on lines: Show, walked. (Where 9 is it.)
-/
import Derived.Test.YtoopgkbefhoeiaaDoorT4C
namespace Go.Proofs.YtoopgkbefhoeiaaDoor
open Go.RowKit
set_option linter.unusedSimpArgs false
set_option linter.unusedVariables false

theorem marked_cells (w : World) (C : Array Value) (T : TypeId) (fr : Nat × Nat) (B : Nat) (hB : B = w.heap.size) : B < (w.alloc (.cells C T fr)).heap.size ∧ ∀ j u, C.toList[j]? = some u → (w.alloc (.cells C T fr)).cell? ⟨B, j, none⟩ = some u := by
  subst hB
  refine ⟨by simp, fun j u hu => ?_⟩
  have hh : (w.alloc (.cells C T fr)).heap[w.heap.size]? = some (.cells C T fr) := by
    show (w.heap.push _)[w.heap.size]? = _
    simp
  have : C[j]? = some u := by rw [← Array.getElem?_toList]; exact hu
  unfold World.cell?
  simp only [hh]
  simpa using this
theorem own_bytes {w : World} {B n : Nat} {v : Value} {cs : List Value} {l : List UInt8} (h : w.ownsRow B 5 1 v n cs) (e : cs = Lib.byteCells l) : w.ownsRow B 5 1 v l.length (Lib.byteCells l) := by
  subst e
  have hn : l.length = n := by have := h.1; simpa [Lib.byteCells] using this
  rw [hn]; exact h
theorem B_le' {B : Nat} {u v : World} (e : u.heap.size = B) (h : Below B u v) : B ≤ v.heap.size := by
  have := h.size
  rw [e] at this
  exact this
set_option maxRecDepth 100000 in
set_option maxHeartbeats 4000000 in
theorem show4_any (l : List Ln) (v : Value) (w : World) (hv : Lns w v l) : Calls Tryd.prog 9 #[v] w fun e w' => e = .returned (.tuple #[.string (ba (shwA l).1), .agg #[.int .i64 (shwA l).2.1, .int .i64 (shwA l).2.2]]) ∧ Below w.heap.size w w' := by
  obtain ⟨ao, ca, rfl, hmax, hat⟩ := hv.at
  have HA := hideI hat
  clear hat hv
  unfold maxLen at hmax
  unfold shwA
  by_cases h1 : 40000 < l.length
  · rw [if_pos h1]
    have h1' : (40000 : Int) < (l.length : Int) := by omega
    go_enter Tryd.func9, Tryd.ntmps9
    go_wp2_with fail
    exact bodyPost_ret (v := .tuple #[.string ⟨#[]⟩, .agg #[.int .i64 5, .int .i64 0]]) (by simp [results, Tryd.results9, go_sem]) rfl ⟨rfl, (by repeat (first | exact below_a _ _ | refine Below.setCell ?_ (by first | exact Nat.le_refl _ | (simp; done) | omega | (simp; omega)) _ | refine Below.alloc ?_ (by first | (simp; done) | omega | (simp; omega)) _))⟩
  rw [if_neg h1]
  have h1' : ¬ (40000 : Int) < (l.length : Int) := by omega
  generalize hR : shwT l 0 [] = R
  have HR : Hid (R = shwT (l.drop 0) 0 []) := hR.symm
  clear hR
  obtain ⟨i0, hi, hz0, hz1, hz2⟩ := info_parts Tryd.infoByte4
  have HB0 := hideI (Box.new w #[.int .i64 0, .int .i64 0] 31)
  have HK0 := hideI (below_a w (.cells #[.int .i64 0, .int .i64 0] 31))
  have s0 : (w.alloc (.cells #[.int .i64 0, .int .i64 0] 31)).heap.size = w.heap.size + 1 := by simp
  go_enter Tryd.func9, Tryd.ntmps9
  go_wp2_with fail
  generalize w.alloc (.cells #[.int .i64 0, .int .i64 0] 31) = w1 at *
  have HO0 : Hid (w1.ownsRow (w.heap.size + 1) 5 1 (.slice none 0 0) ([] : List UInt8).length (Lib.byteCells [])) := World.ownsRow_nil _ _ _ _
  go_loopg [4, 18] l.length (fun g vr vi ws => ∃ (k : Nat) (acc : List UInt8), k ≤ l.length ∧ g = l.length - k ∧ vi = .int .i64 k ∧ acc.length ≤ 200 * k ∧ Hid (ws.ownsRow (w.heap.size + 1) 5 1 vr acc.length (Lib.byteCells acc)) ∧ Hid (Below (w.heap.size + 1) w1 ws) ∧ Hid (R = shwT (l.drop k) k acc))
  case atStart => exact ⟨0, [], Nat.zero_le _, rfl, rfl, Nat.le_refl _, HO0, Below.refl _ _, HR⟩
  case round =>
    obtain ⟨k, acc, hk, hg, rfl, hacc, HO, HW, HE⟩ := hrel
    clear HR HO0
    have hwr : w.heap.size + 1 ≤ wr.heap.size := by have := (unhideI HW).size; omega
    have BW := hideI ((unhideI HB0).step (by rw [s0]; exact unhideI HW))
    have KW := hideI ((unhideI HK0).trans ((unhideI HW).mono (Nat.le_succ _)))
    by_cases hlt : k < l.length
    · have hn : l ≠ [] := by intro h; rw [h] at hlt; simp at hlt
      obtain ⟨b, off, rfl, hb, hc⟩ := (unhideI HA) hn
      obtain ⟨x0, x1, x2, x3, x4, x5⟩ := hc k hlt
      replace x0 := cell_keep (unhideI KW) hb x0
      replace x1 := cell_keep (unhideI KW) hb x1
      replace x2 := cell_keep (unhideI KW) hb x2
      replace x3 := cell_keep (unhideI KW) hb x3
      replace x4 := cell_keep (unhideI KW) hb x4
      replace x5 := cell_keep (unhideI KW) hb x5
      have hE := unhideI HE
      rw [List.drop_eq_getElem_cons hlt, shwT] at hE
      have hki : (k : Int) < (l.length : Int) := by omega
      clear hc
      generalize l[k] = x at *
      have WR := fun w => wrong4_any x w
      have HE2 := hideI hE
      have kA := below_a wr (.cells #[.string x.lab, .int .i64 x.i.o, .int .i64 x.i.d, .int .i64 x.i.s, .int .i64 x.i.m, .string x.ref] 27)
      have HKA := hideI kA
      have HX := hideI (Box.new wr #[.string x.lab, .int .i64 x.i.o, .int .i64 x.i.d, .int .i64 x.i.s, .int .i64 x.i.m, .string x.ref] 27)
      unfold aggL at WR
      clear hE HE kA
      go_wp2_with fail
      generalize wr.alloc (.cells #[.string x.lab, .int .i64 x.i.o, .int .i64 x.i.d, .int .i64 x.i.s, .int .i64 x.i.m, .string x.ref] 27) = wa at *
      refine (WR _).mono ?_
      rintro e w3 ⟨rfl, k3⟩
      have K3 := hideI (bt (unhideI HKA) k3)
      have B3 := (unhideI BW).step (unhideI K3)
      have X3 := hideI ((unhideI HX).step k3)
      have XU := unhideI X3
      have c0 := XU.2.1 0 _ rfl
      have c1 := XU.2.1 1 _ rfl
      have c2 := XU.2.1 2 _ rfl
      have c3 := XU.2.1 3 _ rfl
      have c4 := XU.2.1 4 _ rfl
      have c5 := XU.2.1 5 _ rfl
      clear WR k3 HKA HX x0 x1 x2 x3 x4 x5 XU
      have hE := unhideI HE2
      by_cases hw : wrgL x = 0
      · rw [if_pos hw] at hE
        have HE := hideI hE
        have HO3 := hideI (own_step (unhideI HO) (unhideI K3))
        have HW3 := hideI ((unhideI HW).trans ((unhideI K3).mono hwr))
        have hB3 : w.heap.size + 1 ≤ w3.heap.size := Nat.le_trans hwr (unhideI K3).size
        have hsl := shL_len hw
        rw [hw]
        clear hE HE2 B3 K3 BW KW HO HW
        rcases right_facts hw with ⟨h2, h3, -, -⟩ | ⟨h2, -, h3, h4, h5, h6, h7, h8⟩
        · have hsz := (nm_size h3).1
          have hl : shL x = x.lab.toList ++ [58, 10] := by unfold shL; rw [if_pos h2]
          rw [hl] at HE
          have h2' : x.lab.toList.isEmpty = false := h2
          have hs2 : (⟨#[58, 10]⟩ : ByteArray).size = 2 := rfl
          clear h2 h3 hw hl hsl
          go_wp2_with (at_builtin; first | (refine Lib.wpList_append_own_string _ rfl (.tmp 33) (.tmp 35) 40 9 rfl (w.heap.size + 1) 5 i0 Tryd.underlying40 Tryd.underlying9 hi hz0 hz1 hz2 _ _ _ rfl (unhideI HO3) x.lab rfl (by unfold maxLen; omega) (by omega) hB3 ?_; intro v4 w4 own4 grow4 _; have b4 := hideI (below_own (unhideI HW3) hB3 (unhideI HO3) grow4); have O4 := hideI own4; clear own4 grow4; have hB4 : w.heap.size + 1 ≤ w4.heap.size := B_le' s0 (unhideI b4)) | (refine Lib.wpList_append_own_string _ rfl (.tmp 36) (.const (.string ⟨#[58, 10]⟩)) 40 9 rfl (w.heap.size + 1) 5 i0 Tryd.underlying40 Tryd.underlying9 hi hz0 hz1 hz2 _ _ _ rfl (unhideI O4) ⟨#[58, 10]⟩ rfl (by rw [hs2]; unfold maxLen; omega) (by rw [hs2]; omega) hB4 ?_; intro v5 w5 own5 grow5 _; have b5 := hideI (below_own (unhideI b4) hB4 (unhideI O4) grow5); have O5 := hideI own5; clear own5 grow5))
          have O6 := hideI (own_bytes (l := acc ++ (x.lab.toList ++ [58, 10])) (unhideI O5) (by rw [ByteArray.toList_eq]; simp [Lib.byteCells, Lib.strCells]))
          have hl2 : x.lab.toList.length = x.lab.size := by rw [ByteArray.toList_eq]; simp
          clear O4 O5 b4 HO3 HW3
          go_roundg (l.length - (k + 1))
          case measure => omega
          case rel => exact ⟨k + 1, acc ++ (x.lab.toList ++ [58, 10]), by omega, rfl, by go_num, by simp; omega, O6, b5, HE⟩
        · have hf : fits4 x := ⟨fun e => ⟨(h5 e).1, by have := (h5 e).2; omega⟩, fun e => ⟨(h6 e).1, by have := (h6 e).2; omega⟩, h7⟩
          have hr : x.ref.size ≤ 32 := by
            rcases h8 with h | ⟨h, -⟩
            · rw [emp_size h]; omega
            · exact (nm_size h).1
          obtain ⟨q, hq, hoq, hkw⟩ := kwO_at x.i.o h3 h4
          have WD := word4_any q hq
          rw [← hkw, ← hoq] at WD
          have hkl := kwO_len x.i.o h3 h4
          have hLN : ∀ j, (lnS (kwO x.i.o) (tF x j)).length ≤ 200 := fun j => lnS_len h3 h4 hf hr
          have hSL := shL_S x h2
          rw [hSL] at HE hsl
          have h2' : x.lab.toList.isEmpty = true := h2
          have hS0 : (⟨#[9]⟩ : ByteArray) ++ ba (kwO x.i.o) = ba (lnS (kwO x.i.o) (tF x 0)) := by
            rw [show (⟨#[9]⟩ : ByteArray) = ba [9] from rfl, ba_cat]
            show _ = ba (9 :: (kwO x.i.o ++ []))
            rw [List.append_nil]; rfl
          have hn0 : ¬ 9223372036854775807 < 1 + (ba (kwO x.i.o)).size := by rw [ba_size]; omega
          have HLN := hideI hLN
          clear hLN hSL h2 hw hkw h3 h4 hq hkl h5 h6 hoq
          go_wp2_with fail
          refine (WD _).mono ?_
          rintro e w4 ⟨rfl, k4⟩
          have HO4 := hideI (own_step (unhideI HO3) k4)
          have HW4 := hideI ((unhideI HW3).trans (k4.mono hB3))
          have hB4 : w.heap.size + 1 ≤ w4.heap.size := Nat.le_trans hB3 k4.size
          have X4 := hideI ((unhideI X3).step k4)
          have XU := unhideI X4
          clear c0 c1 c2 c3 c4 c5
          have c0 := XU.2.1 0 _ rfl
          have c1 := XU.2.1 1 _ rfl
          have c2 := XU.2.1 2 _ rfl
          have c3 := XU.2.1 3 _ rfl
          have c4 := XU.2.1 4 _ rfl
          have c5 := XU.2.1 5 _ rfl
          clear k4 WD XU X3 HO3 HW3
          have kc := Lib.run_convert_bytes_const (P := Tryd.prog) w4 40 5 #[.int .u8 100, .int .u8 115, .int .u8 105] 3 3 Tryd.underlying40 Tryd.underlying5
          rw [show (#[Value.int .u8 100, .int .u8 115, .int .u8 105] : Array Value).size = 3 from rfl] at kc
          have Y5 := hideI (marked_cells w4 #[.int .u8 100, .int .u8 115, .int .u8 105] 5 (3, 4) w4.heap.size rfl)
          have k5 := below_a w4 (.cells #[.int .u8 100, .int .u8 115, .int .u8 105] 5 (3, 4))
          have HO5 := hideI (own_step (unhideI HO4) k5)
          have HW5 := hideI ((unhideI HW4).trans (k5.mono hB4))
          have X5 := hideI ((unhideI X4).step k5)
          have hB5 : w.heap.size + 1 ≤ (w4.alloc (.cells #[.int .u8 100, .int .u8 115, .int .u8 105] 5 (3, 4))).heap.size := Nat.le_trans hB4 k5.size
          clear k5 HO4 HW4 X4
          go_wp2_with fail
          -- INNER
          clear kc
          generalize w4.alloc (.cells #[.int .u8 100, .int .u8 115, .int .u8 105] 5 (3, 4)) = w5 at *
          generalize w4.heap.size = yb at *
          generalize hlb : wr.heap.size = lb at *
          have HLB := hideI hlb
          clear hlb c0 c1 c2 c3 c4 c5 hS0 hn0
          go_loopg [8, 9, 46] 3 (fun g v8 v9 vj ws => ∃ (j : Nat), j ≤ 3 ∧ g = 3 - j ∧ v8 = .string (ba (lnS (kwO x.i.o) (tF x j))) ∧ v9 = .string (ba (spS (tF x j))) ∧ vj = .int .i64 j ∧ Hid (Below w5.heap.size w5 ws))
          case atStart => exact ⟨0, by omega, rfl, rfl, rfl, rfl, Below.refl _ _⟩
          case round =>
            obtain ⟨j, hj, hg2, rfl, rfl, rfl, HI⟩ := hrel
            have XU := (unhideI X5).step (unhideI HI)
            have XI := hideI XU
            have c0 := XU.2.1 0 _ rfl
            have c1 := XU.2.1 1 _ rfl
            have c2 := XU.2.1 2 _ rfl
            have c3 := XU.2.1 3 _ rfl
            have c4 := XU.2.1 4 _ rfl
            have c5 := XU.2.1 5 _ rfl
            clear XU
            have hj4 : j = 0 ∨ j = 1 ∨ j = 2 ∨ j = 3 := by omega
            rcases hj4 with rfl | rfl | rfl | rfl
            · have HA := fun w => has_d x.i.o w
              have yc := cell_keep (unhideI HI) (unhideI Y5).1 ((unhideI Y5).2 0 _ rfl)
              have hL := unhideI HLN 0
              have hP := spS_len (tF x 0)
              by_cases hh : hD x.i.o = true
              · have hT : tF x 1 = tF x 0 ++ [rgT x.i.d] := by show (if hD x.i.o = true then [rgT x.i.d] else []) = _; rw [if_pos hh]; rfl
                have hy := hf.1 hh
                have DG := digits4_any x.i.d hy
                have hd := itoa_len hy
                obtain ⟨S2, S3, S4, e1, e2, e3, n1, n2, n3, HS4⟩ := cat3 (S := lnS (kwO x.i.o) (tF x 0)) (P := spS (tF x 0)) (D := Lib.itoa x.i.d) (by omega) (by omega) (by omega)
                have HS5 : Hid (S4 = ba (lnS (kwO x.i.o) (tF x 1))) := by show _ = _; rw [unhideI HS4, hT, lnS_snoc]; rfl
                have HP5 : Hid ((⟨#[44, 32]⟩ : ByteArray) = ba (spS (tF x 1))) := by show _ = _; rw [hT, spS_snoc]; rfl
                clear hT hy hd hL hP HS4
                generalize ba (lnS (kwO x.i.o) (tF x 0)) = A8 at *
                generalize ba (spS (tF x 0)) = A9 at *
                generalize ba (Lib.itoa x.i.d) = AD at *
                go_wp2_with fail
                refine (HA _).mono ?_
                rintro e w7 ⟨rfl, k7⟩
                rw [hh]
                have XU := (unhideI XI).step k7
                have I7 := hideI ((unhideI HI).trans (k7.mono (unhideI HI).size))
                clear c0 c1 c2 c3 c4 c5
                have c0 := XU.2.1 0 _ rfl
                have c1 := XU.2.1 1 _ rfl
                have c2 := XU.2.1 2 _ rfl
                have c3 := XU.2.1 3 _ rfl
                have c4 := XU.2.1 4 _ rfl
                have c5 := XU.2.1 5 _ rfl
                clear XU k7 HA yc
                go_wp2_with fail
                refine (DG _).mono ?_
                rintro e w8 ⟨rfl, k8⟩
                have I8 := hideI ((unhideI I7).trans (k8.mono (unhideI I7).size))
                clear c0 c1 c2 c3 c4 c5 k8 DG I7
                go_wp2_with fail
                go_roundg (3 - 1)
                case measure => omega
                case rel => exact ⟨1, by omega, rfl, by rw [unhideI HS5], by rw [← unhideI HP5], rfl, I8⟩
              · have hT : tF x 1 = tF x 0 := by show (if hD x.i.o = true then [rgT x.i.d] else []) = _; rw [if_neg hh]; rfl
                replace hh : hD x.i.o = false := by simpa using hh
                rw [hh] at HA
                clear hL hP
                generalize hA8 : ba (lnS (kwO x.i.o) (tF x 0)) = A8 at *
                generalize hA9 : ba (spS (tF x 0)) = A9 at *
                have HA8 := hideI hA8
                have HA9 := hideI hA9
                clear hA8 hA9
                go_wp2_with fail
                refine (HA _).mono ?_
                rintro e w7 ⟨rfl, k7⟩
                have I7 := hideI ((unhideI HI).trans (k7.mono (unhideI HI).size))
                clear c0 c1 c2 c3 c4 c5 k7 HA yc
                go_wp2_with fail
                go_roundg (3 - 1)
                case measure => omega
                case rel => exact ⟨1, by omega, rfl, by rw [hT, unhideI HA8], by rw [hT, unhideI HA9], rfl, I7⟩
            · have HA := fun w => has_s x.i.o w
              have yc := cell_keep (unhideI HI) (unhideI Y5).1 ((unhideI Y5).2 1 _ rfl)
              have hL := unhideI HLN 1
              have hP := spS_len (tF x 1)
              by_cases hh : hS x.i.o = true
              · have hT : tF x 2 = tF x 1 ++ [rgT x.i.s] := by show _ ++ (if hS x.i.o = true then [rgT x.i.s] else []) = _; rw [if_pos hh]; rfl
                have hy := hf.2.1 hh
                have DG := digits4_any x.i.s hy
                have hd := itoa_len hy
                obtain ⟨S2, S3, S4, e1, e2, e3, n1, n2, n3, HS4⟩ := cat3 (S := lnS (kwO x.i.o) (tF x 1)) (P := spS (tF x 1)) (D := Lib.itoa x.i.s) (by omega) (by omega) (by omega)
                have HS5 : Hid (S4 = ba (lnS (kwO x.i.o) (tF x 2))) := by show _ = _; rw [unhideI HS4, hT, lnS_snoc]; rfl
                have HP5 : Hid ((⟨#[44, 32]⟩ : ByteArray) = ba (spS (tF x 2))) := by show _ = _; rw [hT, spS_snoc]; rfl
                clear hT hy hd hL hP HS4
                generalize ba (lnS (kwO x.i.o) (tF x 1)) = A8 at *
                generalize ba (spS (tF x 1)) = A9 at *
                generalize ba (Lib.itoa x.i.s) = AD at *
                go_wp2_with fail
                refine (HA _).mono ?_
                rintro e w7 ⟨rfl, k7⟩
                rw [hh]
                have XU := (unhideI XI).step k7
                have I7 := hideI ((unhideI HI).trans (k7.mono (unhideI HI).size))
                clear c0 c1 c2 c3 c4 c5
                have c0 := XU.2.1 0 _ rfl
                have c1 := XU.2.1 1 _ rfl
                have c2 := XU.2.1 2 _ rfl
                have c3 := XU.2.1 3 _ rfl
                have c4 := XU.2.1 4 _ rfl
                have c5 := XU.2.1 5 _ rfl
                clear XU k7 HA yc
                go_wp2_with fail
                refine (DG _).mono ?_
                rintro e w8 ⟨rfl, k8⟩
                have I8 := hideI ((unhideI I7).trans (k8.mono (unhideI I7).size))
                clear c0 c1 c2 c3 c4 c5 k8 DG I7
                go_wp2_with fail
                go_roundg (3 - 2)
                case measure => omega
                case rel => exact ⟨2, by omega, rfl, by rw [unhideI HS5], by rw [← unhideI HP5], rfl, I8⟩
              · have hT : tF x 2 = tF x 1 := by show _ ++ (if hS x.i.o = true then [rgT x.i.s] else []) = _; rw [if_neg hh, List.append_nil]; rfl
                replace hh : hS x.i.o = false := by simpa using hh
                rw [hh] at HA
                clear hL hP
                generalize hA8 : ba (lnS (kwO x.i.o) (tF x 1)) = A8 at *
                generalize hA9 : ba (spS (tF x 1)) = A9 at *
                have HA8 := hideI hA8
                have HA9 := hideI hA9
                clear hA8 hA9
                go_wp2_with fail
                refine (HA _).mono ?_
                rintro e w7 ⟨rfl, k7⟩
                have I7 := hideI ((unhideI HI).trans (k7.mono (unhideI HI).size))
                clear c0 c1 c2 c3 c4 c5 k7 HA yc
                go_wp2_with fail
                go_roundg (3 - 2)
                case measure => omega
                case rel => exact ⟨2, by omega, rfl, by rw [hT, unhideI HA8], by rw [hT, unhideI HA9], rfl, I7⟩
            · have HA := fun w => has_i x.i.o w
              have yc := cell_keep (unhideI HI) (unhideI Y5).1 ((unhideI Y5).2 2 _ rfl)
              have hL := unhideI HLN 2
              have hP := spS_len (tF x 2)
              by_cases hh : hI x.i.o = true
              · have hy := hf.2.2 hh
                have hd := itoa_len hy
                by_cases hre : x.ref.toList.isEmpty = true
                · have hT : tF x 3 = tF x 2 ++ [Lib.itoa x.i.m] := by
                    show shF x = _
                    unfold shF
                    rw [if_pos hh, if_pos (show emp x.ref = true from hre)]; rfl
                  have DG := digits4_any x.i.m hy
                  obtain ⟨S2, S4, e1, e2, n1, n2, HS4⟩ := cat2 (S := lnS (kwO x.i.o) (tF x 2)) (P := spS (tF x 2)) (D := Lib.itoa x.i.m) (by omega) (by omega) (by omega)
                  have HS5 : Hid (S4 = ba (lnS (kwO x.i.o) (tF x 3))) := by show _ = _; rw [unhideI HS4, hT, lnS_snoc]
                  have HP5 : Hid ((⟨#[44, 32]⟩ : ByteArray) = ba (spS (tF x 3))) := by show _ = _; rw [hT, spS_snoc]; rfl
                  clear hT hy hd hL hP HS4
                  generalize ba (lnS (kwO x.i.o) (tF x 2)) = A8 at *
                  generalize ba (spS (tF x 2)) = A9 at *
                  generalize ba (Lib.itoa x.i.m) = AD at *
                  go_wp2_with fail
                  refine (HA _).mono ?_
                  rintro e w7 ⟨rfl, k7⟩
                  rw [hh]
                  have XU := (unhideI XI).step k7
                  have I7 := hideI ((unhideI HI).trans (k7.mono (unhideI HI).size))
                  clear c0 c1 c2 c3 c4 c5
                  have c0 := XU.2.1 0 _ rfl
                  have c1 := XU.2.1 1 _ rfl
                  have c2 := XU.2.1 2 _ rfl
                  have c3 := XU.2.1 3 _ rfl
                  have c4 := XU.2.1 4 _ rfl
                  have c5 := XU.2.1 5 _ rfl
                  clear XU k7 HA yc
                  go_wp2_with fail
                  refine (DG _).mono ?_
                  rintro e w8 ⟨rfl, k8⟩
                  have I8 := hideI ((unhideI I7).trans (k8.mono (unhideI I7).size))
                  clear c0 c1 c2 c3 c4 c5 k8 DG I7
                  go_wp2_with fail
                  go_roundg (3 - 3)
                  case measure => omega
                  case rel => exact ⟨3, by omega, rfl, by rw [unhideI HS5], by rw [← unhideI HP5], rfl, I8⟩
                · replace hre : x.ref.toList.isEmpty = false := by simpa using hre
                  have hT : tF x 3 = tF x 2 ++ [x.ref.toList] := by
                    show shF x = _
                    unfold shF
                    rw [if_pos hh, if_neg (show ¬ emp x.ref = true by unfold emp; rw [hre]; simp)]; rfl
                  have hrl : x.ref.toList.length = x.ref.size := by rw [ByteArray.toList_eq]; simp
                  obtain ⟨S2, S4, e1, e2, n1, n2, HS4⟩ := cat2 (S := lnS (kwO x.i.o) (tF x 2)) (P := spS (tF x 2)) (D := x.ref.toList) (by omega) (by omega) (by omega)
                  have HS5 : Hid (S4 = ba (lnS (kwO x.i.o) (tF x 3))) := by show _ = _; rw [unhideI HS4, hT, lnS_snoc]
                  have HP5 : Hid ((⟨#[44, 32]⟩ : ByteArray) = ba (spS (tF x 3))) := by show _ = _; rw [hT, spS_snoc]; rfl
                  rw [ba_toList] at e2 n2
                  clear hT hy hd hL hP HS4 hrl
                  generalize ba (lnS (kwO x.i.o) (tF x 2)) = A8 at *
                  generalize ba (spS (tF x 2)) = A9 at *
                  go_wp2_with fail
                  refine (HA _).mono ?_
                  rintro e w7 ⟨rfl, k7⟩
                  rw [hh]
                  have XU := (unhideI XI).step k7
                  have I7 := hideI ((unhideI HI).trans (k7.mono (unhideI HI).size))
                  clear c0 c1 c2 c3 c4 c5
                  have c0 := XU.2.1 0 _ rfl
                  have c1 := XU.2.1 1 _ rfl
                  have c2 := XU.2.1 2 _ rfl
                  have c3 := XU.2.1 3 _ rfl
                  have c4 := XU.2.1 4 _ rfl
                  have c5 := XU.2.1 5 _ rfl
                  clear XU k7 HA yc
                  go_wp2_with fail
                  go_roundg (3 - 3)
                  case measure => omega
                  case rel => exact ⟨3, by omega, rfl, by rw [unhideI HS5], by rw [← unhideI HP5], rfl, I7⟩
              · have hT : tF x 3 = tF x 2 := by
                  show shF x = _
                  unfold shF
                  rw [if_neg hh, List.append_nil]; rfl
                replace hh : hI x.i.o = false := by simpa using hh
                rw [hh] at HA
                clear hL hP
                generalize hA8 : ba (lnS (kwO x.i.o) (tF x 2)) = A8 at *
                generalize hA9 : ba (spS (tF x 2)) = A9 at *
                have HA8 := hideI hA8
                have HA9 := hideI hA9
                clear hA8 hA9
                go_wp2_with fail
                refine (HA _).mono ?_
                rintro e w7 ⟨rfl, k7⟩
                have I7 := hideI ((unhideI HI).trans (k7.mono (unhideI HI).size))
                clear c0 c1 c2 c3 c4 c5 k7 HA yc
                go_wp2_with fail
                go_roundg (3 - 3)
                case measure => omega
                case rel => exact ⟨3, by omega, rfl, by rw [hT, unhideI HA8], by rw [hT, unhideI HA9], rfl, I7⟩
            · have hT : tF x 3 = shF x := rfl
              have hL := unhideI HLN 3
              rw [hT] at hL ⊢
              have HOI := hideI (own_step (unhideI HO5) (unhideI HI))
              have HWI := hideI ((unhideI HW5).trans ((unhideI HI).mono hB5))
              have hBI : w.heap.size + 1 ≤ wr.heap.size := Nat.le_trans hB5 (unhideI HI).size
              generalize lnS (kwO x.i.o) (shF x) = LL at *
              have hLS : (ba LL).size = LL.length := ba_size LL
              have hLD : (ba LL).data.toList = LL := ba_data LL
              clear c0 c1 c2 c3 c4 c5 hT HI XI HO5 HW5 X5
              generalize ba LL = LS at *
              go_wp2_with (at_builtin; first | (refine Lib.wpList_append_own_string _ rfl (.tmp 94) (.tmp 95) 40 9 rfl (w.heap.size + 1) 5 i0 Tryd.underlying40 Tryd.underlying9 hi hz0 hz1 hz2 _ _ _ rfl (unhideI HOI) LS rfl (by rw [hLS]; unfold maxLen; omega) (by rw [hLS]; omega) hBI ?_; intro v8 w8 own8 grow8 _; have b8 := hideI (below_own (unhideI HWI) hBI (unhideI HOI) grow8); have O8 := hideI own8; clear own8 grow8; have hB8 : w.heap.size + 1 ≤ w8.heap.size := B_le' s0 (unhideI b8)) | (refine wpList_append_own _ rfl (.tmp 96) (.tmp 97) 40 rfl (w.heap.size + 1) 5 i0 (.int .u8 0) 1 1 Tryd.underlying40 hi hz0 hz1 hz2 rfl (by decide) _ _ _ rfl ((unhideI O8).alloc _) ⟨_, 0, none⟩ 1 1 [.int .u8 10] rfl rfl (one_c1 _ _ _) (one_c2 _ _) (by rw [hLS]; unfold maxLen; omega) (by rw [hLS]; omega) (by rw [World.size_alloc]; omega) ?_; intro v9 w9 own9 grow9 _; have b9 := hideI (below_own ((unhideI b8).alloc hB8 _) (by rw [World.size_alloc]; omega) ((unhideI O8).alloc _) grow9); have O9 := hideI own9; clear own9 grow9))
              have O10 := hideI (own_bytes (l := acc ++ (LL ++ [10])) (unhideI O9) (by unfold Lib.strCells; rw [hLD]; simp [Lib.byteCells]))
              clear O8 O9 b8 HOI HWI
              go_roundg (l.length - (k + 1))
              case measure => omega
              case rel => exact ⟨k + 1, acc ++ (LL ++ [10]), by omega, rfl, by go_num, by simp at hsl ⊢; omega, O10, b9, HE⟩
          -- END INNER
      · rw [if_neg hw] at hE
        generalize wrgL x = er at *
        obtain rfl : R = ([], er, (k : Int)) := hE
        have hw0 : (er != 0) = true := by simpa using hw
        obtain ⟨y0, y1⟩ := B3.at2
        have y2 := B3.2.2
        have y4 : w.heap.size < w3.heap.size := B3.1
        have K3' := hideI (bt (unhideI KW) (unhideI K3))
        clear HE2 B3 c0 c1 c2 c3 c4 c5 hw
        go_wp2_with fail
        exact bodyPost_ret (v := .tuple #[.string ⟨#[]⟩, .agg #[.int .i64 er, .int .i64 k]]) (by simp [results, Tryd.results9, go_sem, y0, y1, y2, y4]) rfl ⟨rfl, (by repeat (first | exact unhideI K3' | refine Below.setCell ?_ (by first | exact Nat.le_refl _ | (simp; done) | omega | (simp; omega)) _ | refine Below.alloc ?_ (by first | (simp; done) | omega | (simp; omega)) _))⟩
    · have hE := unhideI HE
      have hke : k = l.length := by omega
      rw [hke, List.drop_length] at hE
      obtain rfl : R = (acc, 0, 0) := hE
      have hki : ¬ (k : Int) < (l.length : Int) := by omega
      have CV := back4 wr acc _ (Lies.owned (unhideI HO))
      have B3 := unhideI BW
      obtain ⟨y0, y1⟩ := B3.at2
      have y2 := B3.2.2
      have y4 : w.heap.size < wr.heap.size := B3.1
      clear HE hke B3
      go_wp2_with fail
      exact bodyPost_ret (v := .tuple #[.string (ba acc), .agg #[.int .i64 0, .int .i64 0]]) (by simp [results, Tryd.results9, go_sem, y0, y1, y2, y4]) rfl ⟨rfl, (by repeat (first | exact unhideI KW | refine Below.setCell ?_ (by first | exact Nat.le_refl _ | (simp; done) | omega | (simp; omega)) _ | refine Below.alloc ?_ (by first | (simp; done) | omega | (simp; omega)) _))⟩
end Go.Proofs.YtoopgkbefhoeiaaDoor
