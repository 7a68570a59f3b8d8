/-
  The document's answer on lines: Assemble, walked. (Where 9 is its Show.)
-/
import Derived.Test.YtoopgkbefhoeiaaDoorT4E
import Derived.Test.YtoopgkbefhoeiaaDoorT4G
import Derived.Test.YtoopgkbefhoeiaaDoorRefE
import Derived.Test.YtoopgkbefhoeiaaDoorMem2
import Derived.Test.YtoopgkbefhoeiaaDoorFour
import Derived.RegionTactic
import Derived.Deep.RegionWith
import Derived.Deep.DeepCutAuto
namespace Go.Proofs.YtoopgkbefhoeiaaDoor
open Go.RowKit Go.Maps
set_option linter.unusedSimpArgs false
set_option linter.unusedVariables false

theorem inss_one (u : World) (i : Ins) (T : TypeId) (B : Nat) (hB : B = u.heap.size) : Inss (u.alloc (.cells #[.int .i64 i.o, .int .i64 i.d, .int .i64 i.s, .int .i64 i.m] T)) (.slice (some ⟨B, 0, none⟩) 1 1) [i] := by
  subst hB
  refine ⟨by simp [cells4], some ⟨u.heap.size, 0, none⟩, 1, rfl, by simp, by unfold maxLen; simp, fun h => ?_, fun _ => ⟨u.heap.size, 0, rfl, by simp, fun j hj => ?_⟩⟩
  · simp at h
  · have hj' : j < (cells4 i).length := by simpa [cells4] using hj
    have := four_c1 u i T u.heap.size rfl j _ (List.getElem?_eq_getElem hj')
    rw [show ((⟨u.heap.size, 0, none⟩ : Addr).add j) = ⟨u.heap.size, 0 + j, none⟩ by unfold Addr.add; split <;> simp_all] at this
    rw [this]
    simp [hj']
theorem ints_cells (xs : List Int) : ∀ u ∈ xs.map int1, u.oneCell' = true := by
  intro u hu
  obtain ⟨x, -, rfl⟩ := List.mem_map.1 hu
  rfl
theorem own_ints {w : World} {B n : Nat} {v : Value} {l m : List Int} (h : w.ownsRow B 3 1 v n (l.map int1 ++ m.map int1)) : w.ownsRow B 3 1 v (l ++ m).length ((l ++ m).map int1) := by
  have hn : (l ++ m).length = n := by have := h.1; simpa using this
  rw [hn, List.map_append]; exact h
theorem cell_B4 {w w' : World} {B b o : Nat} {v : Value} (k : Below B w w') (hb : b < B) (h : w.cell? ⟨b, o, none⟩ = some v) : w'.cell? ⟨b, o, none⟩ = some v := by
  rw [k.cell (p := ⟨b, o, none⟩) hb]; exact h
def AsmRet (w : World) (R : List Int × Int × Nat) (e : Ending) (w' : World) : Prop := ∃ v', e = .returned (.tuple #[v', .agg #[.int .i64 R.2.1, .int .i64 (R.2.2 : Int)]]) ∧ Ints w' v' R.1 ∧ (∀ k, v'.ownBlock = some k → w.heap.size ≤ k) ∧ Below w.heap.size w w'
set_option maxRecDepth 100000 in
set_option maxHeartbeats 4000000 in
theorem assemble4_any (l : List Ln) (v : Value) (w : World) (hv : Lns w v l) : Calls Tryd.prog 11 #[v] w fun e w' => AsmRet w (asmA l) e w' := by
  unfold AsmRet
  have HV := hideI hv
  obtain ⟨ao, ca, rfl, hmax, hat⟩ := hv.at
  clear hv
  unfold maxLen at hmax
  by_cases h1 : 40000 < l.length
  · have hR : asmA l = ([], 5, 0) := by
      have e : plcA l = ([], 0, 5, 0) := by unfold plcA; rw [if_neg (by omega)]
      rw [asm_bad (by rw [e]; decide), e]
    rw [hR]
    have h1' : (40000 : Int) < (l.length : Int) := by omega
    clear hat HV
    go_enter Tryd.func11, Tryd.ntmps11
    go_wp2_with fail
    exact bodyPost_ret (v := .tuple #[.slice none 0 0, .agg #[.int .i64 5, .int .i64 0]]) (by simp [results, Tryd.results11, go_sem]) rfl ⟨_, rfl, Lies.nil _ _, (fun _ h => by cases h), (by repeat (first | exact below_a _ _ | refine Below.setCell ?_ (by first | exact Nat.le_refl _ | (simp; done) | omega | (simp; omega)) _ | refine Below.alloc ?_ (by first | (simp; done) | omega | (simp; omega)) _))⟩
  have h1' : ¬ (40000 : Int) < (l.length : Int) := by omega
  have hpl : plcA l = plc l 0 [] 0 := by unfold plcA; rw [if_pos (by omega)]
  have HB0 := hideI (Box.new w #[.int .i64 0, .int .i64 0] 31)
  have HK0 := hideI (below_a w (.cells #[.int .i64 0, .int .i64 0] 31))
  have CK := check4_any l (.slice ao l.length ca) 0 _ ((unhideI HV).step (unhideI HK0)) (by omega) (by omega) (by omega)
  rw [← hpl] at CK
  clear hat hpl
  by_cases hp : (plcA l).2.2.1 = 0
  · rw [asm_asw hp]
    obtain ⟨-, hrt⟩ := plcA_right hp
    have HRT := hideI hrt
    have HY := hideI (fun j hj ha => whr_yes hp (j := j) hj ha)
    have HN := hideI (fun j hj ha => whr_no hp (j := j) hj ha)
    rw [hp] at CK
    clear hp hrt
    generalize (plcA l).2.1 = nn at *
    generalize ((plcA l).2.2.2 : Int) = a2 at *
    generalize (plcA l).1 = A at *
    generalize hR : asw A l 0 [] = R
    have HR : Hid (R = asw A (l.drop 0) 0 []) := hR.symm
    clear hR
    go_enter Tryd.func11, Tryd.ntmps11
    go_wp2_with fail
    generalize w.alloc (.cells #[.int .i64 0, .int .i64 0] 31) = w1 at *
    refine CK.mono ?_
    rintro e w2 ⟨rfl, k2⟩
    have B2 := hideI ((unhideI HB0).step k2)
    have K2 := hideI (bt (unhideI HK0) k2)
    clear CK k2 HB0 HK0
    obtain ⟨i0, hi, hz0, hz1, hz2⟩ := info_parts Tryd.infoInt
    have k3 := below_a w2 (.cells #[.int .i64 0, .int .i64 a2] 31)
    have K3 := hideI (bt (unhideI K2) k3)
    have B3 := hideI ((unhideI B2).step k3)
    have V3 := hideI ((unhideI HV).step (unhideI K3))
    clear k3 K2 B2 HV
    go_wp2_with fail
    generalize w2.alloc (.cells #[.int .i64 0, .int .i64 a2] 31) = w3 at *
    generalize w2.heap.size = p2 at *
    obtain ⟨ao', ca', he', -, hat⟩ := (unhideI V3).at
    obtain rfl : ao = ao' := by injection he'
    have HA := hideI hat
    generalize hB : w3.heap.size = B at *
    have HB := hideI hB
    have HO0 : Hid (w3.ownsRow B 3 1 (.slice none 0 0) ([] : List Int).length (([] : List Int).map int1)) := World.ownsRow_nil _ _ _ _
    have HW0 : Hid (Below B w3 w3) := Below.refl _ _
    clear he' hat hB
    go_loopg [6, 28] l.length (fun g vr vi ws => ∃ (k : Nat) (acc : List Int), k ≤ l.length ∧ g = l.length - k ∧ vi = .int .i64 k ∧ acc.length ≤ 2 * k ∧ Hid (ws.ownsRow B 3 1 vr acc.length (acc.map int1)) ∧ Hid (Below B w3 ws) ∧ Hid (R = asw A (l.drop k) k acc))
    case atStart => exact ⟨0, [], Nat.zero_le _, rfl, rfl, Nat.le_refl _, HO0, HW0, HR⟩
    case round =>
      obtain ⟨k, acc, hk, hg, rfl, hacc, HO, HW, HE⟩ := hrel
      clear HR HO0 HW0
      have hwr : B ≤ wr.heap.size := by have := (unhideI HW).size; have := unhideI HB; omega
      by_cases hlt : k < l.length
      · have hn : l ≠ [] := by intro h; rw [h] at hlt; simp at hlt
        obtain ⟨b, off, rfl, hb, hc⟩ := (unhideI HA) hn
        obtain ⟨x0, x1, x2, x3, x4, x5⟩ := hc k hlt
        replace x0 := cell_B4 (unhideI HW) hb x0
        replace x1 := cell_B4 (unhideI HW) hb x1
        replace x2 := cell_B4 (unhideI HW) hb x2
        replace x3 := cell_B4 (unhideI HW) hb x3
        replace x4 := cell_B4 (unhideI HW) hb x4
        replace x5 := cell_B4 (unhideI HW) hb x5
        have hE := unhideI HE
        rw [drop_atL l k hlt, asw] at hE
        have hki : (k : Int) < (l.length : Int) := by omega
        have hwx := unhideI HRT l[k] (List.getElem_mem hlt)
        clear hc
        generalize l[k] = x at *
        obtain ⟨lab, ⟨jo, jd, js, jm⟩, ref⟩ := x
        dsimp only at *
        have kA := below_a wr (.cells #[.string lab, .int .i64 jo, .int .i64 jd, .int .i64 js, .int .i64 jm, .string ref] 27)
        have sA : (wr.alloc (.cells #[.string lab, .int .i64 jo, .int .i64 jd, .int .i64 js, .int .i64 jm, .string ref] 27)).heap.size = wr.heap.size + 1 := by simp
        have HX := hideI (Box.new wr #[.string lab, .int .i64 jo, .int .i64 jd, .int .i64 js, .int .i64 jm, .string ref] 27)
        have OA := hideI (own_step (unhideI HO) kA)
        have WA := hideI ((unhideI HW).trans (kA.mono hwr))
        have HKA := hideI kA
        have hOlt := fun c hc => ((unhideI HO).lt c hc).2
        clear HE kA HO HW
        by_cases he : emp lab = false
        · rw [if_pos he] at hE
          have HE := hideI hE
          have he' : lab.toList.isEmpty = false := he
          clear hE he hwx HX
          go_wp2_with fail
          go_roundg (l.length - (k + 1))
          case measure => omega
          case rel => exact ⟨k + 1, acc, by omega, rfl, by go_num, by omega, OA, WA, HE⟩
        · rw [if_neg he] at hE
          replace he : emp lab = true := by simpa using he
          have he' : lab.toList.isEmpty = true := he
          obtain ⟨hwi, -, -, hnr⟩ := insB_ok (A := A) hwx he
          have kB := below_a (wr.alloc (.cells #[.string lab, .int .i64 jo, .int .i64 jd, .int .i64 js, .int .i64 jm, .string ref] 27)) (.cells #[.int .i64 jo, .int .i64 jd, .int .i64 js, .int .i64 jm] 25)
          have BI := hideI (Box.new (wr.alloc (.cells #[.string lab, .int .i64 jo, .int .i64 jd, .int .i64 js, .int .i64 jm, .string ref] 27)) #[.int .i64 jo, .int .i64 jd, .int .i64 js, .int .i64 jm] 25)
          have XI := hideI ((unhideI HX).step kB)
          have OI := hideI (own_step (unhideI OA) kB)
          have hBa : B ≤ (wr.alloc (.cells #[.string lab, .int .i64 jo, .int .i64 jd, .int .i64 js, .int .i64 jm, .string ref] 27)).heap.size := Nat.le_trans hwr (unhideI HKA).size
          have WI := hideI ((unhideI WA).trans (kB.mono hBa))
          have hBi : B ≤ ((wr.alloc (.cells #[.string lab, .int .i64 jo, .int .i64 jd, .int .i64 js, .int .i64 jm, .string ref] 27)).alloc (.cells #[.int .i64 jo, .int .i64 jd, .int .i64 js, .int .i64 jm] 25)).heap.size := Nat.le_trans hBa kB.size
          rw [sA] at BI
          clear kB HX OA WA HKA hBa sA he hwx
          by_cases hr : emp ref = true
          · rw [if_pos hr] at hE
            have hib : insB A ⟨lab, ⟨jo, jd, js, jm⟩, ref⟩ = ⟨jo, jd, js, jm⟩ := by unfold insB; rw [if_pos hr]
            rw [hib] at hE hwi
            have HE := hideI hE
            have hr' : ref.toList.isEmpty = true := hr
            clear hE hr hib hnr
            go_upto_region 17 with fail
            generalize (wr.alloc (.cells #[.string lab, .int .i64 jo, .int .i64 jd, .int .i64 js, .int .i64 jm, .string ref] 27)).alloc (.cells #[.int .i64 jo, .int .i64 jd, .int .i64 js, .int .i64 jm] 25) = wi at *
            clear x0 x1 x2 x3 x4 x5 XI
            have EN := fun v w h => rencode_any [⟨jo, jd, js, jm⟩] v w h
            rw [enc_one hwi] at EN
            dsimp only at EN
            have hws := ws_len2 ⟨jo, jd, js, jm⟩
            generalize ws ⟨jo, jd, js, jm⟩ = W4 at *
            clear hwi
            obtain ⟨p0, p1, p2, p3⟩ := (unhideI BI).at4
            have kI := below_a wi (.cells #[.int .i64 jo, .int .i64 jd, .int .i64 js, .int .i64 jm] 25)
            have LI := inss_one wi ⟨jo, jd, js, jm⟩ 25 wi.heap.size rfl
            have ENI := EN _ _ LI
            have HKI := hideI kI
            clear kI EN LI
            go_wp2_with fail
            generalize wi.alloc (.cells #[.int .i64 jo, .int .i64 jd, .int .i64 js, .int .i64 jm] 25) = wj at *
            refine ENI.mono ?_
            rintro e w8 ⟨v8, rfl, l8, o8, k8⟩
            have k9 := below_a w8 (.cells #[.int .i64 0, .int .i64 0] 31)
            have K9 := hideI (bt (bt (unhideI HKI) k8) k9)
            have L9 := hideI (l8.step k9)
            have O9 := hideI (own_step (unhideI OI) (unhideI K9))
            have W9 := hideI ((unhideI WI).trans ((unhideI K9).mono hBi))
            have hB9 : B ≤ (w8.alloc (.cells #[.int .i64 0, .int .i64 0] 31)).heap.size := Nat.le_trans hBi (unhideI K9).size
            clear ENI k8 k9 l8 o8 HKI OI WI K9 p0 p1 p2 p3 BI
            go_wp2_with (at_builtin; refine append_lies rfl (.tmp 58) (.tmp 59) 34 rfl B 3 i0 (.int .i64 0) 1 8 Tryd.underlying34 hi hz0 hz1 hz2 rfl (by decide) _ _ _ rfl (unhideI O9) _ _ _ rfl (unhideI L9) (ints_cells _) (by unfold maxLen; omega) (by omega) hB9 ?_; intro v10 w10 own10 grow10; have b10 := hideI (below_own (unhideI W9) hB9 (unhideI O9) grow10); have O10 := hideI (own_ints own10); clear own10 grow10)
            go_roundg (l.length - (k + 1))
            case measure => omega
            case rel => exact ⟨k + 1, acc ++ W4, by omega, rfl, by go_num, by simp; omega, O10, b10, HE⟩
          · rw [if_neg hr] at hE
            replace hr : emp ref = false := by simpa using hr
            have hr' : ref.toList.isEmpty = false := hr
            have hj : ref.toList ≠ [] := by intro e; rw [e] at hr'; cases hr'
            have WH := fun w h => where_any l (.slice (some ⟨b, off, none⟩) l.length ca) ref 0 w h (by omega) (by omega) (by omega)
            have XU := unhideI XI
            have c0 := XU.2.1 0 _ rfl
            have c1 := XU.2.1 1 _ rfl
            have c2 := XU.2.1 2 _ rfl
            have c3 := XU.2.1 3 _ rfl
            have c4 := XU.2.1 4 _ rfl
            have c5 := XU.2.1 5 _ rfl
            by_cases ha : hasA A ref.toList = true
            · rw [if_pos ha] at hE
              obtain ⟨y1, y2, y3⟩ := unhideI HY ref.toList hj ha
              have hib : insB A ⟨lab, ⟨jo, jd, js, jm⟩, ref⟩ = ⟨jo, jd, js, whrL l ref.toList 0 % 65536⟩ := by unfold insB; rw [if_neg (by rw [hr]; simp), y1]
              rw [hib] at hE hwi
              clear hib y1 ha hnr hj hr XU
              generalize whrL l ref.toList 0 = wv at *
              have HE := hideI hE
              have y4 : ¬ wv < 0 := by omega
              clear hE
              go_wp2_with fail
              generalize (wr.alloc (.cells #[.string lab, .int .i64 jo, .int .i64 jd, .int .i64 js, .int .i64 jm, .string ref] 27)).alloc (.cells #[.int .i64 jo, .int .i64 jd, .int .i64 js, .int .i64 jm] 25) = w5 at *
              refine (WH _ ((unhideI V3).step (by rw [unhideI HB]; exact unhideI WI))).mono ?_
              rintro e w7 ⟨rfl, k7⟩
              have B7 := hideI ((unhideI BI).step k7)
              have O7 := hideI (own_step (unhideI OI) k7)
              have W7 := hideI ((unhideI WI).trans (k7.mono hBi))
              have hB7 : B ≤ w7.heap.size := Nat.le_trans hBi k7.size
              have BI := hideI ((unhideI B7).set (j := 3) (u := .int .i64 (wv % 65536)) (by simp))
              have OI := hideI (own_kpt (unhideI O7) (Kpt.setCell (X := fun b => b = wr.heap.size + 1) w7 (c := wr.heap.size + 1) (j := 3) (.int .i64 (wv % 65536)) rfl) (fun c hc e => by have := hOlt c hc; omega))
              have WI := hideI ((unhideI W7).setCell (p := ⟨wr.heap.size + 1, 3, none⟩) (by show B ≤ wr.heap.size + 1; omega) (.int .i64 (wv % 65536)))
              have hBi : B ≤ (w7.setCell ⟨wr.heap.size + 1, 3, none⟩ (.int .i64 (wv % 65536))).heap.size := by rw [show (w7.setCell ⟨wr.heap.size + 1, 3, none⟩ (.int .i64 (wv % 65536))).heap.size = w7.heap.size by simp]; exact hB7
              obtain ⟨z0, z1, z2, z3⟩ := (unhideI B7).at4
              have z4 := (unhideI B7).2.2
              have z5 := (unhideI B7).1
              clear WH k7 O7 W7 c0 c1 c2 c3 c4 c5 x0 x1 x2 x3 x4 x5 XI
              go_upto_region 17 with fail
              clear z0 z1 z2 z3 z4 z5 B7
              generalize w7.setCell ⟨wr.heap.size + 1, 3, none⟩ (.int .i64 (wv % 65536)) = wi at *
              generalize wv % 65536 = jn at *
              clear hB7
              have EN := fun v w h => rencode_any [⟨jo, jd, js, jn⟩] v w h
              rw [enc_one hwi] at EN
              dsimp only at EN
              have hws := ws_len2 ⟨jo, jd, js, jn⟩
              generalize ws ⟨jo, jd, js, jn⟩ = W4 at *
              clear hwi
              obtain ⟨p0, p1, p2, p3⟩ := (unhideI BI).at4
              have kI := below_a wi (.cells #[.int .i64 jo, .int .i64 jd, .int .i64 js, .int .i64 jn] 25)
              have LI := inss_one wi ⟨jo, jd, js, jn⟩ 25 wi.heap.size rfl
              have ENI := EN _ _ LI
              have HKI := hideI kI
              clear kI EN LI
              go_wp2_with fail
              generalize wi.alloc (.cells #[.int .i64 jo, .int .i64 jd, .int .i64 js, .int .i64 jn] 25) = wj at *
              refine ENI.mono ?_
              rintro e w8 ⟨v8, rfl, l8, o8, k8⟩
              have k9 := below_a w8 (.cells #[.int .i64 0, .int .i64 0] 31)
              have K9 := hideI (bt (bt (unhideI HKI) k8) k9)
              have L9 := hideI (l8.step k9)
              have O9 := hideI (own_step (unhideI OI) (unhideI K9))
              have W9 := hideI ((unhideI WI).trans ((unhideI K9).mono hBi))
              have hB9 : B ≤ (w8.alloc (.cells #[.int .i64 0, .int .i64 0] 31)).heap.size := Nat.le_trans hBi (unhideI K9).size
              clear ENI k8 k9 l8 o8 HKI OI WI K9 p0 p1 p2 p3 BI
              go_wp2_with (at_builtin; refine append_lies rfl (.tmp 58) (.tmp 59) 34 rfl B 3 i0 (.int .i64 0) 1 8 Tryd.underlying34 hi hz0 hz1 hz2 rfl (by decide) _ _ _ rfl (unhideI O9) _ _ _ rfl (unhideI L9) (ints_cells _) (by unfold maxLen; omega) (by omega) hB9 ?_; intro v10 w10 own10 grow10; have b10 := hideI (below_own (unhideI W9) hB9 (unhideI O9) grow10); have O10 := hideI (own_ints own10); clear own10 grow10)
              go_roundg (l.length - (k + 1))
              case measure => omega
              case rel => exact ⟨k + 1, acc ++ W4, by omega, rfl, by go_num, by simp; omega, O10, b10, HE⟩
            · rw [if_neg ha] at hE
              obtain rfl : R = ([], 6, k) := hE
              have hno := unhideI HN ref.toList hj (by simpa using ha)
              rw [hno] at WH
              clear hno ha hnr hj hr XU
              go_wp2_with fail
              generalize (wr.alloc (.cells #[.string lab, .int .i64 jo, .int .i64 jd, .int .i64 js, .int .i64 jm, .string ref] 27)).alloc (.cells #[.int .i64 jo, .int .i64 jd, .int .i64 js, .int .i64 jm] 25) = w5 at *
              refine (WH _ ((unhideI V3).step (by rw [unhideI HB]; exact unhideI WI))).mono ?_
              rintro e w7 ⟨rfl, k7⟩
              have W7 := hideI ((unhideI WI).trans (k7.mono hBi))
              have B7 := (unhideI B3).step (by rw [unhideI HB]; exact unhideI W7)
              have K7 := hideI (bt (unhideI K3) (by rw [unhideI HB]; exact unhideI W7))
              obtain ⟨f0, f1⟩ := B7.at2
              have f2 := B7.2.2
              have f3 := B7.1
              clear WH k7 W7 c0 c1 c2 c3 c4 c5 x0 x1 x2 x3 x4 x5 XI BI OI WI B7
              go_wp2_with fail
              exact bodyPost_ret (v := .tuple #[.slice none 0 0, .agg #[.int .i64 6, .int .i64 k]]) (by simp [results, Tryd.results11, go_sem, f0, f1, f2, f3]) rfl ⟨_, rfl, Lies.nil _ _, (fun _ h => by cases h), (by repeat (first | exact unhideI K7 | refine Below.setCell ?_ (by first | exact Nat.le_refl _ | (simp; done) | omega | (simp; omega)) _ | refine Below.alloc ?_ (by first | (simp; done) | omega | (simp; omega)) _))⟩
      · have hE := unhideI HE
        have hke : k = l.length := by omega
        rw [hke, List.drop_length] at hE
        obtain rfl : R = (acc, 0, 0) := hE
        have hki : ¬ (k : Int) < (l.length : Int) := by omega
        have B7 := (unhideI B3).step (by rw [unhideI HB]; exact unhideI HW)
        have K7 := hideI (bt (unhideI K3) (by rw [unhideI HB]; exact unhideI HW))
        obtain ⟨f0, f1⟩ := B7.at2
        have f2 := B7.2.2
        have f3 := B7.1
        have hOw := fun c hc => ((unhideI HO).lt c hc).1
        have hBw : w.heap.size < B := by have := (unhideI B3).1; have := unhideI HB; omega
        have LO := hideI (Lies.owned (unhideI HO))
        clear HE hke B7
        go_wp2_with fail
        exact bodyPost_ret (v := .tuple #[u6, .agg #[.int .i64 0, .int .i64 0]]) (by simp [results, Tryd.results11, go_sem, f0, f1, f2, f3]) rfl ⟨_, rfl, ((unhideI LO).other (b := w.heap.size) (fun c hc => by have := hOw c hc; omega)).other (b := w.heap.size) (fun c hc => by have := hOw c hc; omega), (fun c hc => by have := hOw c hc; omega), (by repeat (first | exact unhideI K7 | refine Below.setCell ?_ (by first | exact Nat.le_refl _ | (simp; done) | omega | (simp; omega)) _ | refine Below.alloc ?_ (by first | (simp; done) | omega | (simp; omega)) _))⟩
  · rw [asm_bad hp]
    have hp' : ((plcA l).2.2.1 != 0) = true := by simpa using hp
    clear hp
    generalize (plcA l).2.1 = nn at *
    generalize (plcA l).2.2.1 = er at *
    generalize (plcA l).2.2.2 = a2 at *
    go_enter Tryd.func11, Tryd.ntmps11
    go_wp2_with fail
    generalize w.alloc (.cells #[.int .i64 0, .int .i64 0] 31) = w1 at *
    refine CK.mono ?_
    rintro e w2 ⟨rfl, k2⟩
    have B2 := hideI ((unhideI HB0).step k2)
    have K2 := hideI (bt (unhideI HK0) k2)
    clear CK k2 HB0 HK0
    have k3 := below_a w2 (.cells #[.int .i64 er, .int .i64 (a2 : Int)] 31)
    have K3 := hideI (bt (unhideI K2) k3)
    have B3 := (unhideI B2).step k3
    have C3 := Box.new w2 #[.int .i64 er, .int .i64 (a2 : Int)] 31
    obtain ⟨f0, f1⟩ := B3.at2
    have f2 := B3.2.2
    have f3 := B3.1
    obtain ⟨g0, g1⟩ := C3.at2
    clear k3 K2 B2 HV B3
    go_wp2_with fail
    generalize w2.alloc (.cells #[.int .i64 er, .int .i64 (a2 : Int)] 31) = w3 at *
    go_region_with fail
    all_goals
      go_wp2_with fail
      exact bodyPost_ret (v := .tuple #[.slice none 0 0, .agg #[.int .i64 er, .int .i64 a2]]) (by simp [results, Tryd.results11, go_sem, f0, f1, f2]) rfl ⟨_, rfl, Lies.nil _ _, (fun _ h => by cases h), Below.drew (by repeat (first | exact unhideI K3 | refine Below.setCell ?_ (by first | exact Nat.le_refl _ | (simp; done) | omega | (simp; omega)) _ | refine Below.alloc ?_ (by first | (simp; done) | omega | (simp; omega)) _))⟩
end Go.Proofs.YtoopgkbefhoeiaaDoor
