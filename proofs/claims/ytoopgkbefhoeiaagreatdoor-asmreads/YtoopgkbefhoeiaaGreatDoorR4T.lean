/-
  The document's answer on lines: Line.
-/
import Derived.Test.YtoopgkbefhoeiaaGreatDoorR4S
import Derived.Test.YtoopgkbefhoeiaaGreatDoorR4Q
import Derived.Test.YtoopgkbefhoeiaaGreatDoorRefG
import Derived.Lib.SlBytesConst
namespace Go.Proofs.YtoopgkbefhoeiaaGreatDoor
open Go.RowKit
set_option linter.unusedSimpArgs false
set_option linter.unusedVariables false

theorem resL3 {fn : Func} {p q r : Tmp} (h : fn.results = #[.cell p 36, .tmp q, .tmp r]) {w : World} {b : Nat} {x : Ln} {n : Int} {y : Bool} {tmps : Array Value} (hB : LnBox w b x) (hp : tmps.getD p undef = .pointer (some ⟨b, 0, none⟩)) (hq : tmps.getD q undef = .bool y) (hr : tmps.getD r undef = .int .i64 n) : (results fn tmps).run Tryz.prog w = .ok (.tuple #[aggL x, .bool y, .int .i64 n]) w := by
  have hp' : tmps[p]?.getD undef = .pointer (some ⟨b, 0, none⟩) := by simpa using hp
  have hq' : tmps[q]?.getD undef = .bool y := by simpa using hq
  have hr' : tmps[r]?.getD undef = .int .i64 n := by simpa using hr
  have r0 := hB.2.1 0 _ rfl
  have r1 := hB.2.1 1 _ rfl
  have r2 := hB.2.1 2 _ rfl
  have r3 := hB.2.1 3 _ rfl
  have r4 := hB.2.1 4 _ rfl
  have r5 := hB.2.1 5 _ rfl
  simp [results, h, hp', hq', hr', go_sem, aggL, r0, r1, r2, r3, r4, r5]
theorem marked_cells (w : World) (C : Array Value) (T : TypeId) (fr : Nat × Nat) (B : Nat) (hB : B = w.heap.size) : B < (w.alloc (.cells C T fr)).heap.size ∧ ∀ j u, C.toList[j]? = some u → (w.alloc (.cells C T fr)).cell? ⟨B, j, none⟩ = some u := by
  subst hB
  refine ⟨by simp, fun j u hu => ?_⟩
  have hh : (w.alloc (.cells C T fr)).heap[w.heap.size]? = some (.cells C T fr) := by
    show (w.heap.push _)[w.heap.size]? = _
    simp
  have : C[j]? = some u := by rw [← Array.getElem?_toList]; exact hu
  unfold World.cell?
  simp only [hh]
  simpa using this
/-- The fields that are still to be read. -/
def fkr (o : Int) : Nat → List Fk
  | 0 => fks o
  | 1 => (if hS o = true then [.s] else []) ++ (if hI o = true then [.i] else [])
  | 2 => if hI o = true then [.i] else []
  | _ => []
theorem fkr0 (o : Int) : fkr o 0 = if hD o = true then .d :: fkr o 1 else fkr o 1 := by
  show fks o = _
  unfold fks fkr
  cases hD o <;> simp
theorem fkr1 (o : Int) : fkr o 1 = if hS o = true then .s :: fkr o 2 else fkr o 2 := by
  unfold fkr
  cases hS o <;> simp
theorem fkr2 (o : Int) : fkr o 2 = if hI o = true then .i :: fkr o 3 else fkr o 3 := rfl
theorem rdP_few {f : Fk} {fs : List Fk} {x : Ln} : rdP (f :: fs) [] x = (lnZ, 5) := rfl
theorem rdP_bad {f : Fk} {fs : List Fk} {p : List UInt8} {ps : List (List UInt8)} {x : Ln} (h : fldA f x p = none) : rdP (f :: fs) (p :: ps) x = (lnZ, 2) := by rw [rdP, h]
theorem rdP_next {f : Fk} {fs : List Fk} {p : List UInt8} {ps : List (List UInt8)} {x y : Ln} (h : fldA f x p = some y) : rdP (f :: fs) (p :: ps) x = rdP fs ps y := by rw [rdP, h]
set_option maxRecDepth 100000 in
set_option maxHeartbeats 4000000 in
theorem line4_any (s : List UInt8) (w : World) (hs : s.length ≤ 1048576) : Calls Tryz.prog 22 #[.string (ba s)] w fun e w' => e = .returned (.tuple #[aggL (lin4 s).1, .bool (lin4 s).2.1, .int .i64 (lin4 s).2.2]) ∧ Below w.heap.size w w' := by
  generalize hR : lin4 s = R
  unfold lin4 at hR
  have HR := hideI hR
  clear hR
  have U1 : ∀ w, Calls Tryz.prog 43 #[.string (ba s), .int .u8 59] w fun e w' => e = .returned (.tuple #[.string (ba (Lib.cut s [59]).1), .string (ba (Lib.cut s [59]).2.1), .bool (Lib.cut s [59]).2.2]) ∧ Below w.heap.size w w' := fun w => upTo_any s 59 w hs
  have c1 := (cut_len s [59]).1
  have T1 : ∀ w, Calls Tryz.prog 44 #[.string (ba (Lib.cut s [59]).1)] w fun e w' => e = .returned (.string (ba (rmkA s))) ∧ Below w.heap.size w w' := fun w => trim_ref (Lib.cut s [59]).1 w (by omega)
  have hu := rmkA_len s
  generalize (Lib.cut s [59]) = c at *
  generalize rmkA s = u at *
  have BR : LnBox (w.alloc (.cells #[.string ⟨#[]⟩, .int .i64 0, .int .i64 0, .int .i64 0, .int .i64 0, .string ⟨#[]⟩] 36)) w.heap.size lnZ := Box.new w #[.string ⟨#[]⟩, .int .i64 0, .int .i64 0, .int .i64 0, .int .i64 0, .string ⟨#[]⟩] 36
  have K0 := below_a w (.cells #[.string ⟨#[]⟩, .int .i64 0, .int .i64 0, .int .i64 0, .int .i64 0, .string ⟨#[]⟩] 36)
  have HB0 := hideI BR
  have HK0 := hideI K0
  clear BR K0
  go_enter Tryz.func22, Tryz.ntmps22
  go_wp2_with fail
  generalize w.alloc (.cells #[.string ⟨#[]⟩, .int .i64 0, .int .i64 0, .int .i64 0, .int .i64 0, .string ⟨#[]⟩] 36) = w0 at *
  refine (U1 _).mono ?_
  rintro e w1 ⟨rfl, k1⟩
  have HB1 := hideI (Box.step (unhideI HB0) k1)
  have HK1 := hideI (bt (unhideI HK0) k1)
  clear U1 k1 HB0 HK0
  go_wp2_with fail
  refine (T1 _).mono ?_
  rintro e w2 ⟨rfl, k2⟩
  have HB : Hid (LnBox w2 w.heap.size lnZ) := hideI (Box.step (unhideI HB1) k2)
  have HK := hideI (bt (unhideI HK1) k2)
  clear T1 k2 HB1 HK1
  rcases List.eq_nil_or_concat u with rfl | ⟨v, x, hux⟩
  · have hz : ba [] = ⟨#[]⟩ := rfl
    rw [hz]
    obtain rfl : R = (lnZ, false, 0) := by rw [← unhideI HR]; rfl
    have BU := unhideI HB
    have r0 := BU.2.1 0 _ rfl
    have r1 := BU.2.1 1 _ rfl
    have r2 := BU.2.1 2 _ rfl
    have r3 := BU.2.1 3 _ rfl
    have r4 := BU.2.1 4 _ rfl
    have r5 := BU.2.1 5 _ rfl
    have r6 := BU.2.2
    clear BU
    go_wp2_with fail
    exact bodyPost_ret (resL3 Tryz.results22 (LnBox.all (x := lnZ) (y := lnZ) (unhideI HB)) rfl rfl rfl) rfl ⟨rfl, below_all (unhideI HK) (Nat.le_refl _)⟩
  · rw [List.concat_eq_append] at hux
    subst hux
    have hne : (ba (v ++ [x])).toList.isEmpty = false := by rw [ba_list]; simp
    have hz : (ba (v ++ [x])).size = v.length + 1 := by rw [ba_size]; simp
    have hb : (ba (v ++ [x]))[v.length]'(by omega) = x := ba_last x v
    have hm : (((v.length + 1 : Nat) : Int) - 1) = (v.length : Int) := by omega
    have hvl : v.length + 1 ≤ 1048576 := by simp at hu; omega
    have hii : (v.length : Int) < ((v.length + 1 : Nat) : Int) := by omega
    have hR := unhideI HR
    rw [if_neg (by simp)] at hR
    unfold lin5 at hR
    rw [show (v ++ [x]).getD ((v ++ [x]).length - 1) 0 = x by simp, show (v ++ [x]).take ((v ++ [x]).length - 1) = v by simp] at hR
    clear HR
    by_cases h58 : x = 58
    · subst h58
      rw [if_pos rfl] at hR
      have N := fun w => named4_any (ba v) w
      have hbi := ba_init 58 v
      by_cases hn : nm (ba v) = true
      · rw [if_pos hn] at hR
        subst hR
        go_wp2_with fail
        refine (N _).mono ?_
        rintro e w3 ⟨rfl, k3⟩
        rw [hn]
        have HB3 : Hid (LnBox w3 w.heap.size lnZ) := hideI (Box.step (unhideI HB) k3)
        have HK3 := hideI (bt (unhideI HK) k3)
        clear N k3 HB HK
        have BU := unhideI HB3
        have r0 := BU.2.1 0 _ rfl
        have r1 := BU.2.1 1 _ rfl
        have r2 := BU.2.1 2 _ rfl
        have r3 := BU.2.1 3 _ rfl
        have r4 := BU.2.1 4 _ rfl
        have r5 := BU.2.1 5 _ rfl
        have r6 := BU.2.2
        clear BU
        go_wp2_with fail
        exact bodyPost_ret (resL3 Tryz.results22 (LnBox.all (x := lnZ) (y := ⟨ba v, ⟨0, 0, 0, 0⟩, ⟨#[]⟩⟩) (unhideI HB3)) rfl rfl rfl) rfl ⟨rfl, below_all (unhideI HK3) (Nat.le_refl _)⟩
      · replace hn : nm (ba v) = false := by simpa using hn
        rw [if_neg (by rw [hn]; simp)] at hR
        subst hR
        go_wp2_with fail
        refine (N _).mono ?_
        rintro e w3 ⟨rfl, k3⟩
        rw [hn]
        have HB3 : Hid (LnBox w3 w.heap.size lnZ) := hideI (Box.step (unhideI HB) k3)
        have HK3 := hideI (bt (unhideI HK) k3)
        clear N k3 HB HK
        have BU := unhideI HB3
        have r0 := BU.2.1 0 _ rfl
        have r1 := BU.2.1 1 _ rfl
        have r2 := BU.2.1 2 _ rfl
        have r3 := BU.2.1 3 _ rfl
        have r4 := BU.2.1 4 _ rfl
        have r5 := BU.2.1 5 _ rfl
        have r6 := BU.2.2
        clear BU
        go_wp2_with fail
        exact bodyPost_ret (resL3 Tryz.results22 (LnBox.all (x := lnZ) (y := lnZ) (unhideI HB3)) rfl rfl rfl) rfl ⟨rfl, below_all (unhideI HK3) (Nat.le_refl _)⟩
    · have e58 : ((x.toNat : Int) == 58) = false := by
        rw [beq_eq_false_iff_ne]
        intro h
        exact h58 (UInt8.toNat_inj.1 (Int.ofNat_inj.1 h))
      rw [if_neg h58] at hR
      have hul : (v ++ [x]).length ≤ 1048576 := by simp; omega
      have U2 : ∀ w, Calls Tryz.prog 43 #[.string (ba (v ++ [x])), .int .u8 32] w fun e w' => e = .returned (.tuple #[.string (ba (Lib.cut (v ++ [x]) [32]).1), .string (ba (Lib.cut (v ++ [x]) [32]).2.1), .bool (Lib.cut (v ++ [x]) [32]).2.2]) ∧ Below w.heap.size w w' := fun w => upTo_any (v ++ [x]) 32 w hul
      have c2 := cut_len (v ++ [x]) [32]
      generalize Lib.cut (v ++ [x]) [32] = d at *
      obtain ⟨wd, rest, fnd⟩ := d
      dsimp only at *
      have HR := hideI hR
      clear hR
      go_wp2_with fail
      refine (U2 _).mono ?_
      rintro e w3 ⟨rfl, k3⟩
      have HB3 : Hid (LnBox w3 w.heap.size lnZ) := hideI (Box.step (unhideI HB) k3)
      have HK3 := hideI (bt (unhideI HK) k3)
      clear U2 k3 HB HK hne hb hm hii e58 h58
      go_wp2_with fail
      go_loopg [9, 10] 33 (fun g vo vk wr => ∃ k : Nat, k ≤ 33 ∧ g = 33 - k ∧ vo = .int .i64 (opK wd k) ∧ vk = .int .i64 k ∧ Hid (LnBox wr w.heap.size lnZ) ∧ Hid (Below w.heap.size w wr))
      case atStart => exact ⟨0, by omega, rfl, rfl, rfl, HB3, HK3⟩
      case round =>
        obtain ⟨k, hk, hg, rfl, rfl, HB, HK⟩ := hrel
        clear HB3 HK3
        by_cases hlt : k < 33
        · have hki : (k : Int) ≤ 32 := by omega
          have W := fun w => word4_any k hlt w
          have hop : opK wd (k + 1) = if kwL[k]? = some wd then (k : Int) else opK wd k := rfl
          go_wp2_with fail
          refine (W _).mono ?_
          rintro e w4 ⟨rfl, k4⟩
          have HB4 : Hid (LnBox w4 w.heap.size lnZ) := hideI (Box.step (unhideI HB) k4)
          have HK4 := hideI (bt (unhideI HK) k4)
          clear W k4 HB HK
          by_cases he : kwL[k]? = some wd
          · rw [if_pos he] at hop
            rw [List.getElem?_eq_getElem (by exact hlt)] at he
            have he2 := Option.some.inj he
            clear he
            generalize opK wd k = oo at *
            rw [he2]
            go_wp2_with fail
            go_roundg (33 - (k + 1))
            case measure => omega
            case rel => exact ⟨k + 1, by omega, rfl, by rw [hop], by go_num, HB4, HK4⟩
          · rw [if_neg he] at hop
            have he2 : ((ba (kwL[k]'hlt)).toList == (ba wd).toList) = false := by
              rw [ba_list, ba_list, beq_eq_false_iff_ne]
              intro h
              exact he (by rw [List.getElem?_eq_getElem (by exact hlt), h])
            clear he
            generalize opK wd k = oo at *
            generalize kwL[k] = kw at *
            go_wp2_with fail
            go_roundg (33 - (k + 1))
            case measure => omega
            case rel => exact ⟨k + 1, by omega, rfl, by rw [hop], by go_num, HB4, HK4⟩
        · have hki : ¬ (k : Int) ≤ 32 := by omega
          obtain rfl : k = 33 := by omega
          have hR := unhideI HR
          clear HR
          by_cases ho : opK wd 33 < 0
          · rw [if_pos ho] at hR
            subst hR
            have BU := unhideI HB
            have r0 := BU.2.1 0 _ rfl
            have r1 := BU.2.1 1 _ rfl
            have r2 := BU.2.1 2 _ rfl
            have r3 := BU.2.1 3 _ rfl
            have r4 := BU.2.1 4 _ rfl
            have r5 := BU.2.1 5 _ rfl
            have r6 := BU.2.2
            clear BU
            generalize opK wd 33 = op at *
            go_wp2_with fail
            exact bodyPost_ret (resL3 Tryz.results22 (LnBox.all (x := lnZ) (y := lnZ) (unhideI HB)) rfl rfl rfl) rfl ⟨rfl, below_all (unhideI HK) (Nat.le_refl _)⟩
          · rw [if_neg ho] at hR
            have T2 := fun w => trim_ref rest w (by omega)
            have hrl := trimA_len rest
            have hop : ∃ n : Nat, n < 33 ∧ opK wd 33 = n := by
              rcases opK_eq wd with ⟨h, -⟩ | ⟨k, hk, h, -⟩
              · rw [h] at ho; exact absurd (by decide) ho
              · exact ⟨k, hk, h⟩
            generalize opK wd 33 = op at *
            generalize trimA rest = rs at *
            obtain ⟨PS, hPS⟩ : ∃ PS, ps4 (msr rs (!rs.isEmpty)) rs (!rs.isEmpty) = PS := ⟨_, rfl⟩
            rw [hPS] at hR
            have HR := hideI hR
            have HPS := hideI hPS
            have hms : msr rs (!rs.isEmpty) ≤ 1048577 := by unfold msr; split <;> omega
            clear hR hPS
            obtain ⟨i0, hi, hz0, hz1, hz2⟩ := info_parts Tryz.infoStr4
            go_wp2_with fail
            refine (T2 _).mono ?_
            rintro e w5 ⟨rfl, k5⟩
            have HB5 : Hid (LnBox w5 w.heap.size lnZ) := hideI (Box.step (unhideI HB) k5)
            have HK5 := hideI (bt (unhideI HK) k5)
            have hw5 : w.heap.size < w5.heap.size := (unhideI HB5).1
            clear T2 k5 HB HK ho hki hk hg
            go_wp2_with fail
            go_loopg [7, 11, 12] (msr rs (!rs.isEmpty)) (fun g vr vo vm wr => ∃ (r : List UInt8) (m : Bool) (acc : List (List UInt8)), vr = .string (ba r) ∧ vm = .bool m ∧ g = msr r m ∧ r.length ≤ 1048576 ∧ acc.length + msr r m ≤ 1048577 ∧ Hid (wr.ownsRow w5.heap.size 9 1 vo acc.length (txs acc)) ∧ Hid (Below w5.heap.size w5 wr) ∧ Hid (acc ++ ps4 (msr r m) r m = PS))
            case atStart => exact ⟨rs, !rs.isEmpty, [], rfl, by simp [ba], rfl, by omega, by simpa using hms, World.ownsRow_nil _ _ _ _, Below.refl _ _, HPS⟩
            case round =>
              obtain ⟨r, m, acc, rfl, rfl, hg, hrl2, hal, HO, HW, HE⟩ := hrel
              clear HPS
              have hwB := (unhideI HW).size
              cases m with
              | true =>
                have hE := unhideI HE
                have hm1 : msr r true = r.length + 1 := rfl
                rw [hm1, ps4, if_pos rfl] at hE
                have hm2 := msr_cut r
                have hm3 := ps4_fuel r.length (msr (Lib.cut r [44]).2.1 (Lib.cut r [44]).2.2) (Lib.cut r [44]).2.1 (Lib.cut r [44]).2.2 hm2 (Nat.le_refl _)
                rw [hm3] at hE
                have U3 : ∀ w, Calls Tryz.prog 43 #[.string (ba r), .int .u8 44] w fun e w' => e = .returned (.tuple #[.string (ba (Lib.cut r [44]).1), .string (ba (Lib.cut r [44]).2.1), .bool (Lib.cut r [44]).2.2]) ∧ Below w.heap.size w w' := fun w => upTo_any r 44 w hrl2
                have c3 := cut_len r [44]
                have T3 := fun w => trim_ref (Lib.cut r [44]).1 w (by omega)
                generalize Lib.cut r [44] = d at *
                obtain ⟨p, r2, m2⟩ := d
                dsimp only at *
                generalize trimA p = tp at *
                have HE2 := hideI hE
                clear hE HE hm3
                go_wp2_with fail
                refine (U3 _).mono ?_
                rintro e w6 ⟨rfl, k6⟩
                have HO6 := hideI (own_step (unhideI HO) k6)
                have HW6 := hideI ((unhideI HW).trans (k6.mono hwB))
                clear U3 k6 HO HW
                go_wp2_with fail
                refine (T3 _).mono ?_
                rintro e w7 ⟨rfl, k7⟩
                have HO7 := hideI (own_step (unhideI HO6) k7)
                have HW7 := hideI ((unhideI HW6).trans (k7.mono (unhideI HW6).size))
                clear T3 k7 HO6 HW6
                have hw7 := (unhideI HW7).size
                go_wp2_with (at_builtin; refine wpList_append_own _ rfl (.tmp 78) (.tmp 81) 58 rfl w5.heap.size 9 i0 (.string ⟨#[]⟩) 1 16 Tryz.underlying58 hi hz0 hz1 hz2 rfl (by decide) _ _ _ rfl ((unhideI HO7).alloc _) ⟨_, 0, none⟩ 1 1 [.string (ba tp)] rfl rfl (box1 _ _ _ _ rfl) (by intro u hu; simp at hu; subst hu; rfl) (by unfold maxLen; omega) (by omega) (by simp; omega) ?_; intro v3 w3 own3 grow3 _; have b3 := hideI (below_own ((unhideI HW7).alloc (by omega) _) (by simp; omega) ((unhideI HO7).alloc _) grow3); have O3 := hideI own3; clear own3 grow3)
                go_roundg (msr r2 m2)
                case measure => omega
                case rel => exact ⟨r2, m2, acc ++ [tp], rfl, rfl, rfl, by omega, by simp; omega, own_txs (unhideI O3), b3, by show _ = _; rw [← unhideI HE2, List.append_assoc]; rfl⟩
              | false =>
                have hE := unhideI HE
                have hm1 : msr r false = 0 := rfl
                rw [hm1, ps4, List.append_nil] at hE
                subst hE
                clear HE
                obtain ⟨Q, hQ⟩ : ∃ Q, rdP (fks op) acc ⟨⟨#[]⟩, ⟨op, 0, 0, 0⟩, ⟨#[]⟩⟩ = Q := ⟨_, rfl⟩
                rw [hQ] at HR
                have HQ : Hid (rdP (fkr op 0) (acc.drop 0) ⟨⟨#[]⟩, ⟨op, 0, 0, 0⟩, ⟨#[]⟩⟩ = Q) := hQ
                clear hQ
                obtain ⟨-, ao, rc, rfl, hrc1, hrc2, -, hrow⟩ := Lies.owned (unhideI HO)
                have HROW := hideI hrow
                have hrc3 : acc.length ≤ 1048577 := by omega
                have kc := Lib.run_convert_bytes_const (P := Tryz.prog) (wr.alloc (.cells #[.string ⟨#[]⟩, .int .i64 op, .int .i64 0, .int .i64 0, .int .i64 0, .string ⟨#[]⟩] 36)) 63 5 #[.int .u8 100, .int .u8 115, .int .u8 105] 3 3 Tryz.underlying63 Tryz.underlying5
                simp only [World.size_alloc] at kc
                rw [show (#[Value.int .u8 100, .int .u8 115, .int .u8 105] : Array Value).size = 3 from rfl] at kc
                have L6 : Hid (LnBox ((wr.alloc (.cells #[.string ⟨#[]⟩, .int .i64 op, .int .i64 0, .int .i64 0, .int .i64 0, .string ⟨#[]⟩] 36)).alloc (.cells #[.int .u8 100, .int .u8 115, .int .u8 105] 5 (3, 4))) wr.heap.size ⟨⟨#[]⟩, ⟨op, 0, 0, 0⟩, ⟨#[]⟩⟩) := hideI ((Box.new wr #[.string ⟨#[]⟩, .int .i64 op, .int .i64 0, .int .i64 0, .int .i64 0, .string ⟨#[]⟩] 36).step (below_a _ _))
                have Y6 := hideI (marked_cells (wr.alloc (.cells #[.string ⟨#[]⟩, .int .i64 op, .int .i64 0, .int .i64 0, .int .i64 0, .string ⟨#[]⟩] 36)) #[.int .u8 100, .int .u8 115, .int .u8 105] 5 (3, 4) (wr.heap.size + 1) (by simp))
                have N6 := hideI (bt (below_a wr (.cells #[.string ⟨#[]⟩, .int .i64 op, .int .i64 0, .int .i64 0, .int .i64 0, .string ⟨#[]⟩] 36)) (below_a _ (.cells #[.int .u8 100, .int .u8 115, .int .u8 105] 5 (3, 4))))
                have B6 : Hid (LnBox _ w.heap.size lnZ) := hideI (((unhideI HB5).step (unhideI HW)).step (unhideI N6))
                have K6 := hideI (bt (bt (unhideI HK5) (unhideI HW)) (unhideI N6))
                clear hrow HO HB5 HK5 HW
                go_wp2_with fail
                clear kc
                generalize (wr.alloc (.cells #[.string ⟨#[]⟩, .int .i64 op, .int .i64 0, .int .i64 0, .int .i64 0, .string ⟨#[]⟩] 36)).alloc (.cells #[.int .u8 100, .int .u8 115, .int .u8 105] 5 (3, 4)) = w6 at *
                -- third loop
                have HR6 : Hid (acc.length ≠ 0 → ∃ b off, ao = some ⟨b, off, none⟩ ∧ b < wr.heap.size ∧ b < w6.heap.size ∧ ∀ j, j < acc.length → w6.cell? ⟨b, off + j, none⟩ = (txs acc)[j]?) := fun hn => by
                  obtain ⟨b, off, e, hb, hc⟩ := unhideI HROW hn
                  exact ⟨b, off, e, hb, Nat.lt_of_lt_of_le hb (unhideI N6).size, fun j hj => by rw [(unhideI N6).cell (p := ⟨b, off + j, none⟩) hb]; exact hc j (by omega)⟩
                have hwl : w.heap.size < wr.heap.size := by omega
                clear HROW N6 hwB hs c1 hu hz hvl hul c2 hms hi hz0 hz1 hz2 hop hlt hrl hrl2 hg hal hm1 hw5
                generalize Value.string (ba (v ++ [x])) = g0
                generalize Value.tuple #[Value.string (ba c.fst), Value.string (ba c.snd.fst), Value.bool c.snd.snd] = g1
                generalize Value.string (ba c.fst) = g2
                generalize Value.string (ba c.snd.fst) = g3
                generalize Value.string (ba s) = g4
                generalize Value.bool c.snd.snd = g5
                generalize Value.string (ba wd) = g6
                generalize Value.string (ba r) = g7
                generalize Value.bool fnd = g8
                generalize wr.heap.size = lb at *
                go_loopg [15, 89] 3 (fun g va vj ws => ∃ (j at_ : Nat) (x : Ln), j ≤ 3 ∧ g = 3 - j ∧ va = .int .i64 at_ ∧ vj = .int .i64 j ∧ at_ ≤ acc.length ∧ x.i.o = op ∧ Hid (LnBox ws lb x) ∧ Hid (Kpt (fun b => b = lb) w6 ws) ∧ Hid (rdP (fkr op j) (acc.drop at_) x = Q))
                case atStart => exact ⟨0, 0, ⟨⟨#[]⟩, ⟨op, 0, 0, 0⟩, ⟨#[]⟩⟩, by omega, rfl, rfl, rfl, by omega, rfl, L6, Kpt.refl _ _, HQ⟩
                case round =>
                  obtain ⟨j, at_, x, hj, hg, rfl, rfl, hat_, hxo, HL, KP, HE⟩ := hrel
                  have hw6 := (unhideI L6).1
                  have hw7 := (unhideI Y6).1
                  have hj4 : j = 0 ∨ j = 1 ∨ j = 2 ∨ j = 3 := by omega
                  rcases hj4 with rfl | rfl | rfl | rfl
                  · -- field 0
                    have E := unhideI HE
                    rw [fkr0] at E
                    have HA := fun w => has_d op w
                    have yc := (unhideI Y6).2 0 _ rfl
                    rw [← (unhideI KP).cell (unhideI Y6).1 (by omega)] at yc
                    by_cases hh : hD op = true
                    · rw [if_pos hh] at E
                      by_cases hat : at_ = acc.length
                      · rw [hat, List.drop_length, rdP_few] at E
                        subst E
                        subst hat
                        obtain rfl : R = (lnZ, false, 5) := (unhideI HR).symm
                        clear HR HE
                        go_wp2_with fail
                        refine (HA _).mono ?_
                        rintro e w7 ⟨rfl, k7⟩
                        rw [hh]
                        have KP := hideI ((unhideI KP).trans (Z := fun b => b = lb) (Kpt.of (X := fun b => b = lb) k7) (fun _ h => h) (fun _ h _ => h))
                        have HL := hideI (Box.step (unhideI HL) k7)
                        clear k7 HA yc
                        have HB := hideI ((unhideI B6).kpt (unhideI KP) (by omega))
                        have HK := hideI ((unhideI K6).trans ((unhideI KP).below (B := w.heap.size) (by have := (unhideI K6).size; omega) (fun b hb => by omega)))
                        have BU := unhideI HB
                        have r0 := BU.2.1 0 _ rfl
                        have r1 := BU.2.1 1 _ rfl
                        have r2 := BU.2.1 2 _ rfl
                        have r3 := BU.2.1 3 _ rfl
                        have r4 := BU.2.1 4 _ rfl
                        have r5 := BU.2.1 5 _ rfl
                        have r6 := BU.2.2
                        clear BU
                        go_wp2_with fail
                        exact bodyPost_ret (resL3 Tryz.results22 (LnBox.all (x := lnZ) (y := lnZ) (unhideI HB)) rfl rfl rfl) rfl ⟨rfl, below_all (unhideI HK) (Nat.le_refl _)⟩
                      · have hal2 : at_ < acc.length := by omega
                        obtain ⟨pb, po, rfl, hpb, hpb6, hpc⟩ := unhideI HR6 (by omega)
                        have pc := hpc at_ hal2
                        rw [show (txs acc)[at_]? = some (.string (ba acc[at_])) by simp [txs, hal2]] at pc
                        rw [List.drop_eq_getElem_cons hal2] at E
                        generalize acc[at_] = p at *
                        have hate : ((at_ : Int) == (acc.length : Int)) = false := beq_eq_false_iff_ne.2 (by omega)
                        have hati : (at_ : Int) < (acc.length : Int) := by omega
                        clear hpc
                        go_wp2_with fail
                        refine (HA _).mono ?_
                        rintro e w7 ⟨rfl, k7⟩
                        rw [hh]
                        have KP := hideI ((unhideI KP).trans (Z := fun b => b = lb) (Kpt.of (X := fun b => b = lb) k7) (fun _ h => h) (fun _ h _ => h))
                        have HL := hideI (Box.step (unhideI HL) k7)
                        clear k7 HA yc
                        rw [← (unhideI KP).cell hpb6 (by omega)] at pc
                        have NU := fun w => number4_any (p.drop 1) 7 w
                        have hg4 : reg4 p = if 1 < p.length ∧ p.getD 0 0 = 114 then num4 (p.drop 1) 7 else -1 := rfl
                        by_cases hr : 1 < p.length ∧ p.getD 0 0 = 114
                        · rw [if_pos hr] at hg4
                          have h0 : 0 < (ba p).size := by rw [ba_size]; omega
                          have h0i : (0 : Int) < ((ba p).size : Int) := by omega
                          have h1i : (1 : Int) < ((ba p).size : Int) := by have := ba_size p; omega
                          have h1n : (1 : Int) ≤ ((ba p).size : Int) := by omega
                          have e0 : (ba p)[0] = 114 := by rw [ba_get p 0 (by omega), ← hr.2, List.getD_eq_getElem?_getD, List.getElem?_eq_getElem (by omega)]; rfl
                          have ex : (ba p).extract 1 (ba p).size = ba (p.drop 1) := by rw [ba_extract, ba_size, List.take_length]
                          have hn1 := fun h => (fld_d_no (x := x) (p := p) h).1
                          have hn2 := fun h => (fld_d (x := x) (p := p) h).1
                          rw [hg4] at hn1 hn2
                          generalize p.drop 1 = pt at *
                          generalize num4 pt 7 = nn at *
                          have HE2 := hideI E
                          have HN1 := hideI hn1
                          have HN2 := hideI hn2
                          clear E hg4 hr hn1 hn2 HE
                          go_wp2_with fail
                          refine (NU _).mono ?_
                          rintro e w8 ⟨rfl, k8⟩
                          have KP := hideI ((unhideI KP).trans (Z := fun b => b = lb) (Kpt.of (X := fun b => b = lb) k8) (fun _ h => h) (fun _ h _ => h))
                          have HL := hideI (Box.step (unhideI HL) k8)
                          clear k8 NU pc e0 ex h0 h0i h1i h1n
                          by_cases hn : nn < 0
                          · have E := unhideI HE2
                            rw [rdP_bad (unhideI HN1 hn)] at E
                            subst E
                            obtain rfl : R = (lnZ, false, 2) := (unhideI HR).symm
                            clear HR HE2 HN1 HN2
                            have HB := hideI ((unhideI B6).kpt (unhideI KP) (by omega))
                            have HK := hideI ((unhideI K6).trans ((unhideI KP).below (B := w.heap.size) (by have := (unhideI K6).size; omega) (fun b hb => by omega)))
                            have BU := unhideI HB
                            have r0 := BU.2.1 0 _ rfl
                            have r1 := BU.2.1 1 _ rfl
                            have r2 := BU.2.1 2 _ rfl
                            have r3 := BU.2.1 3 _ rfl
                            have r4 := BU.2.1 4 _ rfl
                            have r5 := BU.2.1 5 _ rfl
                            have r6 := BU.2.2
                            clear BU
                            go_wp2_with fail
                            exact bodyPost_ret (resL3 Tryz.results22 (LnBox.all (x := lnZ) (y := lnZ) (unhideI HB)) rfl rfl rfl) rfl ⟨rfl, below_all (unhideI HK) (Nat.le_refl _)⟩
                          · have hn9 : 0 ≤ nn := by omega
                            have E := unhideI HE2
                            rw [rdP_next (unhideI HN2 hn9)] at E
                            have HE := hideI E
                            have hnd : decide (nn < 0) = false := by simpa using hn9
                            have L9 := (unhideI HL).set (j := 2) (u := .int .i64 nn) (by simp)
                            have HL9 : Hid (LnBox (w8.setCell ⟨lb, 2, none⟩ (.int .i64 nn)) lb ⟨x.lab, ⟨x.i.o, nn, x.i.s, x.i.m⟩, x.ref⟩) := hideI L9
                            have KP9 := hideI ((unhideI KP).trans (Z := fun b => b = lb) (Kpt.setCell (X := fun b => b = lb) (j := 2) w8 (.int .i64 nn) rfl) (fun _ h => h) (fun _ h _ => h))
                            have BU := unhideI HL
                            have q0 := BU.2.1 0 _ rfl
                            have q1 := BU.2.1 1 _ rfl
                            have q2 := BU.2.1 2 _ rfl
                            have q3 := BU.2.1 3 _ rfl
                            have q4 := BU.2.1 4 _ rfl
                            have q5 := BU.2.1 5 _ rfl
                            have q6 := BU.2.2
                            clear BU L9 E HE2 HN1 HN2
                            go_wp2_with fail
                            go_roundg (3 - (0 + 1))
                            case measure => omega
                            case rel => exact ⟨0 + 1, at_ + 1, ⟨x.lab, ⟨x.i.o, nn, x.i.s, x.i.m⟩, x.ref⟩, by omega, rfl, by go_num, by go_num, by omega, hxo, HL9, KP9, HE⟩
                        · rw [if_neg hr] at hg4
                          have E2 := E
                          rw [rdP_bad (fld_d_no (by rw [hg4]; decide)).1] at E2
                          subst E2
                          obtain rfl : R = (lnZ, false, 2) := (unhideI HR).symm
                          clear HR HE NU E
                          by_cases h1 : 1 < p.length
                          · have h0 : 0 < (ba p).size := by rw [ba_size]; omega
                            have h0i : (0 : Int) < ((ba p).size : Int) := by omega
                            have h1i : (1 : Int) < ((ba p).size : Int) := by have := ba_size p; omega
                            have e0 : (((ba p)[0].toNat : Int) == 114) = false := by
                              rw [beq_eq_false_iff_ne]
                              intro h
                              refine hr ⟨h1, ?_⟩
                              rw [List.getD_eq_getElem?_getD, List.getElem?_eq_getElem (by omega), ← ba_get p 0 (by omega)]
                              exact UInt8.toNat_inj.1 (by have e' : (((ba p)[0].toNat : Nat) : Int) = 114 := h; show (ba p)[0].toNat = 114; omega)
                            have HB := hideI ((unhideI B6).kpt (unhideI KP) (by omega))
                            have HK := hideI ((unhideI K6).trans ((unhideI KP).below (B := w.heap.size) (by have := (unhideI K6).size; omega) (fun b hb => by omega)))
                            have BU := unhideI HB
                            have r0 := BU.2.1 0 _ rfl
                            have r1 := BU.2.1 1 _ rfl
                            have r2 := BU.2.1 2 _ rfl
                            have r3 := BU.2.1 3 _ rfl
                            have r4 := BU.2.1 4 _ rfl
                            have r5 := BU.2.1 5 _ rfl
                            have r6 := BU.2.2
                            clear BU
                            go_wp2_with fail
                            exact bodyPost_ret (resL3 Tryz.results22 (LnBox.all (x := lnZ) (y := lnZ) (unhideI HB)) rfl rfl rfl) rfl ⟨rfl, below_all (unhideI HK) (Nat.le_refl _)⟩
                          · have h1i : decide ((1 : Int) < ((ba p).size : Int)) = false := by have := ba_size p; simp; omega
                            have HB := hideI ((unhideI B6).kpt (unhideI KP) (by omega))
                            have HK := hideI ((unhideI K6).trans ((unhideI KP).below (B := w.heap.size) (by have := (unhideI K6).size; omega) (fun b hb => by omega)))
                            have BU := unhideI HB
                            have r0 := BU.2.1 0 _ rfl
                            have r1 := BU.2.1 1 _ rfl
                            have r2 := BU.2.1 2 _ rfl
                            have r3 := BU.2.1 3 _ rfl
                            have r4 := BU.2.1 4 _ rfl
                            have r5 := BU.2.1 5 _ rfl
                            have r6 := BU.2.2
                            clear BU
                            go_wp2_with fail
                            exact bodyPost_ret (resL3 Tryz.results22 (LnBox.all (x := lnZ) (y := lnZ) (unhideI HB)) rfl rfl rfl) rfl ⟨rfl, below_all (unhideI HK) (Nat.le_refl _)⟩
                    · replace hh : hD op = false := by simpa using hh
                      rw [if_neg (by rw [hh]; simp)] at E
                      have HE2 := hideI E
                      clear E HE
                      go_wp2_with fail
                      refine (HA _).mono ?_
                      rintro e w7 ⟨rfl, k7⟩
                      rw [hh]
                      have KP := hideI ((unhideI KP).trans (Z := fun b => b = lb) (Kpt.of (X := fun b => b = lb) k7) (fun _ h => h) (fun _ h _ => h))
                      have HL := hideI (Box.step (unhideI HL) k7)
                      clear k7 HA yc
                      go_wp2_with fail
                      go_roundg (3 - (0 + 1))
                      case measure => omega
                      case rel => exact ⟨0 + 1, at_, x, by omega, rfl, by go_num, by go_num, hat_, hxo, HL, KP, HE2⟩
                  · -- field 1
                    have E := unhideI HE
                    rw [fkr1] at E
                    have HA := fun w => has_s op w
                    have yc := (unhideI Y6).2 1 _ rfl
                    rw [← (unhideI KP).cell (unhideI Y6).1 (by omega)] at yc
                    by_cases hh : hS op = true
                    · rw [if_pos hh] at E
                      by_cases hat : at_ = acc.length
                      · rw [hat, List.drop_length, rdP_few] at E
                        subst E
                        subst hat
                        obtain rfl : R = (lnZ, false, 5) := (unhideI HR).symm
                        clear HR HE
                        go_wp2_with fail
                        refine (HA _).mono ?_
                        rintro e w7 ⟨rfl, k7⟩
                        rw [hh]
                        have KP := hideI ((unhideI KP).trans (Z := fun b => b = lb) (Kpt.of (X := fun b => b = lb) k7) (fun _ h => h) (fun _ h _ => h))
                        have HL := hideI (Box.step (unhideI HL) k7)
                        clear k7 HA yc
                        have HB := hideI ((unhideI B6).kpt (unhideI KP) (by omega))
                        have HK := hideI ((unhideI K6).trans ((unhideI KP).below (B := w.heap.size) (by have := (unhideI K6).size; omega) (fun b hb => by omega)))
                        have BU := unhideI HB
                        have r0 := BU.2.1 0 _ rfl
                        have r1 := BU.2.1 1 _ rfl
                        have r2 := BU.2.1 2 _ rfl
                        have r3 := BU.2.1 3 _ rfl
                        have r4 := BU.2.1 4 _ rfl
                        have r5 := BU.2.1 5 _ rfl
                        have r6 := BU.2.2
                        clear BU
                        go_wp2_with fail
                        exact bodyPost_ret (resL3 Tryz.results22 (LnBox.all (x := lnZ) (y := lnZ) (unhideI HB)) rfl rfl rfl) rfl ⟨rfl, below_all (unhideI HK) (Nat.le_refl _)⟩
                      · have hal2 : at_ < acc.length := by omega
                        obtain ⟨pb, po, rfl, hpb, hpb6, hpc⟩ := unhideI HR6 (by omega)
                        have pc := hpc at_ hal2
                        rw [show (txs acc)[at_]? = some (.string (ba acc[at_])) by simp [txs, hal2]] at pc
                        rw [List.drop_eq_getElem_cons hal2] at E
                        generalize acc[at_] = p at *
                        have hate : ((at_ : Int) == (acc.length : Int)) = false := beq_eq_false_iff_ne.2 (by omega)
                        have hati : (at_ : Int) < (acc.length : Int) := by omega
                        clear hpc
                        go_wp2_with fail
                        refine (HA _).mono ?_
                        rintro e w7 ⟨rfl, k7⟩
                        rw [hh]
                        have KP := hideI ((unhideI KP).trans (Z := fun b => b = lb) (Kpt.of (X := fun b => b = lb) k7) (fun _ h => h) (fun _ h _ => h))
                        have HL := hideI (Box.step (unhideI HL) k7)
                        clear k7 HA yc
                        rw [← (unhideI KP).cell hpb6 (by omega)] at pc
                        have NU := fun w => number4_any (p.drop 1) 7 w
                        have hg4 : reg4 p = if 1 < p.length ∧ p.getD 0 0 = 114 then num4 (p.drop 1) 7 else -1 := rfl
                        by_cases hr : 1 < p.length ∧ p.getD 0 0 = 114
                        · rw [if_pos hr] at hg4
                          have h0 : 0 < (ba p).size := by rw [ba_size]; omega
                          have h0i : (0 : Int) < ((ba p).size : Int) := by omega
                          have h1i : (1 : Int) < ((ba p).size : Int) := by have := ba_size p; omega
                          have h1n : (1 : Int) ≤ ((ba p).size : Int) := by omega
                          have e0 : (ba p)[0] = 114 := by rw [ba_get p 0 (by omega), ← hr.2, List.getD_eq_getElem?_getD, List.getElem?_eq_getElem (by omega)]; rfl
                          have ex : (ba p).extract 1 (ba p).size = ba (p.drop 1) := by rw [ba_extract, ba_size, List.take_length]
                          have hn1 := fun h => (fld_d_no (x := x) (p := p) h).2
                          have hn2 := fun h => (fld_d (x := x) (p := p) h).2
                          rw [hg4] at hn1 hn2
                          generalize p.drop 1 = pt at *
                          generalize num4 pt 7 = nn at *
                          have HE2 := hideI E
                          have HN1 := hideI hn1
                          have HN2 := hideI hn2
                          clear E hg4 hr hn1 hn2 HE
                          go_wp2_with fail
                          refine (NU _).mono ?_
                          rintro e w8 ⟨rfl, k8⟩
                          have KP := hideI ((unhideI KP).trans (Z := fun b => b = lb) (Kpt.of (X := fun b => b = lb) k8) (fun _ h => h) (fun _ h _ => h))
                          have HL := hideI (Box.step (unhideI HL) k8)
                          clear k8 NU pc e0 ex h0 h0i h1i h1n
                          by_cases hn : nn < 0
                          · have E := unhideI HE2
                            rw [rdP_bad (unhideI HN1 hn)] at E
                            subst E
                            obtain rfl : R = (lnZ, false, 2) := (unhideI HR).symm
                            clear HR HE2 HN1 HN2
                            have HB := hideI ((unhideI B6).kpt (unhideI KP) (by omega))
                            have HK := hideI ((unhideI K6).trans ((unhideI KP).below (B := w.heap.size) (by have := (unhideI K6).size; omega) (fun b hb => by omega)))
                            have BU := unhideI HB
                            have r0 := BU.2.1 0 _ rfl
                            have r1 := BU.2.1 1 _ rfl
                            have r2 := BU.2.1 2 _ rfl
                            have r3 := BU.2.1 3 _ rfl
                            have r4 := BU.2.1 4 _ rfl
                            have r5 := BU.2.1 5 _ rfl
                            have r6 := BU.2.2
                            clear BU
                            go_wp2_with fail
                            exact bodyPost_ret (resL3 Tryz.results22 (LnBox.all (x := lnZ) (y := lnZ) (unhideI HB)) rfl rfl rfl) rfl ⟨rfl, below_all (unhideI HK) (Nat.le_refl _)⟩
                          · have hn9 : 0 ≤ nn := by omega
                            have E := unhideI HE2
                            rw [rdP_next (unhideI HN2 hn9)] at E
                            have HE := hideI E
                            have hnd : decide (nn < 0) = false := by simpa using hn9
                            have L9 := (unhideI HL).set (j := 3) (u := .int .i64 nn) (by simp)
                            have HL9 : Hid (LnBox (w8.setCell ⟨lb, 3, none⟩ (.int .i64 nn)) lb ⟨x.lab, ⟨x.i.o, x.i.d, nn, x.i.m⟩, x.ref⟩) := hideI L9
                            have KP9 := hideI ((unhideI KP).trans (Z := fun b => b = lb) (Kpt.setCell (X := fun b => b = lb) (j := 3) w8 (.int .i64 nn) rfl) (fun _ h => h) (fun _ h _ => h))
                            have BU := unhideI HL
                            have q0 := BU.2.1 0 _ rfl
                            have q1 := BU.2.1 1 _ rfl
                            have q2 := BU.2.1 2 _ rfl
                            have q3 := BU.2.1 3 _ rfl
                            have q4 := BU.2.1 4 _ rfl
                            have q5 := BU.2.1 5 _ rfl
                            have q6 := BU.2.2
                            clear BU L9 E HE2 HN1 HN2
                            go_wp2_with fail
                            go_roundg (3 - (1 + 1))
                            case measure => omega
                            case rel => exact ⟨1 + 1, at_ + 1, ⟨x.lab, ⟨x.i.o, x.i.d, nn, x.i.m⟩, x.ref⟩, by omega, rfl, by go_num, by go_num, by omega, hxo, HL9, KP9, HE⟩
                        · rw [if_neg hr] at hg4
                          have E2 := E
                          rw [rdP_bad (fld_d_no (by rw [hg4]; decide)).2] at E2
                          subst E2
                          obtain rfl : R = (lnZ, false, 2) := (unhideI HR).symm
                          clear HR HE NU E
                          by_cases h1 : 1 < p.length
                          · have h0 : 0 < (ba p).size := by rw [ba_size]; omega
                            have h0i : (0 : Int) < ((ba p).size : Int) := by omega
                            have h1i : (1 : Int) < ((ba p).size : Int) := by have := ba_size p; omega
                            have e0 : (((ba p)[0].toNat : Int) == 114) = false := by
                              rw [beq_eq_false_iff_ne]
                              intro h
                              refine hr ⟨h1, ?_⟩
                              rw [List.getD_eq_getElem?_getD, List.getElem?_eq_getElem (by omega), ← ba_get p 0 (by omega)]
                              exact UInt8.toNat_inj.1 (by have e' : (((ba p)[0].toNat : Nat) : Int) = 114 := h; show (ba p)[0].toNat = 114; omega)
                            have HB := hideI ((unhideI B6).kpt (unhideI KP) (by omega))
                            have HK := hideI ((unhideI K6).trans ((unhideI KP).below (B := w.heap.size) (by have := (unhideI K6).size; omega) (fun b hb => by omega)))
                            have BU := unhideI HB
                            have r0 := BU.2.1 0 _ rfl
                            have r1 := BU.2.1 1 _ rfl
                            have r2 := BU.2.1 2 _ rfl
                            have r3 := BU.2.1 3 _ rfl
                            have r4 := BU.2.1 4 _ rfl
                            have r5 := BU.2.1 5 _ rfl
                            have r6 := BU.2.2
                            clear BU
                            go_wp2_with fail
                            exact bodyPost_ret (resL3 Tryz.results22 (LnBox.all (x := lnZ) (y := lnZ) (unhideI HB)) rfl rfl rfl) rfl ⟨rfl, below_all (unhideI HK) (Nat.le_refl _)⟩
                          · have h1i : decide ((1 : Int) < ((ba p).size : Int)) = false := by have := ba_size p; simp; omega
                            have HB := hideI ((unhideI B6).kpt (unhideI KP) (by omega))
                            have HK := hideI ((unhideI K6).trans ((unhideI KP).below (B := w.heap.size) (by have := (unhideI K6).size; omega) (fun b hb => by omega)))
                            have BU := unhideI HB
                            have r0 := BU.2.1 0 _ rfl
                            have r1 := BU.2.1 1 _ rfl
                            have r2 := BU.2.1 2 _ rfl
                            have r3 := BU.2.1 3 _ rfl
                            have r4 := BU.2.1 4 _ rfl
                            have r5 := BU.2.1 5 _ rfl
                            have r6 := BU.2.2
                            clear BU
                            go_wp2_with fail
                            exact bodyPost_ret (resL3 Tryz.results22 (LnBox.all (x := lnZ) (y := lnZ) (unhideI HB)) rfl rfl rfl) rfl ⟨rfl, below_all (unhideI HK) (Nat.le_refl _)⟩
                    · replace hh : hS op = false := by simpa using hh
                      rw [if_neg (by rw [hh]; simp)] at E
                      have HE2 := hideI E
                      clear E HE
                      go_wp2_with fail
                      refine (HA _).mono ?_
                      rintro e w7 ⟨rfl, k7⟩
                      rw [hh]
                      have KP := hideI ((unhideI KP).trans (Z := fun b => b = lb) (Kpt.of (X := fun b => b = lb) k7) (fun _ h => h) (fun _ h _ => h))
                      have HL := hideI (Box.step (unhideI HL) k7)
                      clear k7 HA yc
                      go_wp2_with fail
                      go_roundg (3 - (1 + 1))
                      case measure => omega
                      case rel => exact ⟨1 + 1, at_, x, by omega, rfl, by go_num, by go_num, hat_, hxo, HL, KP, HE2⟩
                  · -- field 2
                    have E := unhideI HE
                    rw [fkr2] at E
                    have HA := fun w => has_i op w
                    have yc := (unhideI Y6).2 2 _ rfl
                    rw [← (unhideI KP).cell (unhideI Y6).1 (by omega)] at yc
                    by_cases hh : hI op = true
                    · rw [if_pos hh] at E
                      by_cases hat : at_ = acc.length
                      · rw [hat, List.drop_length, rdP_few] at E
                        subst E
                        subst hat
                        obtain rfl : R = (lnZ, false, 5) := (unhideI HR).symm
                        clear HR HE
                        go_wp2_with fail
                        refine (HA _).mono ?_
                        rintro e w7 ⟨rfl, k7⟩
                        rw [hh]
                        have KP := hideI ((unhideI KP).trans (Z := fun b => b = lb) (Kpt.of (X := fun b => b = lb) k7) (fun _ h => h) (fun _ h _ => h))
                        have HL := hideI (Box.step (unhideI HL) k7)
                        clear k7 HA yc
                        have HB := hideI ((unhideI B6).kpt (unhideI KP) (by omega))
                        have HK := hideI ((unhideI K6).trans ((unhideI KP).below (B := w.heap.size) (by have := (unhideI K6).size; omega) (fun b hb => by omega)))
                        have BU := unhideI HB
                        have r0 := BU.2.1 0 _ rfl
                        have r1 := BU.2.1 1 _ rfl
                        have r2 := BU.2.1 2 _ rfl
                        have r3 := BU.2.1 3 _ rfl
                        have r4 := BU.2.1 4 _ rfl
                        have r5 := BU.2.1 5 _ rfl
                        have r6 := BU.2.2
                        clear BU
                        go_wp2_with fail
                        exact bodyPost_ret (resL3 Tryz.results22 (LnBox.all (x := lnZ) (y := lnZ) (unhideI HB)) rfl rfl rfl) rfl ⟨rfl, below_all (unhideI HK) (Nat.le_refl _)⟩
                      · have hal2 : at_ < acc.length := by omega
                        obtain ⟨pb, po, rfl, hpb, hpb6, hpc⟩ := unhideI HR6 (by omega)
                        have pc := hpc at_ hal2
                        rw [show (txs acc)[at_]? = some (.string (ba acc[at_])) by simp [txs, hal2]] at pc
                        rw [List.drop_eq_getElem_cons hal2] at E
                        generalize acc[at_] = p at *
                        have hate : ((at_ : Int) == (acc.length : Int)) = false := beq_eq_false_iff_ne.2 (by omega)
                        have hati : (at_ : Int) < (acc.length : Int) := by omega
                        clear hpc
                        have NU := fun w => number4_any p 65535 w
                        have ND := fun w => named4_any (ba p) w
                        have RF := fun w => refers4_any op w
                        have hn1 := fun h => fld_i (x := x) (p := p) h
                        have hn2 := fun h => fld_i_ref (x := x) (p := p) h
                        generalize num4 p 65535 = nn at *
                        have HE2 := hideI E
                        have HN1 := hideI hn1
                        have HN2 := hideI hn2
                        clear E hn1 hn2 HE
                        go_wp2_with fail
                        refine (HA _).mono ?_
                        rintro e w7 ⟨rfl, k7⟩
                        rw [hh]
                        have KP := hideI ((unhideI KP).trans (Z := fun b => b = lb) (Kpt.of (X := fun b => b = lb) k7) (fun _ h => h) (fun _ h _ => h))
                        have HL := hideI (Box.step (unhideI HL) k7)
                        clear k7 HA yc
                        rw [← (unhideI KP).cell hpb6 (by omega)] at pc
                        go_wp2_with fail
                        refine (NU _).mono ?_
                        rintro e w8 ⟨rfl, k8⟩
                        have KP := hideI ((unhideI KP).trans (Z := fun b => b = lb) (Kpt.of (X := fun b => b = lb) k8) (fun _ h => h) (fun _ h _ => h))
                        have HL := hideI (Box.step (unhideI HL) k8)
                        clear k8 NU pc
                        by_cases hn : 0 ≤ nn
                        · have E := unhideI HE2
                          rw [rdP_next (unhideI HN1 hn)] at E
                          have HE := hideI E
                          have L9 := (unhideI HL).set (j := 4) (u := .int .i64 nn) (by simp)
                          have HL9 : Hid (LnBox (w8.setCell ⟨lb, 4, none⟩ (.int .i64 nn)) lb ⟨x.lab, ⟨x.i.o, x.i.d, x.i.s, nn⟩, x.ref⟩) := hideI L9
                          have KP9 := hideI ((unhideI KP).trans (Z := fun b => b = lb) (Kpt.setCell (X := fun b => b = lb) (j := 4) w8 (.int .i64 nn) rfl) (fun _ h => h) (fun _ h _ => h))
                          have BU := unhideI HL
                          have q0 := BU.2.1 0 _ rfl
                          have q1 := BU.2.1 1 _ rfl
                          have q2 := BU.2.1 2 _ rfl
                          have q3 := BU.2.1 3 _ rfl
                          have q4 := BU.2.1 4 _ rfl
                          have q5 := BU.2.1 5 _ rfl
                          have q6 := BU.2.2
                          clear BU L9 E HE2 HN1 HN2 ND RF
                          go_wp2_with fail
                          go_roundg (3 - (2 + 1))
                          case measure => omega
                          case rel => exact ⟨2 + 1, at_ + 1, ⟨x.lab, ⟨x.i.o, x.i.d, x.i.s, nn⟩, x.ref⟩, by omega, rfl, by go_num, by go_num, by omega, hxo, HL9, KP9, HE⟩
                        · have hnd : decide (0 ≤ nn) = false := by simpa using hn
                          have E := unhideI HE2
                          have hf := unhideI HN2 (by omega)
                          rw [hxo] at hf
                          clear HE2 HN1 HN2
                          by_cases hnm : nm (ba p) = true
                          · by_cases hmy : may op = true
                            · rw [if_pos ⟨hmy, hnm⟩] at hf
                              rw [rdP_next hf] at E
                              have HE := hideI E
                              clear E hf
                              go_wp2_with fail
                              refine (ND _).mono ?_
                              rintro e w9 ⟨rfl, k9⟩
                              rw [hnm]
                              have KP := hideI ((unhideI KP).trans (Z := fun b => b = lb) (Kpt.of (X := fun b => b = lb) k9) (fun _ h => h) (fun _ h _ => h))
                              have HL := hideI (Box.step (unhideI HL) k9)
                              clear k9 ND
                              go_wp2_with fail
                              refine (RF _).mono ?_
                              rintro e wa ⟨rfl, ka⟩
                              rw [hmy]
                              have KP := hideI ((unhideI KP).trans (Z := fun b => b = lb) (Kpt.of (X := fun b => b = lb) ka) (fun _ h => h) (fun _ h _ => h))
                              have HL := hideI (Box.step (unhideI HL) ka)
                              clear ka RF
                              have L9 := (unhideI HL).set (j := 5) (u := .string (ba p)) (by simp)
                              have HL9 : Hid (LnBox (wa.setCell ⟨lb, 5, none⟩ (.string (ba p))) lb ⟨x.lab, x.i, ba p⟩) := hideI L9
                              have KP9 := hideI ((unhideI KP).trans (Z := fun b => b = lb) (Kpt.setCell (X := fun b => b = lb) (j := 5) wa (.string (ba p)) rfl) (fun _ h => h) (fun _ h _ => h))
                              have BU := unhideI HL
                              have q0 := BU.2.1 0 _ rfl
                              have q1 := BU.2.1 1 _ rfl
                              have q2 := BU.2.1 2 _ rfl
                              have q3 := BU.2.1 3 _ rfl
                              have q4 := BU.2.1 4 _ rfl
                              have q5 := BU.2.1 5 _ rfl
                              have q6 := BU.2.2
                              clear BU L9
                              go_wp2_with fail
                              go_roundg (3 - (2 + 1))
                              case measure => omega
                              case rel => exact ⟨2 + 1, at_ + 1, ⟨x.lab, x.i, ba p⟩, by omega, rfl, by go_num, by go_num, by omega, hxo, HL9, KP9, HE⟩
                            · replace hmy : may op = false := by simpa using hmy
                              rw [if_neg (by rw [hmy]; simp)] at hf
                              rw [rdP_bad hf] at E
                              subst E
                              obtain rfl : R = (lnZ, false, 2) := (unhideI HR).symm
                              clear HR hf
                              go_wp2_with fail
                              refine (ND _).mono ?_
                              rintro e w9 ⟨rfl, k9⟩
                              rw [hnm]
                              have KP := hideI ((unhideI KP).trans (Z := fun b => b = lb) (Kpt.of (X := fun b => b = lb) k9) (fun _ h => h) (fun _ h _ => h))
                              have HL := hideI (Box.step (unhideI HL) k9)
                              clear k9 ND
                              go_wp2_with fail
                              refine (RF _).mono ?_
                              rintro e wa ⟨rfl, ka⟩
                              rw [hmy]
                              have KP := hideI ((unhideI KP).trans (Z := fun b => b = lb) (Kpt.of (X := fun b => b = lb) ka) (fun _ h => h) (fun _ h _ => h))
                              have HL := hideI (Box.step (unhideI HL) ka)
                              clear ka RF
                              have HB := hideI ((unhideI B6).kpt (unhideI KP) (by omega))
                              have HK := hideI ((unhideI K6).trans ((unhideI KP).below (B := w.heap.size) (by have := (unhideI K6).size; omega) (fun b hb => by omega)))
                              have BU := unhideI HB
                              have r0 := BU.2.1 0 _ rfl
                              have r1 := BU.2.1 1 _ rfl
                              have r2 := BU.2.1 2 _ rfl
                              have r3 := BU.2.1 3 _ rfl
                              have r4 := BU.2.1 4 _ rfl
                              have r5 := BU.2.1 5 _ rfl
                              have r6 := BU.2.2
                              clear BU
                              go_wp2_with fail
                              exact bodyPost_ret (resL3 Tryz.results22 (LnBox.all (x := lnZ) (y := lnZ) (unhideI HB)) rfl rfl rfl) rfl ⟨rfl, below_all (unhideI HK) (Nat.le_refl _)⟩
                          · replace hnm : nm (ba p) = false := by simpa using hnm
                            rw [if_neg (by rw [hnm]; simp)] at hf
                            rw [rdP_bad hf] at E
                            subst E
                            obtain rfl : R = (lnZ, false, 2) := (unhideI HR).symm
                            clear HR hf
                            go_wp2_with fail
                            refine (ND _).mono ?_
                            rintro e w9 ⟨rfl, k9⟩
                            rw [hnm]
                            have KP := hideI ((unhideI KP).trans (Z := fun b => b = lb) (Kpt.of (X := fun b => b = lb) k9) (fun _ h => h) (fun _ h _ => h))
                            have HL := hideI (Box.step (unhideI HL) k9)
                            clear k9 ND
                            have HB := hideI ((unhideI B6).kpt (unhideI KP) (by omega))
                            have HK := hideI ((unhideI K6).trans ((unhideI KP).below (B := w.heap.size) (by have := (unhideI K6).size; omega) (fun b hb => by omega)))
                            have BU := unhideI HB
                            have r0 := BU.2.1 0 _ rfl
                            have r1 := BU.2.1 1 _ rfl
                            have r2 := BU.2.1 2 _ rfl
                            have r3 := BU.2.1 3 _ rfl
                            have r4 := BU.2.1 4 _ rfl
                            have r5 := BU.2.1 5 _ rfl
                            have r6 := BU.2.2
                            clear BU
                            go_wp2_with fail
                            exact bodyPost_ret (resL3 Tryz.results22 (LnBox.all (x := lnZ) (y := lnZ) (unhideI HB)) rfl rfl rfl) rfl ⟨rfl, below_all (unhideI HK) (Nat.le_refl _)⟩
                    · replace hh : hI op = false := by simpa using hh
                      rw [if_neg (by rw [hh]; simp)] at E
                      have HE2 := hideI E
                      clear E HE
                      go_wp2_with fail
                      refine (HA _).mono ?_
                      rintro e w7 ⟨rfl, k7⟩
                      rw [hh]
                      have KP := hideI ((unhideI KP).trans (Z := fun b => b = lb) (Kpt.of (X := fun b => b = lb) k7) (fun _ h => h) (fun _ h _ => h))
                      have HL := hideI (Box.step (unhideI HL) k7)
                      clear k7 HA yc
                      go_wp2_with fail
                      go_roundg (3 - (2 + 1))
                      case measure => omega
                      case rel => exact ⟨2 + 1, at_, x, by omega, rfl, by go_num, by go_num, hat_, hxo, HL, KP, HE2⟩
                  · -- behind the fields
                    have E := unhideI HE
                    by_cases hat : at_ = acc.length
                    · rw [hat, List.drop_length] at E
                      obtain rfl : Q = (x, 0) := E.symm
                      obtain rfl : R = (x, true, 0) := (unhideI HR).symm
                      subst hat
                      have HB := hideI ((unhideI B6).kpt (unhideI KP) (by omega))
                      have HK := hideI ((unhideI K6).trans ((unhideI KP).below (B := w.heap.size) (by have := (unhideI K6).size; omega) (fun b hb => by omega)))
                      have BU := unhideI HB
                      have r0 := BU.2.1 0 _ rfl
                      have r1 := BU.2.1 1 _ rfl
                      have r2 := BU.2.1 2 _ rfl
                      have r3 := BU.2.1 3 _ rfl
                      have r4 := BU.2.1 4 _ rfl
                      have r5 := BU.2.1 5 _ rfl
                      have r6 := BU.2.2
                      clear BU
                      have BU := unhideI HL
                      have q0 := BU.2.1 0 _ rfl
                      have q1 := BU.2.1 1 _ rfl
                      have q2 := BU.2.1 2 _ rfl
                      have q3 := BU.2.1 3 _ rfl
                      have q4 := BU.2.1 4 _ rfl
                      have q5 := BU.2.1 5 _ rfl
                      clear BU E HR HE hxo
                      go_wp2_with fail
                      exact bodyPost_ret (resL3 Tryz.results22 (LnBox.all (x := lnZ) (y := x) (unhideI HB)) rfl rfl rfl) rfl ⟨rfl, below_all (unhideI HK) (Nat.le_refl _)⟩
                    · have hal2 : at_ < acc.length := by omega
                      rw [List.drop_eq_getElem_cons hal2] at E
                      obtain rfl : Q = (lnZ, 5) := E.symm
                      obtain rfl : R = (lnZ, false, 5) := (unhideI HR).symm
                      have hati : (at_ : Int) < (acc.length : Int) := by omega
                      clear E HR HE
                      have HB := hideI ((unhideI B6).kpt (unhideI KP) (by omega))
                      have HK := hideI ((unhideI K6).trans ((unhideI KP).below (B := w.heap.size) (by have := (unhideI K6).size; omega) (fun b hb => by omega)))
                      have BU := unhideI HB
                      have r0 := BU.2.1 0 _ rfl
                      have r1 := BU.2.1 1 _ rfl
                      have r2 := BU.2.1 2 _ rfl
                      have r3 := BU.2.1 3 _ rfl
                      have r4 := BU.2.1 4 _ rfl
                      have r5 := BU.2.1 5 _ rfl
                      have r6 := BU.2.2
                      clear BU
                      go_wp2_with fail
                      exact bodyPost_ret (resL3 Tryz.results22 (LnBox.all (x := lnZ) (y := lnZ) (unhideI HB)) rfl rfl rfl) rfl ⟨rfl, below_all (unhideI HK) (Nat.le_refl _)⟩
end Go.Proofs.YtoopgkbefhoeiaaGreatDoor
