/-
  Texts: numbers.
-/
import Derived.Test.YtonekpoblgigpaaDoorSoD
import Derived.Test.YtonekpoblgigpaaDoorR7F
import Derived.Lib.AtoiAll
import Derived.Lib.AtoiErrMem
import Derived.Deep.RegionWith
import Derived.Deep.DeepCutAuto
namespace Go.Proofs.YtonekpoblgigpaaDoor
open Go.RowKit
set_option linter.unusedSimpArgs false
set_option linter.unusedVariables false

/-- The signs, in the program's order. -/
def sgP : List (List UInt8) := [[60, 60], [62, 62], [60, 61], [62, 61], [61, 61], [33, 61], [38, 38], [124, 124], [43], [45], [42], [47], [37], [38], [124], [94], [126], [33], [60], [62], [61], [40], [41], [123], [125], [91], [93], [44], [59]]
/-- What lies in package variables. -/
structure Gs (w : World) : Prop where
  er : ∃ te pe, w.cell? ⟨3, 0, none⟩ = some (.iface te pe)
  sg : ∃ t fr, w.heap[0]? = some (.cells (sgP.map fun l => Value.string (ba l)).toArray t fr)
theorem cell_lt {w : World} {b o : Nat} {v : Value} (h : w.cell? ⟨b, o, none⟩ = some v) : b < w.heap.size := World.block_lt_of_cell? w ⟨b, o, none⟩ h
theorem Gs.step {w w' : World} (h : Gs w) (k : Below w.heap.size w w') : Gs w' := by
  obtain ⟨⟨te, pe, h1⟩, ⟨t, fr, h2⟩⟩ := h
  exact ⟨⟨te, pe, cell_keep k (cell_lt h1) h1⟩, ⟨t, fr, by rw [k.block _ (Array.getElem?_eq_some_iff.1 h2).1]; exact h2⟩⟩
/-- A token. -/
structure Tk where
  kind : Int
  text : List UInt8
  n : Int
  b : Int
  g : Bool
  at_ : Int
def cT (t : Tk) : List Value := [.int .i64 t.kind, .string (ba t.text), .int .u64 t.n, .int .i64 t.b, .bool t.g, .int .i64 t.at_]
def tk0 : Tk := ⟨0, [], 0, 0, false, 0⟩
/-- How many digits a text begins with. -/
def dlen : List UInt8 → Nat
  | [] => 0
  | x :: l => if dgt (ch x) = true then dlen l + 1 else 0
theorem dlen_le : ∀ l, dlen l ≤ l.length
  | [] => Nat.le_refl _
  | x :: l => by rw [dlen]; have := dlen_le l; split <;> simp <;> omega
theorem dlen_all : ∀ (l : List UInt8), ∀ x ∈ l.take (dlen l), dgt (ch x) = true
  | [], x, h => by simp [dlen] at h
  | y :: l, x, h => by
    rw [dlen] at h
    by_cases hy : dgt (ch y) = true
    · rw [if_pos hy, List.take_succ_cons] at h
      rcases List.mem_cons.1 h with rfl | h
      · exact hy
      · exact dlen_all l x h
    · rw [if_neg hy] at h; simp at h
theorem parse_digits : ∀ (l : List UInt8) (acc : Nat), (∀ x ∈ l, dgt (ch x) = true) → Lib.parseUint10 acc l ≠ .syntax
  | [], acc, _ => by simp [Lib.parseUint10]
  | x :: l, acc, h => by
    have hx := h x List.mem_cons_self
    unfold dgt ch at hx
    have hx2 : 48 ≤ x.toNat ∧ x.toNat ≤ 57 := by have := of_decide_eq_true hx; omega
    rw [Lib.parseUint10, if_pos hx2]
    split
    · simp
    · split
      · simp
      · exact parse_digits l _ (fun y hy => h y (List.mem_cons_of_mem _ hy))
/-- A number that a text begins with: what is wrong, the token, and how many bytes. -/
def num1 (l : List UInt8) : Int × Tk × Nat :=
  match Lib.parseUint10 0 (l.take (dlen l)) with
  | .ok n =>
    if (lit n (Lib.hasPrefix (l.drop (dlen l)) [117])).2.2 = 0 then (0, ⟨2, l.take (dlen l), n, (lit n (Lib.hasPrefix (l.drop (dlen l)) [117])).1, (lit n (Lib.hasPrefix (l.drop (dlen l)) [117])).2.1, 0⟩, if Lib.hasPrefix (l.drop (dlen l)) [117] = true then dlen l + 1 else dlen l)
    else ((lit n (Lib.hasPrefix (l.drop (dlen l)) [117])).2.2, tk0, 0)
  | _ => (3, tk0, 0)
set_option maxRecDepth 100000 in
set_option maxHeartbeats 4000000 in
theorem parse_any (t : List UInt8) (w : World) (hne : t ≠ []) (hl : t.length ≤ 1048576) (hd : ∀ x ∈ t, dgt (ch x) = true) (hG : Gs w) :
    Calls Tryd.prog 34 #[.string (ba t), .int .i64 10, .int .i64 64] w fun e w' => (∃ n, Lib.parseUint10 0 t = .ok n ∧ e = .returned (.tuple #[.int .u64 (n : Int), .nilIface]) ∧ Below w.heap.size w w') ∨ (Lib.parseUint10 0 t = .range ∧ ∃ T p, e = .returned (.tuple #[.int .u64 18446744073709551615, .iface T (.pointer p)]) ∧ Below w.heap.size w w') := by
  have PA := hideI (fun W => Tryd.internal_strconv_ParseUint_10_b64 (ba t) (by rw [ba_size]; intro h; exact hne (List.eq_nil_of_length_eq_zero h)) (by rw [ba_size]; omega) W)
  rw [ba_data] at PA
  have BB := hideI (Lib.bytesWorld_below w 5 (ba t))
  cases hp : Lib.parseUint10 0 t with
  | ok n =>
    rw [hp] at PA
    unfold Lib.uintTuple at PA
    go_enter Tryd.func34, Tryd.ntmps34
    go_wp2_with fail
    refine (unhideI PA _).mono ?_
    rintro e w1 ⟨rfl, hw⟩
    subst hw
    generalize Lib.bytesWorld w 5 (ba t) = w1 at *
    go_wp2_with fail
    go_ret2
    exact .inl ⟨n, by simp, by simp, unhideI BB⟩
  | «syntax» => exact absurd hp (parse_digits t 0 hd)
  | range =>
    rw [hp] at PA
    unfold Lib.uintTuple at PA
    obtain ⟨te, pe, hv⟩ := (hG.step (unhideI BB)).er
    have TE := hideI (fun fn base bits => Tryd.strconv_toError_range fn (ba t) base bits (.iface te pe) _ (by rw [ba_size]; omega) hv (.inr ⟨te, pe, rfl⟩))
    clear hv
    go_enter Tryd.func34, Tryd.ntmps34
    go_wp2_with fail
    refine (unhideI PA _).mono ?_
    rintro e w1 ⟨rfl, hw⟩
    subst hw
    generalize Lib.bytesWorld w 5 (ba t) = w1 at *
    go_wp2_with fail
    refine (unhideI TE _ _ _).mono ?_
    rintro e w2 ⟨N, rfl, -, -, k2⟩
    go_wp2_with fail
    go_ret2
    exact .inr ⟨trivial, _, _, rfl, bt (unhideI BB) k2⟩
/-- Six cells written anew. -/
theorem Box.six {w : World} {b : Nat} {cs : List Value} (h : Box w b cs) (hl : cs.length = 6) (a0 a1 a2 a3 a4 a5 : Value) : ∃ W, W = (((((w.setCell ⟨b, 0, none⟩ a0).setCell ⟨b, 1, none⟩ a1).setCell ⟨b, 2, none⟩ a2).setCell ⟨b, 3, none⟩ a3).setCell ⟨b, 4, none⟩ a4).setCell ⟨b, 5, none⟩ a5 ∧ Box W b [a0, a1, a2, a3, a4, a5] ∧ ∀ B u, Below B u w → B ≤ b → Below B u W := by
  match cs, hl with
  | [c0, c1, c2, c3, c4, c5], _ =>
    refine ⟨_, rfl, (((((h.set (j := 0) (u := a0) (by simp)).set (j := 1) (u := a1) (by simp)).set (j := 2) (u := a2) (by simp)).set (j := 3) (u := a3) (by simp)).set (j := 4) (u := a4) (by simp)).set (j := 5) (u := a5) (by simp), fun B u hB hb => ?_⟩
    exact (((((hB.setCell hb _).setCell hb _).setCell hb _).setCell hb _).setCell hb _).setCell hb _
set_option maxRecDepth 100000 in
set_option maxHeartbeats 4000000 in
theorem numberOf_any (l : List UInt8) (w : World) (hl : l.length ≤ 65536) (hd0 : 1 ≤ dlen l) (hG : Gs w) :
    Calls Tryd.prog 26 #[.string (ba l)] w fun e w' => e = .returned (.tuple #[.agg (cT (num1 l).2.1).toArray, .int .i64 ((num1 l).2.2 : Int), .int .i64 (num1 l).1]) ∧ Below w.heap.size w w' := by
  have hdl := dlen_le l
  have PA := hideI (fun W g => parse_any (l.take (dlen l)) W (by intro h; have := congrArg List.length h; simp only [List.length_take, List.length_nil] at this; omega) (by rw [List.length_take]; omega) (dlen_all l) g)
  have hnm : num1 l = match Lib.parseUint10 0 (l.take (dlen l)) with
    | .ok n => if (lit n (Lib.hasPrefix (l.drop (dlen l)) [117])).2.2 = 0 then (0, ⟨2, l.take (dlen l), n, (lit n (Lib.hasPrefix (l.drop (dlen l)) [117])).1, (lit n (Lib.hasPrefix (l.drop (dlen l)) [117])).2.1, 0⟩, if Lib.hasPrefix (l.drop (dlen l)) [117] = true then dlen l + 1 else dlen l) else ((lit n (Lib.hasPrefix (l.drop (dlen l)) [117])).2.2, tk0, 0)
    | _ => (3, tk0, 0) := rfl
  have HNM := hideI hnm
  generalize num1 l = NM at *
  have HPX := hideI (fun W => Tryd.strings_HasPrefix (ba (l.drop (dlen l))) (ba [117]) W)
  rw [ba_data, ba_data, show ba [117] = ⟨#[117]⟩ from rfl] at HPX
  have KP := hideI (fun W => kept_any (l.take (dlen l)) W (by rw [List.length_take]; omega))
  have HD1 := hideI (ba_drop l (dlen l))
  have HT1 := hideI (show (ba l).extract 0 (dlen l) = ba (l.take (dlen l)) by rw [ba_extract]; simp)
  have hdl0 : dlen (l.drop 0) + 0 = dlen l := rfl
  have HDL := hideI hdl0
  have B0 := hideI (Box.new w #[.int .i64 0, .string ⟨#[]⟩, .int .u64 0, .int .i64 0, .bool false, .int .i64 0] 33)
  have K0 := hideI (below_a w (.cells #[.int .i64 0, .string ⟨#[]⟩, .int .u64 0, .int .i64 0, .bool false, .int .i64 0] 33))
  have HG := hideI (hG.step (unhideI K0))
  generalize l.take (dlen l) = T at *
  generalize Lib.hasPrefix (l.drop (dlen l)) [117] = U at *
  generalize l.drop (dlen l) = E at *
  generalize dlen l = D at *
  clear hnm hdl0 hG
  go_enter Tryd.func26, Tryd.ntmps26
  go_wp2_with fail
  generalize w.alloc (.cells #[.int .i64 0, .string ⟨#[]⟩, .int .u64 0, .int .i64 0, .bool false, .int .i64 0] 33) = w1 at *
  go_loopg [5] l.length (fun g t wr => ∃ k : Nat, k ≤ l.length ∧ g = l.length - k ∧ t = .int .i64 (k : Int) ∧ wr = w1 ∧ Hid (dlen (l.drop k) + k = D))
  case atStart => exact ⟨0, Nat.zero_le _, rfl, rfl, rfl, HDL⟩
  case round =>
    obtain ⟨k, hk, hg, rfl, hwr, HE⟩ := hrel
    subst hwr
    clear HDL
    by_cases hlt : k < l.length
    · have hz : k < (ba l).size := hlt
      have hzI : (k : Int) < ((ba l).size : Int) := by rw [ba_size]; omega
      have ea := ba_at l k hz
      have hch : ch (l[k]'hlt) = (((ba l)[k].toNat : Nat) : Int) := by unfold ch; rw [← ea]
      have hE := unhideI HE
      rw [List.drop_eq_getElem_cons hlt, dlen, hch] at hE
      have DA := hideI (fun W => isDigit_any (((ba l)[k].toNat : Nat) : Int) W)
      clear ea hch HE
      by_cases h1 : dgt (((ba l)[k].toNat : Nat) : Int) = true
      · rw [h1] at DA
        rw [if_pos h1] at hE
        have HE2 : Hid (dlen (l.drop (k + 1)) + (k + 1) = D) := by unfold Hid; omega
        clear hE
        go_wp2_with fail
        refine (unhideI DA _).mono ?_
        rintro e w2 ⟨rfl, hw⟩
        subst w2
        go_wp2_with fail
        go_roundg (l.length - (k + 1))
        case measure => omega
        case rel => exact ⟨k + 1, by omega, rfl, by go_num, rfl, HE2⟩
      · replace h1 : dgt (((ba l)[k].toNat : Nat) : Int) = false := by simpa using h1
        rw [h1] at DA
        rw [if_neg (by simp [h1])] at hE
        have hkD : D = k := by omega
        subst hkD
        clear hE
        go_wp2_with fail
        refine (unhideI DA _).mono ?_
        rintro e w2 ⟨rfl, hw⟩
        subst w2
        go_wp2_with fail
        rw [unhideI HD1, unhideI HT1]
        refine (unhideI HPX _).mono ?_
        rintro e w2 ⟨rfl, hw⟩
        subst w2
        have hD1 : (D : Int) ≤ 65536 := by omega
        cases U with
        | false =>
          go_wp2_with fail
          refine (unhideI PA _ (unhideI HG)).mono ?_
          rintro e w3 (⟨n, hp, rfl, k3⟩ | ⟨hp, TT, pp, rfl, k3⟩)
          · rw [hp] at HNM
            have LT0 := hideI (fun W => literal_any (n : Int) false W)
            dsimp only at HNM
            generalize lit (n : Int) false = LT at *
            obtain ⟨tb, tg, te⟩ := LT
            dsimp only at *
            have KT := hideI (bt (unhideI K0) k3)
            have BT := hideI ((unhideI B0).step k3)
            clear k3
            go_wp2_with fail
            refine (unhideI LT0 _).mono ?_
            rintro e w4 ⟨rfl, k4⟩
            have kt := below_a w4 (.cells #[.int .i64 tb, .bool tg] 31)
            replace KT := hideI (bt (bt (unhideI KT) k4) kt)
            have BT3 := BT
            replace BT := hideI ((unhideI BT).step (bt k4 kt))
            have BY := hideI (Box.new w4 #[.int .i64 tb, .bool tg] 31)
            have HNE : Hid (w.heap.size < w4.heap.size) := Nat.lt_of_lt_of_le (unhideI BT3).1 k4.size
            clear k4 kt LT0
            by_cases hz : te = 0
            · subst hz
              have hNM : NM = (0, ⟨2, T, (n : Int), tb, tg, 0⟩, D) := by rw [unhideI HNM]; rfl
              clear HNM
              go_upto_region 14 with fail
              generalize w4.alloc (.cells #[.int .i64 tb, .bool tg] 31) = w5 at *
              obtain ⟨z0, z1⟩ := (unhideI BY).at2
              have z2 := (unhideI BY).1
              have y0 := (unhideI BT).2.1 0 _ rfl
              have y1 := (unhideI BT).2.1 1 _ rfl
              have y2 := (unhideI BT).2.1 2 _ rfl
              have y3 := (unhideI BT).2.1 3 _ rfl
              have y4 := (unhideI BT).2.1 4 _ rfl
              have y5 := (unhideI BT).2.1 5 _ rfl
              have y6 := (unhideI BT).1
              have y7 := (unhideI BT).2.2
              have kd : Below w5.heap.size w5 w5.drew := (Below.refl _ _).drew
              replace KT := hideI (bt (unhideI KT) kd)
              replace BT := hideI ((unhideI BT).step kd)
              replace BY := hideI ((unhideI BY).step kd)
              clear kd z0 z1 z2 y0 y1 y2 y3 y4 y5 y6 y7
              refine reg_start (fun W => W.cell? ⟨w4.heap.size, 0, none⟩ = some (.int .i64 tb) ∧ W.cell? ⟨w4.heap.size, 1, none⟩ = some (.bool tg)) (by kernel_rfl) ?_
              generalize w5.drew = wd at *
              have hC0 := (unhideI BY).at2
              refine reg_seg 0 1 8 (by kernel_rfl) (by decide) (by kernel_rfl) (by kernel_rfl) (fun _ _ _ _ _ h => h) ?_
              simp only [List.take_succ_cons, List.take_zero, List.drop_succ_cons, List.drop_zero]
              repeat (refine wpSteady_step (fun K hK => ?_); go_simp; first | (refine steady_of ?_ (fun W hW => ?_) (hK _ ?_); rotate_left; (obtain ⟨hcW, hcX⟩ := hW; go_simp; first | done | rfl); clear hK K) | (refine hK _ ?_; clear hK K))
              refine wpSteady_nil ?_
              refine reg_seg 2 2 6 (by kernel_rfl) (by decide) (by kernel_rfl) (by kernel_rfl) (fun _ _ _ _ _ h => h) ?_
              simp only [List.take_succ_cons, List.take_zero, List.drop_succ_cons, List.drop_zero]
              repeat (refine wpSteady_step (fun K hK => ?_); go_simp; first | (refine steady_of ?_ (fun W hW => ?_) (hK _ ?_); rotate_left; (obtain ⟨hcW, hcX⟩ := hW; go_simp; first | done | rfl); clear hK K) | (refine hK _ ?_; clear hK K))
              refine wpSteady_nil ?_
              refine reg_seg 5 1 5 (by kernel_rfl) (by decide) (by kernel_rfl) (by kernel_rfl) (fun _ _ _ _ _ h => h) ?_
              simp only [List.take_succ_cons, List.take_zero, List.drop_succ_cons, List.drop_zero]
              repeat (refine wpSteady_step (fun K hK => ?_); go_simp; first | (refine steady_of ?_ (fun W hW => ?_) (hK _ ?_); rotate_left; (obtain ⟨hcW, hcX⟩ := hW; go_simp; first | done | rfl); clear hK K) | (refine hK _ ?_; clear hK K))
              refine wpSteady_nil ?_
              refine reg_one 1 4 (by kernel_rfl) (by kernel_rfl) hC0 ?_
              simp only [List.take_succ_cons, List.take_zero, List.drop_succ_cons, List.drop_zero]
              go_wp2_with fail
              refine (unhideI KP _).mono ?_
              rintro e w6 ⟨rfl, k6⟩
              replace KT := hideI (bt (unhideI KT) k6)
              replace BT := hideI ((unhideI BT).step k6)
              replace BY := hideI ((unhideI BY).step k6)
              clear k6 hC0
              have hC1 := (unhideI BY).at2
              have hbt : w.heap.size ≠ w4.heap.size := by have := unhideI HNE; omega
              have y0 := (unhideI BT).2.1 0 _ rfl
              have y1 := (unhideI BT).2.1 1 _ rfl
              have y2 := (unhideI BT).2.1 2 _ rfl
              have y3 := (unhideI BT).2.1 3 _ rfl
              have y4 := (unhideI BT).2.1 4 _ rfl
              have y5 := (unhideI BT).2.1 5 _ rfl
              have y6 := (unhideI BT).1
              have y7 := (unhideI BT).2.2
              obtain ⟨WF, hWF, bw, kw⟩ := (unhideI BT).six rfl (.int .i64 2) (.string (ba T)) (.int .u64 (n : Int)) (.int .i64 tb) (.bool tg) (.int .i64 0)
              have HWF := hideI hWF
              have BW := hideI bw
              have KW := hideI (kw w.heap.size w (unhideI KT) (Nat.le_refl _))
              have BY2 : Hid (Box WF w4.heap.size [.int .i64 tb, .bool tg]) := by rw [hWF]; exact ((((((unhideI BY).other (by omega)).other (by omega)).other (by omega)).other (by omega)).other (by omega)).other (by omega)
              clear hWF bw kw
              go_wp2_with fail
              first | refine next_nil ?_ | refine next_go ?_
              refine reg_seg 4 1 3 (by kernel_rfl) (by decide) (by kernel_rfl) (by kernel_rfl) (fun _ _ _ _ _ h => h) ?_
              simp only [List.take_succ_cons, List.take_zero, List.drop_succ_cons, List.drop_zero]
              repeat (refine wpSteady_step (fun K hK => ?_); go_simp; first | (refine steady_of ?_ (fun W hW => ?_) (hK _ ?_); rotate_left; (obtain ⟨hcW, hcX⟩ := hW; go_simp; first | done | rfl); clear hK K) | (refine hK _ ?_; clear hK K))
              refine wpSteady_nil ?_
              refine reg_one 6 2 (by kernel_rfl) (by kernel_rfl) hC1 ?_
              simp only [List.take_succ_cons, List.take_zero, List.drop_succ_cons, List.drop_zero]
              go_wp2_with fail
              first | refine next_nil ?_ | refine next_go ?_
              rw [← unhideI HWF]
              have hC2 := (unhideI BY2).at2
              refine reg_one 7 1 (by kernel_rfl) (by kernel_rfl) hC2 ?_
              simp only [List.take_succ_cons, List.take_zero, List.drop_succ_cons, List.drop_zero]
              go_wp2_with fail
              first | refine next_nil ?_ | refine next_go ?_
              refine reg_one 8 0 (by kernel_rfl) (by kernel_rfl) hC2 ?_
              simp only [List.take_succ_cons, List.take_zero, List.drop_succ_cons, List.drop_zero]
              go_wp2_with fail
              first | refine next_nil ?_ | refine next_go ?_
              refine reg_end (by kernel_rfl) hC2 ?_
              go_wp2_with fail
              have r0 := (unhideI BW).2.1 0 _ rfl
              have r1 := (unhideI BW).2.1 1 _ rfl
              have r2 := (unhideI BW).2.1 2 _ rfl
              have r3 := (unhideI BW).2.1 3 _ rfl
              have r4 := (unhideI BW).2.1 4 _ rfl
              have r5 := (unhideI BW).2.1 5 _ rfl
              have r6 := (unhideI BW).1
              exact bodyPost_ret (v := .tuple #[.agg (cT ⟨2, T, (n : Int), tb, tg, 0⟩).toArray, .int .i64 (D : Int), .int .i64 0]) (by simp [results, Tryd.results26, go_sem, r0, r1, r2, r3, r4, r5, r6, cT]) rfl ⟨by rw [hNM], unhideI KW⟩
            · have hzb : (te != 0) = true := by simpa using hz
              have hNM : NM = (te, tk0, 0) := by rw [unhideI HNM, if_neg hz]
              have y0 := (unhideI BT).2.1 0 _ rfl
              have y1 := (unhideI BT).2.1 1 _ rfl
              have y2 := (unhideI BT).2.1 2 _ rfl
              have y3 := (unhideI BT).2.1 3 _ rfl
              have y4 := (unhideI BT).2.1 4 _ rfl
              have y5 := (unhideI BT).2.1 5 _ rfl
              have y6 := (unhideI BT).1
              have y7 := (unhideI BT).2.2
              obtain ⟨WF, hWF, bw, kw⟩ := (unhideI BT).six rfl (.int .i64 0) (.string ⟨#[]⟩) (.int .u64 0) (.int .i64 0) (.bool false) (.int .i64 0)
              have HWF := hideI hWF
              have BW := hideI bw
              have KW := hideI (kw w.heap.size w (unhideI KT) (Nat.le_refl _))
              clear hWF bw kw HNM
              go_wp2_with fail
              rw [← unhideI HWF]
              have r0 := (unhideI BW).2.1 0 _ rfl
              have r1 := (unhideI BW).2.1 1 _ rfl
              have r2 := (unhideI BW).2.1 2 _ rfl
              have r3 := (unhideI BW).2.1 3 _ rfl
              have r4 := (unhideI BW).2.1 4 _ rfl
              have r5 := (unhideI BW).2.1 5 _ rfl
              have r6 := (unhideI BW).1
              exact bodyPost_ret (v := .tuple #[.agg (cT tk0).toArray, .int .i64 0, .int .i64 te]) (by simp [results, Tryd.results26, go_sem, r0, r1, r2, r3, r4, r5, r6, cT, tk0, ba]) rfl ⟨by rw [hNM]; rfl, unhideI KW⟩
          · rw [hp] at HNM
            have hNM : NM = (3, tk0, 0) := unhideI HNM
            have BT := hideI ((unhideI B0).step k3)
            have KT := hideI (bt (unhideI K0) k3)
            have y0 := (unhideI BT).2.1 0 _ rfl
            have y1 := (unhideI BT).2.1 1 _ rfl
            have y2 := (unhideI BT).2.1 2 _ rfl
            have y3 := (unhideI BT).2.1 3 _ rfl
            have y4 := (unhideI BT).2.1 4 _ rfl
            have y5 := (unhideI BT).2.1 5 _ rfl
            have y6 := (unhideI BT).1
            have y7 := (unhideI BT).2.2
            obtain ⟨WF, hWF, bw, kw⟩ := (unhideI BT).six rfl (.int .i64 0) (.string ⟨#[]⟩) (.int .u64 0) (.int .i64 0) (.bool false) (.int .i64 0)
            have HWF := hideI hWF
            have BW := hideI bw
            have KW := hideI (kw w.heap.size w (unhideI KT) (Nat.le_refl _))
            clear hWF bw kw k3 HNM
            go_wp2_with fail
            rw [← unhideI HWF]
            have r0 := (unhideI BW).2.1 0 _ rfl
            have r1 := (unhideI BW).2.1 1 _ rfl
            have r2 := (unhideI BW).2.1 2 _ rfl
            have r3 := (unhideI BW).2.1 3 _ rfl
            have r4 := (unhideI BW).2.1 4 _ rfl
            have r5 := (unhideI BW).2.1 5 _ rfl
            have r6 := (unhideI BW).1
            exact bodyPost_ret (v := .tuple #[.agg (cT tk0).toArray, .int .i64 0, .int .i64 3]) (by simp [results, Tryd.results26, go_sem, r0, r1, r2, r3, r4, r5, r6, cT, tk0, ba]) rfl ⟨by rw [hNM]; rfl, unhideI KW⟩
        | true =>
          go_wp2_with fail
          refine (unhideI PA _ (unhideI HG)).mono ?_
          rintro e w3 (⟨n, hp, rfl, k3⟩ | ⟨hp, TT, pp, rfl, k3⟩)
          · rw [hp] at HNM
            have LT0 := hideI (fun W => literal_any (n : Int) true W)
            dsimp only at HNM
            generalize lit (n : Int) true = LT at *
            obtain ⟨tb, tg, te⟩ := LT
            dsimp only at *
            have KT := hideI (bt (unhideI K0) k3)
            have BT := hideI ((unhideI B0).step k3)
            clear k3
            go_wp2_with fail
            refine (unhideI LT0 _).mono ?_
            rintro e w4 ⟨rfl, k4⟩
            have kt := below_a w4 (.cells #[.int .i64 tb, .bool tg] 31)
            replace KT := hideI (bt (bt (unhideI KT) k4) kt)
            have BT3 := BT
            replace BT := hideI ((unhideI BT).step (bt k4 kt))
            have BY := hideI (Box.new w4 #[.int .i64 tb, .bool tg] 31)
            have HNE : Hid (w.heap.size < w4.heap.size) := Nat.lt_of_lt_of_le (unhideI BT3).1 k4.size
            clear k4 kt LT0
            by_cases hz : te = 0
            · subst hz
              have hNM : NM = (0, ⟨2, T, (n : Int), tb, tg, 0⟩, D + 1) := by rw [unhideI HNM]; rfl
              clear HNM
              go_upto_region 14 with fail
              generalize w4.alloc (.cells #[.int .i64 tb, .bool tg] 31) = w5 at *
              obtain ⟨z0, z1⟩ := (unhideI BY).at2
              have z2 := (unhideI BY).1
              have y0 := (unhideI BT).2.1 0 _ rfl
              have y1 := (unhideI BT).2.1 1 _ rfl
              have y2 := (unhideI BT).2.1 2 _ rfl
              have y3 := (unhideI BT).2.1 3 _ rfl
              have y4 := (unhideI BT).2.1 4 _ rfl
              have y5 := (unhideI BT).2.1 5 _ rfl
              have y6 := (unhideI BT).1
              have y7 := (unhideI BT).2.2
              have kd : Below w5.heap.size w5 w5.drew := (Below.refl _ _).drew
              replace KT := hideI (bt (unhideI KT) kd)
              replace BT := hideI ((unhideI BT).step kd)
              replace BY := hideI ((unhideI BY).step kd)
              clear kd z0 z1 z2 y0 y1 y2 y3 y4 y5 y6 y7
              refine reg_start (fun W => W.cell? ⟨w4.heap.size, 0, none⟩ = some (.int .i64 tb) ∧ W.cell? ⟨w4.heap.size, 1, none⟩ = some (.bool tg)) (by kernel_rfl) ?_
              generalize w5.drew = wd at *
              have hC0 := (unhideI BY).at2
              refine reg_seg 0 1 8 (by kernel_rfl) (by decide) (by kernel_rfl) (by kernel_rfl) (fun _ _ _ _ _ h => h) ?_
              simp only [List.take_succ_cons, List.take_zero, List.drop_succ_cons, List.drop_zero]
              repeat (refine wpSteady_step (fun K hK => ?_); go_simp; first | (refine steady_of ?_ (fun W hW => ?_) (hK _ ?_); rotate_left; (obtain ⟨hcW, hcX⟩ := hW; go_simp; first | done | rfl); clear hK K) | (refine hK _ ?_; clear hK K))
              refine wpSteady_nil ?_
              refine reg_seg 2 2 6 (by kernel_rfl) (by decide) (by kernel_rfl) (by kernel_rfl) (fun _ _ _ _ _ h => h) ?_
              simp only [List.take_succ_cons, List.take_zero, List.drop_succ_cons, List.drop_zero]
              repeat (refine wpSteady_step (fun K hK => ?_); go_simp; first | (refine steady_of ?_ (fun W hW => ?_) (hK _ ?_); rotate_left; (obtain ⟨hcW, hcX⟩ := hW; go_simp; first | done | rfl); clear hK K) | (refine hK _ ?_; clear hK K))
              refine wpSteady_nil ?_
              refine reg_seg 5 1 5 (by kernel_rfl) (by decide) (by kernel_rfl) (by kernel_rfl) (fun _ _ _ _ _ h => h) ?_
              simp only [List.take_succ_cons, List.take_zero, List.drop_succ_cons, List.drop_zero]
              repeat (refine wpSteady_step (fun K hK => ?_); go_simp; first | (refine steady_of ?_ (fun W hW => ?_) (hK _ ?_); rotate_left; (obtain ⟨hcW, hcX⟩ := hW; go_simp; first | done | rfl); clear hK K) | (refine hK _ ?_; clear hK K))
              refine wpSteady_nil ?_
              refine reg_one 1 4 (by kernel_rfl) (by kernel_rfl) hC0 ?_
              simp only [List.take_succ_cons, List.take_zero, List.drop_succ_cons, List.drop_zero]
              go_wp2_with fail
              refine (unhideI KP _).mono ?_
              rintro e w6 ⟨rfl, k6⟩
              replace KT := hideI (bt (unhideI KT) k6)
              replace BT := hideI ((unhideI BT).step k6)
              replace BY := hideI ((unhideI BY).step k6)
              clear k6 hC0
              have hC1 := (unhideI BY).at2
              have hbt : w.heap.size ≠ w4.heap.size := by have := unhideI HNE; omega
              have y0 := (unhideI BT).2.1 0 _ rfl
              have y1 := (unhideI BT).2.1 1 _ rfl
              have y2 := (unhideI BT).2.1 2 _ rfl
              have y3 := (unhideI BT).2.1 3 _ rfl
              have y4 := (unhideI BT).2.1 4 _ rfl
              have y5 := (unhideI BT).2.1 5 _ rfl
              have y6 := (unhideI BT).1
              have y7 := (unhideI BT).2.2
              obtain ⟨WF, hWF, bw, kw⟩ := (unhideI BT).six rfl (.int .i64 2) (.string (ba T)) (.int .u64 (n : Int)) (.int .i64 tb) (.bool tg) (.int .i64 0)
              have HWF := hideI hWF
              have BW := hideI bw
              have KW := hideI (kw w.heap.size w (unhideI KT) (Nat.le_refl _))
              have BY2 : Hid (Box WF w4.heap.size [.int .i64 tb, .bool tg]) := by rw [hWF]; exact ((((((unhideI BY).other (by omega)).other (by omega)).other (by omega)).other (by omega)).other (by omega)).other (by omega)
              clear hWF bw kw
              go_wp2_with fail
              first | refine next_nil ?_ | refine next_go ?_
              refine reg_seg 4 1 3 (by kernel_rfl) (by decide) (by kernel_rfl) (by kernel_rfl) (fun _ _ _ _ _ h => h) ?_
              simp only [List.take_succ_cons, List.take_zero, List.drop_succ_cons, List.drop_zero]
              repeat (refine wpSteady_step (fun K hK => ?_); go_simp; first | (refine steady_of ?_ (fun W hW => ?_) (hK _ ?_); rotate_left; (obtain ⟨hcW, hcX⟩ := hW; go_simp; first | done | rfl); clear hK K) | (refine hK _ ?_; clear hK K))
              refine wpSteady_nil ?_
              refine reg_one 6 2 (by kernel_rfl) (by kernel_rfl) hC1 ?_
              simp only [List.take_succ_cons, List.take_zero, List.drop_succ_cons, List.drop_zero]
              go_wp2_with fail
              first | refine next_nil ?_ | refine next_go ?_
              rw [← unhideI HWF]
              have hC2 := (unhideI BY2).at2
              refine reg_one 7 1 (by kernel_rfl) (by kernel_rfl) hC2 ?_
              simp only [List.take_succ_cons, List.take_zero, List.drop_succ_cons, List.drop_zero]
              go_wp2_with fail
              first | refine next_nil ?_ | refine next_go ?_
              refine reg_one 8 0 (by kernel_rfl) (by kernel_rfl) hC2 ?_
              simp only [List.take_succ_cons, List.take_zero, List.drop_succ_cons, List.drop_zero]
              go_wp2_with fail
              first | refine next_nil ?_ | refine next_go ?_
              refine reg_end (by kernel_rfl) hC2 ?_
              go_wp2_with fail
              have r0 := (unhideI BW).2.1 0 _ rfl
              have r1 := (unhideI BW).2.1 1 _ rfl
              have r2 := (unhideI BW).2.1 2 _ rfl
              have r3 := (unhideI BW).2.1 3 _ rfl
              have r4 := (unhideI BW).2.1 4 _ rfl
              have r5 := (unhideI BW).2.1 5 _ rfl
              have r6 := (unhideI BW).1
              exact bodyPost_ret (v := .tuple #[.agg (cT ⟨2, T, (n : Int), tb, tg, 0⟩).toArray, .int .i64 ((D + 1 : Nat) : Int), .int .i64 0]) (by simp [results, Tryd.results26, go_sem, r0, r1, r2, r3, r4, r5, r6, cT]) rfl ⟨by rw [hNM], unhideI KW⟩
            · have hzb : (te != 0) = true := by simpa using hz
              have hNM : NM = (te, tk0, 0) := by rw [unhideI HNM, if_neg hz]
              have y0 := (unhideI BT).2.1 0 _ rfl
              have y1 := (unhideI BT).2.1 1 _ rfl
              have y2 := (unhideI BT).2.1 2 _ rfl
              have y3 := (unhideI BT).2.1 3 _ rfl
              have y4 := (unhideI BT).2.1 4 _ rfl
              have y5 := (unhideI BT).2.1 5 _ rfl
              have y6 := (unhideI BT).1
              have y7 := (unhideI BT).2.2
              obtain ⟨WF, hWF, bw, kw⟩ := (unhideI BT).six rfl (.int .i64 0) (.string ⟨#[]⟩) (.int .u64 0) (.int .i64 0) (.bool false) (.int .i64 0)
              have HWF := hideI hWF
              have BW := hideI bw
              have KW := hideI (kw w.heap.size w (unhideI KT) (Nat.le_refl _))
              clear hWF bw kw HNM
              go_wp2_with fail
              rw [← unhideI HWF]
              have r0 := (unhideI BW).2.1 0 _ rfl
              have r1 := (unhideI BW).2.1 1 _ rfl
              have r2 := (unhideI BW).2.1 2 _ rfl
              have r3 := (unhideI BW).2.1 3 _ rfl
              have r4 := (unhideI BW).2.1 4 _ rfl
              have r5 := (unhideI BW).2.1 5 _ rfl
              have r6 := (unhideI BW).1
              exact bodyPost_ret (v := .tuple #[.agg (cT tk0).toArray, .int .i64 0, .int .i64 te]) (by simp [results, Tryd.results26, go_sem, r0, r1, r2, r3, r4, r5, r6, cT, tk0, ba]) rfl ⟨by rw [hNM]; rfl, unhideI KW⟩
          · rw [hp] at HNM
            have hNM : NM = (3, tk0, 0) := unhideI HNM
            have BT := hideI ((unhideI B0).step k3)
            have KT := hideI (bt (unhideI K0) k3)
            have y0 := (unhideI BT).2.1 0 _ rfl
            have y1 := (unhideI BT).2.1 1 _ rfl
            have y2 := (unhideI BT).2.1 2 _ rfl
            have y3 := (unhideI BT).2.1 3 _ rfl
            have y4 := (unhideI BT).2.1 4 _ rfl
            have y5 := (unhideI BT).2.1 5 _ rfl
            have y6 := (unhideI BT).1
            have y7 := (unhideI BT).2.2
            obtain ⟨WF, hWF, bw, kw⟩ := (unhideI BT).six rfl (.int .i64 0) (.string ⟨#[]⟩) (.int .u64 0) (.int .i64 0) (.bool false) (.int .i64 0)
            have HWF := hideI hWF
            have BW := hideI bw
            have KW := hideI (kw w.heap.size w (unhideI KT) (Nat.le_refl _))
            clear hWF bw kw k3 HNM
            go_wp2_with fail
            rw [← unhideI HWF]
            have r0 := (unhideI BW).2.1 0 _ rfl
            have r1 := (unhideI BW).2.1 1 _ rfl
            have r2 := (unhideI BW).2.1 2 _ rfl
            have r3 := (unhideI BW).2.1 3 _ rfl
            have r4 := (unhideI BW).2.1 4 _ rfl
            have r5 := (unhideI BW).2.1 5 _ rfl
            have r6 := (unhideI BW).1
            exact bodyPost_ret (v := .tuple #[.agg (cT tk0).toArray, .int .i64 0, .int .i64 3]) (by simp [results, Tryd.results26, go_sem, r0, r1, r2, r3, r4, r5, r6, cT, tk0, ba]) rfl ⟨by rw [hNM]; rfl, unhideI KW⟩
    · have hz : ¬ k < (ba l).size := hlt
      have hzI : ¬ (k : Int) < ((ba l).size : Int) := by rw [ba_size]; omega
      have hkD : D = k := by
        have := unhideI HE
        rw [List.drop_eq_nil_of_le (by omega), dlen] at this
        omega
      subst hkD
      clear HE
      go_wp2_with fail
      rw [unhideI HD1, unhideI HT1]
      refine (unhideI HPX _).mono ?_
      rintro e w2 ⟨rfl, hw⟩
      subst w2
      have hD1 : (D : Int) ≤ 65536 := by omega
      cases U with
      | false =>
        go_wp2_with fail
        refine (unhideI PA _ (unhideI HG)).mono ?_
        rintro e w3 (⟨n, hp, rfl, k3⟩ | ⟨hp, TT, pp, rfl, k3⟩)
        · rw [hp] at HNM
          have LT0 := hideI (fun W => literal_any (n : Int) false W)
          dsimp only at HNM
          generalize lit (n : Int) false = LT at *
          obtain ⟨tb, tg, te⟩ := LT
          dsimp only at *
          have KT := hideI (bt (unhideI K0) k3)
          have BT := hideI ((unhideI B0).step k3)
          clear k3
          go_wp2_with fail
          refine (unhideI LT0 _).mono ?_
          rintro e w4 ⟨rfl, k4⟩
          have kt := below_a w4 (.cells #[.int .i64 tb, .bool tg] 31)
          replace KT := hideI (bt (bt (unhideI KT) k4) kt)
          have BT3 := BT
          replace BT := hideI ((unhideI BT).step (bt k4 kt))
          have BY := hideI (Box.new w4 #[.int .i64 tb, .bool tg] 31)
          have HNE : Hid (w.heap.size < w4.heap.size) := Nat.lt_of_lt_of_le (unhideI BT3).1 k4.size
          clear k4 kt LT0
          by_cases hz : te = 0
          · subst hz
            have hNM : NM = (0, ⟨2, T, (n : Int), tb, tg, 0⟩, D) := by rw [unhideI HNM]; rfl
            clear HNM
            go_upto_region 14 with fail
            generalize w4.alloc (.cells #[.int .i64 tb, .bool tg] 31) = w5 at *
            obtain ⟨z0, z1⟩ := (unhideI BY).at2
            have z2 := (unhideI BY).1
            have y0 := (unhideI BT).2.1 0 _ rfl
            have y1 := (unhideI BT).2.1 1 _ rfl
            have y2 := (unhideI BT).2.1 2 _ rfl
            have y3 := (unhideI BT).2.1 3 _ rfl
            have y4 := (unhideI BT).2.1 4 _ rfl
            have y5 := (unhideI BT).2.1 5 _ rfl
            have y6 := (unhideI BT).1
            have y7 := (unhideI BT).2.2
            have kd : Below w5.heap.size w5 w5.drew := (Below.refl _ _).drew
            replace KT := hideI (bt (unhideI KT) kd)
            replace BT := hideI ((unhideI BT).step kd)
            replace BY := hideI ((unhideI BY).step kd)
            clear kd z0 z1 z2 y0 y1 y2 y3 y4 y5 y6 y7
            refine reg_start (fun W => W.cell? ⟨w4.heap.size, 0, none⟩ = some (.int .i64 tb) ∧ W.cell? ⟨w4.heap.size, 1, none⟩ = some (.bool tg)) (by kernel_rfl) ?_
            generalize w5.drew = wd at *
            have hC0 := (unhideI BY).at2
            refine reg_seg 0 1 8 (by kernel_rfl) (by decide) (by kernel_rfl) (by kernel_rfl) (fun _ _ _ _ _ h => h) ?_
            simp only [List.take_succ_cons, List.take_zero, List.drop_succ_cons, List.drop_zero]
            repeat (refine wpSteady_step (fun K hK => ?_); go_simp; first | (refine steady_of ?_ (fun W hW => ?_) (hK _ ?_); rotate_left; (obtain ⟨hcW, hcX⟩ := hW; go_simp; first | done | rfl); clear hK K) | (refine hK _ ?_; clear hK K))
            refine wpSteady_nil ?_
            refine reg_seg 2 2 6 (by kernel_rfl) (by decide) (by kernel_rfl) (by kernel_rfl) (fun _ _ _ _ _ h => h) ?_
            simp only [List.take_succ_cons, List.take_zero, List.drop_succ_cons, List.drop_zero]
            repeat (refine wpSteady_step (fun K hK => ?_); go_simp; first | (refine steady_of ?_ (fun W hW => ?_) (hK _ ?_); rotate_left; (obtain ⟨hcW, hcX⟩ := hW; go_simp; first | done | rfl); clear hK K) | (refine hK _ ?_; clear hK K))
            refine wpSteady_nil ?_
            refine reg_seg 5 1 5 (by kernel_rfl) (by decide) (by kernel_rfl) (by kernel_rfl) (fun _ _ _ _ _ h => h) ?_
            simp only [List.take_succ_cons, List.take_zero, List.drop_succ_cons, List.drop_zero]
            repeat (refine wpSteady_step (fun K hK => ?_); go_simp; first | (refine steady_of ?_ (fun W hW => ?_) (hK _ ?_); rotate_left; (obtain ⟨hcW, hcX⟩ := hW; go_simp; first | done | rfl); clear hK K) | (refine hK _ ?_; clear hK K))
            refine wpSteady_nil ?_
            refine reg_one 1 4 (by kernel_rfl) (by kernel_rfl) hC0 ?_
            simp only [List.take_succ_cons, List.take_zero, List.drop_succ_cons, List.drop_zero]
            go_wp2_with fail
            refine (unhideI KP _).mono ?_
            rintro e w6 ⟨rfl, k6⟩
            replace KT := hideI (bt (unhideI KT) k6)
            replace BT := hideI ((unhideI BT).step k6)
            replace BY := hideI ((unhideI BY).step k6)
            clear k6 hC0
            have hC1 := (unhideI BY).at2
            have hbt : w.heap.size ≠ w4.heap.size := by have := unhideI HNE; omega
            have y0 := (unhideI BT).2.1 0 _ rfl
            have y1 := (unhideI BT).2.1 1 _ rfl
            have y2 := (unhideI BT).2.1 2 _ rfl
            have y3 := (unhideI BT).2.1 3 _ rfl
            have y4 := (unhideI BT).2.1 4 _ rfl
            have y5 := (unhideI BT).2.1 5 _ rfl
            have y6 := (unhideI BT).1
            have y7 := (unhideI BT).2.2
            obtain ⟨WF, hWF, bw, kw⟩ := (unhideI BT).six rfl (.int .i64 2) (.string (ba T)) (.int .u64 (n : Int)) (.int .i64 tb) (.bool tg) (.int .i64 0)
            have HWF := hideI hWF
            have BW := hideI bw
            have KW := hideI (kw w.heap.size w (unhideI KT) (Nat.le_refl _))
            have BY2 : Hid (Box WF w4.heap.size [.int .i64 tb, .bool tg]) := by rw [hWF]; exact ((((((unhideI BY).other (by omega)).other (by omega)).other (by omega)).other (by omega)).other (by omega)).other (by omega)
            clear hWF bw kw
            go_wp2_with fail
            first | refine next_nil ?_ | refine next_go ?_
            refine reg_seg 4 1 3 (by kernel_rfl) (by decide) (by kernel_rfl) (by kernel_rfl) (fun _ _ _ _ _ h => h) ?_
            simp only [List.take_succ_cons, List.take_zero, List.drop_succ_cons, List.drop_zero]
            repeat (refine wpSteady_step (fun K hK => ?_); go_simp; first | (refine steady_of ?_ (fun W hW => ?_) (hK _ ?_); rotate_left; (obtain ⟨hcW, hcX⟩ := hW; go_simp; first | done | rfl); clear hK K) | (refine hK _ ?_; clear hK K))
            refine wpSteady_nil ?_
            refine reg_one 6 2 (by kernel_rfl) (by kernel_rfl) hC1 ?_
            simp only [List.take_succ_cons, List.take_zero, List.drop_succ_cons, List.drop_zero]
            go_wp2_with fail
            first | refine next_nil ?_ | refine next_go ?_
            rw [← unhideI HWF]
            have hC2 := (unhideI BY2).at2
            refine reg_one 7 1 (by kernel_rfl) (by kernel_rfl) hC2 ?_
            simp only [List.take_succ_cons, List.take_zero, List.drop_succ_cons, List.drop_zero]
            go_wp2_with fail
            first | refine next_nil ?_ | refine next_go ?_
            refine reg_one 8 0 (by kernel_rfl) (by kernel_rfl) hC2 ?_
            simp only [List.take_succ_cons, List.take_zero, List.drop_succ_cons, List.drop_zero]
            go_wp2_with fail
            first | refine next_nil ?_ | refine next_go ?_
            refine reg_end (by kernel_rfl) hC2 ?_
            go_wp2_with fail
            have r0 := (unhideI BW).2.1 0 _ rfl
            have r1 := (unhideI BW).2.1 1 _ rfl
            have r2 := (unhideI BW).2.1 2 _ rfl
            have r3 := (unhideI BW).2.1 3 _ rfl
            have r4 := (unhideI BW).2.1 4 _ rfl
            have r5 := (unhideI BW).2.1 5 _ rfl
            have r6 := (unhideI BW).1
            exact bodyPost_ret (v := .tuple #[.agg (cT ⟨2, T, (n : Int), tb, tg, 0⟩).toArray, .int .i64 (D : Int), .int .i64 0]) (by simp [results, Tryd.results26, go_sem, r0, r1, r2, r3, r4, r5, r6, cT]) rfl ⟨by rw [hNM], unhideI KW⟩
          · have hzb : (te != 0) = true := by simpa using hz
            have hNM : NM = (te, tk0, 0) := by rw [unhideI HNM, if_neg hz]
            have y0 := (unhideI BT).2.1 0 _ rfl
            have y1 := (unhideI BT).2.1 1 _ rfl
            have y2 := (unhideI BT).2.1 2 _ rfl
            have y3 := (unhideI BT).2.1 3 _ rfl
            have y4 := (unhideI BT).2.1 4 _ rfl
            have y5 := (unhideI BT).2.1 5 _ rfl
            have y6 := (unhideI BT).1
            have y7 := (unhideI BT).2.2
            obtain ⟨WF, hWF, bw, kw⟩ := (unhideI BT).six rfl (.int .i64 0) (.string ⟨#[]⟩) (.int .u64 0) (.int .i64 0) (.bool false) (.int .i64 0)
            have HWF := hideI hWF
            have BW := hideI bw
            have KW := hideI (kw w.heap.size w (unhideI KT) (Nat.le_refl _))
            clear hWF bw kw HNM
            go_wp2_with fail
            rw [← unhideI HWF]
            have r0 := (unhideI BW).2.1 0 _ rfl
            have r1 := (unhideI BW).2.1 1 _ rfl
            have r2 := (unhideI BW).2.1 2 _ rfl
            have r3 := (unhideI BW).2.1 3 _ rfl
            have r4 := (unhideI BW).2.1 4 _ rfl
            have r5 := (unhideI BW).2.1 5 _ rfl
            have r6 := (unhideI BW).1
            exact bodyPost_ret (v := .tuple #[.agg (cT tk0).toArray, .int .i64 0, .int .i64 te]) (by simp [results, Tryd.results26, go_sem, r0, r1, r2, r3, r4, r5, r6, cT, tk0, ba]) rfl ⟨by rw [hNM]; rfl, unhideI KW⟩
        · rw [hp] at HNM
          have hNM : NM = (3, tk0, 0) := unhideI HNM
          have BT := hideI ((unhideI B0).step k3)
          have KT := hideI (bt (unhideI K0) k3)
          have y0 := (unhideI BT).2.1 0 _ rfl
          have y1 := (unhideI BT).2.1 1 _ rfl
          have y2 := (unhideI BT).2.1 2 _ rfl
          have y3 := (unhideI BT).2.1 3 _ rfl
          have y4 := (unhideI BT).2.1 4 _ rfl
          have y5 := (unhideI BT).2.1 5 _ rfl
          have y6 := (unhideI BT).1
          have y7 := (unhideI BT).2.2
          obtain ⟨WF, hWF, bw, kw⟩ := (unhideI BT).six rfl (.int .i64 0) (.string ⟨#[]⟩) (.int .u64 0) (.int .i64 0) (.bool false) (.int .i64 0)
          have HWF := hideI hWF
          have BW := hideI bw
          have KW := hideI (kw w.heap.size w (unhideI KT) (Nat.le_refl _))
          clear hWF bw kw k3 HNM
          go_wp2_with fail
          rw [← unhideI HWF]
          have r0 := (unhideI BW).2.1 0 _ rfl
          have r1 := (unhideI BW).2.1 1 _ rfl
          have r2 := (unhideI BW).2.1 2 _ rfl
          have r3 := (unhideI BW).2.1 3 _ rfl
          have r4 := (unhideI BW).2.1 4 _ rfl
          have r5 := (unhideI BW).2.1 5 _ rfl
          have r6 := (unhideI BW).1
          exact bodyPost_ret (v := .tuple #[.agg (cT tk0).toArray, .int .i64 0, .int .i64 3]) (by simp [results, Tryd.results26, go_sem, r0, r1, r2, r3, r4, r5, r6, cT, tk0, ba]) rfl ⟨by rw [hNM]; rfl, unhideI KW⟩
      | true =>
        go_wp2_with fail
        refine (unhideI PA _ (unhideI HG)).mono ?_
        rintro e w3 (⟨n, hp, rfl, k3⟩ | ⟨hp, TT, pp, rfl, k3⟩)
        · rw [hp] at HNM
          have LT0 := hideI (fun W => literal_any (n : Int) true W)
          dsimp only at HNM
          generalize lit (n : Int) true = LT at *
          obtain ⟨tb, tg, te⟩ := LT
          dsimp only at *
          have KT := hideI (bt (unhideI K0) k3)
          have BT := hideI ((unhideI B0).step k3)
          clear k3
          go_wp2_with fail
          refine (unhideI LT0 _).mono ?_
          rintro e w4 ⟨rfl, k4⟩
          have kt := below_a w4 (.cells #[.int .i64 tb, .bool tg] 31)
          replace KT := hideI (bt (bt (unhideI KT) k4) kt)
          have BT3 := BT
          replace BT := hideI ((unhideI BT).step (bt k4 kt))
          have BY := hideI (Box.new w4 #[.int .i64 tb, .bool tg] 31)
          have HNE : Hid (w.heap.size < w4.heap.size) := Nat.lt_of_lt_of_le (unhideI BT3).1 k4.size
          clear k4 kt LT0
          by_cases hz : te = 0
          · subst hz
            have hNM : NM = (0, ⟨2, T, (n : Int), tb, tg, 0⟩, D + 1) := by rw [unhideI HNM]; rfl
            clear HNM
            go_upto_region 14 with fail
            generalize w4.alloc (.cells #[.int .i64 tb, .bool tg] 31) = w5 at *
            obtain ⟨z0, z1⟩ := (unhideI BY).at2
            have z2 := (unhideI BY).1
            have y0 := (unhideI BT).2.1 0 _ rfl
            have y1 := (unhideI BT).2.1 1 _ rfl
            have y2 := (unhideI BT).2.1 2 _ rfl
            have y3 := (unhideI BT).2.1 3 _ rfl
            have y4 := (unhideI BT).2.1 4 _ rfl
            have y5 := (unhideI BT).2.1 5 _ rfl
            have y6 := (unhideI BT).1
            have y7 := (unhideI BT).2.2
            have kd : Below w5.heap.size w5 w5.drew := (Below.refl _ _).drew
            replace KT := hideI (bt (unhideI KT) kd)
            replace BT := hideI ((unhideI BT).step kd)
            replace BY := hideI ((unhideI BY).step kd)
            clear kd z0 z1 z2 y0 y1 y2 y3 y4 y5 y6 y7
            refine reg_start (fun W => W.cell? ⟨w4.heap.size, 0, none⟩ = some (.int .i64 tb) ∧ W.cell? ⟨w4.heap.size, 1, none⟩ = some (.bool tg)) (by kernel_rfl) ?_
            generalize w5.drew = wd at *
            have hC0 := (unhideI BY).at2
            refine reg_seg 0 1 8 (by kernel_rfl) (by decide) (by kernel_rfl) (by kernel_rfl) (fun _ _ _ _ _ h => h) ?_
            simp only [List.take_succ_cons, List.take_zero, List.drop_succ_cons, List.drop_zero]
            repeat (refine wpSteady_step (fun K hK => ?_); go_simp; first | (refine steady_of ?_ (fun W hW => ?_) (hK _ ?_); rotate_left; (obtain ⟨hcW, hcX⟩ := hW; go_simp; first | done | rfl); clear hK K) | (refine hK _ ?_; clear hK K))
            refine wpSteady_nil ?_
            refine reg_seg 2 2 6 (by kernel_rfl) (by decide) (by kernel_rfl) (by kernel_rfl) (fun _ _ _ _ _ h => h) ?_
            simp only [List.take_succ_cons, List.take_zero, List.drop_succ_cons, List.drop_zero]
            repeat (refine wpSteady_step (fun K hK => ?_); go_simp; first | (refine steady_of ?_ (fun W hW => ?_) (hK _ ?_); rotate_left; (obtain ⟨hcW, hcX⟩ := hW; go_simp; first | done | rfl); clear hK K) | (refine hK _ ?_; clear hK K))
            refine wpSteady_nil ?_
            refine reg_seg 5 1 5 (by kernel_rfl) (by decide) (by kernel_rfl) (by kernel_rfl) (fun _ _ _ _ _ h => h) ?_
            simp only [List.take_succ_cons, List.take_zero, List.drop_succ_cons, List.drop_zero]
            repeat (refine wpSteady_step (fun K hK => ?_); go_simp; first | (refine steady_of ?_ (fun W hW => ?_) (hK _ ?_); rotate_left; (obtain ⟨hcW, hcX⟩ := hW; go_simp; first | done | rfl); clear hK K) | (refine hK _ ?_; clear hK K))
            refine wpSteady_nil ?_
            refine reg_one 1 4 (by kernel_rfl) (by kernel_rfl) hC0 ?_
            simp only [List.take_succ_cons, List.take_zero, List.drop_succ_cons, List.drop_zero]
            go_wp2_with fail
            refine (unhideI KP _).mono ?_
            rintro e w6 ⟨rfl, k6⟩
            replace KT := hideI (bt (unhideI KT) k6)
            replace BT := hideI ((unhideI BT).step k6)
            replace BY := hideI ((unhideI BY).step k6)
            clear k6 hC0
            have hC1 := (unhideI BY).at2
            have hbt : w.heap.size ≠ w4.heap.size := by have := unhideI HNE; omega
            have y0 := (unhideI BT).2.1 0 _ rfl
            have y1 := (unhideI BT).2.1 1 _ rfl
            have y2 := (unhideI BT).2.1 2 _ rfl
            have y3 := (unhideI BT).2.1 3 _ rfl
            have y4 := (unhideI BT).2.1 4 _ rfl
            have y5 := (unhideI BT).2.1 5 _ rfl
            have y6 := (unhideI BT).1
            have y7 := (unhideI BT).2.2
            obtain ⟨WF, hWF, bw, kw⟩ := (unhideI BT).six rfl (.int .i64 2) (.string (ba T)) (.int .u64 (n : Int)) (.int .i64 tb) (.bool tg) (.int .i64 0)
            have HWF := hideI hWF
            have BW := hideI bw
            have KW := hideI (kw w.heap.size w (unhideI KT) (Nat.le_refl _))
            have BY2 : Hid (Box WF w4.heap.size [.int .i64 tb, .bool tg]) := by rw [hWF]; exact ((((((unhideI BY).other (by omega)).other (by omega)).other (by omega)).other (by omega)).other (by omega)).other (by omega)
            clear hWF bw kw
            go_wp2_with fail
            first | refine next_nil ?_ | refine next_go ?_
            refine reg_seg 4 1 3 (by kernel_rfl) (by decide) (by kernel_rfl) (by kernel_rfl) (fun _ _ _ _ _ h => h) ?_
            simp only [List.take_succ_cons, List.take_zero, List.drop_succ_cons, List.drop_zero]
            repeat (refine wpSteady_step (fun K hK => ?_); go_simp; first | (refine steady_of ?_ (fun W hW => ?_) (hK _ ?_); rotate_left; (obtain ⟨hcW, hcX⟩ := hW; go_simp; first | done | rfl); clear hK K) | (refine hK _ ?_; clear hK K))
            refine wpSteady_nil ?_
            refine reg_one 6 2 (by kernel_rfl) (by kernel_rfl) hC1 ?_
            simp only [List.take_succ_cons, List.take_zero, List.drop_succ_cons, List.drop_zero]
            go_wp2_with fail
            first | refine next_nil ?_ | refine next_go ?_
            rw [← unhideI HWF]
            have hC2 := (unhideI BY2).at2
            refine reg_one 7 1 (by kernel_rfl) (by kernel_rfl) hC2 ?_
            simp only [List.take_succ_cons, List.take_zero, List.drop_succ_cons, List.drop_zero]
            go_wp2_with fail
            first | refine next_nil ?_ | refine next_go ?_
            refine reg_one 8 0 (by kernel_rfl) (by kernel_rfl) hC2 ?_
            simp only [List.take_succ_cons, List.take_zero, List.drop_succ_cons, List.drop_zero]
            go_wp2_with fail
            first | refine next_nil ?_ | refine next_go ?_
            refine reg_end (by kernel_rfl) hC2 ?_
            go_wp2_with fail
            have r0 := (unhideI BW).2.1 0 _ rfl
            have r1 := (unhideI BW).2.1 1 _ rfl
            have r2 := (unhideI BW).2.1 2 _ rfl
            have r3 := (unhideI BW).2.1 3 _ rfl
            have r4 := (unhideI BW).2.1 4 _ rfl
            have r5 := (unhideI BW).2.1 5 _ rfl
            have r6 := (unhideI BW).1
            exact bodyPost_ret (v := .tuple #[.agg (cT ⟨2, T, (n : Int), tb, tg, 0⟩).toArray, .int .i64 ((D + 1 : Nat) : Int), .int .i64 0]) (by simp [results, Tryd.results26, go_sem, r0, r1, r2, r3, r4, r5, r6, cT]) rfl ⟨by rw [hNM], unhideI KW⟩
          · have hzb : (te != 0) = true := by simpa using hz
            have hNM : NM = (te, tk0, 0) := by rw [unhideI HNM, if_neg hz]
            have y0 := (unhideI BT).2.1 0 _ rfl
            have y1 := (unhideI BT).2.1 1 _ rfl
            have y2 := (unhideI BT).2.1 2 _ rfl
            have y3 := (unhideI BT).2.1 3 _ rfl
            have y4 := (unhideI BT).2.1 4 _ rfl
            have y5 := (unhideI BT).2.1 5 _ rfl
            have y6 := (unhideI BT).1
            have y7 := (unhideI BT).2.2
            obtain ⟨WF, hWF, bw, kw⟩ := (unhideI BT).six rfl (.int .i64 0) (.string ⟨#[]⟩) (.int .u64 0) (.int .i64 0) (.bool false) (.int .i64 0)
            have HWF := hideI hWF
            have BW := hideI bw
            have KW := hideI (kw w.heap.size w (unhideI KT) (Nat.le_refl _))
            clear hWF bw kw HNM
            go_wp2_with fail
            rw [← unhideI HWF]
            have r0 := (unhideI BW).2.1 0 _ rfl
            have r1 := (unhideI BW).2.1 1 _ rfl
            have r2 := (unhideI BW).2.1 2 _ rfl
            have r3 := (unhideI BW).2.1 3 _ rfl
            have r4 := (unhideI BW).2.1 4 _ rfl
            have r5 := (unhideI BW).2.1 5 _ rfl
            have r6 := (unhideI BW).1
            exact bodyPost_ret (v := .tuple #[.agg (cT tk0).toArray, .int .i64 0, .int .i64 te]) (by simp [results, Tryd.results26, go_sem, r0, r1, r2, r3, r4, r5, r6, cT, tk0, ba]) rfl ⟨by rw [hNM]; rfl, unhideI KW⟩
        · rw [hp] at HNM
          have hNM : NM = (3, tk0, 0) := unhideI HNM
          have BT := hideI ((unhideI B0).step k3)
          have KT := hideI (bt (unhideI K0) k3)
          have y0 := (unhideI BT).2.1 0 _ rfl
          have y1 := (unhideI BT).2.1 1 _ rfl
          have y2 := (unhideI BT).2.1 2 _ rfl
          have y3 := (unhideI BT).2.1 3 _ rfl
          have y4 := (unhideI BT).2.1 4 _ rfl
          have y5 := (unhideI BT).2.1 5 _ rfl
          have y6 := (unhideI BT).1
          have y7 := (unhideI BT).2.2
          obtain ⟨WF, hWF, bw, kw⟩ := (unhideI BT).six rfl (.int .i64 0) (.string ⟨#[]⟩) (.int .u64 0) (.int .i64 0) (.bool false) (.int .i64 0)
          have HWF := hideI hWF
          have BW := hideI bw
          have KW := hideI (kw w.heap.size w (unhideI KT) (Nat.le_refl _))
          clear hWF bw kw k3 HNM
          go_wp2_with fail
          rw [← unhideI HWF]
          have r0 := (unhideI BW).2.1 0 _ rfl
          have r1 := (unhideI BW).2.1 1 _ rfl
          have r2 := (unhideI BW).2.1 2 _ rfl
          have r3 := (unhideI BW).2.1 3 _ rfl
          have r4 := (unhideI BW).2.1 4 _ rfl
          have r5 := (unhideI BW).2.1 5 _ rfl
          have r6 := (unhideI BW).1
          exact bodyPost_ret (v := .tuple #[.agg (cT tk0).toArray, .int .i64 0, .int .i64 3]) (by simp [results, Tryd.results26, go_sem, r0, r1, r2, r3, r4, r5, r6, cT, tk0, ba]) rfl ⟨by rw [hNM]; rfl, unhideI KW⟩
end Go.Proofs.YtonekpoblgigpaaDoor
