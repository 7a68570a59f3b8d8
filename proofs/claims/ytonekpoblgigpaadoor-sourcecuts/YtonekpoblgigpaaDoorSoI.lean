/-
  Texts: the document's Sign: the longest sign at a place.
-/
import Derived.Test.YtonekpoblgigpaaDoorSoG
namespace Go.Proofs.YtonekpoblgigpaaDoor
open Go.RowKit
set_option linter.unusedSimpArgs false
set_option linter.unusedVariables false

/-- The signs, in the document's order. -/
def sgD : List (List UInt8) := [[43], [45], [42], [47], [37], [38], [124], [94], [126], [33], [60], [62], [61], [40], [41], [123], [125], [91], [93], [44], [59], [60, 60], [62, 62], [60, 61], [62, 61], [61, 61], [33, 61], [38, 38], [124, 124]]
def sg1 : List (List UInt8) := sgD.take 21
def sg2 : List (List UInt8) := sgD.drop 21
def bst (r : List UInt8) (b p : List UInt8) : List UInt8 := if (Lib.hasPrefix r p && decide (b.length < p.length)) = true then p else b
theorem bst_keep (r : List UInt8) (n : Nat) : ∀ (l : List (List UInt8)) (b : List UInt8), (∀ p ∈ l, p.length = n) → n ≤ b.length → l.foldl (bst r) b = b
  | [], b, _, _ => rfl
  | p :: l, b, h, hb => by
    have hp := h p List.mem_cons_self
    have e : bst r b p = b := by unfold bst; rw [if_neg]; simp; intro _; omega
    rw [List.foldl_cons, e]
    exact bst_keep r n l b (fun q hq => h q (List.mem_cons_of_mem _ hq)) hb
theorem bst_find (r : List UInt8) (n : Nat) : ∀ (l : List (List UInt8)) (b : List UInt8), (∀ p ∈ l, p.length = n) → b.length < n → l.foldl (bst r) b = (l.find? (fun p => Lib.hasPrefix r p)).getD b
  | [], b, _, _ => rfl
  | p :: l, b, h, hb => by
    have hp := h p List.mem_cons_self
    have h' : ∀ q ∈ l, q.length = n := fun q hq => h q (List.mem_cons_of_mem _ hq)
    rw [List.foldl_cons, List.find?_cons]
    cases hh : Lib.hasPrefix r p with
    | true =>
      have e : bst r b p = p := by unfold bst; rw [if_pos]; simp [hh]; omega
      rw [e]
      exact bst_keep r n l p h' (by omega)
    | false =>
      have e : bst r b p = b := by unfold bst; rw [if_neg]; simp [hh]
      rw [e]
      exact bst_find r n l b h' hb
def sgB (r : List UInt8) : List UInt8 := (sgP.find? (fun p => Lib.hasPrefix r p)).getD []
theorem sgD_fold (r : List UInt8) : sgD.foldl (bst r) [] = sgB r := by
  have e : sgD = sg1 ++ sg2 := rfl
  have e2 : sgP = sg2 ++ sg1 := rfl
  have h1 : ∀ p ∈ sg1, p.length = 1 := by decide
  have h2 : ∀ p ∈ sg2, p.length = 2 := by decide
  unfold sgB
  rw [e, List.foldl_append, bst_find r 1 sg1 [] h1 (by simp), e2, List.find?_append]
  have hb : ((sg1.find? (fun p => Lib.hasPrefix r p)).getD []).length < 2 := by
    cases hf : sg1.find? (fun p => Lib.hasPrefix r p) with
    | none => simp
    | some p => have := h1 p (List.mem_of_find?_eq_some hf); simp; omega
  rw [bst_find r 2 sg2 _ h2 hb]
  cases sg2.find? (fun p => Lib.hasPrefix r p) <;> rfl
theorem pre_take (r p : List UInt8) : Lib.hasPrefix r p = (r.take p.length == p) := by
  unfold Lib.hasPrefix
  by_cases h : p <+: r
  · rw [List.isPrefixOf_iff_prefix.2 h, (List.prefix_iff_eq_take.1 h).symm]; simp
  · have h1 : p.isPrefixOf r = false := by
      cases e : p.isPrefixOf r with
      | false => rfl
      | true => exact absurd (List.isPrefixOf_iff_prefix.1 e) h
    rw [h1]
    symm
    rw [beq_eq_false_iff_ne]
    intro e
    exact h (List.prefix_iff_eq_take.2 e.symm)
theorem sg_cells : (#[.string ⟨#[43]⟩, .string ⟨#[45]⟩, .string ⟨#[42]⟩, .string ⟨#[47]⟩, .string ⟨#[37]⟩, .string ⟨#[38]⟩, .string ⟨#[124]⟩, .string ⟨#[94]⟩, .string ⟨#[126]⟩, .string ⟨#[33]⟩, .string ⟨#[60]⟩, .string ⟨#[62]⟩, .string ⟨#[61]⟩, .string ⟨#[40]⟩, .string ⟨#[41]⟩, .string ⟨#[123]⟩, .string ⟨#[125]⟩, .string ⟨#[91]⟩, .string ⟨#[93]⟩, .string ⟨#[44]⟩, .string ⟨#[59]⟩, .string ⟨#[60, 60]⟩, .string ⟨#[62, 62]⟩, .string ⟨#[60, 61]⟩, .string ⟨#[62, 61]⟩, .string ⟨#[61, 61]⟩, .string ⟨#[33, 61]⟩, .string ⟨#[38, 38]⟩, .string ⟨#[124, 124]⟩] : Array Value).toList = sgD.map fun p => .string (ba p) := rfl
theorem sg_short : ∀ p ∈ sgD, 1 ≤ p.length ∧ p.length ≤ 2 := by decide
theorem sg_len : sgD.length = 29 := rfl
set_option maxRecDepth 100000 in
set_option maxHeartbeats 4000000 in
theorem sign8_any (l : List UInt8) (a : Nat) (w : World) (hl : l.length ≤ 65536) (ha : a ≤ l.length) : Calls Tryd.prog 19 #[.string (ba l), .int .i64 (a : Int)] w fun e w' => e = .returned (.string (ba (sgB (l.drop a)))) ∧ Below w.heap.size w w' := by
  generalize hR : sgB (l.drop a) = R
  have HR : Hid ((sgD.drop 0).foldl (bst (l.drop a)) [] = R) := by rw [← hR, ← sgD_fold]; rfl
  clear hR
  have BX := hideI (Box.new w #[.string ⟨#[43]⟩, .string ⟨#[45]⟩, .string ⟨#[42]⟩, .string ⟨#[47]⟩, .string ⟨#[37]⟩, .string ⟨#[38]⟩, .string ⟨#[124]⟩, .string ⟨#[94]⟩, .string ⟨#[126]⟩, .string ⟨#[33]⟩, .string ⟨#[60]⟩, .string ⟨#[62]⟩, .string ⟨#[61]⟩, .string ⟨#[40]⟩, .string ⟨#[41]⟩, .string ⟨#[123]⟩, .string ⟨#[125]⟩, .string ⟨#[91]⟩, .string ⟨#[93]⟩, .string ⟨#[44]⟩, .string ⟨#[59]⟩, .string ⟨#[60, 60]⟩, .string ⟨#[62, 62]⟩, .string ⟨#[60, 61]⟩, .string ⟨#[62, 61]⟩, .string ⟨#[61, 61]⟩, .string ⟨#[33, 61]⟩, .string ⟨#[38, 38]⟩, .string ⟨#[124, 124]⟩] 9)
  have K1 := hideI (below_a w (.cells #[.string ⟨#[43]⟩, .string ⟨#[45]⟩, .string ⟨#[42]⟩, .string ⟨#[47]⟩, .string ⟨#[37]⟩, .string ⟨#[38]⟩, .string ⟨#[124]⟩, .string ⟨#[94]⟩, .string ⟨#[126]⟩, .string ⟨#[33]⟩, .string ⟨#[60]⟩, .string ⟨#[62]⟩, .string ⟨#[61]⟩, .string ⟨#[40]⟩, .string ⟨#[41]⟩, .string ⟨#[123]⟩, .string ⟨#[125]⟩, .string ⟨#[91]⟩, .string ⟨#[93]⟩, .string ⟨#[44]⟩, .string ⟨#[59]⟩, .string ⟨#[60, 60]⟩, .string ⟨#[62, 62]⟩, .string ⟨#[60, 61]⟩, .string ⟨#[62, 61]⟩, .string ⟨#[61, 61]⟩, .string ⟨#[33, 61]⟩, .string ⟨#[38, 38]⟩, .string ⟨#[124, 124]⟩] 9))
  have HEX := hideI (fun i j => ba_extract l i j)
  have HSP := hideI sg_short
  go_enter Tryd.func19, Tryd.ntmps19
  go_wp2_with fail
  generalize w.alloc (.cells #[.string ⟨#[43]⟩, .string ⟨#[45]⟩, .string ⟨#[42]⟩, .string ⟨#[47]⟩, .string ⟨#[37]⟩, .string ⟨#[38]⟩, .string ⟨#[124]⟩, .string ⟨#[94]⟩, .string ⟨#[126]⟩, .string ⟨#[33]⟩, .string ⟨#[60]⟩, .string ⟨#[62]⟩, .string ⟨#[61]⟩, .string ⟨#[40]⟩, .string ⟨#[41]⟩, .string ⟨#[123]⟩, .string ⟨#[125]⟩, .string ⟨#[91]⟩, .string ⟨#[93]⟩, .string ⟨#[44]⟩, .string ⟨#[59]⟩, .string ⟨#[60, 60]⟩, .string ⟨#[62, 62]⟩, .string ⟨#[60, 61]⟩, .string ⟨#[62, 61]⟩, .string ⟨#[61, 61]⟩, .string ⟨#[33, 61]⟩, .string ⟨#[38, 38]⟩, .string ⟨#[124, 124]⟩] 9) = w1 at *
  have HC : Hid (∀ k (h : k < 29), w1.cell? ⟨w.heap.size, k, none⟩ = some (.string (ba (sgD[k]'(by rw [sg_len]; exact h))))) := fun k h => (unhideI BX).2.1 k _ ((congrArg (fun L => L[k]?) sg_cells).trans (by rw [List.getElem?_map, List.getElem?_eq_getElem (show k < sgD.length by rw [sg_len]; exact h)]; rfl))
  clear BX
  go_loopg [5, 10] 29 (fun g b t wr => ∃ (k : Nat) (best : List UInt8), k ≤ 29 ∧ g = 29 - k ∧ t = .int .i64 (k : Int) ∧ b = .string (ba best) ∧ best.length ≤ 2 ∧ wr = w1 ∧ Hid ((sgD.drop k).foldl (bst (l.drop a)) best = R))
  case atStart => exact ⟨0, [], Nat.zero_le _, rfl, rfl, rfl, by simp, rfl, HR⟩
  case round =>
    obtain ⟨k, best, hk, hg, rfl, rfl, hbl, hwr, HE⟩ := hrel
    subst hwr
    clear HR
    by_cases hlt : k < 29
    · have hkI : (k : Int) < 29 := by omega
      have hcell := unhideI HC k hlt
      have hlt' : k < sgD.length := by rw [sg_len]; exact hlt
      have hE := unhideI HE
      rw [List.drop_eq_getElem_cons hlt', List.foldl_cons] at hE
      obtain ⟨hp1, hp2⟩ := unhideI HSP _ (List.getElem_mem hlt')
      generalize (sgD[k]'hlt') = p at *
      have hbs := ba_size best
      have hps := ba_size p
      have hls := ba_size l
      have HBS := hideI hbs
      have HPS := hideI hps
      have HLS := hideI hls
      have hpt := pre_take (l.drop a) p
      clear hbs hps hls HE
      by_cases h1 : a + p.length ≤ l.length
      · have c1 : (a : Int) + ((ba p).size : Int) ≤ ((ba l).size : Int) := by have := unhideI HPS; have := unhideI HLS; omega
        have c0 : 0 ≤ (a : Int) := by omega
        have c2 : (a : Int) ≤ (a : Int) + ((ba p).size : Int) := by omega
        have hx : (ba l).extract a (a + (ba p).size) = ba ((l.drop a).take p.length) := by rw [unhideI HEX, ba_size, List.take_drop]
        have c3 : ((ba p).size : Int) ≤ 2 := by have := unhideI HPS; omega
        have c4 : (a : Int) ≤ 65536 := by omega
        have c5 : ((a : Int) + ((ba p).size : Int)).toNat = a + (ba p).size := by omega
        have hq : (((ba l).extract a (a + (ba p).size)).toList == (ba p).toList) = Lib.hasPrefix (l.drop a) p := by rw [hx, ba_list, ba_list, hpt]
        clear hx hpt
        by_cases hh : Lib.hasPrefix (l.drop a) p = true
        · rw [hh] at hq
          by_cases hb : best.length < p.length
          · have c6 : ((ba best).size : Int) < ((ba p).size : Int) := by have := unhideI HPS; have := unhideI HBS; omega
            have e : bst (l.drop a) best p = p := by unfold bst; rw [if_pos]; simp [hh]; omega
            rw [e] at hE
            have HE2 := hideI hE
            clear hE e hh
            go_wp2_with fail
            go_roundg (29 - (k + 1))
            case measure => omega
            case rel => exact ⟨k + 1, p, by omega, rfl, by go_num, rfl, hp2, rfl, HE2⟩
          · have c6 : ¬ ((ba best).size : Int) < ((ba p).size : Int) := by have := unhideI HPS; have := unhideI HBS; omega
            have e : bst (l.drop a) best p = best := by unfold bst; rw [if_neg]; simp; intro _; omega
            rw [e] at hE
            have HE2 := hideI hE
            clear hE e hh
            go_wp2_with fail
            go_roundg (29 - (k + 1))
            case measure => omega
            case rel => exact ⟨k + 1, best, by omega, rfl, by go_num, rfl, hbl, rfl, HE2⟩
        · replace hh : Lib.hasPrefix (l.drop a) p = false := by simpa using hh
          rw [hh] at hq
          have e : bst (l.drop a) best p = best := by unfold bst; rw [if_neg]; simp [hh]
          rw [e] at hE
          have HE2 := hideI hE
          clear hE e hh
          go_wp2_with fail
          go_roundg (29 - (k + 1))
          case measure => omega
          case rel => exact ⟨k + 1, best, by omega, rfl, by go_num, rfl, hbl, rfl, HE2⟩
      · have c1 : ¬ (a : Int) + ((ba p).size : Int) ≤ ((ba l).size : Int) := by have := unhideI HPS; have := unhideI HLS; omega
        have c3 : ((ba p).size : Int) ≤ 2 := by have := unhideI HPS; omega
        have c4 : (a : Int) ≤ 65536 := by omega
        have hh : Lib.hasPrefix (l.drop a) p = false := by
          rw [hpt, beq_eq_false_iff_ne]
          intro e
          have := congrArg List.length e
          rw [List.length_take, List.length_drop] at this
          omega
        have e : bst (l.drop a) best p = best := by unfold bst; rw [if_neg]; simp [hh]
        rw [e] at hE
        have HE2 := hideI hE
        clear hE e hh hpt
        go_wp2_with fail
        go_roundg (29 - (k + 1))
        case measure => omega
        case rel => exact ⟨k + 1, best, by omega, rfl, by go_num, rfl, hbl, rfl, HE2⟩
    · have hkI : ¬ (k : Int) < 29 := by omega
      have hR : R = best := by
        have hd : sgD.drop k = [] := List.drop_eq_nil_of_le (by rw [sg_len]; omega)
        rw [← unhideI HE, hd]; rfl
      subst hR
      clear HE
      go_wp2_with fail
      go_ret
      exact ⟨rfl, unhideI K1⟩
end Go.Proofs.YtonekpoblgigpaaDoor
