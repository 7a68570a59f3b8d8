/-
  Units in memory; (*linker).own.
-/
import Derived.Test.YtodfjomglgmffaaGreatDoorLkM
import Derived.Deep.QuietTactic
import Derived.BigQuiet
import Derived.BigRegion
import Derived.Deep.RegionWith
import Derived.Deep.DeepCutAuto
import Derived.RegionTactic
import Derived.ChangeAlike
import Derived.StillTailTactics
namespace Go.Proofs.YtodfjomglgmffaaGreatDoor
open Go.RowKit Go.Maps
set_option linter.unusedSimpArgs false
set_option linter.unusedVariables false

/-- Units in memory. -/
def Uns (w : World) (v : Value) (us : List Un) : Prop := ∃ ao cap, v = .slice ao us.length cap ∧ us.length ≤ maxLen ∧ (us ≠ [] → ∃ (b off : Nat) (f : Nat → Value), ao = some ⟨b, off, none⟩ ∧ b < w.heap.size ∧ ∀ j (hj : j < us.length), w.cell? ⟨b, off + j * 2, none⟩ = some (.string (us[j]'hj).name) ∧ w.cell? ⟨b, off + j * 2 + 1, none⟩ = some (f j) ∧ Lns w (f j) (us[j]'hj).lines)
theorem Uns.step {w w' : World} {v : Value} {us : List Un} (h : Uns w v us) (k : Below w.heap.size w w') : Uns w' v us := by
  obtain ⟨ao, cap, h1, h2, h3⟩ := h
  refine ⟨ao, cap, h1, h2, fun hn => ?_⟩
  obtain ⟨b, off, f, e, hb, hc⟩ := h3 hn
  exact ⟨b, off, f, e, Nat.lt_of_lt_of_le hb k.size, fun j hj => ⟨cell_keep k hb (hc j hj).1, cell_keep k hb (hc j hj).2.1, (hc j hj).2.2.step k⟩⟩
set_option maxRecDepth 100000 in
theorem Mp.run_ok {w : World} {b : Nat} {A : Nmd} (h : Mp w b A) (s : ByteArray) (hs : s.size ≤ maxLen) : (Instr.lookup 67 (.map (some b)) (.string s) true).run Tryz.prog w = .ok (.tuple #[.int .i64 (atA A s.toList), .bool (hasA A s.toList)]) w := by
  obtain ⟨D, h1, h2⟩ := h
  obtain ⟨v, ps, hrun, hv⟩ := h1.look_ok Tryz.keyS Tryz.underlying67 (Tryz.zeroI _) (plainElem_int Tryz.underlying3 (by decide)) (Go.WideMaps.keyOf_string_mk Tryz.underlying9 hs)
  obtain ⟨c, rfl, hc, _⟩ := plainElem_int_inv Tryz.underlying3 hv
  rw [hrun, ByteArray.toList_eq, (h2 _).1]
  simp only [Prod.mk.injEq] at hc
  have := hc.1
  rw [(h2 _).2] at this
  injection this with this
  injection this with _ this
  rw [this]
set_option maxRecDepth 100000 in
theorem Mp.run {w : World} {b : Nat} {A : Nmd} (h : Mp w b A) (s : ByteArray) (hs : s.size ≤ maxLen) : (Instr.lookup 67 (.map (some b)) (.string s) false).run Tryz.prog w = .ok (.int .i64 (atA A s.toList)) w := by
  obtain ⟨D, h1, h2⟩ := h
  obtain ⟨v, ps, hrun, hv⟩ := h1.lookup Tryz.keyS Tryz.underlying67 (Tryz.zeroI _) (plainElem_int Tryz.underlying3 (by decide)) (Go.WideMaps.keyOf_string_mk Tryz.underlying9 hs)
  obtain ⟨c, rfl, hc, _⟩ := plainElem_int_inv Tryz.underlying3 hv
  rw [hrun, ByteArray.toList_eq]
  simp only [Prod.mk.injEq] at hc
  have := hc.1
  rw [(h2 _).2] at this
  injection this with this
  injection this with _ this
  rw [this]
theorem Mp.drewN {w : World} {b : Nat} {A : Nmd} (h : Mp w b A) (n : Nat) : Mp (w.drewN n) b A := h.step ⟨rfl, rfl, rfl, Nat.le_refl _, fun _ _ => rfl⟩

theorem Kpt.drewN {X : Nat → Prop} {u v : World} (h : Kpt X u v) (n : Nat) : Kpt X u (v.drewN n) := ⟨h.os, h.tape, h.output, h.size, h.block⟩
theorem Kpt.drew {X : Nat → Prop} {u v : World} (h : Kpt X u v) : Kpt X u v.drew := ⟨h.os, h.tape, h.output, h.size, h.block⟩
theorem Mp.drew {w : World} {b : Nat} {A : Nmd} (h : Mp w b A) : Mp w.drew b A := h.step ⟨rfl, rfl, rfl, Nat.le_refl _, fun _ _ => rfl⟩
theorem wp_region_headL {P : Program} {id : Nat} {Q : Exit → Act → World → Prop} {a : Act} {w : World} {l : List Oper} (n : Nat) (hm : P.follows .mixedOrders = true) (hB : Region.lexTailB .any l.toArray n = true)
    (h : wpStill P l.toArray w.drew (fun a' => wpList P l.toArray Q (l.drop n) a' w.drew) (l.take n) a) : (Code.region id l.toArray true).wp P Q a w := wp_region_still_tail n hm hB h
theorem owns_next {x : Ln} {l : List Ln} {n : Int} {O : Nmd} (h : fa x.lab = true) (t : hasA O x.lab.toList = false) : owns (x :: l) n O = owns l n (O ++ [(x.lab.toList, n)]) := by rw [owns, if_pos h, if_neg (by simp [t])]
theorem owns_taken {x : Ln} {l : List Ln} {n : Int} {O : Nmd} (h : fa x.lab = true) (t : hasA O x.lab.toList = true) : owns (x :: l) n O = none := by rw [owns, if_pos h, if_pos t]
theorem owns_skip {x : Ln} {l : List Ln} {n : Int} {O : Nmd} (h : fa x.lab = false) : owns (x :: l) n O = owns l n O := by rw [owns, if_neg (by simp [h])]

set_option maxRecDepth 100000 in
set_option maxHeartbeats 4000000 in
theorem own_any (w0 : World) (vu : Value) (us : List Un) (hU : Uns w0 vu us) (u : World) (hb : Below w0.heap.size w0 u) (pk ow n : Nat) (vp vo : Value) (fin : Int) (O : Nmd) (hn : n < us.length) (hl : (us[n]'hn).lines.length ≤ 40000) (hr : ∀ x ∈ (us[n]'hn).lines, wrgL x = 0)
    (hB : Box u pk [vu, vp, .map (some ow), vo, .int .i64 fin]) (hM : Mp u ow O) (hO : O.length ≤ 16000000) (hp : w0.heap.size ≤ pk) (ho : w0.heap.size ≤ ow) (hpo : pk ≠ ow) :
    Calls Tryz.prog 46 #[.pointer (some ⟨pk, 0, none⟩), .int .i64 n] u fun e u' => e = .returned (.bool (owns (us[n]'hn).lines n O).isSome) ∧ Kpt (fun c => c = ow) u u' ∧ ∀ O', owns (us[n]'hn).lines n O = some O' → Mp u' ow O' := by
  obtain ⟨ao, cap, rfl, hmax, hat⟩ := hU
  have hne : us ≠ [] := by intro h; rw [h] at hn; simp at hn
  obtain ⟨b, off, f, rfl, hbw, hc⟩ := hat hne
  obtain ⟨-, c1, hL⟩ := hc n hn
  replace c1 := cell_keep hb hbw c1
  have HL0 := hideI hL
  obtain ⟨lo, lc, hfn, hlm, hlat⟩ := hL.at
  rw [hfn] at c1
  have HLA := hideI hlat
  clear hat hc hlat hL
  unfold maxLen at hmax hlm
  generalize (us[n]'hn).lines = l at *
  have k0 := hB.2.1 0 _ rfl
  have k2 := hB.2.1 2 _ rfl
  have HB := hideI hB
  have hpu := hB.1
  have hou := hM.lt
  generalize hR : owns l n O = R
  have HR : Hid (owns (l.drop 0) n O = R) := hR
  clear hR hB
  have hn' : (n : Int) < (us.length : Int) := by omega
  go_enter Tryz.func46, Tryz.ntmps46
  go_wp2_with fail
  go_loopg [18] l.length (fun g i wr => ∃ (k : Nat) (O' : Nmd), k ≤ l.length ∧ g = l.length - k ∧ i = .int .i64 k ∧ O'.length ≤ O.length + k ∧ Hid (Mp wr ow O') ∧ Hid (Kpt (fun c => c = ow) u wr) ∧ Hid (owns (l.drop k) n O' = R))
  case atStart => exact ⟨0, O, Nat.zero_le _, rfl, rfl, Nat.le_refl _, hM, Kpt.refl _ _, HR⟩
  case round =>
    obtain ⟨k, O', hk, hg, rfl, hO', HM, HK, HE⟩ := hrel
    clear HR
    by_cases hlt : k < l.length
    · have hne2 : l ≠ [] := by intro h; rw [h] at hlt; simp at hlt
      obtain ⟨b2, off2, rfl, hbw2, hc2⟩ := (unhideI HLA) hne2
      have hbk : ∀ o, wr.cell? ⟨b2, o, none⟩ = w0.cell? ⟨b2, o, none⟩ := fun o => by rw [(unhideI HK).cell (by have := hb.size; omega) (by omega)]; exact hb.cell (p := ⟨b2, o, none⟩) hbw2
      obtain ⟨d0, d1, d2, d3, d4, d5⟩ := hc2 k hlt
      rw [← hbk] at d0 d1 d2 d3 d4 d5
      have hd := hideI (drop_at l k hlt)
      have hwx := hideI (hr l[k] (List.getElem_mem hlt))
      generalize l[k] = x at *
      obtain ⟨lab, ⟨o, d, sr, m⟩, ref⟩ := x
      clear hc2 hne2 hbk
      dsimp only at *
      have BX := hideI (Box.new wr #[.string lab, .int .i64 o, .int .i64 d, .int .i64 sr, .int .i64 m, .string ref] 40)
      have KA := hideI (below_a wr (.cells #[.string lab, .int .i64 o, .int .i64 d, .int .i64 sr, .int .i64 m, .string ref] 40))
      have p0 := (unhideI BX).2.1 0 _ rfl
      have FA := fun w => forAll_any lab w
      have HB1 := hideI (((unhideI HB).kpt (unhideI HK) hpo).step (unhideI KA))
      have q2 := (unhideI HB1).2.1 2 _ rfl
      have M1 := hideI ((unhideI HM).step (unhideI KA))
      have K1 := hideI ((unhideI HK).trans (Kpt.of (X := fun _ => False) (unhideI KA)) (fun _ h => h) (fun _ h _ => h.elim))
      by_cases hf : fa lab = true
      · rw [hf] at FA
        have hsz : lab.size ≤ maxLen := by
          have he : emp lab = false := by unfold fa at hf; simp at hf; exact hf.1
          exact Nat.le_trans (nm_size (wrgL_lab (unhideI hwx) he).1).1 (by unfold maxLen; omega)
        have RO := fun q => ((unhideI M1).drewN q).run_ok lab hsz
        by_cases ht : hasA O' lab.toList = true
        · have hRn : R = none := by rw [← unhideI HE, unhideI hd, owns_taken (x := ⟨lab, ⟨o, d, sr, m⟩, ref⟩) hf ht]
          subst hRn
          clear HE hd
          go_wp2_with fail
          refine (FA _).mono ?_
          rintro e w1 ⟨rfl, hw⟩
          subst w1
          go_wp2_with fail
          go_quiet (fail)
          go_wp2_with fail
          go_ret
          exact ⟨rfl, (unhideI K1).drewN _, fun O' h => by cases h⟩
        · replace ht : hasA O' lab.toList = false := by simpa using ht
          have HE2 : Hid (owns (l.drop (k + 1)) n (O' ++ [(lab.toList, (n : Int))]) = R) := by show _ = R; rw [← unhideI HE, unhideI hd, owns_next (x := ⟨lab, ⟨o, d, sr, m⟩, ref⟩) hf ht]
          clear HE hd
          go_wp2_with fail
          refine (FA _).mono ?_
          rintro e w1 ⟨rfl, hw⟩
          subst w1
          go_wp2_with fail
          go_quiet (fail)
          have M2 := hideI ((unhideI M1).drewN nq)
          have K2 := hideI ((unhideI K1).drewN nq)
          have q2' : ((wr.alloc (.cells #[.string lab, .int .i64 o, .int .i64 d, .int .i64 sr, .int .i64 m, .string ref] 40)).drewN nq).cell? ⟨pk, 2, none⟩ = some (.map (some ow)) := q2
          have p0' : ((wr.alloc (.cells #[.string lab, .int .i64 o, .int .i64 d, .int .i64 sr, .int .i64 m, .string ref] 40)).drewN nq).cell? ⟨wr.heap.size, 0, none⟩ = some (.string lab) := p0
          clear RO q2 p0 d0 d1 d2 d3 d4 d5
          go_wp2_with fail
          generalize (wr.alloc (.cells #[.string lab, .int .i64 o, .int .i64 d, .int .i64 sr, .int .i64 m, .string ref] 40)).drewN nq = w2 at *
          refine wp_region_headL 7 (by kernel_rfl) (by kernel_rfl) ?_
          simp only [List.take_succ_cons, List.take_zero, List.drop_succ_cons, List.drop_zero]
          repeat still_step
          refine wpStill_nil ?_
          refine wpList_put rfl (.tmp 40) (.tmp 42) (.tmp 43) rfl ow O' rfl (unhideI M2).drew (by unfold maxLen; omega) lab rfl hsz (n : Int) rfl (WalkArith.wf_i64 (by omega)) ht ?_
          intro w3 m3 r3
          have M3 := hideI m3
          have K3 := hideI ((unhideI K2).drew.trans (Kpt.grown (X := fun c => c = ow) r3 (fun c hc => by cases hc; rfl)) (fun _ h => h) (fun _ h _ => h))
          clear m3 r3
          go_wp2_with fail
          go_roundg (l.length - (k + 1))
          case measure => omega
          case rel => exact ⟨k + 1, _, by omega, rfl, by go_num, by simp; omega, M3, K3, HE2⟩
      · replace hf : fa lab = false := by simpa using hf
        rw [hf] at FA
        have HE2 : Hid (owns (l.drop (k + 1)) n O' = R) := by show _ = R; rw [← unhideI HE, unhideI hd, owns_skip (x := ⟨lab, ⟨o, d, sr, m⟩, ref⟩) hf]
        clear HE hd
        go_wp2_with fail
        refine (FA _).mono ?_
        rintro e w1 ⟨rfl, hw⟩
        subst w1
        go_wp2_with fail
        go_roundg (l.length - (k + 1))
        case measure => omega
        case rel => exact ⟨k + 1, O', by omega, rfl, by go_num, by omega, M1, K1, HE2⟩
    · have hkl : k = l.length := by omega
      have hRs : R = some O' := by rw [← unhideI HE, hkl, List.drop_length]; rfl
      subst hRs
      go_wp2_with fail
      go_ret
      exact ⟨rfl, unhideI HK, fun O' h => by cases h; exact unhideI HM⟩
end Go.Proofs.YtodfjomglgmffaaGreatDoor
