/-
  What comes in, and what is told.
-/
import Derived.Test.YtjlbenbfmookoaaEmuC
import Derived.Maps.AppendAt
namespace Go.Proofs.Ytjlbenbfmookoaa
open Go.RowKit
set_option linter.unusedSimpArgs false
set_option linter.unusedVariables false
variable {X : Sd}

theorem Try.infoByte : (Try.prog.info? 5).map (fun i => (i.zero, i.size, i.bytes)) = some (some (.int .u8 0), 1, 1) := by kernel_rfl
theorem Byts.at {w : World} {v : Value} {xs : List Int} (h : Byts w v xs) : ∃ ao cap, v = .slice ao xs.length cap ∧ xs.length ≤ maxLen ∧ (xs ≠ [] → ∃ b off, ao = some ⟨b, off, none⟩ ∧ b < w.heap.size ∧ ∀ j (hj : j < xs.length), w.cell? ⟨b, off + j, none⟩ = some (.int .u8 (xs[j]'hj))) := by
  obtain ⟨_, ao, cap, rfl, h3, h4, _, h5⟩ := h
  refine ⟨ao, cap, rfl, Nat.le_trans h3 h4, fun hn => ?_⟩
  obtain ⟨b, off, rfl, hb, hc⟩ := h5 (by intro h; exact hn (List.eq_nil_of_length_eq_zero h))
  refine ⟨b, off, rfl, hb, fun j hj => ?_⟩
  rw [hc j (by omega), List.getElem?_map, List.getElem?_eq_getElem hj]; rfl

theorem Mach.grow {w0 w w3 : World} {p q : Nat} {vc vi vo v3 : Value} {m : Ma} {xs bs : List Int} {x : Int} (h : Mach X w0 w p q vc vi vo m xs bs)
    (own3 : w3.ownsRow w0.heap.size 5 1 v3 (m.out.length + 1) (m.out.map byte1 ++ [byte1 x])) (g : w.grownBy w3 vo.ownBlock) (hat : v3.ownBlock = vo.ownBlock ∨ v3.ownBlock = some w.heap.size)
    (hx : 0 ≤ x ∧ x ≤ 255) (hl : m.out.length < 65536) : Mach X w0 (w3.setCell ⟨p, 18, none⟩ v3) p q vc vi v3 { m with out := m.out ++ [x] } xs bs := by
  have bp : w3.heap[p]? = w.heap[p]? := g.block p h.box.1 fun e => (h.ho p e.symm).1 rfl
  have bq : w3.heap[q]? = w.heap[q]? := g.block q h.hqw fun e => (h.ho q e.symm).2 rfl
  have hne : ∀ k, v3.ownBlock = some k → k ≠ p ∧ k ≠ q := fun k hk => by
    rcases hat with e | e
    · exact h.ho k (by rw [← e]; exact hk)
    · rw [e] at hk
      have e1 : w.heap.size = k := by simpa using hk
      have := h.box.1
      have := h.hqw
      omega
  have bx : Box w3 p (cellsM m (.slice (some ⟨q, 0, none⟩) 65536 65536) vc vi vo) :=
    ⟨Nat.lt_of_lt_of_le h.box.1 g.size, fun j u hu => by rw [World.cell?_of_block (w := w) (a := ⟨p, j, none⟩) bp]; exact h.box.2.1 j u hu, fun j => by rw [World.frozen?_of_block (w := w) (a := ⟨p, j, none⟩) bp]; exact h.box.2.2 j⟩
  exact {
    box := bx.set (j := 18) (u := v3) (by simp [cellsM])
    hp := h.hp
    hq := h.hq
    hpq := h.hpq
    hqw := by have := Nat.lt_of_lt_of_le h.hqw g.size; simpa [World.setCell] using this
    mem := fun k hk => by rw [World.cell?_of_block (w := w3) (a := ⟨q, k, none⟩) (Below.heap_setCell _ _ _ _ (Ne.symm h.hpq)), World.cell?_of_block (w := w) (a := ⟨q, k, none⟩) bq]; exact h.mem k hk
    frz := fun k => by rw [World.frozen?_setCell, World.frozen?_of_block (w := w) (a := ⟨q, k, none⟩) bq]; exact h.frz k
    code := h.code
    inp := h.inp
    low := (below_own h.low h.low.size h.own g).setCell h.hp _
    own := by
      have := own_set (b := p) (j := 18) (x := v3) own3 fun k hk => (hne k hk).1
      simpa [byte1] using this
    ho := hne
    side := ⟨by have := Nat.le_trans h.side.1 g.size; simpa [World.setCell] using this, fun b hb hy => by
      obtain ⟨a1, a2, a3, a4⟩ := h.side.2 b hb hy
      have hbw := Nat.lt_of_lt_of_le hb h.side.1
      refine ⟨a1, a2, ?_, by rw [Below.heap_setCell _ _ _ _ a1, g.block b hbw (fun e => a3 e.symm)]; exact a4⟩
      rcases hat with e | e
      · rw [e]; exact a3
      · rw [e]; intro h0; have : w.heap.size = b := by simpa using h0
        omega⟩
    fine := { h.fine with
      out := by simp; omega
      told := fun y hy => by
        rcases List.mem_append.1 hy with e | e
        · exact h.fine.told y e
        · simp at e; subst e; exact hx } }

theorem own_slc {w : World} {B e s n : Nat} {v : Value} {cs : List Value} (h : w.ownsRow B e s v n cs) : ∃ ao cap, v = .slice ao n cap := by
  rcases h.2 with ⟨rfl, rfl⟩ | ⟨g, cap, _, rfl, _⟩
  · exact ⟨none, 0, rfl⟩
  · exact ⟨_, cap, rfl⟩
theorem u8_wrap (x : Int) : IntKind.u8.wrap x = x % 256 := by simp [IntKind.wrap, IntKind.bits, IntKind.signed]

set_option maxRecDepth 100000 in
set_option maxHeartbeats 1000000 in
theorem tell_any {w0 w : World} {p q : Nat} {vc vi vo : Value} {m : Ma} {xs bs : List Int} (h : Mach X w0 w p q vc vi vo m xs bs) (x : Int) :
    Calls Try.prog 75 #[.pointer (some ⟨p, 0, none⟩), .int .i64 x] w fun e w' => ∃ vo', e = .returned (.tuple #[]) ∧ Mach X w0 w' p q vc vi vo' (m.tell x) xs bs := by
  obtain ⟨i0, hi, hz0, hz1, hz2⟩ := info_parts Try.infoByte
  have HM := hideI h
  obtain ⟨-, -, -, -, -, -, -, -, c16, -, c18, -, -⟩ := h.at
  have fz := h.flat
  have hp := h.pw
  have hB := h.low.size
  have hout := h.fine.out
  have HO := hideI h.own
  obtain ⟨ao, cap, rfl⟩ := own_slc h.own
  clear h
  have h8 := u8_wrap x
  by_cases hf : m.out.length = 65536
  · have he : Hid (m.tell x = { m with how := 5 }) := by unfold Hid Ma.tell; rw [if_pos hf]
    rw [unhideI he]
    go_enter Try.func75, Try.ntmps75
    go_wp2
    have PM := (unhideI HM).put (m' := { m with how := 5 }) 16 (.int .i64 5) (by decide) rfl rfl rfl { (unhideI HM).fine with }
    exact bodyPost_ret (v := .tuple #[]) (by simp [results, Try.results75]) rfl ⟨_, rfl, PM⟩
  · have he : Hid (m.tell x = { m with out := m.out ++ [x % 256] }) := by unfold Hid Ma.tell; rw [if_neg hf]
    rw [unhideI he]
    have hb : ((m.out.length : Int) == 65536) = false := by simp; omega
    have hx : 0 ≤ x % 256 ∧ x % 256 ≤ 255 := by omega
    go_enter Try.func75, Try.ntmps75
    go_wp2_with (at_builtin; (refine wpList_append_own_at _ rfl (.tmp 17) (.tmp 20) 28 rfl w0.heap.size 5 i0 (.int .u8 0) 1 1 Try.underlying28 hi hz0 hz1 hz2 rfl (by decide) (.slice ao m.out.length cap) m.out.length (m.out.map byte1) rfl ((unhideI HO).alloc _) ⟨_, 0, none⟩ 1 1 [.int .u8 (x % 256)] rfl rfl (one_c1 _ _ _) (one_c2 _ _) (by unfold maxLen; omega) (by omega) (by simp; omega) ?_; intro v3 w3 own3 grow3 _ hat; obtain ⟨a3, c3, rfl⟩ := own_slc own3; have MG := hideI (((unhideI HM).new _).grow own3 grow3 hat hx (by omega)); have gb := grow3.block p (by simp; omega) (fun e => ((unhideI HM).ho p e.symm).1 rfl); (have fp : w3.frozen? ⟨p, 18, none⟩ = false := by rw [World.frozen?_of_block (a := ⟨p, 18, none⟩) gb]; exact ((unhideI HM).new _).flat 18); (have cp : w3.cell? ⟨p, 18, none⟩ = some (.slice ao m.out.length cap) := by rw [World.cell?_of_block (a := ⟨p, 18, none⟩) gb]; exact ((unhideI HM).new _).at.2.2.2.2.2.2.2.2.2.2.1); clear own3 grow3 gb))
    go_end0
    exact ⟨_, rfl, unhideI MG⟩

set_option maxRecDepth 100000 in
set_option maxHeartbeats 1000000 in
theorem take_any {w0 w : World} {p q : Nat} {vc vi vo : Value} {m : Ma} {xs bs : List Int} (h : Mach X w0 w p q vc vi vo m xs bs) :
    Calls Try.prog 76 #[.pointer (some ⟨p, 0, none⟩)] w fun e w' => e = .returned (.int .i64 (m.took1 bs)) ∧ Mach X w0 w' p q vc vi vo (m.take bs) xs bs ∧ Kept w w' p q := by
  have HM := hideI h
  obtain ⟨c8, -, -, -, -, -, -, c15, -, -, -, c19, -⟩ := h.at
  have fz := h.flat
  have hp := h.pw
  have hrd := h.fine.rd
  have hin := h.fine.inp
  have hlow := h.low
  obtain ⟨ao, cap, rfl, hmax, hat⟩ := h.inp.at
  clear h
  unfold maxLen at hmax
  by_cases hf : m.rd = bs.length
  · have he : Hid (m.take bs = { m with c := true }) := by unfold Hid Ma.take; rw [if_pos hf]
    have he2 : Hid (m.took1 bs = 0) := by unfold Hid Ma.took1; rw [if_pos hf]
    rw [unhideI he, unhideI he2]
    clear hat
    have hb : ((m.rd : Int) == bs.length) = true := by simp [hf]
    go_enter Try.func76, Try.ntmps76
    go_wp2_with fail
    go_region
    all_goals
      go_wp2_with fail
      go_ret
      exact ⟨rfl, ((unhideI HM).put (m' := { m with c := true }) 8 (.bool true) (by decide) rfl rfl rfl { (unhideI HM).fine with }).drew, ((Kept.refl _ _ _).set (.inl rfl)).drew⟩
  · have he : Hid (m.take bs = { m with c := false, rd := m.rd + 1 }) := by unfold Hid Ma.take; rw [if_neg hf]
    have hlt : m.rd < bs.length := by omega
    have hne : bs ≠ [] := by intro h; rw [h] at hlt; simp at hlt
    obtain ⟨b, off, rfl, hbw, hc⟩ := hat hne
    have he2 : Hid (m.took1 bs = bs[m.rd]) := by unfold Hid Ma.took1; rw [if_neg hf, List.getD_eq_getElem?_getD, List.getElem?_eq_getElem hlt]; rfl
    have hbb := hin bs[m.rd] (List.getElem_mem hlt)
    have hcr : w.cell? ⟨b, off + m.rd, none⟩ = some (.int .u8 bs[m.rd]) := by rw [hlow.cell (p := ⟨b, off + m.rd, none⟩) hbw]; exact hc _ hlt
    rw [unhideI he, unhideI he2]
    clear hat hc he he2
    generalize bs[m.rd] = x at *
    have hb : ((m.rd : Int) == bs.length) = false := by simp; omega
    have hpb : b ≠ p := by have := (unhideI HM).hp; omega
    go_enter Try.func76, Try.ntmps76
    go_wp2_with fail
    go_region
    all_goals
      go_wp2_with fail
      go_quiet (fail)
      go_wp2_with fail
      go_ret
      have P1 := (unhideI HM).put (m' := { m with c := false }) 8 (.bool false) (by decide) rfl rfl rfl { (unhideI HM).fine with }
      have P2 := P1.put (m' := { m with c := false, rd := m.rd + 1 }) 19 (.int .i64 ((m.rd : Int) + 1)) (by decide) rfl rfl rfl { P1.fine with rd := by show m.rd + 1 ≤ bs.length; omega }
      exact ⟨rfl, P2.drew.drewN _, ((((Kept.refl _ _ _).set (.inl rfl)).set (.inl rfl)).drew).drewN _⟩
end Go.Proofs.Ytjlbenbfmookoaa
