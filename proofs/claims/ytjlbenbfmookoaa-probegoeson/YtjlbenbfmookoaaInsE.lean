/-
  instr.appendWords and instr.Encode: the words of instructions.
-/
import Derived.Test.YtjlbenbfmookoaaInsG
import Derived.Test.YtjlbenbfmookoaaMem
import Derived.Deep.LoopGhost
namespace Go.Proofs.Ytjlbenbfmookoaa
open Go.RowKit
set_option linter.unusedSimpArgs false
set_option linter.unusedVariables false

theorem Try.infoInt : (Try.prog.info? 3).map (fun i => (i.zero, i.size, i.bytes)) = some (some (.int .i64 0), 1, 8) := by kernel_rfl

/-- The cells of an instruction. -/
def cells4 (i : Ins) : List Value := [.int .i64 i.o, .int .i64 i.d, .int .i64 i.s, .int .i64 i.m]
def Inss (w : World) (v : Value) (l : List Ins) : Prop := Lies w 4 v l.length (l.flatMap cells4)
theorem Inss.step {w w' : World} {v : Value} {l : List Ins} (h : Inss w v l) (k : Below w.heap.size w w') : Inss w' v l := Lies.step h k
theorem flat4 : ∀ (l : List Ins) (i : Nat) (h : i < l.length), (l.flatMap cells4)[i * 4]? = some (.int .i64 (l[i]'h).o) ∧ (l.flatMap cells4)[i * 4 + 1]? = some (.int .i64 (l[i]'h).d) ∧ (l.flatMap cells4)[i * 4 + 2]? = some (.int .i64 (l[i]'h).s) ∧ (l.flatMap cells4)[i * 4 + 3]? = some (.int .i64 (l[i]'h).m)
  | [], i, h => by simp at h
  | x :: l, 0, h => by simp [cells4]
  | x :: l, i + 1, h => by
    have ih := flat4 l i (by simpa using h)
    have e : ∀ j, ((x :: l).flatMap cells4)[(i + 1) * 4 + j]? = (l.flatMap cells4)[i * 4 + j]? := by
      intro j
      rw [List.flatMap_cons, List.getElem?_append_right (by simp [cells4]; omega)]
      congr 1
      simp [cells4]; omega
    have e0 := e 0
    rw [Nat.add_zero, Nat.add_zero] at e0
    rw [e0, e 1, e 2, e 3]
    simpa using ih
theorem Inss.at {w : World} {v : Value} {l : List Ins} (h : Inss w v l) : ∃ ao cap, v = .slice ao l.length cap ∧ l.length ≤ maxLen ∧ (l ≠ [] → ∃ b off, ao = some ⟨b, off, none⟩ ∧ b < w.heap.size ∧ ∀ j (hj : j < l.length), w.cell? ⟨b, off + j * 4, none⟩ = some (.int .i64 (l[j]'hj).o) ∧ w.cell? ⟨b, off + j * 4 + 1, none⟩ = some (.int .i64 (l[j]'hj).d) ∧ w.cell? ⟨b, off + j * 4 + 2, none⟩ = some (.int .i64 (l[j]'hj).s) ∧ w.cell? ⟨b, off + j * 4 + 3, none⟩ = some (.int .i64 (l[j]'hj).m)) := by
  obtain ⟨_, ao, cap, rfl, h3, h4, _, h5⟩ := h
  refine ⟨ao, cap, rfl, Nat.le_trans h3 h4, fun hn => ?_⟩
  obtain ⟨b, off, rfl, hb, hc⟩ := h5 (by intro h; exact hn (List.eq_nil_of_length_eq_zero h))
  refine ⟨b, off, rfl, hb, fun j hj => ?_⟩
  have f := flat4 l j hj
  refine ⟨?_, ?_, ?_, ?_⟩
  · rw [hc (j * 4) (by omega)]; exact f.1
  · rw [Nat.add_assoc, hc (j * 4 + 1) (by omega)]; exact f.2.1
  · rw [Nat.add_assoc, hc (j * 4 + 2) (by omega)]; exact f.2.2.1
  · rw [Nat.add_assoc, hc (j * 4 + 3) (by omega)]; exact f.2.2.2

theorem own_two {w : World} {B : Nat} {v : Value} {xs ys : List Int} {n : Nat} {cs : List Value} (h : w.ownsRow B 3 1 v n cs) (e : cs = (xs ++ ys).map int1) : w.ownsRow B 3 1 v (xs ++ ys).length ((xs ++ ys).map int1) := by
  have hn : n = (xs ++ ys).length := by have := h.1; rw [e] at this; simp at this ⊢; omega
  rw [← e, ← hn]; exact h

set_option maxHeartbeats 1000000 in
theorem aw_ok (i : Ins) (v : Value) (xs : List Int) (B : Nat) (w : World) (h : wrg i = 0) (hown : w.ownsRow B 3 1 v xs.length (xs.map int1)) (hl : xs.length ≤ 65536) (hB : B ≤ w.heap.size) :
    Calls Try.prog 55 #[v, agg i] w fun e w' => ∃ v', e = .returned v' ∧ w'.ownsRow B 3 1 v' (xs ++ ws i).length ((xs ++ ws i).map int1) ∧ Below B w w' := by
  obtain ⟨i0, hi, hz0, hz1, hz2⟩ := info_parts Try.infoInt
  have H := hideI h
  have HO := hideI hown
  clear h hown
  have FI := fun w => first_ok i w (unhideI H)
  by_cases hm : hI i.o = true
  · have hws : Hid (ws i = [fst i, i.m]) := by show ws i = _; unfold ws; rw [if_pos hm]
    obtain ⟨o, d, s, m⟩ := i
    generalize fst ⟨o, d, s, m⟩ = q at *
    generalize ws ⟨o, d, s, m⟩ = W at *
    unfold agg fag at *
    dsimp only at *
    rw [hm] at FI
    go_enter Try.func55, Try.ntmps55
    go_wp2_with (first | (go_at_call 36; refine (fo_any _ _).mono ?_; rintro e w1 ⟨rfl, k1⟩; unfold fo; obtain ⟨hcl, hf⟩ := bcell k1; have hlt := lt1 k1) | (go_at_call 39; refine (FI _).mono ?_; rintro e w2 ⟨rfl, k2⟩; obtain ⟨hcl2, hf2⟩ := bcell k2; have hlt2 := lt1 k2; have hlt3 : w.heap.size < w2.heap.size := (by omega); have kk := hideI (bt (bt (bt ((Below.refl _ _).alloc (Nat.le_refl _) _) k1) ((Below.refl _ _).alloc (Nat.le_refl _) _)) k2)) | (at_builtin; refine wpList_append_own _ rfl (.tmp 13) (.tmp 17) 22 rfl B 3 i0 (.int .i64 0) 1 8 Try.underlying22 hi hz0 hz1 hz2 rfl (by decide) _ _ _ rfl ((own_step (unhideI HO) (unhideI kk)).alloc _) ⟨_, 0, none⟩ 1 1 [.int .i64 q] rfl rfl (one_c1 _ _ _) (one_c2 _ _) (by unfold maxLen; omega) (by omega) (by simp; omega) ?_; intro v3 w3 own3 grow3 _; obtain ⟨hc3, hf3⟩ := own_else (unhideI HO) grow3; have c3a := hc3 w1.heap.size 2 (by omega) (by simp; omega); have c3b := hc3 w.heap.size 3 (Nat.le_refl _) (by simp; omega); clear hc3 hf3; have b3 := hideI (below_own ((unhideI kk).mono hB |>.alloc (by omega) _) (by simp; omega) ((own_step (unhideI HO) (unhideI kk)).alloc _) grow3); have sz3 : w2.heap.size < w3.heap.size := (by have := grow3.size; simp at this; omega); have O3 := hideI own3; clear own3 grow3) | (at_builtin; refine wpList_append_own _ rfl (.tmp 21) (.tmp 24) 22 rfl B 3 i0 (.int .i64 0) 1 8 Try.underlying22 hi hz0 hz1 hz2 rfl (by decide) _ _ _ rfl ((unhideI O3).alloc _) ⟨_, 0, none⟩ 1 1 [.int .i64 m] rfl rfl (one_c1 _ _ _) (one_c2 _ _) (by unfold maxLen; omega) (by omega) (by simp; omega) ?_; intro v4 w4 own4 grow4 _; have b4 := hideI (below_own ((unhideI b3).alloc (by omega) _) (by simp; omega) ((unhideI O3).alloc _) grow4); have O4 := hideI own4; clear own4 grow4))
    go_ret
    refine ⟨_, rfl, own_two (unhideI O4) ?_, unhideI b4⟩
    rw [unhideI hws]; simp [int1]
  · have hm' : hI i.o = false := by simpa using hm
    clear hm
    have hws : Hid (ws i = [fst i]) := by show ws i = _; unfold ws; rw [if_neg (by simp [hm'])]
    obtain ⟨o, d, s, m⟩ := i
    generalize fst ⟨o, d, s, m⟩ = q at *
    generalize ws ⟨o, d, s, m⟩ = W at *
    unfold agg fag at *
    dsimp only at *
    rw [hm'] at FI
    go_enter Try.func55, Try.ntmps55
    go_wp2_with (first | (go_at_call 36; refine (fo_any _ _).mono ?_; rintro e w1 ⟨rfl, k1⟩; unfold fo; obtain ⟨hcl, hf⟩ := bcell k1; have hlt := lt1 k1) | (go_at_call 39; refine (FI _).mono ?_; rintro e w2 ⟨rfl, k2⟩; obtain ⟨hcl2, hf2⟩ := bcell k2; have hlt2 := lt1 k2; have hlt3 : w.heap.size < w2.heap.size := (by omega); have kk := hideI (bt (bt (bt ((Below.refl _ _).alloc (Nat.le_refl _) _) k1) ((Below.refl _ _).alloc (Nat.le_refl _) _)) k2)) | (at_builtin; refine wpList_append_own _ rfl (.tmp 13) (.tmp 17) 22 rfl B 3 i0 (.int .i64 0) 1 8 Try.underlying22 hi hz0 hz1 hz2 rfl (by decide) _ _ _ rfl ((own_step (unhideI HO) (unhideI kk)).alloc _) ⟨_, 0, none⟩ 1 1 [.int .i64 q] rfl rfl (one_c1 _ _ _) (one_c2 _ _) (by unfold maxLen; omega) (by omega) (by simp; omega) ?_; intro v3 w3 own3 grow3 _; obtain ⟨hc3, hf3⟩ := own_else (unhideI HO) grow3; have c3a := hc3 w1.heap.size 2 (by omega) (by simp; omega); have c3b := hc3 w.heap.size 3 (Nat.le_refl _) (by simp; omega); clear hc3 hf3; have b3 := hideI (below_own ((unhideI kk).mono hB |>.alloc (by omega) _) (by simp; omega) ((own_step (unhideI HO) (unhideI kk)).alloc _) grow3); have O3 := hideI own3; clear own3 grow3))
    go_ret
    refine ⟨_, rfl, own_two (unhideI O3) ?_, unhideI b3⟩
    rw [unhideI hws]; simp [int1]
end Go.Proofs.Ytjlbenbfmookoaa
