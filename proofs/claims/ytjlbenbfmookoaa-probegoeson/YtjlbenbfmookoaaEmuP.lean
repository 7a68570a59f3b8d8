/-
  A run that is cut: what comes behind, told from its own beginning.
-/
import Derived.Test.YtjlbenbfmookoaaEmuN
namespace Go.Proofs.Ytjlbenbfmookoaa
open Go.RowKit
set_option linter.unusedSimpArgs false
set_option linter.unusedVariables false

/-- A machine with what was told, read and taken ahead of it. -/
def Ma.shift (o : List Int) (R : Nat) (T : Int) (m : Ma) : Ma := { m with out := o ++ m.out, rd := R + m.rd, took := T + m.took }
theorem shift_jump (o : List Int) (R : Nat) (T : Int) (m : Ma) (b : Bool) (x : Int) : (m.shift o R T).jump b x = (m.jump b x).shift o R T := by
  unfold Ma.jump; split <;> rfl
theorem shift_tell (o : List Int) (R : Nat) (T : Int) (m : Ma) (x : Int) (ht : m.out.length = 65536 ↔ o.length + m.out.length = 65536) : (m.shift o R T).tell x = (m.tell x).shift o R T := by
  unfold Ma.tell
  by_cases h : m.out.length = 65536
  · rw [if_pos h, if_pos (by show (o ++ m.out).length = 65536; rw [List.length_append]; exact ht.1 h)]; rfl
  · rw [if_neg h, if_neg (by show ¬ (o ++ m.out).length = 65536; rw [List.length_append]; exact fun k => h (ht.2 k))]
    unfold Ma.shift
    simp
theorem shift_take (o : List Int) (R : Nat) (T : Int) (m : Ma) (bs : List Int) (d : Int) (hR : R ≤ bs.length) : ((m.shift o R T).take bs).setR d ((m.shift o R T).took1 bs) = ((m.take (bs.drop R)).setR d (m.took1 (bs.drop R))).shift o R T := by
  have e : (R + m.rd = bs.length) ↔ (m.rd = (bs.drop R).length) := by rw [List.length_drop]; omega
  unfold Ma.take Ma.took1
  by_cases h : m.rd = (bs.drop R).length
  · rw [if_pos h, if_pos h, if_pos (show (m.shift o R T).rd = bs.length from e.2 h), if_pos (show (m.shift o R T).rd = bs.length from e.2 h)]; rfl
  · rw [if_neg h, if_neg h, if_neg (show ¬ (m.shift o R T).rd = bs.length from fun k => h (e.1 k)), if_neg (show ¬ (m.shift o R T).rd = bs.length from fun k => h (e.1 k))]
    have g : bs.getD (m.shift o R T).rd 0 = (bs.drop R).getD m.rd 0 := by
      rw [List.getD_eq_getElem?_getD, List.getD_eq_getElem?_getD, List.getElem?_drop]; rfl
    rw [g]
    unfold Ma.shift Ma.setR
    simp [Nat.add_assoc]
theorem ite_two {f : Ma → Ma} {c : Prop} [Decidable c] {a b a' b' : Ma} (h1 : c → a = f a') (h2 : ¬ c → b = f b') : (if c then a else b) = f (if c then a' else b') := by
  by_cases h : c
  · rw [if_pos h, if_pos h]; exact h1 h
  · rw [if_neg h, if_neg h]; exact h2 h
theorem shift_act (o : List Int) (R : Nat) (T : Int) (m : Ma) (i : Ins) (bs : List Int) (hR : R ≤ bs.length) (ht : i.o = 30 → (m.out.length = 65536 ↔ o.length + m.out.length = 65536)) :
    (m.shift o R T).act i bs = (m.act i (bs.drop R)).shift o R T := by
  have J := shift_jump o R T m (m.jumps i.o) i.m
  have K := shift_take o R T m bs i.d hR
  have TL := fun h => shift_tell o R T m (m.reg i.s) (ht h)
  have e1 : (m.shift o R T).jumps i.o = m.jumps i.o := rfl
  have e2 : (m.shift o R T).reg i.s = m.reg i.s := rfl
  unfold Ma.act
  rw [e1, e2]
  clear e1 e2
  generalize (m.shift o R T).jump (m.jumps i.o) i.m = j1 at *
  generalize m.jump (m.jumps i.o) i.m = j2 at *
  generalize (m.shift o R T).tell (m.reg i.s) = t1 at *
  generalize m.tell (m.reg i.s) = t2 at *
  repeat' refine ite_two (f := Ma.shift o R T) (fun _ => ?_) (fun _ => ?_)
  all_goals first | rfl | exact J | exact K | (exact TL (by assumption))
theorem shift_step (o : List Int) (R : Nat) (T : Int) (m : Ma) (xs bs : List Int) (hR : R ≤ bs.length) (ht : (oneA xs m.pc).1.o = 30 → ¬ (oneA xs m.pc).2 = 0 → (m.out.length = 65536 ↔ o.length + m.out.length = 65536)) :
    (m.shift o R T).step xs bs = (m.step xs (bs.drop R)).shift o R T := by
  unfold Ma.step
  have hp : (m.shift o R T).pc = m.pc := rfl
  rw [hp]
  by_cases h0 : (oneA xs m.pc).2 = 0
  · rw [if_pos h0, if_pos h0]; unfold Ma.shift; simp [Int.add_assoc]
  · rw [if_neg h0, if_neg h0]
    have e : ({ m.shift o R T with took := (m.shift o R T).took + 1, pc := lw (m.pc + (oneA xs m.pc).2) } : Ma) = ({ m with took := m.took + 1, pc := lw (m.pc + (oneA xs m.pc).2) } : Ma).shift o R T := by
      unfold Ma.shift; simp [Int.add_assoc]
    rw [e, shift_act o R T ({ m with took := m.took + 1, pc := lw (m.pc + (oneA xs m.pc).2) } : Ma) _ bs hR (fun h => ht h h0)]
    dsimp only
    generalize ({ m with took := m.took + 1, pc := lw (m.pc + (oneA xs m.pc).2) } : Ma).act (oneA xs m.pc).1 (bs.drop R) = m2
    have hh : (m2.shift o R T).how = m2.how := rfl
    rw [hh]
    split <;> rfl
theorem step_tell (m : Ma) (xs bs : List Int) (h : (oneA xs m.pc).1.o = 30) (h0 : ¬ (oneA xs m.pc).2 = 0) (hn : ¬ m.out.length = 65536) : (m.step xs bs).out.length = m.out.length + 1 := by
  unfold Ma.step
  rw [if_neg h0]
  have e : ∀ m' : Ma, m'.out = m.out → (m'.act (oneA xs m.pc).1 bs).out.length = m.out.length + 1 := by
    intro m' hm
    unfold Ma.act
    rw [h]
    simp [Ma.tell, hm, hn]
  dsimp only
  split
  · exact e _ rfl
  · exact e _ rfl
theorem shift_run (o : List Int) (R : Nat) (T : Int) (xs bs : List Int) (hR : R ≤ bs.length) : ∀ (k : Nat) (m : Ma), o.length + (Ma.run xs (bs.drop R) k m).out.length ≤ 65536 → Ma.run xs bs k (m.shift o R T) = (Ma.run xs (bs.drop R) k m).shift o R T
  | 0, m, _ => by
    unfold Ma.run
    have hh : (m.shift o R T).how = m.how := rfl
    rw [hh]
    split <;> rfl
  | k + 1, m, h => by
    have hh : (m.shift o R T).how = m.how := rfl
    by_cases h0 : m.how = 0
    · rw [Ma.run, if_pos (hh.trans h0)]
      rw [Ma.run, if_pos h0] at h ⊢
      obtain ⟨⟨t, g⟩, _⟩ := run_mono xs (bs.drop R) k (m.step xs (bs.drop R))
      obtain ⟨⟨u, f⟩, _⟩ := step_out m xs (bs.drop R)
      have g' := congrArg List.length g
      have f' := congrArg List.length f
      rw [List.length_append] at g' f'
      rw [shift_step o R T m xs bs hR fun i30 n0 => ?_]
      · exact shift_run o R T xs bs hR k _ h
      · constructor
        · intro e; omega
        · intro e
          by_cases hx : m.out.length = 65536
          · exact hx
          · have := step_tell m xs (bs.drop R) i30 n0 hx
            omega
    · rw [run_end _ _ _ _ h0, run_end _ _ _ _ (by rw [hh]; exact h0)]

theorem act_mem (m : Ma) (i : Ins) (bs : List Int) (j : Nat) (hj : 65536 ≤ j) : (m.act i bs).mem j = m.mem j := by
  have S : ∀ (f : Nat → Int) (a x : Int), upd f (lw a).toNat x j = f j := fun f a x => upd_other _ _ _ _ (by have := lw_b a; omega)
  have T1 : (m.tell (m.reg i.s)).mem j = m.mem j := by unfold Ma.tell; split <;> rfl
  have T2 : ((m.take bs).setR i.d (m.took1 bs)).mem j = m.mem j := by unfold Ma.take; split <;> rfl
  have T3 : (m.jump (m.jumps i.o) i.m).mem j = m.mem j := by unfold Ma.jump; split <;> rfl
  unfold Ma.act
  generalize m.tell (m.reg i.s) = t1 at *
  generalize (m.take bs).setR i.d (m.took1 bs) = t2 at *
  generalize m.jump (m.jumps i.o) i.m = t3 at *
  repeat' refine ite_keeps (P := fun m' : Ma => m'.mem j = m.mem j) (fun _ => ?_) (fun _ => ?_)
  all_goals first | rfl | exact T1 | exact T2 | exact T3 | exact S _ _ _
theorem act_trap (m : Ma) (i : Ins) (bs : List Int) (h : (m.act i bs).how = 0) : (m.act i bs).trap = m.trap := by
  revert h
  refine act_keep (fun m' => m'.how = 0 → m'.trap = m.trap) m i bs (fun m' _ h _ _ _ => h) (fun h => by simp at h) (fun h => by simp at h) ?_ ?_
  · intro _; unfold Ma.tell; split <;> rfl
  · intro _; show (m.take bs).trap = m.trap; unfold Ma.take; split <;> rfl
theorem run_keeps (xs bs : List Int) : ∀ (k : Nat) (m : Ma), m.how = 0 → m.trap = 0 → (∀ j, 65536 ≤ j → m.mem j = 0) → (∀ j, 65536 ≤ j → (Ma.run xs bs k m).mem j = 0) ∧ ((Ma.run xs bs k m).how = 3 → (Ma.run xs bs k m).trap = 0)
  | 0, m, h, ht, hm => by unfold Ma.run; rw [if_pos h]; exact ⟨hm, fun _ => ht⟩
  | k + 1, m, h, ht, hm => by
    rw [Ma.run, if_pos h]
    have sm : ∀ j, 65536 ≤ j → (m.step xs bs).mem j = 0 := by
      intro j hj
      unfold Ma.step
      split
      · exact hm j hj
      · dsimp only
        split
        · rw [act_mem _ _ _ _ hj]; exact hm j hj
        · show (Ma.act _ _ _).mem j = 0
          rw [act_mem _ _ _ _ hj]; exact hm j hj
    by_cases hs : (m.step xs bs).how = 0
    · refine run_keeps xs bs k _ hs ?_ sm
      unfold Ma.step at hs ⊢
      split
      · exact ht
      · rename_i n0
        rw [if_neg n0] at hs
        dsimp only at hs ⊢
        split
        · rename_i hz
          rw [act_trap _ _ _ hz]; exact ht
        · rename_i hz
          rw [if_neg hz] at hs
          exact absurd hs hz
    · rw [run_end _ _ _ _ hs]
      exact ⟨sm, fun h3 => absurd h3 (step_how m xs bs h)⟩

/-- The state that is left. -/
def Ma.left (m : Ma) : St := ⟨m.r, m.c, m.z, m.n, m.v, m.pc, memL m.mem⟩
theorem memL_le (f : Nat → Int) : (memL f).length ≤ 65536 := by rw [memL_len]; exact lastN_le f 65536
theorem left_right (m : Ma) (bs : List Int) (h : m.Fine bs) : m.left.wrong = 0 := by
  have W : ∀ {x : Int}, wd x → isw x = true := fun {x} h => by unfold isw; unfold wd at h; simpa using h
  have hg : m.left.good = true := by
    unfold St.good St.regs
    have e : (memL m.mem).all isw = true := by
      rw [List.all_eq_true]
      intro x hx
      obtain ⟨k, hk, rfl⟩ := List.getElem_of_mem hx
      rw [memL_at]
      have := memL_le m.mem
      exact W (h.mem k (by omega))
    simp only [Ma.left, List.all_cons, List.all_nil, W (h.r 0 (by decide)), W (h.r 1 (by decide)), W (h.r 2 (by decide)), W (h.r 3 (by decide)), W (h.r 4 (by decide)), W (h.r 5 (by decide)), W (h.r 6 (by decide)), W (h.r 7 (by decide)), W h.pc, e, Bool.and_self]
  unfold St.wrong
  have hl : m.left.mem.length ≤ 65536 := memL_le m.mem
  rw [if_neg (by omega), if_pos hg]
theorem left_start (mk : Ma) (h0 : mk.how = 0) (ht : mk.trap = 0) (hm : ∀ j, 65536 ≤ j → mk.mem j = 0) : mk = (startM mk.left).shift mk.out mk.rd mk.took := by
  have e : (fun j => (memL mk.mem).getD j 0) = mk.mem := by
    funext j
    by_cases hj : j < 65536
    · exact memL_get mk.mem j hj
    · rw [hm j (by omega), List.getD_eq_getElem?_getD, List.getElem?_eq_none (by have := memL_le mk.mem; omega)]; rfl
  unfold startM Ma.shift Ma.left
  dsimp only
  rw [e]
  cases mk
  simp_all
/-- A run in two parts. -/
theorem split_runs (xs bs : List Int) (s : St) (F G : Int) (h0 : (runA xs s bs F).2 = 0) (h3 : (runA xs s bs F).1.how = 3) (hf : (runA xs s bs F).1.Fine bs) (hF : 0 ≤ F) (hG : 0 ≤ G) (hFG : F + G ≤ 1000000) :
    (runA xs (runA xs s bs F).1.left (bs.drop (runA xs s bs F).1.rd) G).2 = 0 ∧ (runA xs s bs (F + G)).2 = 0 ∧
    ((runA xs s bs F).1.out.length + (runA xs (runA xs s bs F).1.left (bs.drop (runA xs s bs F).1.rd) G).1.out.length ≤ 65536 →
      (runA xs s bs (F + G)).1 = (runA xs (runA xs s bs F).1.left (bs.drop (runA xs s bs F).1.rd) G).1.shift (runA xs s bs F).1.out (runA xs s bs F).1.rd (runA xs s bs F).1.took) := by
  have hw := left_right _ bs hf
  have hrd := hf.rd
  generalize hA : runA xs s bs F = A at *
  unfold runA at hA
  split at hA
  · subst hA; exact absurd h0 (by decide)
  rename_i n1
  split at hA
  · subst hA; exact absurd h0 (by decide)
  rename_i n2
  split at hA
  rotate_left
  · rename_i n3; subst hA; exact absurd h0 n3
  rename_i n3
  split at hA
  · subst hA; exact absurd h0 (by decide)
  rename_i n4
  split at hA
  · subst hA; exact absurd h0 (by decide)
  rename_i n5
  subst hA
  dsimp only at *
  have hd : (bs.drop (Ma.run xs bs F.toNat (startM s)).rd).length ≤ bs.length := by rw [List.length_drop]; omega
  have e2 : runA xs (Ma.run xs bs F.toNat (startM s)).left (bs.drop (Ma.run xs bs F.toNat (startM s)).rd) G = (Ma.run xs (bs.drop (Ma.run xs bs F.toNat (startM s)).rd) G.toNat (startM (Ma.run xs bs F.toNat (startM s)).left), 0) := by
    unfold runA
    rw [if_neg n1, if_neg (by omega), if_pos hw, if_neg (by omega), if_neg (by omega)]
  have e3 : runA xs s bs (F + G) = (Ma.run xs bs (F.toNat + G.toNat) (startM s), 0) := by
    unfold runA
    rw [if_neg n1, if_neg n2, if_pos n3, if_neg (by omega), if_neg (by omega), show (F + G).toNat = F.toNat + G.toNat by omega]
  rw [e2, e3]
  refine ⟨rfl, rfl, fun hl => ?_⟩
  dsimp only at hl ⊢
  have hs : s.mem.length ≤ 65536 := by
    unfold St.wrong at n3
    split at n3
    · omega
    · omega
  have K := run_keeps xs bs F.toNat (startM s) rfl rfl (fun j hj => by show s.mem.getD j 0 = 0; rw [List.getD_eq_getElem?_getD, List.getElem?_eq_none (by omega)]; rfl)
  rcases run_longer xs bs F.toNat (startM s) rfl with ⟨g1, _⟩ | ⟨mk, g1, g2, g3, g4⟩
  · exact absurd h3 g1
  · rw [g4]
    rw [g2] at hl hrd K ⊢
    have L := left_start mk g1 (K.2 rfl) K.1
    have hL : ({ mk with how := 3 } : Ma).left = mk.left := rfl
    rw [hL] at hl ⊢
    dsimp only at hl hrd ⊢
    conv => lhs; rw [L]
    exact shift_run mk.out mk.rd mk.took xs bs hrd G.toNat _ hl
end Go.Proofs.Ytjlbenbfmookoaa
