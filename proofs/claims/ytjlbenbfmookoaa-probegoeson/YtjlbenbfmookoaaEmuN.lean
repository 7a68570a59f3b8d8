/-
  Code without jumps, step by step: plain numbers, no program in sight.
-/
import Derived.Test.YtjlbenbfmookoaaEmuL
namespace Go.Proofs.Ytjlbenbfmookoaa
open Go.RowKit
set_option linter.unusedSimpArgs false
set_option linter.unusedVariables false

theorem one_at (pre post : List Ins) (i : Ins) (h : wrg i = 0) : oneA ((pre ++ i :: post).flatMap ws) ((pre.flatMap ws).length : Int) = (bare i, lng i.o) := by
  unfold oneA
  rw [if_pos (by omega), Int.toNat_natCast, List.flatMap_append, List.flatMap_cons, List.drop_left]
  exact one_ws i _ h
/-- An instruction, done where it stands. -/
def Ma.did (bs : List Int) (m : Ma) (i : Ins) : Ma := ({ m with took := m.took + 1, pc := m.pc + lng i.o } : Ma).act (bare i) bs
theorem step_at (bs : List Int) (pre post : List Ins) (i : Ins) (m : Ma) (h : wrg i = 0) (hl : ((pre ++ i :: post).flatMap ws).length ≤ 65535) (hp : m.pc = ((pre.flatMap ws).length : Nat)) (hh : (m.did bs i).how = 0) :
    m.step ((pre ++ i :: post).flatMap ws) bs = m.did bs i := by
  have hl2 : (pre.flatMap ws).length + (ws i).length ≤ 65535 := by
    rw [List.flatMap_append, List.flatMap_cons, List.length_append, List.length_append] at hl; omega
  have hw := ws_len i
  unfold Ma.step
  rw [hp, one_at pre post i h]
  dsimp only
  rw [if_neg (lng_ne _)]
  have e : lw (((pre.flatMap ws).length : Nat) + lng i.o) = m.pc + lng i.o := by
    unfold lw; rw [hp]; omega
  rw [e]
  unfold Ma.did at hh ⊢
  rw [if_pos hh]
theorem ite_keeps {P : Ma → Prop} {c : Prop} [Decidable c] {a b : Ma} (h1 : c → P a) (h2 : ¬ c → P b) : P (if c then a else b) := by
  by_cases h : c
  · rw [if_pos h]; exact h1 h
  · rw [if_neg h]; exact h2 h
def calm (o : Int) : Bool := decide ((1 ≤ o ∧ o ≤ 18) ∨ o = 28 ∨ o = 29 ∨ o = 30)
theorem act_calm (m : Ma) (i : Ins) (bs : List Int) (h : calm i.o = true) (ho : m.out.length < 65536) : (m.act i bs).how = m.how ∧ (m.act i bs).pc = m.pc ∧ (m.act i bs).out.length ≤ m.out.length + 1 ∧ (m.act i bs).trap = m.trap ∧ (m.act i bs).rd = m.rd := by
  have T : (m.tell (m.reg i.s)).how = m.how ∧ (m.tell (m.reg i.s)).pc = m.pc ∧ (m.tell (m.reg i.s)).out.length ≤ m.out.length + 1 ∧ (m.tell (m.reg i.s)).trap = m.trap ∧ (m.tell (m.reg i.s)).rd = m.rd := by
    unfold Ma.tell; rw [if_neg (by omega)]; simp
  unfold calm at h
  simp only [decide_eq_true_eq] at h
  have h0 : ¬ i.o = 0 := by omega
  unfold Ma.act
  rw [if_neg h0]
  generalize m.tell (m.reg i.s) = t at *
  have P : ∀ m' : Ma, m'.how = m.how → m'.pc = m.pc → m'.out = m.out → m'.trap = m.trap → m'.rd = m.rd → (m'.how = m.how ∧ m'.pc = m.pc ∧ m'.out.length ≤ m.out.length + 1 ∧ m'.trap = m.trap ∧ m'.rd = m.rd) := fun m' a b c d e => ⟨a, b, by rw [c]; omega, d, e⟩
  repeat' refine ite_keeps (P := fun m' : Ma => m'.how = m.how ∧ m'.pc = m.pc ∧ m'.out.length ≤ m.out.length + 1 ∧ m'.trap = m.trap ∧ m'.rd = m.rd) (fun _ => ?_) (fun _ => ?_)
  all_goals first | exact P _ rfl rfl rfl rfl rfl | exact T | (exfalso; omega)
theorem did_calm (bs : List Int) (m : Ma) (i : Ins) (h : calm i.o = true) (ho : m.out.length < 65536) : (m.did bs i).how = m.how ∧ (m.did bs i).pc = m.pc + lng i.o ∧ (m.did bs i).out.length ≤ m.out.length + 1 ∧ (m.did bs i).trap = m.trap ∧ (m.did bs i).rd = m.rd := by
  have := act_calm ({ m with took := m.took + 1, pc := m.pc + lng i.o } : Ma) (bare i) bs h ho
  exact this
/-- All of them, one behind the other. -/
def Ma.line (bs : List Int) (m : Ma) (l : List Ins) : Ma := l.foldl (fun m i => m.did bs i) m
theorem line_nil (bs : List Int) (m : Ma) : m.line bs [] = m := rfl
theorem line_cons (bs : List Int) (m : Ma) (i : Ins) (l : List Ins) : m.line bs (i :: l) = (m.did bs i).line bs l := rfl
theorem line_append (bs : List Int) (m : Ma) (l k : List Ins) : m.line bs (l ++ k) = (m.line bs l).line bs k := by unfold Ma.line; rw [List.foldl_append]
theorem line_calm (bs : List Int) : ∀ (l : List Ins) (m : Ma), (∀ i ∈ l, calm i.o = true) → m.out.length + l.length ≤ 65536 → (m.line bs l).how = m.how ∧ (m.line bs l).pc = m.pc + ((l.flatMap ws).length : Nat)
  | [], m, _, _ => ⟨rfl, by simp [line_nil]⟩
  | i :: l, m, hc, ho => by
    obtain ⟨h1, h2, h3, _⟩ := did_calm bs m i (hc i (by simp)) (by simp at ho; omega)
    obtain ⟨g1, g2⟩ := line_calm bs l (m.did bs i) (fun j hj => hc j (by simp [hj])) (by simp at ho; omega)
    have hw := ws_len i
    rw [line_cons]
    exact ⟨g1.trans h1, by rw [g2, h2, List.flatMap_cons, List.length_append]; omega⟩
theorem line_run (bs : List Int) : ∀ (post pre : List Ins) (k : Nat) (m : Ma) (last : List Ins), ((pre ++ (post ++ last)).flatMap ws).length ≤ 65535 → (∀ i ∈ post, wrg i = 0) → (∀ i ∈ post, calm i.o = true) → m.out.length + post.length ≤ 65536 → m.how = 0 → m.pc = ((pre.flatMap ws).length : Nat) →
    Ma.run ((pre ++ (post ++ last)).flatMap ws) bs (post.length + k) m = Ma.run ((pre ++ (post ++ last)).flatMap ws) bs k (m.line bs post)
  | [], pre, k, m, last, hl, hw, hc, ho, hh, hp => by rw [line_nil, List.length_nil, Nat.zero_add]
  | i :: post, pre, k, m, last, hl, hw, hc, ho, hh, hp => by
    obtain ⟨h1, h2, h3, _⟩ := did_calm bs m i (hc i (by simp)) (by simp at ho; omega)
    have hi := hw i (by simp)
    have hwl := ws_len i
    have e : (i :: post).length + k = (post.length + k) + 1 := by simp; omega
    have e2 : pre ++ (i :: post ++ last) = pre ++ i :: (post ++ last) := rfl
    have e3 : pre ++ i :: (post ++ last) = (pre ++ [i]) ++ (post ++ last) := by simp
    rw [e, Ma.run, if_pos hh, e2, step_at bs pre (post ++ last) i m hi (by rw [← e2]; exact hl) hp (h1.trans hh), line_cons, e3]
    refine line_run bs post (pre ++ [i]) k (m.did bs i) last (by rw [← e3, ← e2]; exact hl) (fun j hj => hw j (by simp [hj])) (fun j hj => hc j (by simp [hj])) (by simp at ho; omega) (h1.trans hh) ?_
    rw [h2, hp, List.flatMap_append, List.length_append]
    simp only [List.flatMap_cons, List.flatMap_nil, List.append_nil]
    omega
def haltI : Ins := ⟨0, 0, 0, 0⟩
theorem line_halt (bs : List Int) (l : List Ins) (k : Nat) (m : Ma) (hl : ((l ++ [haltI]).flatMap ws).length ≤ 65535) (hw : ∀ i ∈ l, wrg i = 0) (hc : ∀ i ∈ l, calm i.o = true) (ho : m.out.length + l.length ≤ 65536) (hh : m.how = 0) (hp : m.pc = 0) :
    Ma.run ((l ++ [haltI]).flatMap ws) bs (l.length + (k + 1)) m = { m.line bs l with how := 1, took := (m.line bs l).took + 1 } := by
  have r := line_run bs l [] (k + 1) m [haltI] (by simpa using hl) hw hc ho hh (by rw [hp]; rfl)
  rw [List.nil_append] at r
  rw [r]
  obtain ⟨g1, g2⟩ := line_calm bs l m hc ho
  have hp2 : (m.line bs l).pc = ((l.flatMap ws).length : Nat) := by rw [g2, hp]; omega
  rw [Ma.run, if_pos (g1.trans hh)]
  have s : (m.line bs l).step ((l ++ [haltI]).flatMap ws) bs = { m.line bs l with how := 1, took := (m.line bs l).took + 1 } := by
    unfold Ma.step
    have o := one_at l [] haltI (by decide)
    rw [← hp2] at o
    rw [o]
    dsimp only
    rw [if_neg (lng_ne _)]
    have a : ∀ m' : Ma, m'.act (bare haltI) bs = { m' with how := 1 } := fun m' => by unfold Ma.act; rw [if_pos (show (bare haltI).o = 0 from rfl)]
    rw [a]
    dsimp only
    rw [if_neg (by decide)]
  rw [s, run_end _ _ _ _ (by show ¬ (1 : Int) = 0; decide)]
theorem enc_at : ∀ (l : List Ins) (k : Nat) (acc : List Int), (enc l k acc).2.1 = 0 → (enc l k acc).2.2 = 0 := by
  intro l
  induction l with
  | nil => intro k acc _; rfl
  | cons i l ih =>
    intro k acc h
    by_cases a : wrg i = 0
    · by_cases b : (acc ++ ws i).length ≤ 65536
      · rw [enc_next a b] at h ⊢; exact ih _ _ h
      · rw [enc_much a (by omega)] at h; simp at h
    · rw [enc_bad a] at h; exact absurd h a
theorem enc_right (l : List Ins) (hw : ∀ i ∈ l, wrg i = 0) (hl : (l.flatMap ws).length ≤ 65536) : encA l = (l.flatMap ws, 0, 0) := by
  unfold encA
  have a := (enc_ok l 0 [] (by simp)).2 ⟨hw, by simpa using hl⟩
  have b := enc_words l 0 [] a
  have c := enc_at l 0 [] a
  rw [List.nil_append] at b
  exact Prod.ext b (Prod.ext a c)
/-- What the helper's machine comes to. -/
def endM (m : Ma) : Ma := { m with how := 1, took := m.took + 1 }
theorem enc_halt (l : List Ins) (hw : ∀ i ∈ l, wrg i = 0) (hn : l.length ≤ 900) : encA (l ++ [haltI]) = ((l ++ [haltI]).flatMap ws, 0, 0) ∧ ((l ++ [haltI]).flatMap ws).length ≤ 65535 := by
  have hb : ∀ k : List Ins, (k.flatMap ws).length ≤ 2 * k.length := fun k => by
    induction k with
    | nil => simp
    | cons i k ih => have := ws_len2 i; rw [List.flatMap_cons, List.length_append, List.length_cons]; omega
  have h1 := hb (l ++ [haltI])
  rw [List.length_append] at h1
  simp only [List.length_cons, List.length_nil] at h1
  refine ⟨enc_right _ (fun i hi => ?_) (by omega), by omega⟩
  rcases List.mem_append.1 hi with h | h
  · exact hw i h
  · simp at h; subst h; decide
theorem run_line (l : List Ins) (s : St) (hw : ∀ i ∈ l, wrg i = 0) (hc : ∀ i ∈ l, calm i.o = true) (hn : l.length ≤ 900) (hs : s.wrong = 0) (hp : s.pc = 0) :
    runA ((l ++ [haltI]).flatMap ws) s [] 1000 = (endM ((startM s).line [] l), 0) := by
  obtain ⟨_, h2⟩ := enc_halt l hw hn
  unfold runA
  rw [if_neg (by omega), if_neg (by simp), if_pos hs, if_neg (by decide), if_neg (by decide)]
  have e : (1000 : Int).toNat = l.length + ((999 - l.length) + 1) := by
    show 1000 = _; omega
  rw [e, line_halt [] l _ (startM s) h2 hw hc (by simp [startM]; omega) rfl hp]
  rfl
theorem lastN_over (f : Nat → Int) : ∀ n k, lastN f n ≤ k → k < n → f k = 0
  | 0, k, _, h => by omega
  | n + 1, k, h, h2 => by
    unfold lastN at h
    split at h
    · rename_i hz
      by_cases e : k = n
      · subst e; exact hz
      · exact lastN_over f n k h (by omega)
    · omega
theorem memL_len (f : Nat → Int) : (memL f).length = lastN f 65536 := by unfold memL; simp
theorem memL_at (f : Nat → Int) (k : Nat) (h : k < (memL f).length) : (memL f)[k] = f k := by
  have e : (memL f)[k]? = some (f k) := by
    have hk := h
    rw [memL_len] at hk
    unfold memL
    rw [List.getElem?_map, List.getElem?_range hk]; rfl
  rw [List.getElem?_eq_getElem h] at e
  exact Option.some.inj e
theorem memL_get (f : Nat → Int) (k : Nat) (h : k < 65536) : (memL f).getD k 0 = f k := by
  rw [List.getD_eq_getElem?_getD]
  by_cases hk : k < (memL f).length
  · rw [List.getElem?_eq_getElem hk, memL_at]; rfl
  · rw [List.getElem?_eq_none (by omega)]
    rw [memL_len] at hk
    exact (lastN_over f 65536 k (by omega) h).symm
end Go.Proofs.Ytjlbenbfmookoaa
