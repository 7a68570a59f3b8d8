/-
  What is pushed last is popped first: plain numbers, no program in sight.
-/
import Derived.Test.YtjlbenbfmookoabEmuMemoryWalk
namespace Go.Proofs.Ytjlbenbfmookoab
open Go.RowKit
set_option linter.unusedSimpArgs false
set_option linter.unusedVariables false

def push2 (x : Int) : List Ins := [⟨2, 0, 0, x⟩, ⟨28, 0, 0, 0⟩]
def pop2 : List Ins := [⟨29, 1, 0, 0⟩, ⟨30, 0, 1, 0⟩]
def pushI (l : List Int) : List Ins := l.flatMap push2
def popI : Nat → List Ins
  | 0 => []
  | n + 1 => popI n ++ pop2
def stackI (l : List Int) : List Ins := pushI l ++ popI l.length
theorem stack_cons (x : Int) (l : List Int) : stackI (x :: l) = push2 x ++ (stackI l ++ pop2) := by
  unfold stackI pushI
  rw [List.flatMap_cons, List.length_cons, popI]
  simp
theorem pushI_len (l : List Int) : (pushI l).length = 2 * l.length := by
  unfold pushI
  induction l with
  | nil => rfl
  | cons x l ih => rw [List.flatMap_cons, List.length_append, ih]; simp [push2]; omega
theorem popI_len : ∀ n, (popI n).length = 2 * n
  | 0 => rfl
  | n + 1 => by rw [popI, List.length_append, popI_len n]; simp [pop2]; omega
theorem stackI_len (l : List Int) : (stackI l).length = 4 * l.length := by unfold stackI; rw [List.length_append, pushI_len, popI_len]; omega
theorem pushI_mem {l : List Int} {i : Ins} (h : i ∈ pushI l) : (∃ x ∈ l, i = ⟨2, 0, 0, x⟩) ∨ i = ⟨28, 0, 0, 0⟩ := by
  unfold pushI at h
  obtain ⟨x, hx, hi⟩ := List.mem_flatMap.1 h
  simp only [push2, List.mem_cons, List.not_mem_nil, or_false] at hi
  rcases hi with rfl | rfl
  · exact .inl ⟨x, hx, rfl⟩
  · exact .inr rfl
theorem popI_mem {i : Ins} : ∀ {n : Nat}, i ∈ popI n → i = ⟨29, 1, 0, 0⟩ ∨ i = ⟨30, 0, 1, 0⟩
  | 0, h => by simp [popI] at h
  | n + 1, h => by
    rw [popI] at h
    rcases List.mem_append.1 h with h | h
    · exact popI_mem h
    · simpa [pop2] using h
theorem stack_right (l : List Int) (hl : ∀ x ∈ l, wd x) : (∀ i ∈ stackI l, wrg i = 0) ∧ (∀ i ∈ stackI l, calm i.o = true) := by
  refine ⟨fun i hi => ?_, fun i hi => ?_⟩
  · rcases List.mem_append.1 hi with h | h
    · rcases pushI_mem h with ⟨x, hx, rfl⟩ | rfl
      · exact wr_of (by simp) (by simp) (fun _ => by simp) (fun _ => by simp) (fun _ => hl x hx)
      · decide
    · rcases popI_mem h with rfl | rfl <;> decide
  · rcases List.mem_append.1 hi with h | h
    · rcases pushI_mem h with ⟨x, hx, rfl⟩ | rfl <;> rfl
    · rcases popI_mem h with rfl | rfl <;> rfl
theorem push_line (m : Ma) (x : Int) : (m.line [] (push2 x)).r 7 = lw (m.r 7 - 1) ∧ (m.line [] (push2 x)).out = m.out ∧ (m.line [] (push2 x)).mem = upd m.mem (lw (m.r 7 - 1)).toNat x := by
  have b1 : bare ⟨2, 0, 0, x⟩ = ⟨2, 0, 0, x⟩ := rfl
  have b2 : bare ⟨28, 0, 0, 0⟩ = ⟨28, 0, 0, 0⟩ := rfl
  unfold push2
  rw [line_cons, line_cons, line_nil]
  unfold Ma.did
  rw [b1, b2]
  refine ⟨?_, ?_, ?_⟩
  · simp [Ma.act, Ma.push, Ma.st, Ma.setR, Ma.reg, upd]
  · simp [Ma.act, Ma.push, Ma.st, Ma.setR]
  · simp [Ma.act, Ma.push, Ma.st, Ma.setR, Ma.reg, upd]
theorem pop_line (m : Ma) (ho : ¬ m.out.length = 65536) : (m.line [] pop2).r 7 = lw (m.r 7 + 1) ∧ (m.line [] pop2).out = m.out ++ [m.mem (m.r 7).toNat % 256] ∧ (m.line [] pop2).mem = m.mem ∧ (m.line [] pop2).r 1 = m.mem (m.r 7).toNat := by
  have b1 : bare ⟨29, 1, 0, 0⟩ = ⟨29, 1, 0, 0⟩ := rfl
  have b2 : bare ⟨30, 0, 1, 0⟩ = ⟨30, 0, 1, 0⟩ := rfl
  unfold pop2
  rw [line_cons, line_cons, line_nil]
  unfold Ma.did
  rw [b1, b2]
  refine ⟨?_, ?_, ?_, ?_⟩
  · simp [Ma.act, Ma.pop, Ma.tell, Ma.ld, Ma.setR, Ma.reg, upd, ho]
  · simp [Ma.act, Ma.pop, Ma.tell, Ma.ld, Ma.setR, Ma.reg, upd, ho]
  · simp [Ma.act, Ma.pop, Ma.tell, Ma.ld, Ma.setR, Ma.reg, upd, ho]
  · simp [Ma.act, Ma.pop, Ma.tell, Ma.ld, Ma.setR, Ma.reg, upd, ho]
theorem stack_line : ∀ (l : List Int) (m : Ma), l.length ≤ 100 → m.out.length + l.length ≤ 1000 → wd (m.r 7) →
    (m.line [] (stackI l)).r 7 = m.r 7 ∧ (m.line [] (stackI l)).out = m.out ++ l.reverse.map (fun x => x % 256) ∧ (∀ x r, l = x :: r → (m.line [] (stackI l)).r 1 = x) ∧ (∀ j : Nat, (∀ k : Nat, 1 ≤ k → k ≤ l.length → j ≠ (lw (m.r 7 - k)).toNat) → (m.line [] (stackI l)).mem j = m.mem j)
  | [], m, _, _, _ => ⟨rfl, by simp [stackI, pushI, popI, line_nil], (fun x r h => by cases h), fun _ _ => rfl⟩
  | x :: l, m, hl, ho, hr => by
    rw [stack_cons, line_append, line_append]
    obtain ⟨p1, p2, p3⟩ := push_line m x
    generalize m.line [] (push2 x) = m1 at *
    simp only [List.length_cons] at hl ho
    have hr' := hr
    unfold wd at hr'
    have w1 : wd (m1.r 7) := by rw [p1]; exact lw_b _
    obtain ⟨q1, q2, _, q4⟩ := stack_line l m1 (by omega) (by rw [p2]; omega) w1
    generalize m1.line [] (stackI l) = m2 at *
    have hlen : m2.out.length = m.out.length + l.length := by rw [q2, p2]; simp
    obtain ⟨r1, r2, r3, r4⟩ := pop_line m2 (by omega)
    have e1 : ∀ k : Nat, lw (m1.r 7 - k) = lw (m.r 7 - ((k + 1 : Nat) : Int)) := fun k => by rw [p1]; unfold lw; omega
    have hx : m2.mem (m2.r 7).toNat = x := by
      rw [q1, q4 (m1.r 7).toNat, p3, p1, upd_same]
      intro k hk1 hk2
      rw [p1]
      unfold lw
      omega
    refine ⟨?_, ?_, ?_, ?_⟩
    · rw [r1, q1, p1]; unfold lw; omega
    · rw [r2, hx, q2, p2]; simp
    · intro y r hy
      simp only [List.cons.injEq] at hy
      rw [r4, hx]; exact hy.1
    · intro j hj
      rw [r3, q4 j, p3, upd_other]
      · have := hj 1 (by omega) (by simp)
        simpa using this
      · intro k h1 h2
        rw [e1]
        exact hj (k + 1) (by omega) (by simp; omega)
def stackS (s : St) : St := ⟨s.r, s.c, s.z, s.n, s.v, 0, s.mem⟩
theorem stackS_wrong (s : St) (h : s.wrong = 0) : (stackS s).wrong = 0 := by
  have hg : s.mem.length ≤ 65536 ∧ s.good = true := by
    unfold St.wrong at h
    split at h
    · omega
    · split at h
      · exact ⟨by omega, by assumption⟩
      · omega
  obtain ⟨h1, h2⟩ := hg
  unfold St.good at h2
  simp only [Bool.and_eq_true] at h2
  obtain ⟨⟨a, _⟩, c⟩ := h2
  have e : (stackS s).good = true := by
    unfold St.good
    simp only [Bool.and_eq_true]
    exact ⟨⟨a, (by decide : isw 0 = true)⟩, c⟩
  unfold St.wrong
  rw [if_neg (by show ¬ 65536 < s.mem.length; omega), if_pos e]
/-- What comes of the law's program. -/
theorem stack_end (l : List Int) (s : St) (hl : l.length ≤ 100) (hs : s.wrong = 0) :
    (endM ((startM (stackS s)).line [] (stackI l))).r 7 = s.r 7 ∧ (endM ((startM (stackS s)).line [] (stackI l))).out = l.reverse.map (fun x => x % 256) ∧ (∀ x r, l = x :: r → (endM ((startM (stackS s)).line [] (stackI l))).r 1 = x) := by
  have hw : wd (s.r 7) := by
    unfold St.wrong at hs
    split at hs
    · omega
    · split at hs
      · rename_i g
        unfold St.good St.regs at g
        simp only [List.all_cons, List.all_nil, Bool.and_eq_true, Bool.and_true] at g
        exact isw_yes g.1.1.2.2.2.2.2.2.2
      · omega
  obtain ⟨h1, h2, h3, _⟩ := stack_line l (startM (stackS s)) hl (by simp [startM]; omega) hw
  exact ⟨h1, by show ((startM (stackS s)).line [] (stackI l)).out = _; rw [h2]; rfl, h3⟩
theorem new_c1 (u : World) (cs : Array Value) (T : TypeId) (B : Nat) (hB : B = u.heap.size) : ∀ j x, cs.toList[j]? = some x → (u.alloc (.cells cs T)).cell? ((⟨B, 0, none⟩ : Addr).add j) = some x := by
  subst hB
  intro j x hj
  have h : cs[j]? = some x := by rw [← Array.getElem?_toList]; exact hj
  have e : (⟨u.heap.size, 0, none⟩ : Addr).add j = ⟨u.heap.size, j, none⟩ := by unfold Addr.add; split <;> simp_all
  rw [e]
  simpa [go_sem] using h
/-- Rows of two kinds lie apart. -/
theorem own_apart {w : World} {B B' e e' s s' n n' : Nat} {v v' : Value} {xs xs' : List Value} (h : w.ownsRow B e s v n xs) (h' : w.ownsRow B' e' s' v' n' xs') (hne : e ≠ e') : v.ownBlock = none ∨ v.ownBlock ≠ v'.ownBlock := by
  rcases h.2 with ⟨rfl, _⟩ | ⟨g, cap, cur, rfl, _, hg, _⟩
  · exact .inl rfl
  · refine .inr fun e1 => ?_
    rcases h'.2 with ⟨rfl, _⟩ | ⟨g', cap', cur', rfl, _, hg', _⟩
    · cases e1
    · have : g = g' := by simpa [Value.ownBlock] using e1
      subst this
      rw [hg] at hg'
      simp at hg'
      exact hne hg'.2
end Go.Proofs.Ytjlbenbfmookoab
