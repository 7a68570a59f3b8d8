/-
  One block may turn; trees stay.
-/
import Derived.Test.YtaidefdbjcgcbaaGreatMemz
import Derived.Test.YtaidefdbjcgcbaaGreatTyMz
namespace Go.Proofs.YtaidefdbjcgcbaaGreat
open Go.RowKit
set_option linter.unusedSimpArgs false
set_option linter.unusedVariables false

/-- All blocks but b are as they were. -/
structure Kb (b : Nat) (w w' : World) : Prop where
  os : w'.os = w.os
  tape : w'.tape = w.tape
  output : w'.output = w.output
  size : w.heap.size ≤ w'.heap.size
  block : ∀ k, k < w.heap.size → k ≠ b → w'.heap[k]? = w.heap[k]?
theorem Kb.refl (b : Nat) (w : World) : Kb b w w := ⟨rfl, rfl, rfl, Nat.le_refl _, fun _ _ _ => rfl⟩
theorem Kb.of {b : Nat} {w w' : World} (h : Below w.heap.size w w') : Kb b w w' := ⟨h.os, h.tape, h.output, h.size, fun k hk _ => h.block k hk⟩
theorem Kb.trans {b : Nat} {u v w : World} (h : Kb b u v) (k : Kb b v w) : Kb b u w :=
  ⟨k.os.trans h.os, k.tape.trans h.tape, k.output.trans h.output, Nat.le_trans h.size k.size, fun n hn hb => by rw [k.block n (Nat.lt_of_lt_of_le hn h.size) hb, h.block n hn hb]⟩
/-- A block of the callee's own, made since, is no matter. -/
theorem Kb.drop {b c : Nat} {u v w : World} (h : Kb b u v) (k : Kb c v w) (hc : u.heap.size ≤ c) : Kb b u w :=
  ⟨k.os.trans h.os, k.tape.trans h.tape, k.output.trans h.output, Nat.le_trans h.size k.size, fun n hn hb => by rw [k.block n (Nat.lt_of_lt_of_le hn h.size) (by omega), h.block n hn hb]⟩
theorem Kb.below {b B : Nat} {w w' : World} (h : Kb b w w') (hB : B ≤ w.heap.size) (hb : B ≤ b) : Below B w w' := ⟨h.os, h.tape, h.output, h.size, fun k hk => h.block k (by omega) (by omega)⟩
theorem Kb.cell {b : Nat} {w w' : World} (h : Kb b w w') {k o : Nat} (hk : k < w.heap.size) (hb : k ≠ b) : w'.cell? ⟨k, o, none⟩ = w.cell? ⟨k, o, none⟩ := by unfold World.cell?; rw [h.block k hk hb]
theorem Kb.frozen {b : Nat} {w w' : World} (h : Kb b w w') {k o : Nat} (hk : k < w.heap.size) (hb : k ≠ b) : w'.frozen? ⟨k, o, none⟩ = w.frozen? ⟨k, o, none⟩ := by unfold World.frozen?; rw [h.block k hk hb]
theorem Box.kb {b k : Nat} {w w' : World} {cs : List Value} (h : Box w k cs) (q : Kb b w w') (hb : k ≠ b) : Box w' k cs :=
  ⟨Nat.lt_of_lt_of_le h.1 q.size, fun j u hu => by rw [q.cell h.1 hb]; exact h.2.1 j u hu, fun j => by rw [q.frozen h.1 hb]; exact h.2.2 j⟩
theorem Kb.setCell {b : Nat} (w : World) {j : Nat} (v : Value) : Kb b w (w.setCell ⟨b, j, none⟩ v) :=
  ⟨rfl, rfl, rfl, by simp, fun k _ hk => by simp [World.setCell, Array.getElem?_modify, Ne.symm hk]⟩
theorem Kb.drew {b : Nat} {u v : World} (h : Kb b u v) : Kb b u v.drew := ⟨h.os, h.tape, h.output, h.size, h.block⟩
theorem Kb.drewN {b : Nat} {u v : World} (h : Kb b u v) (n : Nat) : Kb b u (v.drewN n) := ⟨h.os, h.tape, h.output, h.size, h.block⟩
/-- What a call that counts leaves: the counter, and all else. -/
structure Ctd (w w' : World) (lb c : Nat) : Prop where
  box : Box w' lb [.int .i64 (c : Int)]
  kb : Kb lb w w'
theorem Ctd.trans {u v w : World} {lb c d : Nat} (h : Ctd u v lb c) (k : Ctd v w lb d) : Ctd u w lb d := ⟨k.box, h.kb.trans k.kb⟩
theorem Ctd.of {w w' : World} {lb c : Nat} (h : Box w lb [.int .i64 (c : Int)]) (k : Below w.heap.size w w') : Ctd w w' lb c := ⟨h.step k, Kb.of k⟩
end Go.Proofs.YtaidefdbjcgcbaaGreat

/-
  What is wrong with a program: the program's own looker: nodes, kids.
-/
namespace Go.Proofs.YtaidefdbjcgcbaaGreat
open Go.RowKit
set_option linter.unusedSimpArgs false
set_option linter.unusedVariables false

theorem lnode_any (lb c d : Nat) (w : World) (h : Box w lb [.int .i64 (c : Int)]) (hc : c ≤ 20000) (hd : d ≤ 101) : Calls Tryz.prog 81 #[.pointer (some ⟨lb, 0, none⟩), .int .i64 (d : Int)] w fun e w' => e = .returned (.int .i64 (nodeW d c)) ∧ Ctd w w' lb (c + 1) := by
  have BX := hideI (h.set (j := 0) (u := .int .i64 ((c + 1 : Nat) : Int)) (by simp))
  have c0 := h.2.1 0 _ rfl
  have f0 := h.2.2 0
  have hlb := h.1
  have c1 := (unhideI BX).2.1 0 _ rfl
  unfold nodeW
  by_cases h1 : 20000 < c + 1
  · have h1I : (20000 : Int) < (c : Int) + 1 := by omega
    rw [if_pos (.inl h1)]
    go_enter Tryz.func81, Tryz.ntmps81
    go_wp2_with fail
    go_ret
    exact ⟨rfl, unhideI BX, Kb.setCell _ _⟩
  · have h1I : ¬ (20000 : Int) < (c : Int) + 1 := by omega
    by_cases h2 : 100 < d
    · have h2I : (100 : Int) < (d : Int) := by omega
      rw [if_pos (.inr h2)]
      go_enter Tryz.func81, Tryz.ntmps81
      go_wp2_with fail
      go_ret
      exact ⟨rfl, unhideI BX, Kb.setCell _ _⟩
    · have h2I : ¬ (100 : Int) < (d : Int) := by omega
      rw [if_neg (by omega)]
      go_enter Tryz.func81, Tryz.ntmps81
      go_wp2_with fail
      go_ret
      exact ⟨rfl, unhideI BX, Kb.setCell _ _⟩
theorem swname_any (nm : ByteArray) (w : World) : Calls Tryz.prog 118 #[.string nm] w fun e w' => e = .returned (.int .i64 (wName nm)) ∧ Below w.heap.size w w' := by
  have NA := hideI (snamed_any nm w)
  unfold wName
  cases hn : namN nm
  all_goals
    rw [hn] at NA
    go_enter Tryz.func118, Tryz.ntmps118
    go_wp2_with fail
    refine (unhideI NA).mono ?_
    rintro e w1 ⟨rfl, k1⟩
    go_wp2_with fail
    go_ret
    exact ⟨rfl, k1⟩
theorem isW_of {b : Int} (h : isWB b = true) : IsW b := by
  unfold isWB at h
  unfold IsW
  exact of_decide_eq_true h
theorem noW_of {b : Int} (h : isWB b = false) : NoW b := by
  have := of_decide_eq_false h
  refine ⟨?_, ?_, ?_, ?_⟩ <;> (apply beq_eq_false_iff_ne.2; omega)
theorem svalid_any (b : Int) (s : Bool) (w : World) : Calls Tryz.prog 83 #[.agg #[.int .i64 b, .bool s]] w fun e w' => e = .returned (.bool (isWB b)) ∧ Below w.heap.size w w' := by
  cases h : isWB b
  · exact tvalid_no b s w (noW_of h)
  · exact tvalid_yes b s w (isW_of h)
theorem swnamed_any (b : Int) (s : Bool) (nm : ByteArray) (w : World) : Calls Tryz.prog 80 #[.agg #[.int .i64 b, .bool s], .string nm] w fun e w' => e = .returned (.int .i64 (wTyped b nm)) ∧ Below w.heap.size w w' := by
  have VA := hideI (fun W => svalid_any b s W)
  unfold wTyped
  have k0 := below_a w (.cells #[.int .i64 b, .bool s] 34)
  cases h : isWB b
  · rw [h] at VA
    go_enter Tryz.func80, Tryz.ntmps80
    go_wp2_with fail
    refine (unhideI VA _).mono ?_
    rintro e w1 ⟨rfl, k1⟩
    have k2 := bT k0 k1
    go_wp2_with fail
    go_ret
    exact ⟨rfl, k2⟩
  · rw [h] at VA
    go_enter Tryz.func80, Tryz.ntmps80
    go_wp2_with fail
    refine (unhideI VA _).mono ?_
    rintro e w1 ⟨rfl, k1⟩
    have k2 := bT k0 k1
    go_wp2_with fail
    refine (swname_any nm w1).mono ?_
    rintro e w2 ⟨rfl, k3⟩
    go_wp2_with fail
    go_ret
    exact ⟨rfl, bT k2 k3⟩
theorem lkids_any (k : Int) (w : World) : Calls Tryz.prog 148 #[.int .i64 k] w fun e w' => e = .returned (.tuple #[.int .i64 (kidLo k : Int), .int .i64 (kidHi k : Int)]) ∧ w' = w := by
  by_cases h : k = 1 ∨ k = 2 ∨ k = 3 ∨ k = 4 ∨ k = 5 ∨ k = 6 ∨ k = 7 ∨ k = 8
  · rcases h with rfl | rfl | rfl | rfl | rfl | rfl | rfl | rfl
    · go_enter Tryz.func148, Tryz.ntmps148
      go_wp2_with fail
      exact bodyPost_ret (v := .tuple #[.int .i64 0, .int .i64 0]) (by simp [results, Tryz.results148, go_sem]) rfl ⟨rfl, rfl⟩
    · go_enter Tryz.func148, Tryz.ntmps148
      go_wp2_with fail
      exact bodyPost_ret (v := .tuple #[.int .i64 0, .int .i64 0]) (by simp [results, Tryz.results148, go_sem]) rfl ⟨rfl, rfl⟩
    · go_enter Tryz.func148, Tryz.ntmps148
      go_wp2_with fail
      exact bodyPost_ret (v := .tuple #[.int .i64 1, .int .i64 1]) (by simp [results, Tryz.results148, go_sem]) rfl ⟨rfl, rfl⟩
    · go_enter Tryz.func148, Tryz.ntmps148
      go_wp2_with fail
      exact bodyPost_ret (v := .tuple #[.int .i64 0, .int .i64 8]) (by simp [results, Tryz.results148, go_sem]) rfl ⟨rfl, rfl⟩
    · go_enter Tryz.func148, Tryz.ntmps148
      go_wp2_with fail
      exact bodyPost_ret (v := .tuple #[.int .i64 1, .int .i64 1]) (by simp [results, Tryz.results148, go_sem]) rfl ⟨rfl, rfl⟩
    · go_enter Tryz.func148, Tryz.ntmps148
      go_wp2_with fail
      exact bodyPost_ret (v := .tuple #[.int .i64 1, .int .i64 1]) (by simp [results, Tryz.results148, go_sem]) rfl ⟨rfl, rfl⟩
    · go_enter Tryz.func148, Tryz.ntmps148
      go_wp2_with fail
      exact bodyPost_ret (v := .tuple #[.int .i64 1, .int .i64 1]) (by simp [results, Tryz.results148, go_sem]) rfl ⟨rfl, rfl⟩
    · go_enter Tryz.func148, Tryz.ntmps148
      go_wp2_with fail
      exact bodyPost_ret (v := .tuple #[.int .i64 1, .int .i64 1]) (by simp [results, Tryz.results148, go_sem]) rfl ⟨rfl, rfl⟩
  · have e1 : (k == 1) = false := by apply beq_eq_false_iff_ne.2; omega
    have e2 : (k == 2) = false := by apply beq_eq_false_iff_ne.2; omega
    have e3 : (k == 3) = false := by apply beq_eq_false_iff_ne.2; omega
    have e4 : (k == 4) = false := by apply beq_eq_false_iff_ne.2; omega
    have e5 : (k == 5) = false := by apply beq_eq_false_iff_ne.2; omega
    have e6 : (k == 6) = false := by apply beq_eq_false_iff_ne.2; omega
    have e7 : (k == 7) = false := by apply beq_eq_false_iff_ne.2; omega
    have e8 : (k == 8) = false := by apply beq_eq_false_iff_ne.2; omega
    have lo : kidLo k = 2 := by unfold kidLo; rw [if_neg (by omega), if_neg (by omega)]
    have hi : kidHi k = 2 := by unfold kidHi; rw [if_neg (by omega), if_neg (by omega), if_neg (by omega)]
    rw [lo, hi]
    go_enter Tryz.func148, Tryz.ntmps148
    go_wp2_with fail
    exact bodyPost_ret (v := .tuple #[.int .i64 2, .int .i64 2]) (by simp [results, Tryz.results148, go_sem]) rfl ⟨rfl, rfl⟩
end Go.Proofs.YtaidefdbjcgcbaaGreat

/-
  What is wrong with a program: the program's own looker: expressions.
-/
namespace Go.Proofs.YtaidefdbjcgcbaaGreat
open Go.RowKit
set_option linter.unusedSimpArgs false
set_option linter.unusedVariables false

theorem nodeW_ok {d c : Nat} (h : nodeW d c = 0) : c + 1 ≤ 20000 ∧ d ≤ 100 := by
  unfold nodeW at h
  split at h
  · cases h
  · omega
theorem lkEs_cons (x : Ex) (xs : List Ex) (d c : Nat) : lkEs (x :: xs) d c = if (lkE x d c).1 ≠ 0 then lkE x d c else lkEs xs d (lkE x d c).2 := by rw [lkEs]
theorem lkE_eq (x : Ex) (d c : Nat) : lkE x d c = if nodeW d c ≠ 0 then (nodeW d c, c + 1) else if x.k < 1 ∨ 26 < x.k then (1, c + 1) else if wExF x.k x.n x.b x.s x.nm ≠ 0 then (wExF x.k x.n x.b x.s x.nm, c + 1) else if x.kids.length < kidLo x.k ∨ kidHi x.k < x.kids.length then (5, c + 1) else lkEs x.kids (d + 1) (c + 1) := by
  obtain ⟨k, n, b, s, nm, l⟩ := x
  rw [lkE]; rfl
theorem lkEs_le {xs : List Ex} (IH : ∀ x ∈ xs, ∀ d c, c ≤ 20000 → (lkE x d c).1 = 0 → (lkE x d c).2 ≤ 20000) : ∀ d c, c ≤ 20000 → (lkEs xs d c).1 = 0 → (lkEs xs d c).2 ≤ 20000 := by
  induction xs with
  | nil => intro d c hc _; rw [lkEs]; exact hc
  | cons x xs ih =>
    intro d c hc h
    rw [lkEs_cons] at h ⊢
    by_cases e : (lkE x d c).1 = 0
    · rw [if_neg (by simpa using e)] at h ⊢
      exact ih (fun y hy => IH y (List.mem_cons_of_mem _ hy)) d _ (IH x List.mem_cons_self d c hc e) h
    · rw [if_pos e] at h; exact absurd h e
theorem lkE_le : ∀ (x : Ex) (d c : Nat), c ≤ 20000 → (lkE x d c).1 = 0 → (lkE x d c).2 ≤ 20000 := by
  apply Ex.ind
  intro x IH d c hc h
  rw [lkE_eq] at h ⊢
  split at h <;> rename_i h1
  · exact absurd h h1
  · rw [if_neg h1]
    split at h <;> rename_i h2
    · cases h
    · rw [if_neg h2]
      split at h <;> rename_i h3
      · exact absurd h h3
      · rw [if_neg h3]
        split at h <;> rename_i h4
        · cases h
        · rw [if_neg h4]
          exact lkEs_le (fun y hy d c => IH y hy d c) _ _ (nodeW_ok (by simpa using h1)).1 h
theorem six_at {w : World} {b : Nat} {a0 a1 a2 a3 a4 a5 : Value} (h : Box w b [a0, a1, a2, a3, a4, a5]) : w.cell? ⟨b, 0, none⟩ = some a0 ∧ w.cell? ⟨b, 1, none⟩ = some a1 ∧ w.cell? ⟨b, 2, none⟩ = some a2 ∧ w.cell? ⟨b, 3, none⟩ = some a3 ∧ w.cell? ⟨b, 4, none⟩ = some a4 ∧ w.cell? ⟨b, 5, none⟩ = some a5 :=
  ⟨h.2.1 0 _ rfl, h.2.1 1 _ rfl, h.2.1 2 _ rfl, h.2.1 3 _ rfl, h.2.1 4 _ rfl, h.2.1 5 _ rfl⟩
set_option maxHeartbeats 1000000 in
theorem swexpr_any (x : Ex) (kv : Value) (w : World) (hx : ExF x) : Calls Tryz.prog 147 #[.agg #[.int .i64 x.k, .int .u64 x.n, .int .i64 x.b, .bool x.s, .string x.nm, kv]] w fun e w' => e = .returned (.int .i64 (wExF x.k x.n x.b x.s x.nm)) ∧ Below w.heap.size w w' := by
  obtain ⟨k, n, b, s, nm, l⟩ := x
  simp only [Ex.k, Ex.n, Ex.b, Ex.s, Ex.nm]
  have k0 := below_a w (.cells #[.int .i64 k, .int .u64 n, .int .i64 b, .bool s, .string nm, kv] 57)
  by_cases h1 : k = 1
  · have hw : wExF k n b s nm = if (lit n (!s)).2.2 = 0 ∧ (lit n (!s)).1 = b ∧ (lit n (!s)).2.1 = s then 0 else 9 := by unfold wExF; rw [if_pos h1]
    rw [hw]
    subst h1
    have LA := hideI (fun W => literal_any n (!s) W)
    generalize lit n (!s) = r at *
    obtain ⟨lb, ls, le⟩ := r
    dsimp only at LA ⊢
    have ka := fun W => below_a W (.cells #[.int .i64 lb, .bool ls] 34)
    by_cases hle : le = 0
    · subst hle
      by_cases hb : lb = b
      · subst hb
        by_cases hs : ls = s
        · subst hs
          rw [if_pos ⟨rfl, rfl, rfl⟩]
          go_enter Tryz.func147, Tryz.ntmps147
          go_wp2_with fail
          refine (unhideI LA _).mono ?_
          rintro e w1 ⟨rfl, k1⟩
          have k2 := bT (bT k0 k1) (ka w1)
          obtain ⟨q0, q1, q2, q3, q4, q5⟩ := six_at ((Box.new w #[.int .i64 1, .int .u64 n, .int .i64 lb, .bool ls, .string nm, kv] 57).step k1)
          have hw1 : w.heap.size < w1.heap.size := by have := k1.size; simp at this; omega
          go_wp2_with fail
          go_ret
          exact ⟨rfl, k2⟩
        · rw [if_neg (fun h => hs h.2.2)]
          have es : (ls == s) = false := beq_eq_false_iff_ne.2 hs
          go_enter Tryz.func147, Tryz.ntmps147
          go_wp2_with fail
          refine (unhideI LA _).mono ?_
          rintro e w1 ⟨rfl, k1⟩
          have k2 := bT (bT k0 k1) (ka w1)
          obtain ⟨q0, q1, q2, q3, q4, q5⟩ := six_at ((Box.new w #[.int .i64 1, .int .u64 n, .int .i64 lb, .bool s, .string nm, kv] 57).step k1)
          have hw1 : w.heap.size < w1.heap.size := by have := k1.size; simp at this; omega
          go_wp2_with fail
          go_ret
          exact ⟨rfl, k2⟩
      · rw [if_neg (fun h => hb h.2.1)]
        have eb : (lb == b) = false := beq_eq_false_iff_ne.2 hb
        go_enter Tryz.func147, Tryz.ntmps147
        go_wp2_with fail
        refine (unhideI LA _).mono ?_
        rintro e w1 ⟨rfl, k1⟩
        have k2 := bT (bT k0 k1) (ka w1)
        obtain ⟨q0, q1, q2, q3, q4, q5⟩ := six_at ((Box.new w #[.int .i64 1, .int .u64 n, .int .i64 b, .bool s, .string nm, kv] 57).step k1)
        have hw1 : w.heap.size < w1.heap.size := by have := k1.size; simp at this; omega
        go_wp2_with fail
        go_ret
        exact ⟨rfl, k2⟩
    · rw [if_neg (fun h => hle h.1)]
      have el : (le == 0) = false := beq_eq_false_iff_ne.2 hle
      go_enter Tryz.func147, Tryz.ntmps147
      go_wp2_with fail
      refine (unhideI LA _).mono ?_
      rintro e w1 ⟨rfl, k1⟩
      have k2 := bT (bT k0 k1) (ka w1)
      go_wp2_with fail
      go_ret
      exact ⟨rfl, k2⟩
  · have e1 : (k == 1) = false := beq_eq_false_iff_ne.2 h1
    by_cases h2 : k = 2 ∨ k = 3 ∨ k = 4
    · have hw : wExF k n b s nm = wName nm := by unfold wExF; rw [if_neg h1, if_pos h2]
      rw [hw]
      rcases h2 with rfl | rfl | rfl
      all_goals
        go_enter Tryz.func147, Tryz.ntmps147
        go_wp2_with fail
        refine (swname_any nm _).mono ?_
        rintro e w1 ⟨rfl, k1⟩
        have k2 := bT k0 k1
        go_wp2_with fail
        go_ret
        exact ⟨rfl, k2⟩
    · have e2 : (k == 2) = false := by apply beq_eq_false_iff_ne.2; omega
      have e3 : (k == 3) = false := by apply beq_eq_false_iff_ne.2; omega
      have e4 : (k == 4) = false := by apply beq_eq_false_iff_ne.2; omega
      by_cases h5 : k = 5
      · have hw : wExF k n b s nm = if isWB b = true then 0 else 9 := by unfold wExF; rw [if_neg h1, if_neg h2, if_pos h5]
        rw [hw]
        subst h5
        have VA := hideI (fun W => svalid_any b s W)
        cases hv : isWB b
        all_goals
          rw [hv] at VA
          go_enter Tryz.func147, Tryz.ntmps147
          go_wp2_with fail
          refine (unhideI VA _).mono ?_
          rintro e w1 ⟨rfl, k1⟩
          have k2 := bT k0 k1
          go_wp2_with fail
          go_ret
          exact ⟨rfl, k2⟩
      · have e5 : (k == 5) = false := beq_eq_false_iff_ne.2 h5
        have hw : wExF k n b s nm = 0 := by unfold wExF; rw [if_neg h1, if_neg h2, if_neg h5]
        rw [hw]
        go_enter Tryz.func147, Tryz.ntmps147
        go_wp2_with fail
        go_ret
        exact ⟨rfl, k0⟩
end Go.Proofs.YtaidefdbjcgcbaaGreat
