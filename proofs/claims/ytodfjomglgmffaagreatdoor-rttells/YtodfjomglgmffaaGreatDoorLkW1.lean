/-
  Resolve with the linker's finder, where the linker lies.
-/
import Derived.Test.YtodfjomglgmffaaGreatDoorLkW0
namespace Go.Proofs.YtodfjomglgmffaaGreatDoor
open Go.RowKit Go.Maps
set_option linter.unusedSimpArgs false
set_option linter.unusedVariables false

def ResRet (c : Lf) (bs : List Nat) (vo : Value) (KB : Nat) (U : World) (R : (List Ins × Int × Nat) × Ls) (e : Ending) (U' : World) : Prop :=
  ∃ vi gh, e = .returned (.tuple #[vi, .agg #[.int .i64 R.1.2.1, .int .i64 R.1.2.2]]) ∧ Inss U' vi R.1.1 ∧ (∀ k, vi.ownBlock = some k → U.heap.size ≤ k ∧ ¬ FFoot c c.pk c.pk bs gh k) ∧ LkAt c R.2 gh U' ∧ Good R.2 c.O ∧ R.2.P.map (·.2) = bs ∧ Kpt (fun k => FFoot c c.pk c.pk bs vo k ∨ k = KB ∨ k = KB + 1) U U' ∧ ∀ k, FFoot c c.pk c.pk bs gh k → FFoot c c.pk c.pk bs vo k ∨ U.heap.size ≤ k ∨ k = KB ∨ k = KB + 1
theorem foot_in {c : Lf} {KB NB : Nat} {bs : List Nat} {vo : Value} {k : Nat} (h : FFoot c c.pk c.pk bs vo k) : FFoot c KB NB bs vo k := by
  rcases h with h | h | h | h | h | h | h
  · exact .inl h
  · exact .inr (.inl h)
  · exact .inr (.inr (.inl h))
  · exact .inr (.inr (.inr (.inl h)))
  · exact .inr (.inr (.inr (.inr (.inl h))))
  · exact .inl h
  · exact .inl h
theorem foot_out {c : Lf} {KB NB : Nat} {bs : List Nat} {vo : Value} {k : Nat} (h : FFoot c KB NB bs vo k) : FFoot c c.pk c.pk bs vo k ∨ k = KB ∨ k = NB := by
  rcases h with h | h | h | h | h | h | h
  · exact .inl (.inl h)
  · exact .inl (.inr (.inl h))
  · exact .inl (.inr (.inr (.inl h)))
  · exact .inl (.inr (.inr (.inr (.inl h))))
  · exact .inl (.inr (.inr (.inr (.inr (.inl h)))))
  · exact .inr (.inl h)
  · exact .inr (.inr h)
theorem resolve_at (c : Lf) (bs : List Nat) (m KB : Nat) (s : Ls) (vo : Value) (U : World) (lines : List Ln) (v : Value) (hL : LkAt c s vo U) (hG : Good s c.O) (hm : m < s.P.length) (hbs : s.P.map (·.2) = bs) (b1 : Box U KB [.pointer (some ⟨c.pk, 0, none⟩)]) (b2 : Box U (KB + 1) [.int .i64 m]) (n1 : ¬ FFoot c c.pk c.pk bs vo KB) (n2 : ¬ FFoot c c.pk c.pk bs vo (KB + 1))
    (hl : Lns U v lines) (hr : ∀ x ∈ lines, wrgL x = 0) (hmuch : lines.length ≤ 40000) (hv : ∀ b, v.ownBlock = some b → lines ≠ [] → ¬ FFoot c c.pk c.pk bs vo b ∧ b ≠ KB ∧ b ≠ KB + 1) :
    Calls Tryz.prog 48 #[v, .func (.func 92) #[] #[.pointer (some ⟨KB, 0, none⟩), .pointer (some ⟨KB + 1, 0, none⟩)]] U fun e U' => ResRet c bs vo KB U (rsv (fndL c.O m) lines 0 s []) e U' := by
  have FI : FInv c KB (KB + 1) m bs s vo U := ⟨hL, hG, hm, hbs, b1, b2, fun h => n1 (.inr (.inr (.inr (.inl h)))), fun h => n2 (.inr (.inr (.inr (.inl h))))⟩
  have RA := resolveL_any (FInv c KB (KB + 1) m bs) (FFoot c KB (KB + 1) bs) (fndL c.O m) KB (KB + 1) ffoot_lt finv_kpt (fun s g u x h hn => finder1_any c KB (KB + 1) m bs (fun h => n1 (.inl h)) (fun h => n1 (.inr (.inr (.inl h)))) (fun h => n2 (.inl h)) (fun h => n2 (.inr (.inr (.inl h)))) s g u x h hn) lines v U s vo hl hr hmuch FI (fun b hb hne hx => by
    obtain ⟨h1, h2, h3⟩ := hv b hb hne
    rcases foot_out hx with h | h | h
    · exact h1 h
    · exact h2 h
    · exact h3 h)
  refine RA.mono ?_
  rintro e U' ⟨vi, gh, he, i4, o4, j4, k4, f4⟩
  refine ⟨vi, gh, he, i4, fun k hk => ⟨(o4 k hk).1, fun h => (o4 k hk).2 (foot_in h)⟩, j4.1, j4.2.1, j4.2.2.2.1, k4.mono (fun k h => foot_out h), fun k hk => ?_⟩
  rcases f4 k (foot_in hk) with h | h
  · rcases foot_out h with h | h | h
    · exact .inl h
    · exact .inr (.inr (.inl h))
    · exact .inr (.inr (.inr h))
  · exact .inr (.inl h)
theorem lk_kpt1 {c : Lf} {bs : List Nat} {s : Ls} {vo : Value} {u u' : World} (h : LkAt c s vo u) (hbs : s.P.map (·.2) = bs) (k : Kpt (fun x => ¬ FFoot c c.pk c.pk bs vo x) u u') : LkAt c s vo u' := by
  obtain ⟨hB, hM, hP, hO, h1, h2, h3⟩ := h
  exact ⟨hB.kpt k (fun h => h (.inl rfl)), hM.kpt k (fun h => h (.inr (.inl rfl))), ⟨own_kpt hP.1 k (fun x hx h => h (.inr (.inr (.inl hx)))), fun p hp => ⟨(hP.2 p hp).1.kpt k (fun h => h (.inr (.inr (.inr (.inr (.inl (hbs ▸ List.mem_map_of_mem hp))))))), (hP.2 p hp).2⟩⟩, own_kpt hO k (fun x hx h => h (.inr (.inr (.inr (.inl hx))))), h1, h2, h3⟩
theorem lk_lt1 {c : Lf} {bs : List Nat} {s : Ls} {vo : Value} {u : World} {k : Nat} (h : LkAt c s vo u) (hbs : s.P.map (·.2) = bs) (hk : FFoot c c.pk c.pk bs vo k) : k < u.heap.size := by
  obtain ⟨hB, hM, hP, hO, _⟩ := h
  rcases hk with rfl | rfl | hk | hk | hk | rfl | rfl
  · exact hB.1
  · exact hM.lt
  · exact (hP.1.lt k hk).2
  · exact (hO.lt k hk).2
  · rw [← hbs] at hk
    obtain ⟨p, hp, rfl⟩ := List.mem_map.1 hk
    exact (hP.2 p hp).1.lt
  · exact hB.1
  · exact hB.1
theorem inss_lt {w : World} {v : Value} {l : List Ins} (h : Inss w v l) (hne : l ≠ []) {k : Nat} (hk : v.ownBlock = some k) : k < w.heap.size := by
  obtain ⟨ao, cap, rfl, -, h2⟩ := h.at
  obtain ⟨b, o, rfl, h3, -⟩ := h2 hne
  obtain rfl : b = k := Option.some.inj hk
  exact h3
section
variable {c : Lf} {bs : List Nat} {vo gh vi : Value} {KB fb : Nat} {V0 U w4 : World} {R : (List Ins × Int × Nat) × Ls}
/-- The fault's block is made last. -/
theorem met_late (kU : Kpt (fun _ => False) V0 U) (hKB : V0.heap.size ≤ KB) (i4 : Inss w4 vi R.1.1) (l4 : LkAt c R.2 gh w4) (g4 : Good R.2 c.O) (s4 : R.2.P.map (·.2) = bs) (k4 : Kpt (fun k => FFoot c c.pk c.pk bs vo k ∨ k = KB ∨ k = KB + 1) U w4) (f4 : ∀ k, FFoot c c.pk c.pk bs gh k → FFoot c c.pk c.pk bs vo k ∨ U.heap.size ≤ k ∨ k = KB ∨ k = KB + 1) :
    MetW c bs 0 V0 vo R vi gh w4.heap.size (w4.alloc (.cells #[.int .i64 0, .int .i64 0] 32)) := by
  have sU := kU.size
  have s2 := k4.size
  exact { ins := i4.step (below_a _ _), lk := lk_kpt1 l4 s4 (Kpt.of (below_a _ _)), good := g4, bsn := s4
          kpt := (kU.trans k4 (Z := FFoot c c.pk c.pk bs vo) (fun _ h => h.elim) (fun k hk h => by rcases hk with h1 | h1 | h1; exact h1; omega; omega)).trans (Kpt.of (X := fun _ => False) (below_a _ _)) (fun _ h => h) (fun _ h _ => h.elim)
          foot := fun k hk => by rcases f4 k hk with h | h | h | h; exact .inl h; right; omega; right; omega; right; omega
          box := Box.new _ _ _, fb0 := by omega
          fbn := fun h => by have := lk_lt1 l4 s4 h; omega
          fbi := fun k hk hne e => by have := inss_lt i4 hne hk; omega }
/-- It was there ahead of Resolve. -/
theorem met_early (kU : Kpt (fun _ => False) V0 U) (hKB : V0.heap.size ≤ KB) (hfb0 : V0.heap.size ≤ fb) (hfb1 : fb < U.heap.size) (hfn1 : fb ≠ KB) (hfn2 : fb ≠ KB + 1) (hfv : ¬ FFoot c c.pk c.pk bs vo fb) (bU : Box U fb [.int .i64 0, .int .i64 0]) (i4 : Inss w4 vi R.1.1) (o4 : ∀ k, vi.ownBlock = some k → U.heap.size ≤ k) (l4 : LkAt c R.2 gh w4) (g4 : Good R.2 c.O) (s4 : R.2.P.map (·.2) = bs) (k4 : Kpt (fun k => FFoot c c.pk c.pk bs vo k ∨ k = KB ∨ k = KB + 1) U w4) (f4 : ∀ k, FFoot c c.pk c.pk bs gh k → FFoot c c.pk c.pk bs vo k ∨ U.heap.size ≤ k ∨ k = KB ∨ k = KB + 1) :
    MetW c bs 0 V0 vo R vi gh fb w4 := by
  have sU := kU.size
  exact { ins := i4, lk := l4, good := g4, bsn := s4
          kpt := kU.trans k4 (Z := FFoot c c.pk c.pk bs vo) (fun _ h => h.elim) (fun k hk h => by rcases hk with h1 | h1 | h1; exact h1; omega; omega)
          foot := fun k hk => by rcases f4 k hk with h | h | h | h; exact .inl h; right; omega; right; omega; right; omega
          box := bU.kpt k4 (fun h => by rcases h with h | h | h; exact hfv h; exact hfn1 h; exact hfn2 h)
          fb0 := hfb0
          fbn := fun h => by rcases f4 _ h with h | h | h | h; exact hfv h; omega; exact hfn1 h; exact hfn2 h
          fbi := fun k hk _ e => by have := o4 k hk; omega }
end
end Go.Proofs.YtodfjomglgmffaaGreatDoor
