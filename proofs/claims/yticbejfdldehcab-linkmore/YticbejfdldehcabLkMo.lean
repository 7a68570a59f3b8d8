/-
  A copy of units with one more behind them, made in whatever order: the rows and blocks on the way.
-/
import Derived.Test.YticbejfdldehcabAlive5
import Derived.Test.YticbejfdldehcabLkZ
import Derived.Test.YticbejfdldehcabRefI
namespace Go.Proofs.Yticbejfdldehcab
open Go.RowKit Go.Maps
set_option linter.unusedSimpArgs false
set_option linter.unusedVariables false

theorem Try.infoUnit : (Try.prog.info? 39).map (fun i => (i.zero, i.size, i.bytes)) = some (some (.agg #[.string ⟨#[]⟩, .slice none 0 0]), 2, 40) := by kernel_rfl
theorem uv_ones {W : World} {l : List (Un × Value)} (h : ∀ a ∈ l, UvOk W a) : ∀ u ∈ l.flatMap cellsUV, u.oneCell' = true := by
  intro u hu
  obtain ⟨a, ha, hm⟩ := List.mem_flatMap.1 hu
  obtain ⟨-, ao, cap, hv, -⟩ := (h a ha).2.1
  simp [cellsUV] at hm
  rcases hm with rfl | rfl
  · rfl
  · rw [hv]; rfl
theorem UvOk.step {W W' : World} {a : Un × Value} (h : UvOk W a) (k : Below W.heap.size W W') : UvOk W' a := ⟨h.1, h.2.1.step k, h.2.2⟩
/-- What has been made so far: the row (a: 0, none; 1, empty; 2, copied), the one more (b), the image's place (c). -/
structure Sm (w5 : World) (l : List (Un × Value)) (cs ds : List Value) (a : Nat) (b c : Bool) (v : Value) (g26 g9 : Nat) (W : World) : Prop where
  kw : Below w5.heap.size w5 W
  own : a ≠ 0 → W.ownsRow w5.heap.size 39 2 v (if a = 2 then l.length else 0) (if a = 2 then l.flatMap cellsUV else [])
  b26 : b = true → Box W g26 cs ∧ w5.heap.size ≤ g26 ∧ (a ≠ 0 → v.ownBlock ≠ some g26)
  b9 : c = true → Box W g9 ds ∧ w5.heap.size ≤ g9 ∧ (a ≠ 0 → v.ownBlock ≠ some g9)
section
variable {w5 W W' : World} {l : List (Un × Value)} {cs ds : List Value} {a : Nat} {b c : Bool} {v v' : Value} {g26 g9 : Nat}
theorem Sm.start (w5 : World) (l : List (Un × Value)) (cs ds : List Value) : Sm w5 l cs ds 0 false false undef 0 0 w5.drew :=
  ⟨⟨rfl, rfl, rfl, Nat.le_refl _, fun _ _ => rfl⟩, fun h => absurd rfl h, fun h => (by cases h), fun h => (by cases h)⟩
theorem Sm.op0 (h : Sm w5 l cs ds 0 b c v g26 g9 W) : Sm w5 l cs ds 1 b c (.slice (some ⟨W.heap.size, 0, none⟩) 0 0) g26 g9 (W.alloc (.cells #[] 39)) := by
  refine ⟨bt h.kw (below_a _ _), fun _ => World.ownsRow_made W #[] 0 h.kw.size (by decide) (by simp), fun hb => ?_, fun hc => ?_⟩
  · obtain ⟨h1, h2, -⟩ := h.b26 hb
    exact ⟨h1.step (below_a _ _), h2, fun _ e => by have e' : W.heap.size = g26 := Option.some.inj e; have := h1.1; omega⟩
  · obtain ⟨h1, h2, -⟩ := h.b9 hc
    exact ⟨h1.step (below_a _ _), h2, fun _ e => by have e' : W.heap.size = g9 := Option.some.inj e; have := h1.1; omega⟩
theorem Sm.op2 (h : Sm w5 l cs ds 1 b c v g26 g9 W) (ho : W'.ownsRow w5.heap.size 39 2 v' (0 + l.length) ([] ++ l.flatMap cellsUV)) (hg : W.grownBy W' v.ownBlock) (hv : v'.ownBlock = v.ownBlock ∨ v'.ownBlock = some W.heap.size) : Sm w5 l cs ds 2 b c v' g26 g9 W' := by
  have hlt := (h.own (by decide)).lt
  have kg : Kpt (fun k => v.ownBlock = some k) W W' := Kpt.grown hg (fun _ h => h)
  refine ⟨h.kw.trans (kg.below h.kw.size (fun k hk => (hlt k hk).1)), fun _ => by simpa using ho, fun hb => ?_, fun hc => ?_⟩
  · obtain ⟨h1, h2, h3⟩ := h.b26 hb
    refine ⟨h1.kpt kg (h3 (by decide)), h2, fun _ e => ?_⟩
    rcases hv with hv | hv
    · exact h3 (by decide) (hv ▸ e)
    · rw [hv] at e; have e' : W.heap.size = g26 := Option.some.inj e; have := h1.1; omega
  · obtain ⟨h1, h2, h3⟩ := h.b9 hc
    refine ⟨h1.kpt kg (h3 (by decide)), h2, fun _ e => ?_⟩
    rcases hv with hv | hv
    · exact h3 (by decide) (hv ▸ e)
    · rw [hv] at e; have e' : W.heap.size = g9 := Option.some.inj e; have := h1.1; omega
theorem Sm.op4 {T : TypeId} {xs : Array Value} (h : Sm w5 l xs.toList ds a false c v g26 g9 W) : Sm w5 l xs.toList ds a true c v W.heap.size g9 (W.alloc (.cells xs T)) := by
  refine ⟨bt h.kw (below_a _ _), fun ha => (h.own ha).alloc _, fun _ => ⟨Box.new _ _ _, h.kw.size, fun ha e => by have := ((h.own ha).lt _ e).2; omega⟩, fun hc => ?_⟩
  obtain ⟨h1, h2, h3⟩ := h.b9 hc
  exact ⟨h1.step (below_a _ _), h2, h3⟩
theorem Sm.op11 {T : TypeId} {xs : Array Value} (h : Sm w5 l cs xs.toList a b false v g26 g9 W) : Sm w5 l cs xs.toList a b true v g26 W.heap.size (W.alloc (.cells xs T)) := by
  refine ⟨bt h.kw (below_a _ _), fun ha => (h.own ha).alloc _, fun hb => ?_, fun _ => ⟨Box.new _ _ _, h.kw.size, fun ha e => by have := ((h.own ha).lt _ e).2; omega⟩⟩
  obtain ⟨h1, h2, h3⟩ := h.b26 hb
  exact ⟨h1.step (below_a _ _), h2, h3⟩
end
/-- The copy stands; the image's place (c) may. -/
structure Sn (w5 : World) (us : List Un) (ds : List Value) (c : Bool) (v : Value) (g9 : Nat) (W : World) : Prop where
  kw : Below w5.heap.size w5 W
  uns : Uns W v us
  b9 : c = true → Box W g9 ds ∧ w5.heap.size ≤ g9
theorem Sm.op5 {w w5 W W' : World} {l : List (Un × Value)} {ds : List Value} {c : Bool} {v v' : Value} {g26 g9 n : Nat} {mu : Un} {vm : Value} {xs : List Value} (h : Sm w5 l [.string mu.name, vm] ds 2 true c v g26 g9 W) (k5 : Below w.heap.size w w5) (hok : ∀ a ∈ l, UvOk w a) (hm : UvOk w (mu, vm)) (ho : W'.ownsRow w5.heap.size 39 2 v' n xs) (hn : n = l.length + 1) (hx : xs = l.flatMap cellsUV ++ [.string mu.name, vm]) (hg : W.grownBy W' v.ownBlock) : Sn w5 (l.map (·.1) ++ [mu]) ds c v' g9 W' := by
  have hlt := (h.own (by decide)).lt
  have kg : Kpt (fun k => v.ownBlock = some k) W W' := Kpt.grown hg (fun _ h => h)
  have kw : Below w5.heap.size w5 W' := h.kw.trans (kg.below h.kw.size (fun k hk => (hlt k hk).1))
  subst hn hx
  have hL : Lies W' 2 v' (l ++ [(mu, vm)]).length ((l ++ [(mu, vm)]).flatMap cellsUV) := by
    have := Lies.owned ho
    rw [List.length_append, List.flatMap_append]
    exact this
  have hall : ∀ a ∈ l ++ [(mu, vm)], UvOk W' a := fun a ha => by
    refine UvOk.step ?_ (bt k5 kw)
    rcases List.mem_append.1 ha with ha | ha
    · exact hok a ha
    · simp at ha; subst ha; exact hm
  have hu := uns_of hL hall
  rw [List.map_append] at hu
  refine ⟨kw, hu, fun hc => ?_⟩
  obtain ⟨h1, h2, h3⟩ := h.b9 hc
  exact ⟨h1.kpt kg (h3 (by decide)), h2⟩
theorem Sn.step {w5 W W' : World} {us : List Un} {ds : List Value} {c : Bool} {v : Value} {g9 : Nat} (h : Sn w5 us ds c v g9 W) (k : Below W.heap.size W W') : Sn w5 us ds c v g9 W' := ⟨bt h.kw k, h.uns.step k, fun hc => ⟨(h.b9 hc).1.step k, (h.b9 hc).2⟩⟩
theorem Sn.op11 {w5 W : World} {us : List Un} {xs : Array Value} {T : TypeId} {v : Value} {g9 : Nat} (h : Sn w5 us xs.toList false v g9 W) : Sn w5 us xs.toList true v W.heap.size (W.alloc (.cells xs T)) := ⟨bt h.kw (below_a _ _), h.uns.step (below_a _ _), fun _ => ⟨Box.new _ _ _, h.kw.size⟩⟩
theorem box_add {W : World} {g : Nat} {cs : List Value} (h : Box W g cs) : ∀ j u, cs[j]? = some u → W.cell? ((⟨g, 0, none⟩ : Addr).add j) = some u := by
  intro j u hu
  have e : ((⟨g, 0, none⟩ : Addr).add j) = ⟨g, j, none⟩ := by unfold Addr.add; split <;> simp_all
  rw [e]; exact h.2.1 j u hu
theorem reg_meetM {G R : Value → Value → Nat → Nat → World → Prop} {p : Prop} (h1 : (∀ v v' g g' W, R v v' g g' W → G v v' g g' W) → p) (h2 : ∀ v v' g g' W, R v v' g g' W → G v v' g g' W) : p := h1 h2
theorem reg_meetN {G R : Value → Value → Nat → World → Prop} {p : Prop} (h1 : (∀ v v' g W, R v v' g W → G v v' g W) → p) (h2 : ∀ v v' g W, R v v' g W → G v v' g W) : p := h1 h2
/-- Three operations that may come up. -/
theorem reg_three {P : Program} {Q : Exit → Act → World → Prop} {C : World → Prop} {L : List Oper} (i j m f : Nat) {fuel : Nat} {listed : Array Bool} {a : Act} {w : World} (hf : fuel = f + 1) (hr : Region.ready .any L.toArray listed = [i, j, m]) (hC : C w)
    (h1 : wpList P L.toArray (nextQ Q (wpAnyC P .any L.toArray Q C f (listed.setIfInBounds i true))) ((L.drop i).take 1) a w)
    (h2 : wpList P L.toArray (nextQ Q (wpAnyC P .any L.toArray Q C f (listed.setIfInBounds j true))) ((L.drop j).take 1) a w)
    (h3 : wpList P L.toArray (nextQ Q (wpAnyC P .any L.toArray Q C f (listed.setIfInBounds m true))) ((L.drop m).take 1) a w) : wpAnyC P .any L.toArray Q C fuel listed a w := by
  subst hf
  refine ⟨hC, fun h0 => (by rw [hr] at h0; cases h0), fun k hk => ?_⟩
  have hm := hk
  rw [hr] at hk
  obtain ⟨_, o, ho, _⟩ := mem_ready.1 hm
  have ho' : L[k]? = some o := by simpa using ho
  have hd : (L.drop k).take 1 = [o] := by
    obtain ⟨hlt, e⟩ := List.getElem?_eq_some_iff.1 ho'
    rw [List.drop_eq_getElem_cons hlt, e]; rfl
  have h : wpList P L.toArray (nextQ Q (wpAnyC P .any L.toArray Q C f (listed.setIfInBounds k true))) [o] a w := by
    rw [← hd]
    simp only [List.mem_cons, List.not_mem_nil, or_false] at hk
    rcases hk with rfl | rfl | rfl
    · exact h1
    · exact h2
    · exact h3
  unfold wpOp
  simp only [ho]
  unfold wpList at h
  split
  · rename_i hw
    rw [if_pos hw] at h
    rcases h with h | ⟨h1, ⟨a', w', h2⟩⟩
    · exact .inl (wp_turn (fun _ _ _ h => h) (fun _ _ h => h) h)
    · exact .inr ⟨h1, a', w', h2⟩
  · rename_i hw
    rw [if_neg hw] at h
    exact h
end Go.Proofs.Yticbejfdldehcab
