/-
  A machine that is looked on at: blocks that somebody else has.
-/
import Derived.Test.YtjlbenbfmookoaaEmuS
import Derived.Test.YtjlbenbfmookoaaEmuV
namespace Go.Proofs.Ytjlbenbfmookoaa
open Go.RowKit
set_option linter.unusedSimpArgs false
set_option linter.unusedVariables false

/-- All blocks but those of Y are as they were. -/
structure Kpw (Y : Nat → Prop) (w w' : World) : Prop where
  os : w'.os = w.os
  tape : w'.tape = w.tape
  output : w'.output = w.output
  size : w.heap.size ≤ w'.heap.size
  block : ∀ k, k < w.heap.size → ¬ Y k → w'.heap[k]? = w.heap[k]?
theorem Kpw.refl (Y : Nat → Prop) (w : World) : Kpw Y w w := ⟨rfl, rfl, rfl, Nat.le_refl _, fun _ _ _ => rfl⟩
theorem Kpw.of {Y : Nat → Prop} {w w' : World} (h : Below w.heap.size w w') : Kpw Y w w' := ⟨h.os, h.tape, h.output, h.size, fun k hk _ => h.block k hk⟩
theorem Kpw.trans {Y Z Q : Nat → Prop} {a b c : World} (h : Kpw Y a b) (k : Kpw Z b c) (hY : ∀ n, Y n → Q n) (hZ : ∀ n, Z n → n < a.heap.size → Q n) : Kpw Q a c :=
  ⟨k.os.trans h.os, k.tape.trans h.tape, k.output.trans h.output, Nat.le_trans h.size k.size, fun n hn hq => by rw [k.block n (Nat.lt_of_lt_of_le hn h.size) (fun y => hq (hZ n y hn)), h.block n hn (fun x => hq (hY n x))]⟩
theorem Kpw.below {Y : Nat → Prop} {w w' : World} {B : Nat} (h : Kpw Y w w') (hB : B ≤ w.heap.size) (hY : ∀ n, Y n → B ≤ n) : Below B w w' := ⟨h.os, h.tape, h.output, h.size, fun k hk => h.block k (by omega) (fun x => by have := hY k x; omega)⟩
theorem Kpw.mono {Y Z : Nat → Prop} {w w' : World} (h : Kpw Y w w') (hyz : ∀ k, Y k → Z k) : Kpw Z w w' := ⟨h.os, h.tape, h.output, h.size, fun k hk hn => h.block k hk (fun x => hn (hyz k x))⟩
theorem Kpw.cell {Y : Nat → Prop} {w w' : World} (h : Kpw Y w w') {b o : Nat} (hb : b < w.heap.size) (hx : ¬ Y b) : w'.cell? ⟨b, o, none⟩ = w.cell? ⟨b, o, none⟩ := by
  unfold World.cell?; rw [h.block b hb hx]
theorem Kpw.frozen {Y : Nat → Prop} {w w' : World} (h : Kpw Y w w') {b o : Nat} (hb : b < w.heap.size) (hx : ¬ Y b) : w'.frozen? ⟨b, o, none⟩ = w.frozen? ⟨b, o, none⟩ := by
  unfold World.frozen?; rw [h.block b hb hx]
theorem Kpw.box {Y : Nat → Prop} {w w' : World} {b : Nat} {cs : List Value} (k : Kpw Y w w') (h : Box w b cs) (hx : ¬ Y b) : Box w' b cs :=
  ⟨Nat.lt_of_lt_of_le h.1 k.size, fun j u hu => by rw [k.cell h.1 hx]; exact h.2.1 j u hu, fun j => by rw [k.frozen h.1 hx]; exact h.2.2 j⟩
theorem Kpw.own {Y : Nat → Prop} {w w' : World} {B e s n : Nat} {v : Value} {cs : List Value} (k : Kpw Y w w') (h : w.ownsRow B e s v n cs) (hx : ∀ c, v.ownBlock = some c → ¬ Y c) : w'.ownsRow B e s v n cs := by
  refine ⟨h.1, ?_⟩
  rcases h.2 with h0 | ⟨g, cap, row, h1, h2, h3, h4⟩
  · exact .inl h0
  · refine .inr ⟨g, cap, row, h1, h2, ?_, h4⟩
    have hg : g < w.heap.size := (Array.getElem?_eq_some_iff.1 h3).1
    rw [k.block g hg (hx g (by rw [h1]; rfl))]; exact h3
theorem Kpw.setCell {Y : Nat → Prop} (w : World) {c j : Nat} (v : Value) (hx : Y c) : Kpw Y w (w.setCell ⟨c, j, none⟩ v) :=
  ⟨rfl, rfl, rfl, by simp, fun k _ hk => by
    have : c ≠ k := fun e => hk (e ▸ hx)
    simp [World.setCell, Array.getElem?_modify, this]⟩
theorem Kpw.grown {Y : Nat → Prop} {w w' : World} {row : Option Nat} (h : w.grownBy w' row) (hx : ∀ k, row = some k → Y k) : Kpw Y w w' :=
  ⟨h.os, h.tape, h.output, h.size, fun k hk hn => h.block k hk (fun e => hn (hx k e.symm))⟩

/-- The world with its first blocks alone. -/
def cutW (w : World) (n : Nat) : World := { w with heap := w.heap.extract 0 n }
theorem cutW_size {w : World} {n : Nat} (h : n ≤ w.heap.size) : (cutW w n).heap.size = n := by simp [cutW]; omega
theorem cutW_at {w : World} {n k : Nat} (hk : k < n) : (cutW w n).heap[k]? = w.heap[k]? := by
  simp only [cutW, Array.getElem?_extract]
  by_cases h : k < w.heap.size
  · rw [if_pos (by omega)]; simp
  · rw [if_neg (by omega), Array.getElem?_eq_none (by omega)]
theorem cutW_below {w : World} {n : Nat} (h : n ≤ w.heap.size) : Below n (cutW w n) w := ⟨rfl, rfl, rfl, by rw [cutW_size h]; exact h, fun k hk => (cutW_at hk).symm⟩
theorem Lies.cut {w0 w' : World} {s l : Nat} {v : Value} {cs : List Value} (h : Lies w0 s v l cs) (hs : w0.heap.size ≤ w'.heap.size) (hb : ∀ k, l ≠ 0 → k < w0.heap.size → v.ownBlock = some k → w'.heap[k]? = w0.heap[k]?) : Lies (cutW w' w0.heap.size) s v l cs := by
  obtain ⟨h1, ao, cap, rfl, h3, h4, h6, h5⟩ := h
  refine ⟨h1, ao, cap, rfl, h3, h4, h6, fun hn => ?_⟩
  obtain ⟨c, off, rfl, hc, hl⟩ := h5 hn
  refine ⟨c, off, rfl, by rw [cutW_size hs]; exact hc, fun i hi => ?_⟩
  rw [World.cell?_of_block (w := w0) (a := ⟨c, off + i, none⟩) (by show (cutW w' w0.heap.size).heap[c]? = _; rw [cutW_at hc]; exact hb c hn hc rfl)]
  exact hl i hi
/-- Somebody turned blocks of his own. -/
theorem Mach.recut {X : Sd} {w0 w w' : World} {p q : Nat} {vc vi vo : Value} {m : Ma} {xs bs : List Int} (h : Mach X w0 w p q vc vi vo m xs bs) {Y : Nat → Prop} (k : Kpw Y w w') (hp : ¬ Y p) (hq : ¬ Y q)
    (ho : ∀ c, vo.ownBlock = some c → ¬ Y c) (hc : ∀ c, xs.length ≠ 0 → c < w0.heap.size → vc.ownBlock = some c → ¬ Y c) (hi : ∀ c, bs.length ≠ 0 → c < w0.heap.size → vi.ownBlock = some c → ¬ Y c) : Mach (Sd.no w') (cutW w' w0.heap.size) w' p q vc vi vo m xs bs := by
  have hs : w0.heap.size ≤ w'.heap.size := Nat.le_trans h.low.size k.size
  have e := cutW_size hs
  have hl : ∀ b, b < w0.heap.size → ¬ Y b → w'.heap[b]? = w0.heap[b]? := fun b hb hy => by rw [k.block b (Nat.lt_of_lt_of_le hb h.low.size) hy]; exact h.low.block b hb
  exact {
    box := k.box h.box hp
    hp := by rw [e]; exact h.hp
    hq := by rw [e]; exact h.hq
    hpq := h.hpq
    hqw := Nat.lt_of_lt_of_le h.hqw k.size
    mem := fun j hj => by rw [k.cell h.hqw hq]; exact h.mem j hj
    frz := fun j => by rw [k.frozen h.hqw hq]; exact h.frz j
    code := Lies.cut h.code hs fun b hn hb hv => hl b hb (hc b hn hb hv)
    inp := Lies.cut h.inp hs fun b hn hb hv => hl b hb (hi b hn hb hv)
    low := by rw [e]; exact cutW_below hs
    own := by rw [e]; exact k.own h.own ho
    ho := h.ho
    fine := h.fine
    side := ⟨Nat.le_refl _, fun _ _ h => h.elim⟩ }
theorem Mach.kept {X : Sd} {Y : Nat → Prop} {w0 w w' : World} {p q : Nat} {vc vi vo vo' : Value} {m m' : Ma} {xs bs : List Int} (h : Mach X w0 w p q vc vi vo m xs bs) (h' : Mach ⟨w, Y⟩ w0 w' p q vc vi vo' m' xs bs) : Kpw (fun k => ¬ Y k) w w' :=
  ⟨h'.low.os.trans h.low.os.symm, h'.low.tape.trans h.low.tape.symm, h'.low.output.trans h.low.output.symm, h'.side.1, fun k hk hn => (h'.side.2 k hk (Classical.not_not.1 hn)).2.2.2⟩
theorem Mach.sep {Y : Nat → Prop} {w0 w w' : World} {p q : Nat} {vc vi vo : Value} {m : Ma} {xs bs : List Int} (h : Mach ⟨w, Y⟩ w0 w' p q vc vi vo m xs bs) : ∀ b, b < w.heap.size → Y b → b ≠ p ∧ b ≠ q ∧ vo.ownBlock ≠ some b :=
  fun b hb hy => ⟨(h.side.2 b hb hy).1, (h.side.2 b hb hy).2.1, (h.side.2 b hb hy).2.2.1⟩

section
variable {σ γ : Type}
/-- Who looks on: what is his (Inv, his blocks Foot), whether he stops the run (st), what he makes of a step (tk); the two function values. -/
structure Looks (Inv : σ → γ → World → Prop) (Foot : γ → Nat → Prop) (st : Int → Bool) (tk : σ → Sht → Bool → σ) (vS vT : Value) : Prop where
  lt : ∀ s g u k, Inv s g u → Foot g k → k < u.heap.size
  keep : ∀ s g u u', Inv s g u → Kpw (fun k => ¬ Foot g k) u u' → Inv s g u'
  stops : (vS = .nilFunc ∧ ∀ x, st x = false) ∨ ∃ f cs, vS = .func (.func f) #[] cs ∧ (∀ av W, (callFunc f av).run Try.prog W = .ok (.enter f av) W) ∧ ∀ s g u x, wd x → Inv s g u → Calls Try.prog f (#[.int .i64 x] ++ cs) u fun e u' => e = .returned (.bool (st x)) ∧ Below u.heap.size u u'
  took : (vT = .nilFunc ∧ ∀ s a b, tk s a b = s) ∨ ∃ f cs, vT = .func (.func f) #[] cs ∧ (∀ av W, (callFunc f av).run Try.prog W = .ok (.enter f av) W) ∧ ∀ s g u a b, wd a.a → Inv s g u → Calls Try.prog f (#[.agg a.cells, .bool b] ++ cs) u fun e u' => e = .returned (.tuple #[]) ∧ ∃ g', Inv (tk s a b) g' u' ∧ Kpw (Foot g) u u' ∧ ∀ k, Foot g' k → Foot g k ∨ u.heap.size ≤ k
/-- A watched machine on its way. -/
structure Wtc (Inv : σ → γ → World → Prop) (Foot : γ → Nat → Prop) (g0 g : γ) (W0 wr : World) (p q : Nat) (vc vi vo : Value) (m : Ma) (xs bs : List Int) (s : σ) : Prop where
  mach : Mach (Sd.no wr) (cutW wr W0.heap.size) wr p q vc vi vo m xs bs
  ex : Inv s g wr ∧ (∀ b, Foot g b → b ≠ p ∧ b ≠ q ∧ vo.ownBlock ≠ some b) ∧ (∀ b, Foot g b → Foot g0 b ∨ W0.heap.size ≤ b)
  kpt : Kpw (fun b => Foot g0 b ∨ W0.heap.size ≤ b) W0 wr
  hc : ∀ c, xs.length ≠ 0 → c < W0.heap.size → vc.ownBlock = some c → ¬ Foot g0 c
  hi : ∀ c, bs.length ≠ 0 → c < W0.heap.size → vi.ownBlock = some c → ¬ Foot g0 c
variable {Inv : σ → γ → World → Prop} {Foot : γ → Nat → Prop} {st : Int → Bool} {tk : σ → Sht → Bool → σ} {vS vT : Value} {g0 g : γ} {W0 wr : World} {p q : Nat} {vc vi vo : Value} {m : Ma} {xs bs : List Int} {s : σ}
theorem Wtc.sz (K : Wtc Inv Foot g0 g W0 wr p q vc vi vo m xs bs s) : (cutW wr W0.heap.size).heap.size = W0.heap.size := cutW_size K.kpt.size
/-- The machine moves; who looks on has his blocks, and so have others. -/
theorem Wtc.move (L : Looks Inv Foot st tk vS vT) (K : Wtc Inv Foot g0 g W0 wr p q vc vi vo m xs bs s) (Z : Nat → Prop) (hZ : ∀ b, b < wr.heap.size → Z b → b ≠ p ∧ b ≠ q ∧ vo.ownBlock ≠ some b) :
    ∃ Y : Nat → Prop, (∀ b, Z b → Y b) ∧ Mach ⟨wr, Y⟩ (cutW wr W0.heap.size) wr p q vc vi vo m xs bs ∧ ∀ w' vo' m', Mach ⟨wr, Y⟩ (cutW wr W0.heap.size) w' p q vc vi vo' m' xs bs → Wtc Inv Foot g0 g W0 w' p q vc vi vo' m' xs bs s := by
  obtain ⟨h1, h2, h3⟩ := K.ex
  refine ⟨fun b => Foot g b ∨ Z b, fun b hb => .inr hb, K.mach.reside _ fun b hb hy => hy.elim (h2 b) (hZ b hb), fun w' vo' m' h' => ?_⟩
  have hsz := K.sz
  have kk := K.mach.kept h'
  refine ⟨?_, ⟨L.keep _ _ _ _ h1 (kk.mono fun k hk hf => hk (.inl hf)), fun b hb => ?_, h3⟩, ?_, K.hc, K.hi⟩
  · have := h'.recut (Kpw.refl (fun _ => False) w') (fun h => h) (fun h => h) (fun _ _ h => h) (fun _ _ _ _ h => h) (fun _ _ _ _ h => h)
    rw [hsz] at this
    exact this
  · exact h'.sep b (L.lt _ _ _ _ h1 hb) (.inl hb)
  · refine K.kpt.trans (Z := fun b => W0.heap.size ≤ b) ⟨kk.os, kk.tape, kk.output, kk.size, fun k _ hn => ?_⟩ (fun _ h => h) fun _ h _ => .inr h
    have hk : k < W0.heap.size := by omega
    have := h'.low.block k (by rw [hsz]; exact hk)
    rw [this, cutW_at hk]
theorem Wtc.step (L : Looks Inv Foot st tk vS vT) (K : Wtc Inv Foot g0 g W0 wr p q vc vi vo m xs bs s) {w' : World} (k : Below wr.heap.size wr w') : Wtc Inv Foot g0 g W0 w' p q vc vi vo m xs bs s := by
  obtain ⟨Y, -, h, back⟩ := K.move L (fun _ => False) fun _ _ h => h.elim
  exact back _ _ _ (h.step k)
theorem Wtc.stopsCall (L : Looks Inv Foot st tk vS vT) (K : Wtc Inv Foot g0 g W0 wr p q vc vi vo m xs bs s) {f : FuncId} {cs : Array Value} (hf : ∀ s g u x, wd x → Inv s g u → Calls Try.prog f (#[.int .i64 x] ++ cs) u fun e u' => e = .returned (.bool (st x)) ∧ Below u.heap.size u u') (x : Int) (hx : wd x) :
    Calls Try.prog f (#[.int .i64 x] ++ cs) wr fun e u' => e = .returned (.bool (st x)) ∧ Below wr.heap.size wr u' := by
  obtain ⟨h1, -, -⟩ := K.ex
  exact hf s g wr x hx h1
theorem Wtc.tookCall (L : Looks Inv Foot st tk vS vT) (K : Wtc Inv Foot g0 g W0 wr p q vc vi vo m xs bs s) {f : FuncId} {cs : Array Value} (hf : ∀ s g u a b, wd a.a → Inv s g u → Calls Try.prog f (#[.agg a.cells, .bool b] ++ cs) u fun e u' => e = .returned (.tuple #[]) ∧ ∃ g', Inv (tk s a b) g' u' ∧ Kpw (Foot g) u u' ∧ ∀ k, Foot g' k → Foot g k ∨ u.heap.size ≤ k) (a : Sht) (b : Bool) (ha : wd a.a) :
    Calls Try.prog f (#[.agg a.cells, .bool b] ++ cs) wr fun e u' => e = .returned (.tuple #[]) ∧ Kpw (Foot g) wr u' ∧ ∃ g', Wtc Inv Foot g0 g' W0 u' p q vc vi vo m xs bs (tk s a b) := by
  obtain ⟨h1, h2, h3⟩ := K.ex
  refine (hf s g wr a b ha h1).mono ?_
  rintro e u' ⟨rfl, g', i1, k1, f1⟩
  have hsz := K.sz
  have hle := K.kpt.size
  refine ⟨rfl, k1, g', ?_, ⟨i1, fun c hc => ?_, fun c hc => ?_⟩, ?_, K.hc, K.hi⟩
  · have := K.mach.recut k1 (fun h => (h2 p h).1 rfl) (fun h => (h2 q h).2.1 rfl) (fun c hc h => (h2 c h).2.2 hc)
      (fun c hn hl hc h => by rw [hsz] at hl; exact (h3 c h).elim (K.hc c hn hl hc) (by omega)) (fun c hn hl hc h => by rw [hsz] at hl; exact (h3 c h).elim (K.hi c hn hl hc) (by omega))
    rw [hsz] at this
    exact this
  · rcases f1 c hc with h | h
    · exact h2 c h
    · have e1 := K.mach.pw
      have e2 := K.mach.hqw
      exact ⟨by omega, by omega, fun e => by have := K.mach.voLt c e; omega⟩
  · rcases f1 c hc with h | h
    · exact h3 c h
    · exact .inr (by omega)
  · exact K.kpt.trans k1 (fun _ h => h) fun c hc _ => h3 c hc
end
end Go.Proofs.Ytjlbenbfmookoaa
