/-
  A run that somebody looks on at: plain functions.
-/
import Derived.Test.YtjlbenbfmookoabEmuM
import Derived.Test.YtjlbenbfmookoabEmuS
import Derived.Test.YtjlbenbfmookoabReg
namespace Go.Proofs.Ytjlbenbfmookoab
open Go.RowKit
set_option linter.unusedSimpArgs false
set_option linter.unusedVariables false

/-- A step that was taken. -/
structure Sht where
  a : Int
  i : Ins
  r : Nat → Int
  c : Bool
  z : Bool
  n : Bool
  v : Bool
def shtOf (a : Int) (i : Ins) (m : Ma) : Sht := ⟨a, i, m.r, m.c, m.z, m.n, m.v⟩
def Sht.cells (s : Sht) : Array Value :=
  #[.int .i64 s.a, .int .i64 s.i.o, .int .i64 s.i.d, .int .i64 s.i.s, .int .i64 s.i.m, .int .i64 (s.r 0), .int .i64 (s.r 1), .int .i64 (s.r 2), .int .i64 (s.r 3), .int .i64 (s.r 4), .int .i64 (s.r 5), .int .i64 (s.r 6), .int .i64 (s.r 7), .bool s.c, .bool s.z, .bool s.n, .bool s.v]
/-- What who looks on makes of the step that m takes. -/
def Ma.seen {σ : Type} (m : Ma) (xs bs : List Int) (tk : σ → Sht → Bool → σ) (s : σ) : σ := tk s (shtOf m.pc (oneA xs m.pc).1 (m.step xs bs)) (decide (¬ (oneA xs m.pc).2 = 0))
/-- The run. -/
def goW {σ : Type} (xs bs : List Int) (st : Int → Bool) (tk : σ → Sht → Bool → σ) : Nat → Ma → σ → Ma × σ
  | 0, m, s => if m.how = 0 then (if 0 < m.took ∧ st m.pc = true then ({ m with how := 6 }, s) else ({ m with how := 3 }, s)) else (m, s)
  | k + 1, m, s => if m.how = 0 then (if 0 < m.took ∧ st m.pc = true then ({ m with how := 6 }, s) else goW xs bs st tk k (m.step xs bs) (m.seen xs bs tk s)) else (m, s)
section
variable {σ : Type} {xs bs : List Int} {st : Int → Bool} {tk : σ → Sht → Bool → σ}
theorem goW_end (k : Nat) (m : Ma) (s : σ) (h : ¬ m.how = 0) : goW xs bs st tk k m s = (m, s) := by
  cases k <;> (unfold goW; rw [if_neg h])
theorem goW_stop (k : Nat) (m : Ma) (s : σ) (h : m.how = 0) (ht : 0 < m.took) (hs : st m.pc = true) : goW xs bs st tk k m s = ({ m with how := 6 }, s) := by
  cases k <;> (unfold goW; rw [if_pos h, if_pos ⟨ht, hs⟩])
theorem goW_fuel (m : Ma) (s : σ) (h : m.how = 0) (hn : ¬ (0 < m.took ∧ st m.pc = true)) : goW xs bs st tk 0 m s = ({ m with how := 3 }, s) := by
  unfold goW; rw [if_pos h, if_neg hn]
theorem goW_step (k : Nat) (m : Ma) (s : σ) (h : m.how = 0) (hn : ¬ (0 < m.took ∧ st m.pc = true)) : goW xs bs st tk (k + 1) m s = goW xs bs st tk k (m.step xs bs) (m.seen xs bs tk s) := by
  rw [goW, if_pos h, if_neg hn]
/-- Who only looks changes nothing. -/
theorem goW_run (hst : ∀ x, st x = false) : ∀ (k : Nat) (m : Ma) (s : σ), (goW xs bs st tk k m s).1 = Ma.run xs bs k m
  | 0, m, s => by
    by_cases h : m.how = 0
    · rw [goW_fuel m s h (by rw [hst]; simp), Ma.run, if_pos h]
    · rw [goW_end _ _ _ h, Ma.run, if_neg h]
  | k + 1, m, s => by
    by_cases h : m.how = 0
    · rw [goW_step k m s h (by rw [hst]; simp), Ma.run, if_pos h]; exact goW_run hst k _ _
    · rw [goW_end _ _ _ h, Ma.run, if_neg h]
end
end Go.Proofs.Ytjlbenbfmookoab

/-
  A machine that is looked on at: blocks that somebody else has.
-/
namespace Go.Proofs.Ytjlbenbfmookoab
open Go.RowKit
set_option linter.unusedSimpArgs false
set_option linter.unusedVariables false

/-- All blocks but those of Y are as they were. -/
structure Kpw (Y : Nat → Prop) (w w' : World) : Prop where
  os : w'.os = w.os
  tape : w'.tape = w.tape
  output : w'.output = w.output
  size : w.heap.size ≤ w'.heap.size
  block : ∀ k, k < w.heap.size → ¬ Y k → w'.heap[k]? = w.heap[k]?
theorem Kpw.refl (Y : Nat → Prop) (w : World) : Kpw Y w w := ⟨rfl, rfl, rfl, Nat.le_refl _, fun _ _ _ => rfl⟩
theorem Kpw.of {Y : Nat → Prop} {w w' : World} (h : Below w.heap.size w w') : Kpw Y w w' := ⟨h.os, h.tape, h.output, h.size, fun k hk _ => h.block k hk⟩
theorem Kpw.trans {Y Z Q : Nat → Prop} {a b c : World} (h : Kpw Y a b) (k : Kpw Z b c) (hY : ∀ n, Y n → Q n) (hZ : ∀ n, Z n → n < a.heap.size → Q n) : Kpw Q a c :=
  ⟨k.os.trans h.os, k.tape.trans h.tape, k.output.trans h.output, Nat.le_trans h.size k.size, fun n hn hq => by rw [k.block n (Nat.lt_of_lt_of_le hn h.size) (fun y => hq (hZ n y hn)), h.block n hn (fun x => hq (hY n x))]⟩
theorem Kpw.below {Y : Nat → Prop} {w w' : World} {B : Nat} (h : Kpw Y w w') (hB : B ≤ w.heap.size) (hY : ∀ n, Y n → B ≤ n) : Below B w w' := ⟨h.os, h.tape, h.output, h.size, fun k hk => h.block k (by omega) (fun x => by have := hY k x; omega)⟩
theorem Kpw.mono {Y Z : Nat → Prop} {w w' : World} (h : Kpw Y w w') (hyz : ∀ k, Y k → Z k) : Kpw Z w w' := ⟨h.os, h.tape, h.output, h.size, fun k hk hn => h.block k hk (fun x => hn (hyz k x))⟩
theorem Kpw.cell {Y : Nat → Prop} {w w' : World} (h : Kpw Y w w') {b o : Nat} (hb : b < w.heap.size) (hx : ¬ Y b) : w'.cell? ⟨b, o, none⟩ = w.cell? ⟨b, o, none⟩ := by
  unfold World.cell?; rw [h.block b hb hx]
theorem Kpw.frozen {Y : Nat → Prop} {w w' : World} (h : Kpw Y w w') {b o : Nat} (hb : b < w.heap.size) (hx : ¬ Y b) : w'.frozen? ⟨b, o, none⟩ = w.frozen? ⟨b, o, none⟩ := by
  unfold World.frozen?; rw [h.block b hb hx]
theorem Kpw.box {Y : Nat → Prop} {w w' : World} {b : Nat} {cs : List Value} (k : Kpw Y w w') (h : Box w b cs) (hx : ¬ Y b) : Box w' b cs :=
  ⟨Nat.lt_of_lt_of_le h.1 k.size, fun j u hu => by rw [k.cell h.1 hx]; exact h.2.1 j u hu, fun j => by rw [k.frozen h.1 hx]; exact h.2.2 j⟩
theorem Kpw.own {Y : Nat → Prop} {w w' : World} {B e s n : Nat} {v : Value} {cs : List Value} (k : Kpw Y w w') (h : w.ownsRow B e s v n cs) (hx : ∀ c, v.ownBlock = some c → ¬ Y c) : w'.ownsRow B e s v n cs := by
  refine ⟨h.1, ?_⟩
  rcases h.2 with h0 | ⟨g, cap, row, h1, h2, h3, h4⟩
  · exact .inl h0
  · refine .inr ⟨g, cap, row, h1, h2, ?_, h4⟩
    have hg : g < w.heap.size := (Array.getElem?_eq_some_iff.1 h3).1
    rw [k.block g hg (hx g (by rw [h1]; rfl))]; exact h3
theorem Kpw.setCell {Y : Nat → Prop} (w : World) {c j : Nat} (v : Value) (hx : Y c) : Kpw Y w (w.setCell ⟨c, j, none⟩ v) :=
  ⟨rfl, rfl, rfl, by simp, fun k _ hk => by
    have : c ≠ k := fun e => hk (e ▸ hx)
    simp [World.setCell, Array.getElem?_modify, this]⟩
theorem Kpw.grown {Y : Nat → Prop} {w w' : World} {row : Option Nat} (h : w.grownBy w' row) (hx : ∀ k, row = some k → Y k) : Kpw Y w w' :=
  ⟨h.os, h.tape, h.output, h.size, fun k hk hn => h.block k hk (fun e => hn (hx k e.symm))⟩

/-- The world with its first blocks alone. -/
def cutW (w : World) (n : Nat) : World := { w with heap := w.heap.extract 0 n }
theorem cutW_size {w : World} {n : Nat} (h : n ≤ w.heap.size) : (cutW w n).heap.size = n := by simp [cutW]; omega
theorem cutW_at {w : World} {n k : Nat} (hk : k < n) : (cutW w n).heap[k]? = w.heap[k]? := by
  simp only [cutW, Array.getElem?_extract]
  by_cases h : k < w.heap.size
  · rw [if_pos (by omega)]; simp
  · rw [if_neg (by omega), Array.getElem?_eq_none (by omega)]
theorem cutW_below {w : World} {n : Nat} (h : n ≤ w.heap.size) : Below n (cutW w n) w := ⟨rfl, rfl, rfl, by rw [cutW_size h]; exact h, fun k hk => (cutW_at hk).symm⟩
theorem Lies.cut {w0 w' : World} {s l : Nat} {v : Value} {cs : List Value} (h : Lies w0 s v l cs) (hs : w0.heap.size ≤ w'.heap.size) (hb : ∀ k, l ≠ 0 → k < w0.heap.size → v.ownBlock = some k → w'.heap[k]? = w0.heap[k]?) : Lies (cutW w' w0.heap.size) s v l cs := by
  obtain ⟨h1, ao, cap, rfl, h3, h4, h6, h5⟩ := h
  refine ⟨h1, ao, cap, rfl, h3, h4, h6, fun hn => ?_⟩
  obtain ⟨c, off, rfl, hc, hl⟩ := h5 hn
  refine ⟨c, off, rfl, by rw [cutW_size hs]; exact hc, fun i hi => ?_⟩
  rw [World.cell?_of_block (w := w0) (a := ⟨c, off + i, none⟩) (by show (cutW w' w0.heap.size).heap[c]? = _; rw [cutW_at hc]; exact hb c hn hc rfl)]
  exact hl i hi
/-- Somebody turned blocks of his own. -/
theorem Mach.recut {X : Sd} {w0 w w' : World} {p q : Nat} {vc vi vo : Value} {m : Ma} {xs bs : List Int} (h : Mach X w0 w p q vc vi vo m xs bs) {Y : Nat → Prop} (k : Kpw Y w w') (hp : ¬ Y p) (hq : ¬ Y q)
    (ho : ∀ c, vo.ownBlock = some c → ¬ Y c) (hc : ∀ c, xs.length ≠ 0 → c < w0.heap.size → vc.ownBlock = some c → ¬ Y c) (hi : ∀ c, bs.length ≠ 0 → c < w0.heap.size → vi.ownBlock = some c → ¬ Y c) : Mach (Sd.no w') (cutW w' w0.heap.size) w' p q vc vi vo m xs bs := by
  have hs : w0.heap.size ≤ w'.heap.size := Nat.le_trans h.low.size k.size
  have e := cutW_size hs
  have hl : ∀ b, b < w0.heap.size → ¬ Y b → w'.heap[b]? = w0.heap[b]? := fun b hb hy => by rw [k.block b (Nat.lt_of_lt_of_le hb h.low.size) hy]; exact h.low.block b hb
  exact {
    box := k.box h.box hp
    hp := by rw [e]; exact h.hp
    hq := by rw [e]; exact h.hq
    hpq := h.hpq
    hqw := Nat.lt_of_lt_of_le h.hqw k.size
    mem := fun j hj => by rw [k.cell h.hqw hq]; exact h.mem j hj
    frz := fun j => by rw [k.frozen h.hqw hq]; exact h.frz j
    code := Lies.cut h.code hs fun b hn hb hv => hl b hb (hc b hn hb hv)
    inp := Lies.cut h.inp hs fun b hn hb hv => hl b hb (hi b hn hb hv)
    low := by rw [e]; exact cutW_below hs
    own := by rw [e]; exact k.own h.own ho
    ho := h.ho
    fine := h.fine
    side := ⟨Nat.le_refl _, fun _ _ h => h.elim⟩ }
theorem Mach.kept {X : Sd} {Y : Nat → Prop} {w0 w w' : World} {p q : Nat} {vc vi vo vo' : Value} {m m' : Ma} {xs bs : List Int} (h : Mach X w0 w p q vc vi vo m xs bs) (h' : Mach ⟨w, Y⟩ w0 w' p q vc vi vo' m' xs bs) : Kpw (fun k => ¬ Y k) w w' :=
  ⟨h'.low.os.trans h.low.os.symm, h'.low.tape.trans h.low.tape.symm, h'.low.output.trans h.low.output.symm, h'.side.1, fun k hk hn => (h'.side.2 k hk (Classical.not_not.1 hn)).2.2.2⟩
theorem Mach.sep {Y : Nat → Prop} {w0 w w' : World} {p q : Nat} {vc vi vo : Value} {m : Ma} {xs bs : List Int} (h : Mach ⟨w, Y⟩ w0 w' p q vc vi vo m xs bs) : ∀ b, b < w.heap.size → Y b → b ≠ p ∧ b ≠ q ∧ vo.ownBlock ≠ some b :=
  fun b hb hy => ⟨(h.side.2 b hb hy).1, (h.side.2 b hb hy).2.1, (h.side.2 b hb hy).2.2.1⟩

section
variable {σ γ : Type}
/-- Who looks on: what is his (Inv, his blocks Foot), whether he stops the run (st), what he makes of a step (tk); the two function values. -/
structure Looks (Inv : σ → γ → World → Prop) (Foot : γ → Nat → Prop) (st : Int → Bool) (tk : σ → Sht → Bool → σ) (vS vT : Value) : Prop where
  lt : ∀ s g u k, Inv s g u → Foot g k → k < u.heap.size
  keep : ∀ s g u u', Inv s g u → Kpw (fun k => ¬ Foot g k) u u' → Inv s g u'
  stops : (vS = .nilFunc ∧ ∀ x, st x = false) ∨ ∃ f cs, vS = .func (.func f) #[] cs ∧ (∀ av W, (callFunc f av).run Try.prog W = .ok (.enter f av) W) ∧ ∀ s g u x, wd x → Inv s g u → Calls Try.prog f (#[.int .i64 x] ++ cs) u fun e u' => e = .returned (.bool (st x)) ∧ Below u.heap.size u u'
  took : (vT = .nilFunc ∧ ∀ s a b, tk s a b = s) ∨ ∃ f cs, vT = .func (.func f) #[] cs ∧ (∀ av W, (callFunc f av).run Try.prog W = .ok (.enter f av) W) ∧ ∀ s g u a b, wd a.a → Inv s g u → Calls Try.prog f (#[.agg a.cells, .bool b] ++ cs) u fun e u' => e = .returned (.tuple #[]) ∧ ∃ g', Inv (tk s a b) g' u' ∧ Kpw (Foot g) u u' ∧ ∀ k, Foot g' k → Foot g k ∨ u.heap.size ≤ k
/-- A watched machine on its way. -/
structure Wtc (Inv : σ → γ → World → Prop) (Foot : γ → Nat → Prop) (g0 g : γ) (W0 wr : World) (p q : Nat) (vc vi vo : Value) (m : Ma) (xs bs : List Int) (s : σ) : Prop where
  mach : Mach (Sd.no wr) (cutW wr W0.heap.size) wr p q vc vi vo m xs bs
  ex : Inv s g wr ∧ (∀ b, Foot g b → b ≠ p ∧ b ≠ q ∧ vo.ownBlock ≠ some b) ∧ (∀ b, Foot g b → Foot g0 b ∨ W0.heap.size ≤ b)
  kpt : Kpw (fun b => Foot g0 b ∨ W0.heap.size ≤ b) W0 wr
  hc : ∀ c, xs.length ≠ 0 → c < W0.heap.size → vc.ownBlock = some c → ¬ Foot g0 c
  hi : ∀ c, bs.length ≠ 0 → c < W0.heap.size → vi.ownBlock = some c → ¬ Foot g0 c
variable {Inv : σ → γ → World → Prop} {Foot : γ → Nat → Prop} {st : Int → Bool} {tk : σ → Sht → Bool → σ} {vS vT : Value} {g0 g : γ} {W0 wr : World} {p q : Nat} {vc vi vo : Value} {m : Ma} {xs bs : List Int} {s : σ}
theorem Wtc.sz (K : Wtc Inv Foot g0 g W0 wr p q vc vi vo m xs bs s) : (cutW wr W0.heap.size).heap.size = W0.heap.size := cutW_size K.kpt.size
/-- The machine moves; who looks on has his blocks, and so have others. -/
theorem Wtc.move (L : Looks Inv Foot st tk vS vT) (K : Wtc Inv Foot g0 g W0 wr p q vc vi vo m xs bs s) (Z : Nat → Prop) (hZ : ∀ b, b < wr.heap.size → Z b → b ≠ p ∧ b ≠ q ∧ vo.ownBlock ≠ some b) :
    ∃ Y : Nat → Prop, (∀ b, Z b → Y b) ∧ Mach ⟨wr, Y⟩ (cutW wr W0.heap.size) wr p q vc vi vo m xs bs ∧ ∀ w' vo' m', Mach ⟨wr, Y⟩ (cutW wr W0.heap.size) w' p q vc vi vo' m' xs bs → Wtc Inv Foot g0 g W0 w' p q vc vi vo' m' xs bs s := by
  obtain ⟨h1, h2, h3⟩ := K.ex
  refine ⟨fun b => Foot g b ∨ Z b, fun b hb => .inr hb, K.mach.reside _ fun b hb hy => hy.elim (h2 b) (hZ b hb), fun w' vo' m' h' => ?_⟩
  have hsz := K.sz
  have kk := K.mach.kept h'
  refine ⟨?_, ⟨L.keep _ _ _ _ h1 (kk.mono fun k hk hf => hk (.inl hf)), fun b hb => ?_, h3⟩, ?_, K.hc, K.hi⟩
  · have := h'.recut (Kpw.refl (fun _ => False) w') (fun h => h) (fun h => h) (fun _ _ h => h) (fun _ _ _ _ h => h) (fun _ _ _ _ h => h)
    rw [hsz] at this
    exact this
  · exact h'.sep b (L.lt _ _ _ _ h1 hb) (.inl hb)
  · refine K.kpt.trans (Z := fun b => W0.heap.size ≤ b) ⟨kk.os, kk.tape, kk.output, kk.size, fun k _ hn => ?_⟩ (fun _ h => h) fun _ h _ => .inr h
    have hk : k < W0.heap.size := by omega
    have := h'.low.block k (by rw [hsz]; exact hk)
    rw [this, cutW_at hk]
theorem Wtc.step (L : Looks Inv Foot st tk vS vT) (K : Wtc Inv Foot g0 g W0 wr p q vc vi vo m xs bs s) {w' : World} (k : Below wr.heap.size wr w') : Wtc Inv Foot g0 g W0 w' p q vc vi vo m xs bs s := by
  obtain ⟨Y, -, h, back⟩ := K.move L (fun _ => False) fun _ _ h => h.elim
  exact back _ _ _ (h.step k)
theorem Wtc.stopsCall (L : Looks Inv Foot st tk vS vT) (K : Wtc Inv Foot g0 g W0 wr p q vc vi vo m xs bs s) {f : FuncId} {cs : Array Value} (hf : ∀ s g u x, wd x → Inv s g u → Calls Try.prog f (#[.int .i64 x] ++ cs) u fun e u' => e = .returned (.bool (st x)) ∧ Below u.heap.size u u') (x : Int) (hx : wd x) :
    Calls Try.prog f (#[.int .i64 x] ++ cs) wr fun e u' => e = .returned (.bool (st x)) ∧ Below wr.heap.size wr u' := by
  obtain ⟨h1, -, -⟩ := K.ex
  exact hf s g wr x hx h1
theorem Wtc.tookCall (L : Looks Inv Foot st tk vS vT) (K : Wtc Inv Foot g0 g W0 wr p q vc vi vo m xs bs s) {f : FuncId} {cs : Array Value} (hf : ∀ s g u a b, wd a.a → Inv s g u → Calls Try.prog f (#[.agg a.cells, .bool b] ++ cs) u fun e u' => e = .returned (.tuple #[]) ∧ ∃ g', Inv (tk s a b) g' u' ∧ Kpw (Foot g) u u' ∧ ∀ k, Foot g' k → Foot g k ∨ u.heap.size ≤ k) (a : Sht) (b : Bool) (ha : wd a.a) :
    Calls Try.prog f (#[.agg a.cells, .bool b] ++ cs) wr fun e u' => e = .returned (.tuple #[]) ∧ Kpw (Foot g) wr u' ∧ ∃ g', Wtc Inv Foot g0 g' W0 u' p q vc vi vo m xs bs (tk s a b) := by
  obtain ⟨h1, h2, h3⟩ := K.ex
  refine (hf s g wr a b ha h1).mono ?_
  rintro e u' ⟨rfl, g', i1, k1, f1⟩
  have hsz := K.sz
  have hle := K.kpt.size
  refine ⟨rfl, k1, g', ?_, ⟨i1, fun c hc => ?_, fun c hc => ?_⟩, ?_, K.hc, K.hi⟩
  · have := K.mach.recut k1 (fun h => (h2 p h).1 rfl) (fun h => (h2 q h).2.1 rfl) (fun c hc h => (h2 c h).2.2 hc)
      (fun c hn hl hc h => by rw [hsz] at hl; exact (h3 c h).elim (K.hc c hn hl hc) (by omega)) (fun c hn hl hc h => by rw [hsz] at hl; exact (h3 c h).elim (K.hi c hn hl hc) (by omega))
    rw [hsz] at this
    exact this
  · rcases f1 c hc with h | h
    · exact h2 c h
    · have e1 := K.mach.pw
      have e2 := K.mach.hqw
      exact ⟨by omega, by omega, fun e => by have := K.mach.voLt c e; omega⟩
  · rcases f1 c hc with h | h
    · exact h3 c h
    · exact .inr (by omega)
  · exact K.kpt.trans k1 (fun _ h => h) fun c hc _ => h3 c hc
end
end Go.Proofs.Ytjlbenbfmookoab

/-
  goOn: the run ends, or a step is taken, and who looks on is told.
-/
namespace Go.Proofs.Ytjlbenbfmookoab
open Go.RowKit
set_option linter.unusedSimpArgs false
set_option linter.unusedVariables false

/-- What comes of m. -/
def goN {σ : Type} (xs bs : List Int) (st : Int → Bool) (tk : σ → Sht → Bool → σ) (F : Int) (m : Ma) (s : σ) : Ma × σ :=
  if 0 < m.took ∧ st m.pc = true then ({ m with how := 6 }, s) else if m.took = F then ({ m with how := 3 }, s) else (m.step xs bs, m.seen xs bs tk s)
theorem Box.two0 {w : World} {b : Nat} {a0 a1 : Value} (h : Box w b [a0, a1]) : w.cell? ⟨b, 0, none⟩ = some a0 ∧ w.cell? ⟨b, 1, none⟩ = some a1 := ⟨h.2.1 0 _ rfl, h.2.1 1 _ rfl⟩

theorem neq_S (fn : Fn) (fs cs : Array Value) (w : World) : Sem.run Try.prog (binOp BinOp.neq 68 (Value.func fn fs cs) Value.nilFunc) w = .ok (.bool true) w := by kernel_rfl
theorem neq_S0 (w : World) : Sem.run Try.prog (binOp BinOp.neq 68 Value.nilFunc Value.nilFunc) w = .ok (.bool false) w := by kernel_rfl
theorem neq_T (fn : Fn) (fs cs : Array Value) (w : World) : Sem.run Try.prog (binOp BinOp.neq 69 (Value.func fn fs cs) Value.nilFunc) w = .ok (.bool true) w := by kernel_rfl
theorem neq_T0 (w : World) : Sem.run Try.prog (binOp BinOp.neq 69 Value.nilFunc Value.nilFunc) w = .ok (.bool false) w := by kernel_rfl

section
variable {σ γ : Type} {Inv : σ → γ → World → Prop} {Foot : γ → Nat → Prop} {st : Int → Bool} {tk : σ → Sht → Bool → σ} {vS vT : Value} {g0 g : γ} {W0 wr : World} {p q : Nat} {vc vi vo : Value} {m : Ma} {xs bs : List Int} {s : σ}
/-- What is there when the run goes on: the watch's box, the machine. -/
structure Gon (Inv : σ → γ → World → Prop) (Foot : γ → Nat → Prop) (g0 g : γ) (W0 w w1 : World) (p q : Nat) (vc vi vo : Value) (m : Ma) (xs bs : List Int) (s : σ) (vS vT : Value) : Prop where
  k : Wtc Inv Foot g0 g W0 w1 p q vc vi vo m xs bs s
  box : Box w1 w.heap.size [vS, vT]
  hp : w.heap.size ≠ p ∧ w.heap.size ≠ q
  ho : ∀ c, vo.ownBlock = some c → c < w.heap.size
  hw : W0.heap.size ≤ w.heap.size
  hF : ¬ Foot g w.heap.size
theorem Gon.start (L : Looks Inv Foot st tk vS vT) (K : Wtc Inv Foot g0 g W0 wr p q vc vi vo m xs bs s) : Gon Inv Foot g0 g W0 wr (wr.alloc (.cells #[vS, vT] 71)) p q vc vi vo m xs bs s vS vT :=
  ⟨K.step L (below_a _ _), Box.new wr #[vS, vT] 71, by have := K.mach.pw; have := K.mach.hqw; omega, K.mach.voLt, K.kpt.size, fun h => by have := L.lt _ _ _ _ K.ex.1 h; omega⟩
theorem Gon.step {w w1 w2 : World} (L : Looks Inv Foot st tk vS vT) (G : Gon Inv Foot g0 g W0 w w1 p q vc vi vo m xs bs s vS vT) (k : Below w1.heap.size w1 w2) : Gon Inv Foot g0 g W0 w w2 p q vc vi vo m xs bs s vS vT :=
  ⟨G.k.step L k, G.box.step k, G.hp, G.ho, G.hw, G.hF⟩
/-- The machine's cells. -/
theorem Gon.at {w w1 : World} (G : Gon Inv Foot g0 g W0 w w1 p q vc vi vo m xs bs s vS vT) :
    w1.cell? ⟨p, 12, none⟩ = some (.int .i64 m.pc) ∧ w1.cell? ⟨p, 16, none⟩ = some (.int .i64 m.how) ∧ w1.cell? ⟨p, 20, none⟩ = some (.int .i64 m.took) ∧ (∀ j, w1.frozen? ⟨p, j, none⟩ = false) ∧ p < w1.heap.size ∧ w1.cell? ⟨w.heap.size, 0, none⟩ = some vS ∧ w1.cell? ⟨w.heap.size, 1, none⟩ = some vT ∧ w.heap.size < w1.heap.size := by
  obtain ⟨-, -, -, -, c12, -, -, -, c16, -, -, -, c20⟩ := G.k.mach.at
  exact ⟨c12, c16, c20, G.k.mach.flat, G.k.mach.pw, G.box.two0.1, G.box.two0.2, G.box.1⟩
/-- A step. -/
theorem Gon.run {w w1 : World} (L : Looks Inv Foot st tk vS vT) (G : Gon Inv Foot g0 g W0 w w1 p q vc vi vo m xs bs s vS vT) (ht : 0 ≤ m.took) (ht' : m.took ≤ 1000000) :
    Calls Try.prog 49 #[.pointer (some ⟨p, 0, none⟩)] w1 fun e w' => e = .returned (.tuple #[agg (oneA xs m.pc).1, .bool (decide (¬ (oneA xs m.pc).2 = 0))]) ∧ ∃ vo', Wtc Inv Foot g0 g W0 w' p q vc vi vo' (m.step xs bs) xs bs s ∧ Box w' w.heap.size [vS, vT] := by
  obtain ⟨Y, hz, hM, back⟩ := G.k.move L (fun b => b = w.heap.size) fun b _ e => by subst e; exact ⟨G.hp.1, G.hp.2, fun h => by have := G.ho _ h; omega⟩
  refine (step_any hM ht ht').mono ?_
  rintro e w' ⟨vo', rfl, h'⟩
  exact ⟨rfl, vo', back _ _ _ h', h'.sideBox G.box (hz _ rfl)⟩
/-- How the run ends. -/
theorem Gon.ends {w w1 : World} (L : Looks Inv Foot st tk vS vT) (G : Gon Inv Foot g0 g W0 w w1 p q vc vi vo m xs bs s vS vT) (x : Int) : Wtc Inv Foot g0 g W0 (w1.setCell ⟨p, 16, none⟩ (.int .i64 x)) p q vc vi vo { m with how := x } xs bs s := by
  obtain ⟨Y, -, hM, back⟩ := G.k.move L (fun _ => False) fun _ _ h => h.elim
  exact back _ _ _ (hM.put (m' := { m with how := x }) 16 (.int .i64 x) (by decide) rfl rfl rfl { hM.fine with })


set_option maxRecDepth 100000 in
set_option maxHeartbeats 2000000 in
theorem goOn_stop (L : Looks Inv Foot st tk vS vT) (K : Wtc Inv Foot g0 g W0 wr p q vc vi vo m xs bs s) (ht : 0 ≤ m.took) (F : Int) (hpos : 0 < m.took) (hst : st m.pc = true) :
    Calls Try.prog 43 #[.pointer (some ⟨p, 0, none⟩), .int .i64 F, .agg #[vS, vT]] wr fun e w' => e = .returned (.tuple #[]) ∧ ∃ vo', Wtc Inv Foot g0 g W0 w' p q vc vi vo' { m with how := 6 } xs bs s := by
  have hS := L.stops
  rcases hS with ⟨-, h0⟩ | hS
  · rw [h0] at hst; cases hst
  have G0 := hideI (Gon.start L K)
  have htk : 0 ≤ m.took := ht
  have KR := K.mach.pw
  clear K
  obtain ⟨w1, hW0⟩ : ∃ w1, wr.alloc (.cells #[vS, vT] 71) = w1 := ⟨_, rfl⟩
  rw [hW0] at G0
  obtain ⟨c12, c16, c20, fz, hp1, b0, b1, b2⟩ := (unhideI G0).at
  obtain ⟨fS, cS, rfl, hfcS, hf⟩ := hS
  have SC := hideI ((unhideI G0).k.stopsCall L hf m.pc (unhideI G0).k.mach.fine.pc)
  clear hf
  have hgt : decide (0 < m.took) = true := by simpa using hpos
  have NS := neq_S
  have NS0 := neq_S0
  have NT := neq_T
  have NT0 := neq_T0
  go_enter Try.func43, Try.ntmps43
  go_wp2_with fail
  refine (unhideI SC).mono ?_
  rintro e w2 ⟨rfl, k2⟩
  have G1 := hideI ((unhideI G0).step L k2)
  clear G0 SC
  obtain ⟨c12, c16, c20, fz, hp1, b0, b1, b2⟩ := (unhideI G1).at
  go_wp2_with fail
  have GE := hideI ((unhideI G1).ends L 6)
  go_end0
  exact ⟨rfl, _, unhideI GE⟩

set_option maxRecDepth 100000 in
set_option maxHeartbeats 2000000 in
theorem goOn_fuel (L : Looks Inv Foot st tk vS vT) (K : Wtc Inv Foot g0 g W0 wr p q vc vi vo m xs bs s) (ht : 0 ≤ m.took) (F : Int) (hn : ¬ (0 < m.took ∧ st m.pc = true)) (hf : m.took = F) :
    Calls Try.prog 43 #[.pointer (some ⟨p, 0, none⟩), .int .i64 F, .agg #[vS, vT]] wr fun e w' => e = .returned (.tuple #[]) ∧ ∃ vo', Wtc Inv Foot g0 g W0 w' p q vc vi vo' { m with how := 3 } xs bs s := by
  have hF : (m.took == F) = true := by simp [hf]
  clear hf
  have G0 := hideI (Gon.start L K)
  have htk : 0 ≤ m.took := ht
  have KR := K.mach.pw
  clear K
  obtain ⟨w1, hW0⟩ : ∃ w1, wr.alloc (.cells #[vS, vT] 71) = w1 := ⟨_, rfl⟩
  rw [hW0] at G0
  obtain ⟨c12, c16, c20, fz, hp1, b0, b1, b2⟩ := (unhideI G0).at
  by_cases h0 : m.took = 0
  · clear hn
    have hgt : decide (0 < m.took) = false := by simp [h0]
    have NS := neq_S
    have NS0 := neq_S0
    have NT := neq_T
    have NT0 := neq_T0
    go_enter Try.func43, Try.ntmps43
    go_wp2_with fail
    have G1 := G0
    have GE := hideI ((unhideI G1).ends L 3)
    go_end0
    exact ⟨rfl, _, unhideI GE⟩
  · have hpos : 0 < m.took := by omega
    have hst : st m.pc = false := by
      cases h : st m.pc
      · rfl
      · exact absurd ⟨hpos, h⟩ hn
    clear hn
    rcases L.stops with ⟨hv, -⟩ | hS
    · skip
      subst hv
      have hgt : decide (0 < m.took) = true := by simp; omega
      have NS := neq_S
      have NS0 := neq_S0
      have NT := neq_T
      have NT0 := neq_T0
      go_enter Try.func43, Try.ntmps43
      go_wp2_with fail
      have G1 := G0
      have GE := hideI ((unhideI G1).ends L 3)
      go_end0
      exact ⟨rfl, _, unhideI GE⟩
    · skip
      obtain ⟨fS, cS, rfl, hfcS, hf⟩ := hS
      have SC := hideI ((unhideI G0).k.stopsCall L hf m.pc (unhideI G0).k.mach.fine.pc)
      clear hf
      have hgt : decide (0 < m.took) = true := by simpa using hpos
      have NS := neq_S
      have NS0 := neq_S0
      have NT := neq_T
      have NT0 := neq_T0
      go_enter Try.func43, Try.ntmps43
      go_wp2_with fail
      refine (unhideI SC).mono ?_
      rintro e w2 ⟨rfl, k2⟩
      have G1 := hideI ((unhideI G0).step L k2)
      clear G0 SC
      obtain ⟨c12, c16, c20, fz, hp1, b0, b1, b2⟩ := (unhideI G1).at
      go_wp2_with fail
      have GE := hideI ((unhideI G1).ends L 3)
      go_end0
      exact ⟨rfl, _, unhideI GE⟩

set_option maxRecDepth 100000 in
set_option maxHeartbeats 2000000 in
theorem goOn_nil (L : Looks Inv Foot st tk vS vT) (K : Wtc Inv Foot g0 g W0 wr p q vc vi vo m xs bs s) (ht : 0 ≤ m.took) (F : Int) (hn : ¬ (0 < m.took ∧ st m.pc = true)) (hf : ¬ m.took = F) (ht' : m.took ≤ 1000000) (hT : vT = .nilFunc) :
    Calls Try.prog 43 #[.pointer (some ⟨p, 0, none⟩), .int .i64 F, .agg #[vS, vT]] wr fun e w' => e = .returned (.tuple #[]) ∧ ∃ vo', Wtc Inv Foot g0 g W0 w' p q vc vi vo' (m.step xs bs) xs bs s := by
  have hF : (m.took == F) = false := by simp [hf]
  clear hf
  have hpcw : wd m.pc := K.mach.fine.pc
  have G0 := hideI (Gon.start L K)
  have htk : 0 ≤ m.took := ht
  have KR := K.mach.pw
  clear K
  obtain ⟨w1, hW0⟩ : ∃ w1, wr.alloc (.cells #[vS, vT] 71) = w1 := ⟨_, rfl⟩
  rw [hW0] at G0
  obtain ⟨c12, c16, c20, fz, hp1, b0, b1, b2⟩ := (unhideI G0).at
  have RUN := hideI (fun w1 (G : Gon Inv Foot g0 g W0 wr w1 p q vc vi vo m xs bs s vS vT) => G.run L ht ht')
  subst hT
  generalize (oneA xs m.pc).1 = i at *
  generalize decide (¬ (oneA xs m.pc).2 = 0) = bb at *
  generalize m.step xs bs = m2 at *
  by_cases h0 : m.took = 0
  · clear hn
    have hgt : decide (0 < m.took) = false := by simp [h0]
    have NS := neq_S
    have NS0 := neq_S0
    have NT := neq_T
    have NT0 := neq_T0
    go_enter Try.func43, Try.ntmps43
    go_wp2_with fail
    have G1 := G0
    refine (unhideI RUN _ (unhideI G1)).mono ?_
    rintro e w4 ⟨rfl, vo4, K4, B4⟩
    unfold agg
    have hb4 := B4.1
    have KF := hideI K4.ex.1
    have KK := hideI (K4.step L (below_a _ (.cells #[.int .i64 i.o, .int .i64 i.d, .int .i64 i.s, .int .i64 i.m] 45)))
    have BB := hideI (B4.step (below_a _ (.cells #[.int .i64 i.o, .int .i64 i.d, .int .i64 i.s, .int .i64 i.m] 45)))
    have II := hideI (Box.new w4 #[.int .i64 i.o, .int .i64 i.d, .int .i64 i.s, .int .i64 i.m] 45)
    clear K4 B4
    generalize hW4 : w4.alloc (.cells #[.int .i64 i.o, .int .i64 i.d, .int .i64 i.s, .int .i64 i.m] 45) = w5 at *
    obtain ⟨d0, d1⟩ := (unhideI BB).two0
    have d2 := (unhideI BB).1
    obtain ⟨i0, i1, i2, i3⟩ := (unhideI II).at4
    have i4 := (unhideI II).2.2
    have i5 := (unhideI II).1
    go_wp2_with fail
    first | go_end0 | skip
    exact ⟨rfl, _, unhideI KK⟩
  · have hpos : 0 < m.took := by omega
    have hst : st m.pc = false := by
      cases h : st m.pc
      · rfl
      · exact absurd ⟨hpos, h⟩ hn
    clear hn
    rcases L.stops with ⟨hv, -⟩ | hS
    · skip
      subst hv
      have hgt : decide (0 < m.took) = true := by simp; omega
      have NS := neq_S
      have NS0 := neq_S0
      have NT := neq_T
      have NT0 := neq_T0
      go_enter Try.func43, Try.ntmps43
      go_wp2_with fail
      have G1 := G0
      refine (unhideI RUN _ (unhideI G1)).mono ?_
      rintro e w4 ⟨rfl, vo4, K4, B4⟩
      unfold agg
      have hb4 := B4.1
      have KF := hideI K4.ex.1
      have KK := hideI (K4.step L (below_a _ (.cells #[.int .i64 i.o, .int .i64 i.d, .int .i64 i.s, .int .i64 i.m] 45)))
      have BB := hideI (B4.step (below_a _ (.cells #[.int .i64 i.o, .int .i64 i.d, .int .i64 i.s, .int .i64 i.m] 45)))
      have II := hideI (Box.new w4 #[.int .i64 i.o, .int .i64 i.d, .int .i64 i.s, .int .i64 i.m] 45)
      clear K4 B4
      generalize hW4 : w4.alloc (.cells #[.int .i64 i.o, .int .i64 i.d, .int .i64 i.s, .int .i64 i.m] 45) = w5 at *
      obtain ⟨d0, d1⟩ := (unhideI BB).two0
      have d2 := (unhideI BB).1
      obtain ⟨i0, i1, i2, i3⟩ := (unhideI II).at4
      have i4 := (unhideI II).2.2
      have i5 := (unhideI II).1
      go_wp2_with fail
      first | go_end0 | skip
      exact ⟨rfl, _, unhideI KK⟩
    · skip
      obtain ⟨fS, cS, rfl, hfcS, hf⟩ := hS
      have SC := hideI ((unhideI G0).k.stopsCall L hf m.pc (unhideI G0).k.mach.fine.pc)
      clear hf
      have hgt : decide (0 < m.took) = true := by simpa using hpos
      have NS := neq_S
      have NS0 := neq_S0
      have NT := neq_T
      have NT0 := neq_T0
      go_enter Try.func43, Try.ntmps43
      go_wp2_with fail
      refine (unhideI SC).mono ?_
      rintro e w2 ⟨rfl, k2⟩
      have G1 := hideI ((unhideI G0).step L k2)
      clear G0 SC
      obtain ⟨c12, c16, c20, fz, hp1, b0, b1, b2⟩ := (unhideI G1).at
      go_wp2_with fail
      refine (unhideI RUN _ (unhideI G1)).mono ?_
      rintro e w4 ⟨rfl, vo4, K4, B4⟩
      unfold agg
      have hb4 := B4.1
      have KF := hideI K4.ex.1
      have KK := hideI (K4.step L (below_a _ (.cells #[.int .i64 i.o, .int .i64 i.d, .int .i64 i.s, .int .i64 i.m] 45)))
      have BB := hideI (B4.step (below_a _ (.cells #[.int .i64 i.o, .int .i64 i.d, .int .i64 i.s, .int .i64 i.m] 45)))
      have II := hideI (Box.new w4 #[.int .i64 i.o, .int .i64 i.d, .int .i64 i.s, .int .i64 i.m] 45)
      clear K4 B4
      generalize hW4 : w4.alloc (.cells #[.int .i64 i.o, .int .i64 i.d, .int .i64 i.s, .int .i64 i.m] 45) = w5 at *
      obtain ⟨d0, d1⟩ := (unhideI BB).two0
      have d2 := (unhideI BB).1
      obtain ⟨i0, i1, i2, i3⟩ := (unhideI II).at4
      have i4 := (unhideI II).2.2
      have i5 := (unhideI II).1
      go_wp2_with fail
      first | go_end0 | skip
      exact ⟨rfl, _, unhideI KK⟩

set_option maxRecDepth 100000 in
set_option maxHeartbeats 2000000 in
theorem goOn_took (L : Looks Inv Foot st tk vS vT) (K : Wtc Inv Foot g0 g W0 wr p q vc vi vo m xs bs s) (ht : 0 ≤ m.took) (F : Int) (hn : ¬ (0 < m.took ∧ st m.pc = true)) (hf : ¬ m.took = F) (ht' : m.took ≤ 1000000) (hT : ∃ f cs, vT = .func (.func f) #[] cs ∧ (∀ av W, (callFunc f av).run Try.prog W = .ok (.enter f av) W) ∧ ∀ s g u a b, wd a.a → Inv s g u → Calls Try.prog f (#[.agg a.cells, .bool b] ++ cs) u fun e u' => e = .returned (.tuple #[]) ∧ ∃ g', Inv (tk s a b) g' u' ∧ Kpw (Foot g) u u' ∧ ∀ k, Foot g' k → Foot g k ∨ u.heap.size ≤ k) :
    Calls Try.prog 43 #[.pointer (some ⟨p, 0, none⟩), .int .i64 F, .agg #[vS, vT]] wr fun e w' => e = .returned (.tuple #[]) ∧ ∃ vo' g', Wtc Inv Foot g0 g' W0 w' p q vc vi vo' (m.step xs bs) xs bs (m.seen xs bs tk s) := by
  have hF : (m.took == F) = false := by simp [hf]
  clear hf
  have hpcw : wd m.pc := K.mach.fine.pc
  have G0 := hideI (Gon.start L K)
  have htk : 0 ≤ m.took := ht
  have KR := K.mach.pw
  clear K
  obtain ⟨w1, hW0⟩ : ∃ w1, wr.alloc (.cells #[vS, vT] 71) = w1 := ⟨_, rfl⟩
  rw [hW0] at G0
  obtain ⟨c12, c16, c20, fz, hp1, b0, b1, b2⟩ := (unhideI G0).at
  obtain ⟨f, cs, rfl, hfc, hff⟩ := hT
  have RUN := hideI (fun w1 (G : Gon Inv Foot g0 g W0 wr w1 p q vc vi vo m xs bs s vS (.func (.func f) #[] cs)) => G.run L ht ht')
  unfold Ma.seen
  generalize (oneA xs m.pc).1 = i at *
  generalize decide (¬ (oneA xs m.pc).2 = 0) = bb at *
  generalize m.step xs bs = m2 at *
  have TK := hideI (fun w1 vo4 (K : Wtc Inv Foot g0 g W0 w1 p q vc vi vo4 m2 xs bs s) => K.tookCall L hff (shtOf m.pc i m2) bb hpcw)
  unfold shtOf Sht.cells at TK
  dsimp only at TK
  clear hff hpcw
  by_cases h0 : m.took = 0
  · clear hn
    have hgt : decide (0 < m.took) = false := by simp [h0]
    have NS := neq_S
    have NS0 := neq_S0
    have NT := neq_T
    have NT0 := neq_T0
    go_enter Try.func43, Try.ntmps43
    go_wp2_with fail
    have G1 := G0
    refine (unhideI RUN _ (unhideI G1)).mono ?_
    rintro e w4 ⟨rfl, vo4, K4, B4⟩
    unfold agg
    have hb4 := B4.1
    have KF := hideI K4.ex.1
    have KK := hideI (K4.step L (below_a _ (.cells #[.int .i64 i.o, .int .i64 i.d, .int .i64 i.s, .int .i64 i.m] 45)))
    have BB := hideI (B4.step (below_a _ (.cells #[.int .i64 i.o, .int .i64 i.d, .int .i64 i.s, .int .i64 i.m] 45)))
    have II := hideI (Box.new w4 #[.int .i64 i.o, .int .i64 i.d, .int .i64 i.s, .int .i64 i.m] 45)
    clear K4 B4
    generalize hW4 : w4.alloc (.cells #[.int .i64 i.o, .int .i64 i.d, .int .i64 i.s, .int .i64 i.m] 45) = w5 at *
    obtain ⟨d0, d1⟩ := (unhideI BB).two0
    have d2 := (unhideI BB).1
    obtain ⟨i0, i1, i2, i3⟩ := (unhideI II).at4
    have i4 := (unhideI II).2.2
    have i5 := (unhideI II).1
    go_wp2_with fail
    have HC := hideI (fun (vs vo9 : Value) W (M : Mach (Sd.no W) (cutW W W0.heap.size) W p q vc vi vo9 m2 xs bs) (B : Box W wr.heap.size [vs, .func (.func f) #[] cs]) (I : Box W w4.heap.size [.int .i64 i.o, .int .i64 i.d, .int .i64 i.s, .int .i64 i.m]) => (show W.cell? ⟨p, 0, none⟩ = some (.int .i64 (m2.r 0)) ∧ W.cell? ⟨p, 1, none⟩ = some (.int .i64 (m2.r 1)) ∧ W.cell? ⟨p, 2, none⟩ = some (.int .i64 (m2.r 2)) ∧ W.cell? ⟨p, 3, none⟩ = some (.int .i64 (m2.r 3)) ∧ W.cell? ⟨p, 4, none⟩ = some (.int .i64 (m2.r 4)) ∧ W.cell? ⟨p, 5, none⟩ = some (.int .i64 (m2.r 5)) ∧ W.cell? ⟨p, 6, none⟩ = some (.int .i64 (m2.r 6)) ∧ W.cell? ⟨p, 7, none⟩ = some (.int .i64 (m2.r 7)) ∧ W.cell? ⟨p, 8, none⟩ = some (.bool m2.c) ∧ W.cell? ⟨p, 9, none⟩ = some (.bool m2.z) ∧ W.cell? ⟨p, 10, none⟩ = some (.bool m2.n) ∧ W.cell? ⟨p, 11, none⟩ = some (.bool m2.v) ∧ W.cell? ⟨wr.heap.size, 1, none⟩ = some (.func (.func f) #[] cs) ∧ W.cell? ⟨w4.heap.size, 0, none⟩ = some (.int .i64 i.o) ∧ W.cell? ⟨w4.heap.size, 1, none⟩ = some (.int .i64 i.d) ∧ W.cell? ⟨w4.heap.size, 2, none⟩ = some (.int .i64 i.s) ∧ W.cell? ⟨w4.heap.size, 3, none⟩ = some (.int .i64 i.m) from ⟨M.box.2.1 0 _ rfl, M.box.2.1 1 _ rfl, M.box.2.1 2 _ rfl, M.box.2.1 3 _ rfl, M.box.2.1 4 _ rfl, M.box.2.1 5 _ rfl, M.box.2.1 6 _ rfl, M.box.2.1 7 _ rfl, M.box.2.1 8 _ rfl, M.box.2.1 9 _ rfl, M.box.2.1 10 _ rfl, M.box.2.1 11 _ rfl, B.2.1 1 _ rfl, I.2.1 0 _ rfl, I.2.1 1 _ rfl, I.2.1 2 _ rfl, I.2.1 3 _ rfl⟩))
    have hnF : Hid (¬ Foot g wr.heap.size) := (unhideI G1).hF
    have hnI : Hid (¬ Foot g w4.heap.size) := fun h => by
      have h9 := L.lt _ _ _ _ (unhideI KF) h
      omega
    refine reg_start (fun W => W.cell? ⟨p, 0, none⟩ = some (.int .i64 (m2.r 0)) ∧ W.cell? ⟨p, 1, none⟩ = some (.int .i64 (m2.r 1)) ∧ W.cell? ⟨p, 2, none⟩ = some (.int .i64 (m2.r 2)) ∧ W.cell? ⟨p, 3, none⟩ = some (.int .i64 (m2.r 3)) ∧ W.cell? ⟨p, 4, none⟩ = some (.int .i64 (m2.r 4)) ∧ W.cell? ⟨p, 5, none⟩ = some (.int .i64 (m2.r 5)) ∧ W.cell? ⟨p, 6, none⟩ = some (.int .i64 (m2.r 6)) ∧ W.cell? ⟨p, 7, none⟩ = some (.int .i64 (m2.r 7)) ∧ W.cell? ⟨p, 8, none⟩ = some (.bool m2.c) ∧ W.cell? ⟨p, 9, none⟩ = some (.bool m2.z) ∧ W.cell? ⟨p, 10, none⟩ = some (.bool m2.n) ∧ W.cell? ⟨p, 11, none⟩ = some (.bool m2.v) ∧ W.cell? ⟨wr.heap.size, 1, none⟩ = some (.func (.func f) #[] cs) ∧ W.cell? ⟨w4.heap.size, 0, none⟩ = some (.int .i64 i.o) ∧ W.cell? ⟨w4.heap.size, 1, none⟩ = some (.int .i64 i.d) ∧ W.cell? ⟨w4.heap.size, 2, none⟩ = some (.int .i64 i.s) ∧ W.cell? ⟨w4.heap.size, 3, none⟩ = some (.int .i64 i.m)) (by kernel_rfl) ?_
    have KD := hideI ((unhideI KK).step L (Below.refl _ _).drew)
    have BD := hideI ((unhideI BB).step (Below.refl _ _).drew)
    have ID := hideI ((unhideI II).step (Below.refl _ _).drew)
    clear KK BB II
    generalize w5.drew = w6 at *
    refine reg_seg 0 16 1 (by kernel_rfl) (by decide) (by kernel_rfl) (by kernel_rfl) (fun _ _ _ _ _ h => h) ?_
    simp only [List.take_succ_cons, List.take_zero, List.drop_succ_cons, List.drop_zero]
    repeat (refine wpSteady_step (fun K hK => ?_); go_simp; first | (refine steady_of ?_ (fun W hW => ?_) (hK _ ?_); rotate_left; (obtain ⟨y0, y1, y2, y3, y4, y5, y6, y7, y8, y9, y10, y11, y12, y13, y14, y15, y16⟩ := hW; go_simp; first | done | rfl); clear hK K) | (refine hK _ ?_; clear hK K))
    refine wpSteady_nil ?_
    refine reg_one 16 0 (by kernel_rfl) (by kernel_rfl) (unhideI HC _ _ _ (unhideI KD).mach (unhideI BD) (unhideI ID)) ?_
    simp only [List.take_succ_cons, List.take_zero, List.drop_succ_cons, List.drop_zero]
    go_wp2_with fail
    refine (unhideI TK _ _ (unhideI KD)).mono ?_
    rintro e w7 ⟨rfl, kp, g', K7⟩
    have K8 := hideI K7
    have B8 := hideI (kp.box (unhideI BD) (unhideI hnF))
    have I8 := hideI (kp.box (unhideI ID) (unhideI hnI))
    clear K7 kp
    go_wp2_with fail
    first | refine next_nil ?_ | refine next_go ?_
    refine reg_end (by kernel_rfl) (unhideI HC _ _ _ (unhideI K8).mach (unhideI B8) (unhideI I8)) ?_
    first | go_end0 | go_wp2_with fail; go_end0
    exact ⟨rfl, _, _, unhideI K8⟩
  · have hpos : 0 < m.took := by omega
    have hst : st m.pc = false := by
      cases h : st m.pc
      · rfl
      · exact absurd ⟨hpos, h⟩ hn
    clear hn
    rcases L.stops with ⟨hv, -⟩ | hS
    · skip
      subst hv
      have hgt : decide (0 < m.took) = true := by simp; omega
      have NS := neq_S
      have NS0 := neq_S0
      have NT := neq_T
      have NT0 := neq_T0
      go_enter Try.func43, Try.ntmps43
      go_wp2_with fail
      have G1 := G0
      refine (unhideI RUN _ (unhideI G1)).mono ?_
      rintro e w4 ⟨rfl, vo4, K4, B4⟩
      unfold agg
      have hb4 := B4.1
      have KF := hideI K4.ex.1
      have KK := hideI (K4.step L (below_a _ (.cells #[.int .i64 i.o, .int .i64 i.d, .int .i64 i.s, .int .i64 i.m] 45)))
      have BB := hideI (B4.step (below_a _ (.cells #[.int .i64 i.o, .int .i64 i.d, .int .i64 i.s, .int .i64 i.m] 45)))
      have II := hideI (Box.new w4 #[.int .i64 i.o, .int .i64 i.d, .int .i64 i.s, .int .i64 i.m] 45)
      clear K4 B4
      generalize hW4 : w4.alloc (.cells #[.int .i64 i.o, .int .i64 i.d, .int .i64 i.s, .int .i64 i.m] 45) = w5 at *
      obtain ⟨d0, d1⟩ := (unhideI BB).two0
      have d2 := (unhideI BB).1
      obtain ⟨i0, i1, i2, i3⟩ := (unhideI II).at4
      have i4 := (unhideI II).2.2
      have i5 := (unhideI II).1
      go_wp2_with fail
      have HC := hideI (fun (vs vo9 : Value) W (M : Mach (Sd.no W) (cutW W W0.heap.size) W p q vc vi vo9 m2 xs bs) (B : Box W wr.heap.size [vs, .func (.func f) #[] cs]) (I : Box W w4.heap.size [.int .i64 i.o, .int .i64 i.d, .int .i64 i.s, .int .i64 i.m]) => (show W.cell? ⟨p, 0, none⟩ = some (.int .i64 (m2.r 0)) ∧ W.cell? ⟨p, 1, none⟩ = some (.int .i64 (m2.r 1)) ∧ W.cell? ⟨p, 2, none⟩ = some (.int .i64 (m2.r 2)) ∧ W.cell? ⟨p, 3, none⟩ = some (.int .i64 (m2.r 3)) ∧ W.cell? ⟨p, 4, none⟩ = some (.int .i64 (m2.r 4)) ∧ W.cell? ⟨p, 5, none⟩ = some (.int .i64 (m2.r 5)) ∧ W.cell? ⟨p, 6, none⟩ = some (.int .i64 (m2.r 6)) ∧ W.cell? ⟨p, 7, none⟩ = some (.int .i64 (m2.r 7)) ∧ W.cell? ⟨p, 8, none⟩ = some (.bool m2.c) ∧ W.cell? ⟨p, 9, none⟩ = some (.bool m2.z) ∧ W.cell? ⟨p, 10, none⟩ = some (.bool m2.n) ∧ W.cell? ⟨p, 11, none⟩ = some (.bool m2.v) ∧ W.cell? ⟨wr.heap.size, 1, none⟩ = some (.func (.func f) #[] cs) ∧ W.cell? ⟨w4.heap.size, 0, none⟩ = some (.int .i64 i.o) ∧ W.cell? ⟨w4.heap.size, 1, none⟩ = some (.int .i64 i.d) ∧ W.cell? ⟨w4.heap.size, 2, none⟩ = some (.int .i64 i.s) ∧ W.cell? ⟨w4.heap.size, 3, none⟩ = some (.int .i64 i.m) from ⟨M.box.2.1 0 _ rfl, M.box.2.1 1 _ rfl, M.box.2.1 2 _ rfl, M.box.2.1 3 _ rfl, M.box.2.1 4 _ rfl, M.box.2.1 5 _ rfl, M.box.2.1 6 _ rfl, M.box.2.1 7 _ rfl, M.box.2.1 8 _ rfl, M.box.2.1 9 _ rfl, M.box.2.1 10 _ rfl, M.box.2.1 11 _ rfl, B.2.1 1 _ rfl, I.2.1 0 _ rfl, I.2.1 1 _ rfl, I.2.1 2 _ rfl, I.2.1 3 _ rfl⟩))
      have hnF : Hid (¬ Foot g wr.heap.size) := (unhideI G1).hF
      have hnI : Hid (¬ Foot g w4.heap.size) := fun h => by
        have h9 := L.lt _ _ _ _ (unhideI KF) h
        omega
      refine reg_start (fun W => W.cell? ⟨p, 0, none⟩ = some (.int .i64 (m2.r 0)) ∧ W.cell? ⟨p, 1, none⟩ = some (.int .i64 (m2.r 1)) ∧ W.cell? ⟨p, 2, none⟩ = some (.int .i64 (m2.r 2)) ∧ W.cell? ⟨p, 3, none⟩ = some (.int .i64 (m2.r 3)) ∧ W.cell? ⟨p, 4, none⟩ = some (.int .i64 (m2.r 4)) ∧ W.cell? ⟨p, 5, none⟩ = some (.int .i64 (m2.r 5)) ∧ W.cell? ⟨p, 6, none⟩ = some (.int .i64 (m2.r 6)) ∧ W.cell? ⟨p, 7, none⟩ = some (.int .i64 (m2.r 7)) ∧ W.cell? ⟨p, 8, none⟩ = some (.bool m2.c) ∧ W.cell? ⟨p, 9, none⟩ = some (.bool m2.z) ∧ W.cell? ⟨p, 10, none⟩ = some (.bool m2.n) ∧ W.cell? ⟨p, 11, none⟩ = some (.bool m2.v) ∧ W.cell? ⟨wr.heap.size, 1, none⟩ = some (.func (.func f) #[] cs) ∧ W.cell? ⟨w4.heap.size, 0, none⟩ = some (.int .i64 i.o) ∧ W.cell? ⟨w4.heap.size, 1, none⟩ = some (.int .i64 i.d) ∧ W.cell? ⟨w4.heap.size, 2, none⟩ = some (.int .i64 i.s) ∧ W.cell? ⟨w4.heap.size, 3, none⟩ = some (.int .i64 i.m)) (by kernel_rfl) ?_
      have KD := hideI ((unhideI KK).step L (Below.refl _ _).drew)
      have BD := hideI ((unhideI BB).step (Below.refl _ _).drew)
      have ID := hideI ((unhideI II).step (Below.refl _ _).drew)
      clear KK BB II
      generalize w5.drew = w6 at *
      refine reg_seg 0 16 1 (by kernel_rfl) (by decide) (by kernel_rfl) (by kernel_rfl) (fun _ _ _ _ _ h => h) ?_
      simp only [List.take_succ_cons, List.take_zero, List.drop_succ_cons, List.drop_zero]
      repeat (refine wpSteady_step (fun K hK => ?_); go_simp; first | (refine steady_of ?_ (fun W hW => ?_) (hK _ ?_); rotate_left; (obtain ⟨y0, y1, y2, y3, y4, y5, y6, y7, y8, y9, y10, y11, y12, y13, y14, y15, y16⟩ := hW; go_simp; first | done | rfl); clear hK K) | (refine hK _ ?_; clear hK K))
      refine wpSteady_nil ?_
      refine reg_one 16 0 (by kernel_rfl) (by kernel_rfl) (unhideI HC _ _ _ (unhideI KD).mach (unhideI BD) (unhideI ID)) ?_
      simp only [List.take_succ_cons, List.take_zero, List.drop_succ_cons, List.drop_zero]
      go_wp2_with fail
      refine (unhideI TK _ _ (unhideI KD)).mono ?_
      rintro e w7 ⟨rfl, kp, g', K7⟩
      have K8 := hideI K7
      have B8 := hideI (kp.box (unhideI BD) (unhideI hnF))
      have I8 := hideI (kp.box (unhideI ID) (unhideI hnI))
      clear K7 kp
      go_wp2_with fail
      first | refine next_nil ?_ | refine next_go ?_
      refine reg_end (by kernel_rfl) (unhideI HC _ _ _ (unhideI K8).mach (unhideI B8) (unhideI I8)) ?_
      first | go_end0 | go_wp2_with fail; go_end0
      exact ⟨rfl, _, _, unhideI K8⟩
    · skip
      obtain ⟨fS, cS, rfl, hfcS, hf⟩ := hS
      have SC := hideI ((unhideI G0).k.stopsCall L hf m.pc (unhideI G0).k.mach.fine.pc)
      clear hf
      have hgt : decide (0 < m.took) = true := by simpa using hpos
      have NS := neq_S
      have NS0 := neq_S0
      have NT := neq_T
      have NT0 := neq_T0
      go_enter Try.func43, Try.ntmps43
      go_wp2_with fail
      refine (unhideI SC).mono ?_
      rintro e w2 ⟨rfl, k2⟩
      have G1 := hideI ((unhideI G0).step L k2)
      clear G0 SC
      obtain ⟨c12, c16, c20, fz, hp1, b0, b1, b2⟩ := (unhideI G1).at
      go_wp2_with fail
      refine (unhideI RUN _ (unhideI G1)).mono ?_
      rintro e w4 ⟨rfl, vo4, K4, B4⟩
      unfold agg
      have hb4 := B4.1
      have KF := hideI K4.ex.1
      have KK := hideI (K4.step L (below_a _ (.cells #[.int .i64 i.o, .int .i64 i.d, .int .i64 i.s, .int .i64 i.m] 45)))
      have BB := hideI (B4.step (below_a _ (.cells #[.int .i64 i.o, .int .i64 i.d, .int .i64 i.s, .int .i64 i.m] 45)))
      have II := hideI (Box.new w4 #[.int .i64 i.o, .int .i64 i.d, .int .i64 i.s, .int .i64 i.m] 45)
      clear K4 B4
      generalize hW4 : w4.alloc (.cells #[.int .i64 i.o, .int .i64 i.d, .int .i64 i.s, .int .i64 i.m] 45) = w5 at *
      obtain ⟨d0, d1⟩ := (unhideI BB).two0
      have d2 := (unhideI BB).1
      obtain ⟨i0, i1, i2, i3⟩ := (unhideI II).at4
      have i4 := (unhideI II).2.2
      have i5 := (unhideI II).1
      go_wp2_with fail
      have HC := hideI (fun (vs vo9 : Value) W (M : Mach (Sd.no W) (cutW W W0.heap.size) W p q vc vi vo9 m2 xs bs) (B : Box W wr.heap.size [vs, .func (.func f) #[] cs]) (I : Box W w4.heap.size [.int .i64 i.o, .int .i64 i.d, .int .i64 i.s, .int .i64 i.m]) => (show W.cell? ⟨p, 0, none⟩ = some (.int .i64 (m2.r 0)) ∧ W.cell? ⟨p, 1, none⟩ = some (.int .i64 (m2.r 1)) ∧ W.cell? ⟨p, 2, none⟩ = some (.int .i64 (m2.r 2)) ∧ W.cell? ⟨p, 3, none⟩ = some (.int .i64 (m2.r 3)) ∧ W.cell? ⟨p, 4, none⟩ = some (.int .i64 (m2.r 4)) ∧ W.cell? ⟨p, 5, none⟩ = some (.int .i64 (m2.r 5)) ∧ W.cell? ⟨p, 6, none⟩ = some (.int .i64 (m2.r 6)) ∧ W.cell? ⟨p, 7, none⟩ = some (.int .i64 (m2.r 7)) ∧ W.cell? ⟨p, 8, none⟩ = some (.bool m2.c) ∧ W.cell? ⟨p, 9, none⟩ = some (.bool m2.z) ∧ W.cell? ⟨p, 10, none⟩ = some (.bool m2.n) ∧ W.cell? ⟨p, 11, none⟩ = some (.bool m2.v) ∧ W.cell? ⟨wr.heap.size, 1, none⟩ = some (.func (.func f) #[] cs) ∧ W.cell? ⟨w4.heap.size, 0, none⟩ = some (.int .i64 i.o) ∧ W.cell? ⟨w4.heap.size, 1, none⟩ = some (.int .i64 i.d) ∧ W.cell? ⟨w4.heap.size, 2, none⟩ = some (.int .i64 i.s) ∧ W.cell? ⟨w4.heap.size, 3, none⟩ = some (.int .i64 i.m) from ⟨M.box.2.1 0 _ rfl, M.box.2.1 1 _ rfl, M.box.2.1 2 _ rfl, M.box.2.1 3 _ rfl, M.box.2.1 4 _ rfl, M.box.2.1 5 _ rfl, M.box.2.1 6 _ rfl, M.box.2.1 7 _ rfl, M.box.2.1 8 _ rfl, M.box.2.1 9 _ rfl, M.box.2.1 10 _ rfl, M.box.2.1 11 _ rfl, B.2.1 1 _ rfl, I.2.1 0 _ rfl, I.2.1 1 _ rfl, I.2.1 2 _ rfl, I.2.1 3 _ rfl⟩))
      have hnF : Hid (¬ Foot g wr.heap.size) := (unhideI G1).hF
      have hnI : Hid (¬ Foot g w4.heap.size) := fun h => by
        have h9 := L.lt _ _ _ _ (unhideI KF) h
        omega
      refine reg_start (fun W => W.cell? ⟨p, 0, none⟩ = some (.int .i64 (m2.r 0)) ∧ W.cell? ⟨p, 1, none⟩ = some (.int .i64 (m2.r 1)) ∧ W.cell? ⟨p, 2, none⟩ = some (.int .i64 (m2.r 2)) ∧ W.cell? ⟨p, 3, none⟩ = some (.int .i64 (m2.r 3)) ∧ W.cell? ⟨p, 4, none⟩ = some (.int .i64 (m2.r 4)) ∧ W.cell? ⟨p, 5, none⟩ = some (.int .i64 (m2.r 5)) ∧ W.cell? ⟨p, 6, none⟩ = some (.int .i64 (m2.r 6)) ∧ W.cell? ⟨p, 7, none⟩ = some (.int .i64 (m2.r 7)) ∧ W.cell? ⟨p, 8, none⟩ = some (.bool m2.c) ∧ W.cell? ⟨p, 9, none⟩ = some (.bool m2.z) ∧ W.cell? ⟨p, 10, none⟩ = some (.bool m2.n) ∧ W.cell? ⟨p, 11, none⟩ = some (.bool m2.v) ∧ W.cell? ⟨wr.heap.size, 1, none⟩ = some (.func (.func f) #[] cs) ∧ W.cell? ⟨w4.heap.size, 0, none⟩ = some (.int .i64 i.o) ∧ W.cell? ⟨w4.heap.size, 1, none⟩ = some (.int .i64 i.d) ∧ W.cell? ⟨w4.heap.size, 2, none⟩ = some (.int .i64 i.s) ∧ W.cell? ⟨w4.heap.size, 3, none⟩ = some (.int .i64 i.m)) (by kernel_rfl) ?_
      have KD := hideI ((unhideI KK).step L (Below.refl _ _).drew)
      have BD := hideI ((unhideI BB).step (Below.refl _ _).drew)
      have ID := hideI ((unhideI II).step (Below.refl _ _).drew)
      clear KK BB II
      generalize w5.drew = w6 at *
      refine reg_seg 0 16 1 (by kernel_rfl) (by decide) (by kernel_rfl) (by kernel_rfl) (fun _ _ _ _ _ h => h) ?_
      simp only [List.take_succ_cons, List.take_zero, List.drop_succ_cons, List.drop_zero]
      repeat (refine wpSteady_step (fun K hK => ?_); go_simp; first | (refine steady_of ?_ (fun W hW => ?_) (hK _ ?_); rotate_left; (obtain ⟨y0, y1, y2, y3, y4, y5, y6, y7, y8, y9, y10, y11, y12, y13, y14, y15, y16⟩ := hW; go_simp; first | done | rfl); clear hK K) | (refine hK _ ?_; clear hK K))
      refine wpSteady_nil ?_
      refine reg_one 16 0 (by kernel_rfl) (by kernel_rfl) (unhideI HC _ _ _ (unhideI KD).mach (unhideI BD) (unhideI ID)) ?_
      simp only [List.take_succ_cons, List.take_zero, List.drop_succ_cons, List.drop_zero]
      go_wp2_with fail
      refine (unhideI TK _ _ (unhideI KD)).mono ?_
      rintro e w7 ⟨rfl, kp, g', K7⟩
      have K8 := hideI K7
      have B8 := hideI (kp.box (unhideI BD) (unhideI hnF))
      have I8 := hideI (kp.box (unhideI ID) (unhideI hnI))
      clear K7 kp
      go_wp2_with fail
      first | refine next_nil ?_ | refine next_go ?_
      refine reg_end (by kernel_rfl) (unhideI HC _ _ _ (unhideI K8).mach (unhideI B8) (unhideI I8)) ?_
      first | go_end0 | go_wp2_with fail; go_end0
      exact ⟨rfl, _, _, unhideI K8⟩
end
end Go.Proofs.Ytjlbenbfmookoab
