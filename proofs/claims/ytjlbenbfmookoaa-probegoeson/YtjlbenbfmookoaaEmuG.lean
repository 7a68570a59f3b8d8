/-
  goOn: the run ends, or a step is taken, and who looks on is told.
-/
import Derived.Test.YtjlbenbfmookoaaEmuY
import Derived.Test.YtjlbenbfmookoaaReg
namespace Go.Proofs.Ytjlbenbfmookoaa
open Go.RowKit
set_option linter.unusedSimpArgs false
set_option linter.unusedVariables false

/-- What comes of m. -/
def goN {σ : Type} (xs bs : List Int) (st : Int → Bool) (tk : σ → Sht → Bool → σ) (F : Int) (m : Ma) (s : σ) : Ma × σ :=
  if 0 < m.took ∧ st m.pc = true then ({ m with how := 6 }, s) else if m.took = F then ({ m with how := 3 }, s) else (m.step xs bs, m.seen xs bs tk s)
theorem Box.two0 {w : World} {b : Nat} {a0 a1 : Value} (h : Box w b [a0, a1]) : w.cell? ⟨b, 0, none⟩ = some a0 ∧ w.cell? ⟨b, 1, none⟩ = some a1 := ⟨h.2.1 0 _ rfl, h.2.1 1 _ rfl⟩

theorem neq_S (fn : Fn) (fs cs : Array Value) (w : World) : Sem.run Try.prog (binOp BinOp.neq 62 (Value.func fn fs cs) Value.nilFunc) w = .ok (.bool true) w := by kernel_rfl
theorem neq_S0 (w : World) : Sem.run Try.prog (binOp BinOp.neq 62 Value.nilFunc Value.nilFunc) w = .ok (.bool false) w := by kernel_rfl
theorem neq_T (fn : Fn) (fs cs : Array Value) (w : World) : Sem.run Try.prog (binOp BinOp.neq 60 (Value.func fn fs cs) Value.nilFunc) w = .ok (.bool true) w := by kernel_rfl
theorem neq_T0 (w : World) : Sem.run Try.prog (binOp BinOp.neq 60 Value.nilFunc Value.nilFunc) w = .ok (.bool false) w := by kernel_rfl

section
variable {σ γ : Type} {Inv : σ → γ → World → Prop} {Foot : γ → Nat → Prop} {st : Int → Bool} {tk : σ → Sht → Bool → σ} {vS vT : Value} {g0 g : γ} {W0 wr : World} {p q : Nat} {vc vi vo : Value} {m : Ma} {xs bs : List Int} {s : σ}
/-- What is there when the run goes on: the watch's box, the machine. -/
structure Gon (Inv : σ → γ → World → Prop) (Foot : γ → Nat → Prop) (g0 g : γ) (W0 w w1 : World) (p q : Nat) (vc vi vo : Value) (m : Ma) (xs bs : List Int) (s : σ) (vS vT : Value) : Prop where
  k : Wtc Inv Foot g0 g W0 w1 p q vc vi vo m xs bs s
  box : Box w1 w.heap.size [vS, vT]
  hp : w.heap.size ≠ p ∧ w.heap.size ≠ q
  ho : ∀ c, vo.ownBlock = some c → c < w.heap.size
  hw : W0.heap.size ≤ w.heap.size
  hF : ¬ Foot g w.heap.size
theorem Gon.start (L : Looks Inv Foot st tk vS vT) (K : Wtc Inv Foot g0 g W0 wr p q vc vi vo m xs bs s) : Gon Inv Foot g0 g W0 wr (wr.alloc (.cells #[vS, vT] 64)) p q vc vi vo m xs bs s vS vT :=
  ⟨K.step L (below_a _ _), Box.new wr #[vS, vT] 64, by have := K.mach.pw; have := K.mach.hqw; omega, K.mach.voLt, K.kpt.size, fun h => by have := L.lt _ _ _ _ K.ex.1 h; omega⟩
theorem Gon.step {w w1 w2 : World} (L : Looks Inv Foot st tk vS vT) (G : Gon Inv Foot g0 g W0 w w1 p q vc vi vo m xs bs s vS vT) (k : Below w1.heap.size w1 w2) : Gon Inv Foot g0 g W0 w w2 p q vc vi vo m xs bs s vS vT :=
  ⟨G.k.step L k, G.box.step k, G.hp, G.ho, G.hw, G.hF⟩
/-- The machine's cells. -/
theorem Gon.at {w w1 : World} (G : Gon Inv Foot g0 g W0 w w1 p q vc vi vo m xs bs s vS vT) :
    w1.cell? ⟨p, 12, none⟩ = some (.int .i64 m.pc) ∧ w1.cell? ⟨p, 16, none⟩ = some (.int .i64 m.how) ∧ w1.cell? ⟨p, 20, none⟩ = some (.int .i64 m.took) ∧ (∀ j, w1.frozen? ⟨p, j, none⟩ = false) ∧ p < w1.heap.size ∧ w1.cell? ⟨w.heap.size, 0, none⟩ = some vS ∧ w1.cell? ⟨w.heap.size, 1, none⟩ = some vT ∧ w.heap.size < w1.heap.size := by
  obtain ⟨-, -, -, -, c12, -, -, -, c16, -, -, -, c20⟩ := G.k.mach.at
  exact ⟨c12, c16, c20, G.k.mach.flat, G.k.mach.pw, G.box.two0.1, G.box.two0.2, G.box.1⟩
/-- A step. -/
theorem Gon.run {w w1 : World} (L : Looks Inv Foot st tk vS vT) (G : Gon Inv Foot g0 g W0 w w1 p q vc vi vo m xs bs s vS vT) (ht : 0 ≤ m.took) (ht' : m.took ≤ 1000000) :
    Calls Try.prog 57 #[.pointer (some ⟨p, 0, none⟩)] w1 fun e w' => e = .returned (.tuple #[agg (oneA xs m.pc).1, .bool (decide (¬ (oneA xs m.pc).2 = 0))]) ∧ ∃ vo', Wtc Inv Foot g0 g W0 w' p q vc vi vo' (m.step xs bs) xs bs s ∧ Box w' w.heap.size [vS, vT] := by
  obtain ⟨Y, hz, hM, back⟩ := G.k.move L (fun b => b = w.heap.size) fun b _ e => by subst e; exact ⟨G.hp.1, G.hp.2, fun h => by have := G.ho _ h; omega⟩
  refine (step_any hM ht ht').mono ?_
  rintro e w' ⟨vo', rfl, h'⟩
  exact ⟨rfl, vo', back _ _ _ h', h'.sideBox G.box (hz _ rfl)⟩
/-- How the run ends. -/
theorem Gon.ends {w w1 : World} (L : Looks Inv Foot st tk vS vT) (G : Gon Inv Foot g0 g W0 w w1 p q vc vi vo m xs bs s vS vT) (x : Int) : Wtc Inv Foot g0 g W0 (w1.setCell ⟨p, 16, none⟩ (.int .i64 x)) p q vc vi vo { m with how := x } xs bs s := by
  obtain ⟨Y, -, hM, back⟩ := G.k.move L (fun _ => False) fun _ _ h => h.elim
  exact back _ _ _ (hM.put (m' := { m with how := x }) 16 (.int .i64 x) (by decide) rfl rfl rfl { hM.fine with })


set_option maxRecDepth 100000 in
set_option maxHeartbeats 2000000 in
theorem goOn_stop (L : Looks Inv Foot st tk vS vT) (K : Wtc Inv Foot g0 g W0 wr p q vc vi vo m xs bs s) (ht : 0 ≤ m.took) (F : Int) (hpos : 0 < m.took) (hst : st m.pc = true) :
    Calls Try.prog 43 #[.pointer (some ⟨p, 0, none⟩), .int .i64 F, .agg #[vS, vT]] wr fun e w' => e = .returned (.tuple #[]) ∧ ∃ vo', Wtc Inv Foot g0 g W0 w' p q vc vi vo' { m with how := 6 } xs bs s := by
  have hS := L.stops
  rcases hS with ⟨-, h0⟩ | hS
  · rw [h0] at hst; cases hst
  have G0 := hideI (Gon.start L K)
  have htk : 0 ≤ m.took := ht
  have KR := K.mach.pw
  clear K
  obtain ⟨w1, hW0⟩ : ∃ w1, wr.alloc (.cells #[vS, vT] 64) = w1 := ⟨_, rfl⟩
  rw [hW0] at G0
  obtain ⟨c12, c16, c20, fz, hp1, b0, b1, b2⟩ := (unhideI G0).at
  obtain ⟨fS, cS, rfl, hfcS, hf⟩ := hS
  have SC := hideI ((unhideI G0).k.stopsCall L hf m.pc (unhideI G0).k.mach.fine.pc)
  clear hf
  have hgt : decide (0 < m.took) = true := by simpa using hpos
  have NS := neq_S
  have NS0 := neq_S0
  have NT := neq_T
  have NT0 := neq_T0
  go_enter Try.func43, Try.ntmps43
  go_wp2_with fail
  refine (unhideI SC).mono ?_
  rintro e w2 ⟨rfl, k2⟩
  have G1 := hideI ((unhideI G0).step L k2)
  clear G0 SC
  obtain ⟨c12, c16, c20, fz, hp1, b0, b1, b2⟩ := (unhideI G1).at
  go_wp2_with fail
  have GE := hideI ((unhideI G1).ends L 6)
  go_end0
  exact ⟨rfl, _, unhideI GE⟩

set_option maxRecDepth 100000 in
set_option maxHeartbeats 2000000 in
theorem goOn_fuel (L : Looks Inv Foot st tk vS vT) (K : Wtc Inv Foot g0 g W0 wr p q vc vi vo m xs bs s) (ht : 0 ≤ m.took) (F : Int) (hn : ¬ (0 < m.took ∧ st m.pc = true)) (hf : m.took = F) :
    Calls Try.prog 43 #[.pointer (some ⟨p, 0, none⟩), .int .i64 F, .agg #[vS, vT]] wr fun e w' => e = .returned (.tuple #[]) ∧ ∃ vo', Wtc Inv Foot g0 g W0 w' p q vc vi vo' { m with how := 3 } xs bs s := by
  have hF : (m.took == F) = true := by simp [hf]
  clear hf
  have G0 := hideI (Gon.start L K)
  have htk : 0 ≤ m.took := ht
  have KR := K.mach.pw
  clear K
  obtain ⟨w1, hW0⟩ : ∃ w1, wr.alloc (.cells #[vS, vT] 64) = w1 := ⟨_, rfl⟩
  rw [hW0] at G0
  obtain ⟨c12, c16, c20, fz, hp1, b0, b1, b2⟩ := (unhideI G0).at
  by_cases h0 : m.took = 0
  · clear hn
    have hgt : decide (0 < m.took) = false := by simp [h0]
    have NS := neq_S
    have NS0 := neq_S0
    have NT := neq_T
    have NT0 := neq_T0
    go_enter Try.func43, Try.ntmps43
    go_wp2_with fail
    have G1 := G0
    have GE := hideI ((unhideI G1).ends L 3)
    go_end0
    exact ⟨rfl, _, unhideI GE⟩
  · have hpos : 0 < m.took := by omega
    have hst : st m.pc = false := by
      cases h : st m.pc
      · rfl
      · exact absurd ⟨hpos, h⟩ hn
    clear hn
    rcases L.stops with ⟨hv, -⟩ | hS
    · skip
      subst hv
      have hgt : decide (0 < m.took) = true := by simp; omega
      have NS := neq_S
      have NS0 := neq_S0
      have NT := neq_T
      have NT0 := neq_T0
      go_enter Try.func43, Try.ntmps43
      go_wp2_with fail
      have G1 := G0
      have GE := hideI ((unhideI G1).ends L 3)
      go_end0
      exact ⟨rfl, _, unhideI GE⟩
    · skip
      obtain ⟨fS, cS, rfl, hfcS, hf⟩ := hS
      have SC := hideI ((unhideI G0).k.stopsCall L hf m.pc (unhideI G0).k.mach.fine.pc)
      clear hf
      have hgt : decide (0 < m.took) = true := by simpa using hpos
      have NS := neq_S
      have NS0 := neq_S0
      have NT := neq_T
      have NT0 := neq_T0
      go_enter Try.func43, Try.ntmps43
      go_wp2_with fail
      refine (unhideI SC).mono ?_
      rintro e w2 ⟨rfl, k2⟩
      have G1 := hideI ((unhideI G0).step L k2)
      clear G0 SC
      obtain ⟨c12, c16, c20, fz, hp1, b0, b1, b2⟩ := (unhideI G1).at
      go_wp2_with fail
      have GE := hideI ((unhideI G1).ends L 3)
      go_end0
      exact ⟨rfl, _, unhideI GE⟩

set_option maxRecDepth 100000 in
set_option maxHeartbeats 2000000 in
theorem goOn_nil (L : Looks Inv Foot st tk vS vT) (K : Wtc Inv Foot g0 g W0 wr p q vc vi vo m xs bs s) (ht : 0 ≤ m.took) (F : Int) (hn : ¬ (0 < m.took ∧ st m.pc = true)) (hf : ¬ m.took = F) (ht' : m.took ≤ 1000000) (hT : vT = .nilFunc) :
    Calls Try.prog 43 #[.pointer (some ⟨p, 0, none⟩), .int .i64 F, .agg #[vS, vT]] wr fun e w' => e = .returned (.tuple #[]) ∧ ∃ vo', Wtc Inv Foot g0 g W0 w' p q vc vi vo' (m.step xs bs) xs bs s := by
  have hF : (m.took == F) = false := by simp [hf]
  clear hf
  have hpcw : wd m.pc := K.mach.fine.pc
  have G0 := hideI (Gon.start L K)
  have htk : 0 ≤ m.took := ht
  have KR := K.mach.pw
  clear K
  obtain ⟨w1, hW0⟩ : ∃ w1, wr.alloc (.cells #[vS, vT] 64) = w1 := ⟨_, rfl⟩
  rw [hW0] at G0
  obtain ⟨c12, c16, c20, fz, hp1, b0, b1, b2⟩ := (unhideI G0).at
  have RUN := hideI (fun w1 (G : Gon Inv Foot g0 g W0 wr w1 p q vc vi vo m xs bs s vS vT) => G.run L ht ht')
  subst hT
  generalize (oneA xs m.pc).1 = i at *
  generalize decide (¬ (oneA xs m.pc).2 = 0) = bb at *
  generalize m.step xs bs = m2 at *
  by_cases h0 : m.took = 0
  · clear hn
    have hgt : decide (0 < m.took) = false := by simp [h0]
    have NS := neq_S
    have NS0 := neq_S0
    have NT := neq_T
    have NT0 := neq_T0
    go_enter Try.func43, Try.ntmps43
    go_wp2_with fail
    have G1 := G0
    refine (unhideI RUN _ (unhideI G1)).mono ?_
    rintro e w4 ⟨rfl, vo4, K4, B4⟩
    unfold agg
    have hb4 := B4.1
    have KF := hideI K4.ex.1
    have KK := hideI (K4.step L (below_a _ (.cells #[.int .i64 i.o, .int .i64 i.d, .int .i64 i.s, .int .i64 i.m] 49)))
    have BB := hideI (B4.step (below_a _ (.cells #[.int .i64 i.o, .int .i64 i.d, .int .i64 i.s, .int .i64 i.m] 49)))
    have II := hideI (Box.new w4 #[.int .i64 i.o, .int .i64 i.d, .int .i64 i.s, .int .i64 i.m] 49)
    clear K4 B4
    generalize hW4 : w4.alloc (.cells #[.int .i64 i.o, .int .i64 i.d, .int .i64 i.s, .int .i64 i.m] 49) = w5 at *
    obtain ⟨d0, d1⟩ := (unhideI BB).two0
    have d2 := (unhideI BB).1
    obtain ⟨i0, i1, i2, i3⟩ := (unhideI II).at4
    have i4 := (unhideI II).2.2
    have i5 := (unhideI II).1
    go_wp2_with fail
    first | go_end0 | skip
    exact ⟨rfl, _, unhideI KK⟩
  · have hpos : 0 < m.took := by omega
    have hst : st m.pc = false := by
      cases h : st m.pc
      · rfl
      · exact absurd ⟨hpos, h⟩ hn
    clear hn
    rcases L.stops with ⟨hv, -⟩ | hS
    · skip
      subst hv
      have hgt : decide (0 < m.took) = true := by simp; omega
      have NS := neq_S
      have NS0 := neq_S0
      have NT := neq_T
      have NT0 := neq_T0
      go_enter Try.func43, Try.ntmps43
      go_wp2_with fail
      have G1 := G0
      refine (unhideI RUN _ (unhideI G1)).mono ?_
      rintro e w4 ⟨rfl, vo4, K4, B4⟩
      unfold agg
      have hb4 := B4.1
      have KF := hideI K4.ex.1
      have KK := hideI (K4.step L (below_a _ (.cells #[.int .i64 i.o, .int .i64 i.d, .int .i64 i.s, .int .i64 i.m] 49)))
      have BB := hideI (B4.step (below_a _ (.cells #[.int .i64 i.o, .int .i64 i.d, .int .i64 i.s, .int .i64 i.m] 49)))
      have II := hideI (Box.new w4 #[.int .i64 i.o, .int .i64 i.d, .int .i64 i.s, .int .i64 i.m] 49)
      clear K4 B4
      generalize hW4 : w4.alloc (.cells #[.int .i64 i.o, .int .i64 i.d, .int .i64 i.s, .int .i64 i.m] 49) = w5 at *
      obtain ⟨d0, d1⟩ := (unhideI BB).two0
      have d2 := (unhideI BB).1
      obtain ⟨i0, i1, i2, i3⟩ := (unhideI II).at4
      have i4 := (unhideI II).2.2
      have i5 := (unhideI II).1
      go_wp2_with fail
      first | go_end0 | skip
      exact ⟨rfl, _, unhideI KK⟩
    · skip
      obtain ⟨fS, cS, rfl, hfcS, hf⟩ := hS
      have SC := hideI ((unhideI G0).k.stopsCall L hf m.pc (unhideI G0).k.mach.fine.pc)
      clear hf
      have hgt : decide (0 < m.took) = true := by simpa using hpos
      have NS := neq_S
      have NS0 := neq_S0
      have NT := neq_T
      have NT0 := neq_T0
      go_enter Try.func43, Try.ntmps43
      go_wp2_with fail
      refine (unhideI SC).mono ?_
      rintro e w2 ⟨rfl, k2⟩
      have G1 := hideI ((unhideI G0).step L k2)
      clear G0 SC
      obtain ⟨c12, c16, c20, fz, hp1, b0, b1, b2⟩ := (unhideI G1).at
      go_wp2_with fail
      refine (unhideI RUN _ (unhideI G1)).mono ?_
      rintro e w4 ⟨rfl, vo4, K4, B4⟩
      unfold agg
      have hb4 := B4.1
      have KF := hideI K4.ex.1
      have KK := hideI (K4.step L (below_a _ (.cells #[.int .i64 i.o, .int .i64 i.d, .int .i64 i.s, .int .i64 i.m] 49)))
      have BB := hideI (B4.step (below_a _ (.cells #[.int .i64 i.o, .int .i64 i.d, .int .i64 i.s, .int .i64 i.m] 49)))
      have II := hideI (Box.new w4 #[.int .i64 i.o, .int .i64 i.d, .int .i64 i.s, .int .i64 i.m] 49)
      clear K4 B4
      generalize hW4 : w4.alloc (.cells #[.int .i64 i.o, .int .i64 i.d, .int .i64 i.s, .int .i64 i.m] 49) = w5 at *
      obtain ⟨d0, d1⟩ := (unhideI BB).two0
      have d2 := (unhideI BB).1
      obtain ⟨i0, i1, i2, i3⟩ := (unhideI II).at4
      have i4 := (unhideI II).2.2
      have i5 := (unhideI II).1
      go_wp2_with fail
      first | go_end0 | skip
      exact ⟨rfl, _, unhideI KK⟩

set_option maxRecDepth 100000 in
set_option maxHeartbeats 2000000 in
theorem goOn_took (L : Looks Inv Foot st tk vS vT) (K : Wtc Inv Foot g0 g W0 wr p q vc vi vo m xs bs s) (ht : 0 ≤ m.took) (F : Int) (hn : ¬ (0 < m.took ∧ st m.pc = true)) (hf : ¬ m.took = F) (ht' : m.took ≤ 1000000) (hT : ∃ f cs, vT = .func (.func f) #[] cs ∧ (∀ av W, (callFunc f av).run Try.prog W = .ok (.enter f av) W) ∧ ∀ s g u a b, wd a.a → Inv s g u → Calls Try.prog f (#[.agg a.cells, .bool b] ++ cs) u fun e u' => e = .returned (.tuple #[]) ∧ ∃ g', Inv (tk s a b) g' u' ∧ Kpw (Foot g) u u' ∧ ∀ k, Foot g' k → Foot g k ∨ u.heap.size ≤ k) :
    Calls Try.prog 43 #[.pointer (some ⟨p, 0, none⟩), .int .i64 F, .agg #[vS, vT]] wr fun e w' => e = .returned (.tuple #[]) ∧ ∃ vo' g', Wtc Inv Foot g0 g' W0 w' p q vc vi vo' (m.step xs bs) xs bs (m.seen xs bs tk s) := by
  have hF : (m.took == F) = false := by simp [hf]
  clear hf
  have hpcw : wd m.pc := K.mach.fine.pc
  have G0 := hideI (Gon.start L K)
  have htk : 0 ≤ m.took := ht
  have KR := K.mach.pw
  clear K
  obtain ⟨w1, hW0⟩ : ∃ w1, wr.alloc (.cells #[vS, vT] 64) = w1 := ⟨_, rfl⟩
  rw [hW0] at G0
  obtain ⟨c12, c16, c20, fz, hp1, b0, b1, b2⟩ := (unhideI G0).at
  obtain ⟨f, cs, rfl, hfc, hff⟩ := hT
  have RUN := hideI (fun w1 (G : Gon Inv Foot g0 g W0 wr w1 p q vc vi vo m xs bs s vS (.func (.func f) #[] cs)) => G.run L ht ht')
  unfold Ma.seen
  generalize (oneA xs m.pc).1 = i at *
  generalize decide (¬ (oneA xs m.pc).2 = 0) = bb at *
  generalize m.step xs bs = m2 at *
  have TK := hideI (fun w1 vo4 (K : Wtc Inv Foot g0 g W0 w1 p q vc vi vo4 m2 xs bs s) => K.tookCall L hff (shtOf m.pc i m2) bb hpcw)
  unfold shtOf Sht.cells at TK
  dsimp only at TK
  clear hff hpcw
  by_cases h0 : m.took = 0
  · clear hn
    have hgt : decide (0 < m.took) = false := by simp [h0]
    have NS := neq_S
    have NS0 := neq_S0
    have NT := neq_T
    have NT0 := neq_T0
    go_enter Try.func43, Try.ntmps43
    go_wp2_with fail
    have G1 := G0
    refine (unhideI RUN _ (unhideI G1)).mono ?_
    rintro e w4 ⟨rfl, vo4, K4, B4⟩
    unfold agg
    have hb4 := B4.1
    have KF := hideI K4.ex.1
    have KK := hideI (K4.step L (below_a _ (.cells #[.int .i64 i.o, .int .i64 i.d, .int .i64 i.s, .int .i64 i.m] 49)))
    have BB := hideI (B4.step (below_a _ (.cells #[.int .i64 i.o, .int .i64 i.d, .int .i64 i.s, .int .i64 i.m] 49)))
    have II := hideI (Box.new w4 #[.int .i64 i.o, .int .i64 i.d, .int .i64 i.s, .int .i64 i.m] 49)
    clear K4 B4
    generalize hW4 : w4.alloc (.cells #[.int .i64 i.o, .int .i64 i.d, .int .i64 i.s, .int .i64 i.m] 49) = w5 at *
    obtain ⟨d0, d1⟩ := (unhideI BB).two0
    have d2 := (unhideI BB).1
    obtain ⟨i0, i1, i2, i3⟩ := (unhideI II).at4
    have i4 := (unhideI II).2.2
    have i5 := (unhideI II).1
    go_wp2_with fail
    have HC := hideI (fun (vs vo9 : Value) W (M : Mach (Sd.no W) (cutW W W0.heap.size) W p q vc vi vo9 m2 xs bs) (B : Box W wr.heap.size [vs, .func (.func f) #[] cs]) (I : Box W w4.heap.size [.int .i64 i.o, .int .i64 i.d, .int .i64 i.s, .int .i64 i.m]) => (show W.cell? ⟨p, 0, none⟩ = some (.int .i64 (m2.r 0)) ∧ W.cell? ⟨p, 1, none⟩ = some (.int .i64 (m2.r 1)) ∧ W.cell? ⟨p, 2, none⟩ = some (.int .i64 (m2.r 2)) ∧ W.cell? ⟨p, 3, none⟩ = some (.int .i64 (m2.r 3)) ∧ W.cell? ⟨p, 4, none⟩ = some (.int .i64 (m2.r 4)) ∧ W.cell? ⟨p, 5, none⟩ = some (.int .i64 (m2.r 5)) ∧ W.cell? ⟨p, 6, none⟩ = some (.int .i64 (m2.r 6)) ∧ W.cell? ⟨p, 7, none⟩ = some (.int .i64 (m2.r 7)) ∧ W.cell? ⟨p, 8, none⟩ = some (.bool m2.c) ∧ W.cell? ⟨p, 9, none⟩ = some (.bool m2.z) ∧ W.cell? ⟨p, 10, none⟩ = some (.bool m2.n) ∧ W.cell? ⟨p, 11, none⟩ = some (.bool m2.v) ∧ W.cell? ⟨wr.heap.size, 1, none⟩ = some (.func (.func f) #[] cs) ∧ W.cell? ⟨w4.heap.size, 0, none⟩ = some (.int .i64 i.o) ∧ W.cell? ⟨w4.heap.size, 1, none⟩ = some (.int .i64 i.d) ∧ W.cell? ⟨w4.heap.size, 2, none⟩ = some (.int .i64 i.s) ∧ W.cell? ⟨w4.heap.size, 3, none⟩ = some (.int .i64 i.m) from ⟨M.box.2.1 0 _ rfl, M.box.2.1 1 _ rfl, M.box.2.1 2 _ rfl, M.box.2.1 3 _ rfl, M.box.2.1 4 _ rfl, M.box.2.1 5 _ rfl, M.box.2.1 6 _ rfl, M.box.2.1 7 _ rfl, M.box.2.1 8 _ rfl, M.box.2.1 9 _ rfl, M.box.2.1 10 _ rfl, M.box.2.1 11 _ rfl, B.2.1 1 _ rfl, I.2.1 0 _ rfl, I.2.1 1 _ rfl, I.2.1 2 _ rfl, I.2.1 3 _ rfl⟩))
    have hnF : Hid (¬ Foot g wr.heap.size) := (unhideI G1).hF
    have hnI : Hid (¬ Foot g w4.heap.size) := fun h => by
      have h9 := L.lt _ _ _ _ (unhideI KF) h
      omega
    refine reg_start (fun W => W.cell? ⟨p, 0, none⟩ = some (.int .i64 (m2.r 0)) ∧ W.cell? ⟨p, 1, none⟩ = some (.int .i64 (m2.r 1)) ∧ W.cell? ⟨p, 2, none⟩ = some (.int .i64 (m2.r 2)) ∧ W.cell? ⟨p, 3, none⟩ = some (.int .i64 (m2.r 3)) ∧ W.cell? ⟨p, 4, none⟩ = some (.int .i64 (m2.r 4)) ∧ W.cell? ⟨p, 5, none⟩ = some (.int .i64 (m2.r 5)) ∧ W.cell? ⟨p, 6, none⟩ = some (.int .i64 (m2.r 6)) ∧ W.cell? ⟨p, 7, none⟩ = some (.int .i64 (m2.r 7)) ∧ W.cell? ⟨p, 8, none⟩ = some (.bool m2.c) ∧ W.cell? ⟨p, 9, none⟩ = some (.bool m2.z) ∧ W.cell? ⟨p, 10, none⟩ = some (.bool m2.n) ∧ W.cell? ⟨p, 11, none⟩ = some (.bool m2.v) ∧ W.cell? ⟨wr.heap.size, 1, none⟩ = some (.func (.func f) #[] cs) ∧ W.cell? ⟨w4.heap.size, 0, none⟩ = some (.int .i64 i.o) ∧ W.cell? ⟨w4.heap.size, 1, none⟩ = some (.int .i64 i.d) ∧ W.cell? ⟨w4.heap.size, 2, none⟩ = some (.int .i64 i.s) ∧ W.cell? ⟨w4.heap.size, 3, none⟩ = some (.int .i64 i.m)) (by kernel_rfl) ?_
    have KD := hideI ((unhideI KK).step L (Below.refl _ _).drew)
    have BD := hideI ((unhideI BB).step (Below.refl _ _).drew)
    have ID := hideI ((unhideI II).step (Below.refl _ _).drew)
    clear KK BB II
    generalize w5.drew = w6 at *
    refine reg_seg 0 16 1 (by kernel_rfl) (by decide) (by kernel_rfl) (by kernel_rfl) (fun _ _ _ _ _ h => h) ?_
    simp only [List.take_succ_cons, List.take_zero, List.drop_succ_cons, List.drop_zero]
    repeat (refine wpSteady_step (fun K hK => ?_); go_simp; first | (refine steady_of ?_ (fun W hW => ?_) (hK _ ?_); rotate_left; (obtain ⟨y0, y1, y2, y3, y4, y5, y6, y7, y8, y9, y10, y11, y12, y13, y14, y15, y16⟩ := hW; go_simp; first | done | rfl); clear hK K) | (refine hK _ ?_; clear hK K))
    refine wpSteady_nil ?_
    refine reg_one 16 0 (by kernel_rfl) (by kernel_rfl) (unhideI HC _ _ _ (unhideI KD).mach (unhideI BD) (unhideI ID)) ?_
    simp only [List.take_succ_cons, List.take_zero, List.drop_succ_cons, List.drop_zero]
    go_wp2_with fail
    refine (unhideI TK _ _ (unhideI KD)).mono ?_
    rintro e w7 ⟨rfl, kp, g', K7⟩
    have K8 := hideI K7
    have B8 := hideI (kp.box (unhideI BD) (unhideI hnF))
    have I8 := hideI (kp.box (unhideI ID) (unhideI hnI))
    clear K7 kp
    go_wp2_with fail
    first | refine next_nil ?_ | refine next_go ?_
    refine reg_end (by kernel_rfl) (unhideI HC _ _ _ (unhideI K8).mach (unhideI B8) (unhideI I8)) ?_
    first | go_end0 | go_wp2_with fail; go_end0
    exact ⟨rfl, _, _, unhideI K8⟩
  · have hpos : 0 < m.took := by omega
    have hst : st m.pc = false := by
      cases h : st m.pc
      · rfl
      · exact absurd ⟨hpos, h⟩ hn
    clear hn
    rcases L.stops with ⟨hv, -⟩ | hS
    · skip
      subst hv
      have hgt : decide (0 < m.took) = true := by simp; omega
      have NS := neq_S
      have NS0 := neq_S0
      have NT := neq_T
      have NT0 := neq_T0
      go_enter Try.func43, Try.ntmps43
      go_wp2_with fail
      have G1 := G0
      refine (unhideI RUN _ (unhideI G1)).mono ?_
      rintro e w4 ⟨rfl, vo4, K4, B4⟩
      unfold agg
      have hb4 := B4.1
      have KF := hideI K4.ex.1
      have KK := hideI (K4.step L (below_a _ (.cells #[.int .i64 i.o, .int .i64 i.d, .int .i64 i.s, .int .i64 i.m] 49)))
      have BB := hideI (B4.step (below_a _ (.cells #[.int .i64 i.o, .int .i64 i.d, .int .i64 i.s, .int .i64 i.m] 49)))
      have II := hideI (Box.new w4 #[.int .i64 i.o, .int .i64 i.d, .int .i64 i.s, .int .i64 i.m] 49)
      clear K4 B4
      generalize hW4 : w4.alloc (.cells #[.int .i64 i.o, .int .i64 i.d, .int .i64 i.s, .int .i64 i.m] 49) = w5 at *
      obtain ⟨d0, d1⟩ := (unhideI BB).two0
      have d2 := (unhideI BB).1
      obtain ⟨i0, i1, i2, i3⟩ := (unhideI II).at4
      have i4 := (unhideI II).2.2
      have i5 := (unhideI II).1
      go_wp2_with fail
      have HC := hideI (fun (vs vo9 : Value) W (M : Mach (Sd.no W) (cutW W W0.heap.size) W p q vc vi vo9 m2 xs bs) (B : Box W wr.heap.size [vs, .func (.func f) #[] cs]) (I : Box W w4.heap.size [.int .i64 i.o, .int .i64 i.d, .int .i64 i.s, .int .i64 i.m]) => (show W.cell? ⟨p, 0, none⟩ = some (.int .i64 (m2.r 0)) ∧ W.cell? ⟨p, 1, none⟩ = some (.int .i64 (m2.r 1)) ∧ W.cell? ⟨p, 2, none⟩ = some (.int .i64 (m2.r 2)) ∧ W.cell? ⟨p, 3, none⟩ = some (.int .i64 (m2.r 3)) ∧ W.cell? ⟨p, 4, none⟩ = some (.int .i64 (m2.r 4)) ∧ W.cell? ⟨p, 5, none⟩ = some (.int .i64 (m2.r 5)) ∧ W.cell? ⟨p, 6, none⟩ = some (.int .i64 (m2.r 6)) ∧ W.cell? ⟨p, 7, none⟩ = some (.int .i64 (m2.r 7)) ∧ W.cell? ⟨p, 8, none⟩ = some (.bool m2.c) ∧ W.cell? ⟨p, 9, none⟩ = some (.bool m2.z) ∧ W.cell? ⟨p, 10, none⟩ = some (.bool m2.n) ∧ W.cell? ⟨p, 11, none⟩ = some (.bool m2.v) ∧ W.cell? ⟨wr.heap.size, 1, none⟩ = some (.func (.func f) #[] cs) ∧ W.cell? ⟨w4.heap.size, 0, none⟩ = some (.int .i64 i.o) ∧ W.cell? ⟨w4.heap.size, 1, none⟩ = some (.int .i64 i.d) ∧ W.cell? ⟨w4.heap.size, 2, none⟩ = some (.int .i64 i.s) ∧ W.cell? ⟨w4.heap.size, 3, none⟩ = some (.int .i64 i.m) from ⟨M.box.2.1 0 _ rfl, M.box.2.1 1 _ rfl, M.box.2.1 2 _ rfl, M.box.2.1 3 _ rfl, M.box.2.1 4 _ rfl, M.box.2.1 5 _ rfl, M.box.2.1 6 _ rfl, M.box.2.1 7 _ rfl, M.box.2.1 8 _ rfl, M.box.2.1 9 _ rfl, M.box.2.1 10 _ rfl, M.box.2.1 11 _ rfl, B.2.1 1 _ rfl, I.2.1 0 _ rfl, I.2.1 1 _ rfl, I.2.1 2 _ rfl, I.2.1 3 _ rfl⟩))
      have hnF : Hid (¬ Foot g wr.heap.size) := (unhideI G1).hF
      have hnI : Hid (¬ Foot g w4.heap.size) := fun h => by
        have h9 := L.lt _ _ _ _ (unhideI KF) h
        omega
      refine reg_start (fun W => W.cell? ⟨p, 0, none⟩ = some (.int .i64 (m2.r 0)) ∧ W.cell? ⟨p, 1, none⟩ = some (.int .i64 (m2.r 1)) ∧ W.cell? ⟨p, 2, none⟩ = some (.int .i64 (m2.r 2)) ∧ W.cell? ⟨p, 3, none⟩ = some (.int .i64 (m2.r 3)) ∧ W.cell? ⟨p, 4, none⟩ = some (.int .i64 (m2.r 4)) ∧ W.cell? ⟨p, 5, none⟩ = some (.int .i64 (m2.r 5)) ∧ W.cell? ⟨p, 6, none⟩ = some (.int .i64 (m2.r 6)) ∧ W.cell? ⟨p, 7, none⟩ = some (.int .i64 (m2.r 7)) ∧ W.cell? ⟨p, 8, none⟩ = some (.bool m2.c) ∧ W.cell? ⟨p, 9, none⟩ = some (.bool m2.z) ∧ W.cell? ⟨p, 10, none⟩ = some (.bool m2.n) ∧ W.cell? ⟨p, 11, none⟩ = some (.bool m2.v) ∧ W.cell? ⟨wr.heap.size, 1, none⟩ = some (.func (.func f) #[] cs) ∧ W.cell? ⟨w4.heap.size, 0, none⟩ = some (.int .i64 i.o) ∧ W.cell? ⟨w4.heap.size, 1, none⟩ = some (.int .i64 i.d) ∧ W.cell? ⟨w4.heap.size, 2, none⟩ = some (.int .i64 i.s) ∧ W.cell? ⟨w4.heap.size, 3, none⟩ = some (.int .i64 i.m)) (by kernel_rfl) ?_
      have KD := hideI ((unhideI KK).step L (Below.refl _ _).drew)
      have BD := hideI ((unhideI BB).step (Below.refl _ _).drew)
      have ID := hideI ((unhideI II).step (Below.refl _ _).drew)
      clear KK BB II
      generalize w5.drew = w6 at *
      refine reg_seg 0 16 1 (by kernel_rfl) (by decide) (by kernel_rfl) (by kernel_rfl) (fun _ _ _ _ _ h => h) ?_
      simp only [List.take_succ_cons, List.take_zero, List.drop_succ_cons, List.drop_zero]
      repeat (refine wpSteady_step (fun K hK => ?_); go_simp; first | (refine steady_of ?_ (fun W hW => ?_) (hK _ ?_); rotate_left; (obtain ⟨y0, y1, y2, y3, y4, y5, y6, y7, y8, y9, y10, y11, y12, y13, y14, y15, y16⟩ := hW; go_simp; first | done | rfl); clear hK K) | (refine hK _ ?_; clear hK K))
      refine wpSteady_nil ?_
      refine reg_one 16 0 (by kernel_rfl) (by kernel_rfl) (unhideI HC _ _ _ (unhideI KD).mach (unhideI BD) (unhideI ID)) ?_
      simp only [List.take_succ_cons, List.take_zero, List.drop_succ_cons, List.drop_zero]
      go_wp2_with fail
      refine (unhideI TK _ _ (unhideI KD)).mono ?_
      rintro e w7 ⟨rfl, kp, g', K7⟩
      have K8 := hideI K7
      have B8 := hideI (kp.box (unhideI BD) (unhideI hnF))
      have I8 := hideI (kp.box (unhideI ID) (unhideI hnI))
      clear K7 kp
      go_wp2_with fail
      first | refine next_nil ?_ | refine next_go ?_
      refine reg_end (by kernel_rfl) (unhideI HC _ _ _ (unhideI K8).mach (unhideI B8) (unhideI I8)) ?_
      first | go_end0 | go_wp2_with fail; go_end0
      exact ⟨rfl, _, _, unhideI K8⟩
    · skip
      obtain ⟨fS, cS, rfl, hfcS, hf⟩ := hS
      have SC := hideI ((unhideI G0).k.stopsCall L hf m.pc (unhideI G0).k.mach.fine.pc)
      clear hf
      have hgt : decide (0 < m.took) = true := by simpa using hpos
      have NS := neq_S
      have NS0 := neq_S0
      have NT := neq_T
      have NT0 := neq_T0
      go_enter Try.func43, Try.ntmps43
      go_wp2_with fail
      refine (unhideI SC).mono ?_
      rintro e w2 ⟨rfl, k2⟩
      have G1 := hideI ((unhideI G0).step L k2)
      clear G0 SC
      obtain ⟨c12, c16, c20, fz, hp1, b0, b1, b2⟩ := (unhideI G1).at
      go_wp2_with fail
      refine (unhideI RUN _ (unhideI G1)).mono ?_
      rintro e w4 ⟨rfl, vo4, K4, B4⟩
      unfold agg
      have hb4 := B4.1
      have KF := hideI K4.ex.1
      have KK := hideI (K4.step L (below_a _ (.cells #[.int .i64 i.o, .int .i64 i.d, .int .i64 i.s, .int .i64 i.m] 49)))
      have BB := hideI (B4.step (below_a _ (.cells #[.int .i64 i.o, .int .i64 i.d, .int .i64 i.s, .int .i64 i.m] 49)))
      have II := hideI (Box.new w4 #[.int .i64 i.o, .int .i64 i.d, .int .i64 i.s, .int .i64 i.m] 49)
      clear K4 B4
      generalize hW4 : w4.alloc (.cells #[.int .i64 i.o, .int .i64 i.d, .int .i64 i.s, .int .i64 i.m] 49) = w5 at *
      obtain ⟨d0, d1⟩ := (unhideI BB).two0
      have d2 := (unhideI BB).1
      obtain ⟨i0, i1, i2, i3⟩ := (unhideI II).at4
      have i4 := (unhideI II).2.2
      have i5 := (unhideI II).1
      go_wp2_with fail
      have HC := hideI (fun (vs vo9 : Value) W (M : Mach (Sd.no W) (cutW W W0.heap.size) W p q vc vi vo9 m2 xs bs) (B : Box W wr.heap.size [vs, .func (.func f) #[] cs]) (I : Box W w4.heap.size [.int .i64 i.o, .int .i64 i.d, .int .i64 i.s, .int .i64 i.m]) => (show W.cell? ⟨p, 0, none⟩ = some (.int .i64 (m2.r 0)) ∧ W.cell? ⟨p, 1, none⟩ = some (.int .i64 (m2.r 1)) ∧ W.cell? ⟨p, 2, none⟩ = some (.int .i64 (m2.r 2)) ∧ W.cell? ⟨p, 3, none⟩ = some (.int .i64 (m2.r 3)) ∧ W.cell? ⟨p, 4, none⟩ = some (.int .i64 (m2.r 4)) ∧ W.cell? ⟨p, 5, none⟩ = some (.int .i64 (m2.r 5)) ∧ W.cell? ⟨p, 6, none⟩ = some (.int .i64 (m2.r 6)) ∧ W.cell? ⟨p, 7, none⟩ = some (.int .i64 (m2.r 7)) ∧ W.cell? ⟨p, 8, none⟩ = some (.bool m2.c) ∧ W.cell? ⟨p, 9, none⟩ = some (.bool m2.z) ∧ W.cell? ⟨p, 10, none⟩ = some (.bool m2.n) ∧ W.cell? ⟨p, 11, none⟩ = some (.bool m2.v) ∧ W.cell? ⟨wr.heap.size, 1, none⟩ = some (.func (.func f) #[] cs) ∧ W.cell? ⟨w4.heap.size, 0, none⟩ = some (.int .i64 i.o) ∧ W.cell? ⟨w4.heap.size, 1, none⟩ = some (.int .i64 i.d) ∧ W.cell? ⟨w4.heap.size, 2, none⟩ = some (.int .i64 i.s) ∧ W.cell? ⟨w4.heap.size, 3, none⟩ = some (.int .i64 i.m) from ⟨M.box.2.1 0 _ rfl, M.box.2.1 1 _ rfl, M.box.2.1 2 _ rfl, M.box.2.1 3 _ rfl, M.box.2.1 4 _ rfl, M.box.2.1 5 _ rfl, M.box.2.1 6 _ rfl, M.box.2.1 7 _ rfl, M.box.2.1 8 _ rfl, M.box.2.1 9 _ rfl, M.box.2.1 10 _ rfl, M.box.2.1 11 _ rfl, B.2.1 1 _ rfl, I.2.1 0 _ rfl, I.2.1 1 _ rfl, I.2.1 2 _ rfl, I.2.1 3 _ rfl⟩))
      have hnF : Hid (¬ Foot g wr.heap.size) := (unhideI G1).hF
      have hnI : Hid (¬ Foot g w4.heap.size) := fun h => by
        have h9 := L.lt _ _ _ _ (unhideI KF) h
        omega
      refine reg_start (fun W => W.cell? ⟨p, 0, none⟩ = some (.int .i64 (m2.r 0)) ∧ W.cell? ⟨p, 1, none⟩ = some (.int .i64 (m2.r 1)) ∧ W.cell? ⟨p, 2, none⟩ = some (.int .i64 (m2.r 2)) ∧ W.cell? ⟨p, 3, none⟩ = some (.int .i64 (m2.r 3)) ∧ W.cell? ⟨p, 4, none⟩ = some (.int .i64 (m2.r 4)) ∧ W.cell? ⟨p, 5, none⟩ = some (.int .i64 (m2.r 5)) ∧ W.cell? ⟨p, 6, none⟩ = some (.int .i64 (m2.r 6)) ∧ W.cell? ⟨p, 7, none⟩ = some (.int .i64 (m2.r 7)) ∧ W.cell? ⟨p, 8, none⟩ = some (.bool m2.c) ∧ W.cell? ⟨p, 9, none⟩ = some (.bool m2.z) ∧ W.cell? ⟨p, 10, none⟩ = some (.bool m2.n) ∧ W.cell? ⟨p, 11, none⟩ = some (.bool m2.v) ∧ W.cell? ⟨wr.heap.size, 1, none⟩ = some (.func (.func f) #[] cs) ∧ W.cell? ⟨w4.heap.size, 0, none⟩ = some (.int .i64 i.o) ∧ W.cell? ⟨w4.heap.size, 1, none⟩ = some (.int .i64 i.d) ∧ W.cell? ⟨w4.heap.size, 2, none⟩ = some (.int .i64 i.s) ∧ W.cell? ⟨w4.heap.size, 3, none⟩ = some (.int .i64 i.m)) (by kernel_rfl) ?_
      have KD := hideI ((unhideI KK).step L (Below.refl _ _).drew)
      have BD := hideI ((unhideI BB).step (Below.refl _ _).drew)
      have ID := hideI ((unhideI II).step (Below.refl _ _).drew)
      clear KK BB II
      generalize w5.drew = w6 at *
      refine reg_seg 0 16 1 (by kernel_rfl) (by decide) (by kernel_rfl) (by kernel_rfl) (fun _ _ _ _ _ h => h) ?_
      simp only [List.take_succ_cons, List.take_zero, List.drop_succ_cons, List.drop_zero]
      repeat (refine wpSteady_step (fun K hK => ?_); go_simp; first | (refine steady_of ?_ (fun W hW => ?_) (hK _ ?_); rotate_left; (obtain ⟨y0, y1, y2, y3, y4, y5, y6, y7, y8, y9, y10, y11, y12, y13, y14, y15, y16⟩ := hW; go_simp; first | done | rfl); clear hK K) | (refine hK _ ?_; clear hK K))
      refine wpSteady_nil ?_
      refine reg_one 16 0 (by kernel_rfl) (by kernel_rfl) (unhideI HC _ _ _ (unhideI KD).mach (unhideI BD) (unhideI ID)) ?_
      simp only [List.take_succ_cons, List.take_zero, List.drop_succ_cons, List.drop_zero]
      go_wp2_with fail
      refine (unhideI TK _ _ (unhideI KD)).mono ?_
      rintro e w7 ⟨rfl, kp, g', K7⟩
      have K8 := hideI K7
      have B8 := hideI (kp.box (unhideI BD) (unhideI hnF))
      have I8 := hideI (kp.box (unhideI ID) (unhideI hnI))
      clear K7 kp
      go_wp2_with fail
      first | refine next_nil ?_ | refine next_go ?_
      refine reg_end (by kernel_rfl) (unhideI HC _ _ _ (unhideI K8).mach (unhideI B8) (unhideI I8)) ?_
      first | go_end0 | go_wp2_with fail; go_end0
      exact ⟨rfl, _, _, unhideI K8⟩
end
end Go.Proofs.Ytjlbenbfmookoaa
