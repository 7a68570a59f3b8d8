/-
  Programs as a whole: names of all, as they are gathered.
-/
import Derived.Test.YtaidefdbjcgcbaaGreatClBz
import Derived.Test.YtaidefdbjcgcbaaGreatCkWz
import Derived.Test.YtaidefdbjcgcbaaGreatLwHz
namespace Go.Proofs.YtaidefdbjcgcbaaGreat
open Go.RowKit Go.Maps
set_option linter.unusedSimpArgs false
set_option linter.unusedVariables false

/-- The block of the names, and their two maps. -/
structure Ng (H : Nat) (w W : World) (nb vb fb nv nf : Nat) (E : Nev) (wd : Int) : Prop where
  bx : BoxC W nb #[.map (some vb), .map (some fb), .int .i64 wd] 47
  v : Mv W vb nv (fun k => (E.v k).map encV)
  f : ∃ g, Mv W fb nf g ∧ ∀ k, FnV (E.f k) (g k)
  hn : H ≤ nb
  hv : H ≤ vb
  hf : H ≤ fb
  ne : vb ≠ fb
  hH : H ≤ w.heap.size
  k : Below H w W
section
variable {H : Nat} {w W W' : World} {nb vb fb nv nf : Nat} {E : Nev} {wd : Int}
theorem Ng.step (h : Ng H w W nb vb fb nv nf E wd) (k : Below W.heap.size W W') : Ng H w W' nb vb fb nv nf E wd := by
  obtain ⟨g, h1, h2⟩ := h.f
  exact ⟨h.bx.step k, h.v.step k, ⟨g, h1.step k, h2⟩, h.hn, h.hv, h.hf, h.ne, h.hH, h.k.trans (k.mono (Nat.le_trans h.hH h.k.size))⟩
theorem Ng.nv' (h : Ng H w W nb vb fb nv nf E wd) : nb ≠ vb := by
  obtain ⟨es, c, h1⟩ := h.v.at
  rintro rfl
  rw [h.bx.1] at h1
  cases h1
theorem Ng.nf' (h : Ng H w W nb vb fb nv nf E wd) : nb ≠ fb := by
  obtain ⟨g, h0, -⟩ := h.f
  obtain ⟨es, c, h1⟩ := h0.at
  rintro rfl
  rw [h.bx.1] at h1
  cases h1
theorem Ng.nm (h : Ng H w W nb vb fb nv nf E wd) : Nm W vb fb E := by
  obtain ⟨g, h1, h2⟩ := h.f
  exact ⟨⟨nv, h.v⟩, ⟨nf, g, h1, h2⟩⟩
theorem grown_below {H b : Nat} {w W W' : World} (k : Below H w W) (hH : H ≤ W.heap.size) (hb : H ≤ b) (g : W.grownBy W' (some b)) : Below H w W' :=
  ⟨g.os.trans k.os, g.tape.trans k.tape, g.output.trans k.output, Nat.le_trans k.size g.size, fun n hn => (g.block n (Nat.lt_of_lt_of_le hn hH) (fun e => by injection e with e; omega)).trans (k.block n hn)⟩
theorem Ng.le (h : Ng H w W nb vb fb nv nf E wd) : H ≤ W.heap.size := Nat.le_trans h.hH h.k.size
theorem Ng.addV {g : Gb} (h : Ng H w W nb vb fb nv nf E wd) (hm : Mv W' vb (nv + 1) (putV (fun k => (E.v k).map encV) g.nm (encV (g.b, g.s, decide (0 < g.size))))) (gr : W.grownBy W' (some vb)) : Ng H w W' nb vb fb (nv + 1) nf (E.addV g) wd := by
  obtain ⟨q, h1, h2⟩ := h.f
  refine ⟨⟨(gr.block nb h.bx.lt (fun e => by injection e with e; exact h.nv' e)).trans h.bx.1, h.bx.2⟩, hm.congr fun k => ?_, ⟨q, h1.blk (gr.block fb h1.lt (fun e => by injection e with e; exact h.ne e.symm)), h2⟩, h.hn, h.hv, h.hf, h.ne, h.hH, grown_below h.k h.le h.hv gr⟩
  show putV (fun k => (E.v k).map encV) g.nm (encV (g.b, g.s, decide (0 < g.size))) k = (if k = g.nm then some (g.b, g.s, decide (0 < g.size)) else E.v k).map encV
  unfold putV
  split <;> rfl
theorem Ng.addF {f : Fn8} {q : ByteArray → Option Value} {a ba : Option Addr} {c bn bc : Nat} (h : Ng H w W nb vb fb nv nf E wd) (hq : ∀ k, FnV (E.f k) (q k)) (hm : Mv W' fb (nf + 1) (putV q f.nm (.agg #[.string f.nm, .int .i64 f.b, .bool f.s, .slice a f.params.length c, .slice ba bn bc]))) (gr : W.grownBy W' (some fb)) : Ng H w W' nb vb fb nv (nf + 1) (E.addF f) wd := by
  refine ⟨⟨(gr.block nb h.bx.lt (fun e => by injection e with e; exact h.nf' e)).trans h.bx.1, h.bx.2⟩, h.v.blk (gr.block vb h.v.lt (fun e => by injection e with e; exact h.ne e)), ⟨_, hm, fun k => ?_⟩, h.hn, h.hv, h.hf, h.ne, h.hH, grown_below h.k h.le h.hf gr⟩
  unfold putV
  show FnV (if k = f.nm then some (f.b, f.s, f.params.length) else E.f k) _
  split
  · exact ⟨_, _, _, _, _, _, rfl⟩
  · exact hq k
theorem Ng.store (h : Ng H w W nb vb fb nv nf E wd) (wd' : Int) : Ng H w (W.setCell ⟨nb, 2, none⟩ (.int .i64 wd')) nb vb fb nv nf E wd' := by
  obtain ⟨q, h1, h2⟩ := h.f
  exact ⟨by simpa using h.bx.set (j := 2) (u := .int .i64 wd'), h.v.setCell (Ne.symm h.nv'), ⟨q, h1.setCell (Ne.symm h.nf'), h2⟩, h.hn, h.hv, h.hf, h.ne, h.hH, Below.setCell h.k h.hn _⟩
end
set_option maxRecDepth 100000 in
set_option maxHeartbeats 1000000 in
theorem taken_any {H : Nat} {w0 w : World} {nb vb fb nv nf : Nat} {E : Nev} {wd : Int} (h : Ng H w0 w nb vb fb nv nf E wd) (nm : ByteArray) (hn : nm.size ≤ maxLen) :
    Calls Tryz.prog 26 #[.pointer (some ⟨nb, 0, none⟩), .string nm] w fun e w' => e = .returned (.bool (E.taken nm)) ∧ Below w.heap.size w w' := by
  obtain ⟨q, h1, h2⟩ := h.f
  have R1 := h.v.run_ok Tryz.underlying44 (zVar _) nm hn
  rw [enc_getD] at R1
  have R2 : ∀ o : Obj, (Instr.lookup 45 (.map (some fb)) (.string nm) true).run Tryz.prog (w.alloc o) = .ok (.tuple #[(q nm).getD (.agg #[.string ⟨#[]⟩, .int .i64 0, .bool false, .slice none 0 0, .slice none 0 0]), .bool (q nm).isSome]) (w.alloc o) := fun o => (h1.step (below_a _ o)).run_ok Tryz.underlying45 (zFunc _) nm hn
  have h3 := h2 nm
  have a0 := box_cells h.bx 0 _ rfl
  have a1 := box_cells h.bx 1 _ rfl
  have hsb := h.bx.lt
  unfold Nev.taken
  generalize E.v nm = ov at *
  generalize E.f nm = of at *
  generalize q nm = oq at *
  clear h h1 h2 hn
  cases of with
  | none =>
    have h3 : oq = none := h3
    subst h3
    cases ov with
    | none =>
      have R3 := R2 (.cells #[.int .i64 0, .bool false, .bool false] 77)
      clear R2
      simp only [Option.getD_none, Option.map_none, Option.isSome_none, encV, Bool.or_self] at R1 R3 ⊢
      go_enter Tryz.func26, Tryz.ntmps26
      go_wp2_with fail
      go_ret
      exact ⟨rfl, (by repeat (first | exact (Below.refl _ _) | refine Below.setCell ?_ (by first | exact Nat.le_refl _ | (simp; done) | omega | (simp; omega)) _ | refine Below.alloc ?_ (by first | (simp; done) | omega | (simp; omega)) _))⟩
    | some y =>
      obtain ⟨yb, ys, ya⟩ := y
      have R3 := R2 (.cells #[.int .i64 yb, .bool ys, .bool ya] 77)
      clear R2
      simp only [Option.getD_none, Option.isSome_none, Option.map_some, Option.getD_some, Option.isSome_some, encV, Bool.true_or] at R1 R3 ⊢
      go_enter Tryz.func26, Tryz.ntmps26
      go_wp2_with fail
      go_ret
      exact ⟨rfl, (by repeat (first | exact (Below.refl _ _) | refine Below.setCell ?_ (by first | exact Nat.le_refl _ | (simp; done) | omega | (simp; omega)) _ | refine Below.alloc ?_ (by first | (simp; done) | omega | (simp; omega)) _))⟩
  | some x =>
    obtain ⟨xb, xs, m⟩ := x
    obtain ⟨fnm, fa, fc, fba, fbn, fbc, rfl⟩ : ∃ nm a c ba bn bc, oq = some (.agg #[.string nm, .int .i64 xb, .bool xs, .slice a m c, .slice ba bn bc]) := h3
    cases ov with
    | none =>
      have R3 := R2 (.cells #[.int .i64 0, .bool false, .bool false] 77)
      clear R2
      simp only [Option.getD_none, Option.map_none, Option.isSome_none, Option.getD_some, Option.isSome_some, encV, Bool.false_or] at R1 R3 ⊢
      go_enter Tryz.func26, Tryz.ntmps26
      go_wp2_with fail
      go_ret
      exact ⟨rfl, (by repeat (first | exact (Below.refl _ _) | refine Below.setCell ?_ (by first | exact Nat.le_refl _ | (simp; done) | omega | (simp; omega)) _ | refine Below.alloc ?_ (by first | (simp; done) | omega | (simp; omega)) _))⟩
    | some y =>
      obtain ⟨yb, ys, ya⟩ := y
      have R3 := R2 (.cells #[.int .i64 yb, .bool ys, .bool ya] 77)
      clear R2
      simp only [Option.getD_some, Option.map_some, Option.isSome_some, encV, Bool.true_or] at R1 R3 ⊢
      go_enter Tryz.func26, Tryz.ntmps26
      go_wp2_with fail
      go_ret
      exact ⟨rfl, (by repeat (first | exact (Below.refl _ _) | refine Below.setCell ?_ (by first | exact Nat.le_refl _ | (simp; done) | omega | (simp; omega)) _ | refine Below.alloc ?_ (by first | (simp; done) | omega | (simp; omega)) _))⟩
/-- What is said of main. -/
def mainB (E : Nev) : Bool := match E.f nMain with
  | some (_, _, m) => decide (m = 0)
  | none => false
set_option maxRecDepth 100000 in
set_option maxHeartbeats 1000000 in
theorem hasMain_any {H : Nat} {w0 w : World} {nb vb fb nv nf : Nat} {E : Nev} {wd : Int} (h : Ng H w0 w nb vb fb nv nf E wd) (hm : ∀ x, E.f nMain = some x → x.2.2 ≤ 100) :
    Calls Tryz.prog 14 #[.pointer (some ⟨nb, 0, none⟩)] w fun e w' => e = .returned (.bool (mainB E)) ∧ Below w.heap.size w w' := by
  obtain ⟨q, h1, h2⟩ := h.f
  have R1 := h1.run_ok Tryz.underlying45 (zFunc _) nMain (by decide)
  have h3 := h2 nMain
  have a1 := box_cells h.bx 1 _ rfl
  have hsb := h.bx.lt
  unfold mainB
  generalize E.f nMain = of at *
  generalize q nMain = oq at *
  unfold nMain at R1
  clear h h1 h2
  cases of with
  | none =>
    have h3 : oq = none := h3
    subst h3
    simp only [Option.getD_none, Option.isSome_none] at R1 ⊢
    go_enter Tryz.func14, Tryz.ntmps14
    go_wp2_with fail
    go_ret
    exact ⟨rfl, (by repeat (first | exact (Below.refl _ _) | refine Below.setCell ?_ (by first | exact Nat.le_refl _ | (simp; done) | omega | (simp; omega)) _ | refine Below.alloc ?_ (by first | (simp; done) | omega | (simp; omega)) _))⟩
  | some x =>
    obtain ⟨xb, xs, m⟩ := x
    obtain ⟨fnm, fa, fc, fba, fbn, fbc, rfl⟩ : ∃ nm a c ba bn bc, oq = some (.agg #[.string nm, .int .i64 xb, .bool xs, .slice a m c, .slice ba bn bc]) := h3
    have hm := hm _ rfl
    dsimp only at hm
    simp only [Option.getD_some, Option.isSome_some] at R1 ⊢
    have e : (((m : Nat) : Int) == 0) = decide (m = 0) := by
      by_cases hz : m = 0
      · subst hz; rfl
      · rw [decide_eq_false hz, beq_eq_false_iff_ne]; omega
    rw [← e]
    clear e
    go_enter Tryz.func14, Tryz.ntmps14
    go_wp2_with fail
    go_ret
    exact ⟨rfl, (by repeat (first | exact (Below.refl _ _) | refine Below.setCell ?_ (by first | exact Nat.le_refl _ | (simp; done) | omega | (simp; omega)) _ | refine Below.alloc ?_ (by first | (simp; done) | omega | (simp; omega)) _))⟩
end Go.Proofs.YtaidefdbjcgcbaaGreat

/-
  Programs as a whole: a function's scope.
-/
namespace Go.Proofs.YtaidefdbjcgcbaaGreat
open Go.RowKit Go.Maps Go.Great
set_option linter.unusedSimpArgs false
set_option linter.unusedVariables false

theorem World.heap_alloc_size (w : World) (o : Obj) : (w.alloc o).heap.size = w.heap.size + 1 := Array.size_push ..
set_option maxRecDepth 100000 in
set_option maxHeartbeats 2000000 in
theorem newScope_any (B : Nat) (w : World) (vb fb : Nat) (wd : Int) (E : Nev) (res : Int × Bool) (h : Nm w vb fb E) (hv : vb < B) (hf : fb < B) (hB : B ≤ w.heap.size) :
    Calls Tryz.prog 29 #[.agg #[.map (some vb), .map (some fb), .int .i64 wd], .agg #[.int .i64 res.1, .bool res.2]] w fun e w' => ∃ sb lb, e = .returned (.pointer (some ⟨sb, 0, none⟩)) ∧ Sc B w' sb vb fb lb wd E ⟨fun _ => none, [], 0⟩ res 0 ∧ Below w.heap.size w w' := by
  obtain ⟨rb, rs⟩ := res
  dsimp only
  have hmm := @run_makeMap Tryz.prog
  go_enter Tryz.func29, Tryz.ntmps29
  go_wp2_with fail
  clear hmm
  go_ret
  have k1 := below_a w (.cells #[.map (some vb), .map (some fb), .int .i64 wd] 47)
  have s1 : (w.alloc (.cells #[.map (some vb), .map (some fb), .int .i64 wd] 47)).heap.size = w.heap.size + 1 := World.heap_alloc_size _ _
  generalize w.alloc (.cells #[.map (some vb), .map (some fb), .int .i64 wd] 47) = w1 at *
  have k2 := bT k1 (below_a w1 (.cells #[.int .i64 rb, .bool rs] 34))
  have s2 : (w1.alloc (.cells #[.int .i64 rb, .bool rs] 34)).heap.size = w.heap.size + 1 + 1 := by rw [World.heap_alloc_size, s1]
  generalize w1.alloc (.cells #[.int .i64 rb, .bool rs] 34) = w2 at *
  have M := Mv.made w2
  have k3 := bT k2 (below_a w2 (.map #[] 0))
  have s3 : (w2.alloc (.map #[] 0)).heap.size = w.heap.size + 1 + 1 + 1 := by rw [World.heap_alloc_size, s2]
  rw [s2] at M
  generalize w2.alloc (.map #[] 0) = w3 at *
  have BN := BoxC.new w3 #[.map (some vb), .map (some fb), .int .i64 wd, .map (some (w.heap.size + 1 + 1)), .slice none 0 0, .int .i64 0, .int .i64 0, .int .i64 rb, .bool rs] 87 (by decide)
  have k4 := below_a w3 (.cells #[.map (some vb), .map (some fb), .int .i64 wd, .map (some (w.heap.size + 1 + 1)), .slice none 0 0, .int .i64 0, .int .i64 0, .int .i64 rb, .bool rs] 87)
  rw [s3] at BN
  have M4 := M.step k4
  have K := bT k3 k4
  refine ⟨w.heap.size + 1 + 1 + 1, w.heap.size + 1 + 1, rfl, ⟨⟨_, 0, BN, World.ownsRow_nil _ _ _ _, M4, by simp⟩, h.step K, by omega, by omega, hv, hf, Nat.le_trans hB K.size⟩, K⟩
end Go.Proofs.YtaidefdbjcgcbaaGreat

/-
  Programs as a whole: a function.
-/
namespace Go.Proofs.YtaidefdbjcgcbaaGreat
open Go.RowKit Go.Maps Go.Great
set_option linter.unusedSimpArgs false
set_option linter.unusedVariables false

theorem SmL.mono9 {B B' : Nat} {w : World} {v : Value} {xs : List Sm} (h : SmL B w v xs) (hB : B ≤ B') : SmL B' w v xs := by
  induction h with
  | mk v xs ks hl hv lies ok hx hi h1 h2 h3 h4 i1 i2 i3 i4 => exact .mk v xs ks hl (fun c hc hn => Nat.lt_of_lt_of_le (hv c hc hn) hB) lies ok (fun i h => (hx i h).mono9 hB) (fun i h => (hi i h).mono9 hB) i1 i2 i3 i4
theorem RowL.mono9 {α β : Type} {n : Nat} {c : α → β → List Value} {Pr Pr' : World → α → β → Prop} {B B' : Nat} {w : World} {v : Value} {xs : List α} {ks : List β} (h : RowL n c Pr B w v xs ks) (hB : B ≤ B') (hp : ∀ x y, Pr w x y → Pr' w x y) : RowL n c Pr' B' w v xs ks :=
  ⟨h.hl, fun c hc hn => Nat.lt_of_lt_of_le (h.hv c hc hn) hB, h.lies, fun i hi => hp _ _ (h.each i hi)⟩
theorem PmL.mono9 {B B' : Nat} {w : World} {v : Value} {ps : List Pm} (h : PmL B w v ps) (hB : B ≤ B') : PmL B' w v ps := by
  obtain ⟨ks, r⟩ := h
  exact ⟨ks, r.mono9 hB fun _ _ q => q⟩
theorem GbL.mono9 {B B' : Nat} {w : World} {v : Value} {gs : List Gb} (h : GbL B w v gs) (hB : B ≤ B') : GbL B' w v gs := by
  obtain ⟨ks, r⟩ := h
  exact ⟨ks, r.mono9 hB fun _ _ q => ⟨q.1, q.2.mono9 hB⟩⟩
theorem FnL.mono9 {B B' : Nat} {w : World} {v : Value} {fs : List Fn8} (h : FnL B w v fs) (hB : B ≤ B') : FnL B' w v fs := by
  obtain ⟨ks, r⟩ := h
  exact ⟨ks, r.mono9 hB fun _ _ q => ⟨q.1, q.2.1.mono9 hB, q.2.2.mono9 hB⟩⟩
/-- On the way through a function's parameters. -/
structure Fd (W0 W : World) (sb vb fb lb : Nat) (wd : Int) (E : Nev) (res : Int × Bool) (M : Loc) (left : Nat) : Prop where
  sc : Sc W0.heap.size W sb vb fb lb wd E M res 0
  k : Below W0.heap.size W0 W
  ok : OpOk M
  fr : M.fr + 4 * (left : Int) ≤ 1000000
set_option maxRecDepth 100000 in
set_option maxHeartbeats 2000000 in
theorem wrongF_any (E : Nev) (f : Fn8) (pa sa : Option Addr) (pc sc : Nat) (B : Nat) (w : World) (vb fb : Nat) (wd : Int) (h : Nm w vb fb E) (hB : B ≤ w.heap.size) (hp : PmL B w (.slice pa f.params.length pc) f.params) (hs : SmL B w (.slice sa f.body.length sc) f.body) (hw : ∀ p ∈ f.params, IsW p.b) (ht : ∀ y ∈ f.body, TvS y) (hn : ∀ y ∈ f.body, NmS y) (hz : f.params.length + szL f.body ≤ 200000) :
    Calls Tryz.prog 13 #[.agg #[.map (some vb), .map (some fb), .int .i64 wd], .agg #[.string f.nm, .int .i64 f.b, .bool f.s, .slice pa f.params.length pc, .slice sa f.body.length sc]] w fun e w' => e = .returned (.int .i64 (ckF E f)) ∧ Below w.heap.size w w' := by
  obtain ⟨_, _, _, hmax⟩ := hp.slice
  unfold maxLen at hmax
  have k1 := below_a w (.cells #[.map (some vb), .map (some fb), .int .i64 wd] 47)
  have BN := Box.new w #[.map (some vb), .map (some fb), .int .i64 wd] 47
  have s1 := World.heap_alloc_size w (.cells #[.map (some vb), .map (some fb), .int .i64 wd] 47)
  generalize hW1 : w.alloc (.cells #[.map (some vb), .map (some fb), .int .i64 wd] 47) = w1 at *
  have k2 := bT k1 (below_a w1 (.cells #[.string f.nm, .int .i64 f.b, .bool f.s, .slice pa f.params.length pc, .slice sa f.body.length sc] 41))
  have BN := BN.step (below_a w1 (.cells #[.string f.nm, .int .i64 f.b, .bool f.s, .slice pa f.params.length pc, .slice sa f.body.length sc] 41))
  have s2 := World.heap_alloc_size w1 (.cells #[.string f.nm, .int .i64 f.b, .bool f.s, .slice pa f.params.length pc, .slice sa f.body.length sc] 41)
  have BF := Box.new w1 #[.string f.nm, .int .i64 f.b, .bool f.s, .slice pa f.params.length pc, .slice sa f.body.length sc] 41
  generalize hW0 : w1.alloc (.cells #[.string f.nm, .int .i64 f.b, .bool f.s, .slice pa f.params.length pc, .slice sa f.body.length sc] 41) = W0 at *
  have hN := h.step k2
  have hltN := hN.lt
  have HP := hideI ((hp.step (k2.mono hB)).mono9 (show B ≤ W0.heap.size by omega))
  have HS := hideI ((hs.step (k2.mono hB)).mono9 (show B ≤ W0.heap.size by omega))
  have CN := hideI (newScope_any W0.heap.size W0 vb fb wd E (f.b, f.s) hN hltN.1 hltN.2 (Nat.le_refl _))
  have K0 := hideI k2
  have HBF := hideI BF
  obtain ⟨d0, d1, d2, d3, d4⟩ := five_at BF
  obtain ⟨n0, n1, n2⟩ := BN.at3
  have HI := hideI (fun y hy => cstat_any E (f.b, f.s) y (ht y hy) (hn y hy))
  have HW := hideI hw
  have HN := hideI hn
  have HZ := hideI hz
  have hs0 : w1.heap.size < W0.heap.size := by omega
  obtain ⟨R, hR⟩ : ∃ R, R = ckF E f := ⟨_, rfl⟩
  rw [← hR]
  obtain ⟨Q, hQ⟩ : ∃ Q, Q = ckPs f.params ⟨fun _ => none, [], 0⟩ := ⟨_, rfl⟩
  have HQ := hideI (show ckPs (f.params.drop 0) ⟨fun _ => none, [], 0⟩ = Q from hQ.symm)
  have hF2 : R = if Q.1 ≠ 0 then Q.1 else if (hid Q.2 (ckL E (f.b, f.s) f.body 0 Q.2)).1 ≠ 0 then (hid Q.2 (ckL E (f.b, f.s) f.body 0 Q.2)).1 else if 200 < (hid Q.2 (ckL E (f.b, f.s) f.body 0 Q.2)).2.fr then 4 else 0 := by rw [hR, hQ]; rfl
  have HF := hideI hF2
  clear h hp hs hw ht hn hB k1 k2 BF BN hN hltN s1 s2 hR hQ hF2 hz
  obtain ⟨nm, b, s, ps, body⟩ := f
  dsimp only at *
  go_enter Tryz.func13, Tryz.ntmps13
  go_wp2_with (first | (refine wpList_boxTo rfl 47 (.tmp 0) rfl (some 2) rfl _ rfl _ rfl ?_; rw [hW1]) | (refine wpList_boxTo rfl 41 (.tmp 1) rfl (some 3) rfl _ rfl _ rfl ?_; rw [hW0]))
  refine (unhideI CN).mono ?_
  rintro e W1 ⟨sb, lb, rfl, sc1, k3⟩
  have BF1 := (unhideI HBF).step k3
  obtain ⟨c0, c1, c2, c3, c4⟩ := five_at BF1
  have hs1 : w1.heap.size < W1.heap.size := BF1.1
  have F0 := hideI (show Fd W0 W1 sb vb fb lb wd E (b, s) ⟨fun _ => none, [], 0⟩ (ps.length + szL body) from ⟨sc1, k3, fun k hk => by simp at hk, by have := unhideI HZ; show (0 : Int) + 4 * ((ps.length + szL body : Nat) : Int) ≤ 1000000; omega⟩)
  clear sc1 k3 BF1 d0 d1 d2 d3 d4 n0 n1 n2 CN hs0
  go_wp2_with fail
  go_loopg [17] ps.length (fun g y wr => ∃ (i : Nat) (M : Loc), i ≤ ps.length ∧ g = ps.length - i ∧ y = .int .i64 (i : Int) ∧ Hid (Fd W0 wr sb vb fb lb wd E (b, s) M (ps.length - i + szL body)) ∧ Hid (ckPs (ps.drop i) M = Q))
  case atStart => exact ⟨0, _, Nat.zero_le _, rfl, rfl, F0, HQ⟩
  case round =>
    clear F0 HQ c0 c1 c2 c3 c4 hs1
    obtain ⟨i, M, hi, hg, rfl, HC, HE⟩ := hrel
    generalize wr = V0 at *
    by_cases hlt : i < ps.length
    · obtain ⟨b1, o1, rfl, hb1, hnm, x0, x1, x2⟩ := ((unhideI HP).step (unhideI HC).k).read i hlt
      have hiI : (i : Int) < (ps.length : Int) := by omega
      have hi0 : (0 : Int) ≤ (i : Int) := by omega
      have HD := hideI (show ps.drop i = ps[i] :: ps.drop (i + 1) from List.drop_eq_getElem_cons hlt)
      rw [unhideI HD, ckPs] at HE
      have hsb := (unhideI HC).sc.lts.1
      have ka := below_a V0 (.cells #[.int .i64 ps[i].b, .bool ps[i].s, .string ps[i].nm] 74)
      have hfr := (unhideI HC).fr
      have CD := hideI (declare_any W0.heap.size (V0.alloc (.cells #[.int .i64 ps[i].b, .bool ps[i].s, .string ps[i].nm] 74)) sb vb fb lb wd E M (b, s) 0 ((unhideI HC).sc.step ka) ps[i].b ps[i].s ps[i].nm hnm (unhideI HW _ (List.getElem_mem hlt)) (by omega))
      have GD := hideI (gd_decl M ps[i].b ps[i].s ps[i].nm hnm)
      have KA := hideI (bT (unhideI HC).k ka)
      have HO := hideI (unhideI HC).ok
      have HFR := hideI hfr
      clear HD ka hnm hfr HC
      generalize ps[i] = y at *
      obtain ⟨yb, ys, yn⟩ := y
      dsimp only at *
      generalize declC M yb ys yn = T at *
      obtain ⟨er, N⟩ := T
      go_wp2_with fail
      refine (unhideI CD).mono ?_
      rintro e V1 ⟨rfl, sc2, k4⟩
      have S2 := hideI (show Sc W0.heap.size V1 sb vb fb lb wd E N (b, s) 0 from sc2)
      have K2 := hideI ((unhideI KA).trans k4.below)
      clear CD sc2 k4 KA
      by_cases her : er = 0
      · subst her
        go_wp2_with fail
        go_roundg (ps.length - (i + 1))
        case measure => omega
        case rel =>
          obtain ⟨g1, g2, g3, g4⟩ := unhideI GD
          have := unhideI HFR
          exact ⟨i + 1, N, by omega, rfl, by go_num, hideI ⟨unhideI S2, unhideI K2, g3 (unhideI HO), by omega⟩, hideI (by have := unhideI HE; simpa [thc] using this)⟩
      · have hQ : Q = (er, N) := by have := unhideI HE; unfold thc at this; rw [if_pos (by exact her)] at this; exact this.symm
        subst hQ
        have hF := unhideI HF
        rw [if_pos (by exact her)] at hF
        have ee : (er == 0) = false := beq_eq_false_iff_ne.2 her
        dsimp only at hF
        subst hF
        go_wp2_with fail
        go_ret
        exact ⟨rfl, (unhideI K0).trans ((unhideI K2).mono (unhideI K0).size)⟩
    · have hiI : ¬ (i : Int) < (ps.length : Int) := by omega
      rw [List.drop_eq_nil_of_le (by omega), ckPs] at HE
      have hQ : Q = (0, M) := (unhideI HE).symm
      subst hQ
      have hF := unhideI HF
      rw [if_neg (by simp)] at hF
      have HF1 := hideI hF
      have hfr := (unhideI HC).fr
      have hk0 := (unhideI HC).k
      have BF1 := (unhideI HBF).step hk0
      obtain ⟨c0, c1, c2, c3, c4⟩ := five_at BF1
      have hs1 : w1.heap.size < V0.heap.size := BF1.1
      have CB := hideI (cblock_any E (b, s) body (unhideI HI) (unhideI HN) W0.heap.size V0 sb vb fb lb wd M 0 (.slice sa body.length sc) (unhideI HC).sc ((unhideI HS).step hk0) (unhideI HC).ok (by omega) (by have := unhideI HZ; omega))
      have K2 := hideI hk0
      clear hF HF hfr hk0 BF1 HC HE HI HN HP
      generalize hid M (ckL E (b, s) body 0 M) = T at *
      obtain ⟨er, N⟩ := T
      dsimp only at HF1
      go_wp2_with fail
      refine (unhideI CB).mono ?_
      rintro e V1 ⟨rfl, sc2, k4⟩
      have S2 := hideI (show Sc W0.heap.size V1 sb vb fb lb wd E N (b, s) 0 from sc2)
      have K3 := hideI ((unhideI K2).trans k4.below)
      clear CB sc2 k4 K2 c0 c1 c2 c3 c4 hs1
      by_cases her : er = 0
      · subst her
        have hF := unhideI HF1
        rw [if_neg (by simp)] at hF
        have HF2 := hideI hF
        obtain ⟨v, n, h1, -⟩ := (unhideI S2).has
        have f5 := box_cells h1 5 _ rfl
        have hsb := h1.lt
        have hsf := h1.box.2.2
        clear hF HF1 h1
        generalize N.fr = q at *
        by_cases hq : 200 < q
        · have hF := unhideI HF2
          rw [if_pos hq] at hF
          subst hF
          go_wp2_with fail
          go_ret
          exact ⟨rfl, (unhideI K0).trans ((unhideI K3).mono (unhideI K0).size)⟩
        · have hF := unhideI HF2
          rw [if_neg hq] at hF
          subst hF
          go_wp2_with fail
          go_ret
          exact ⟨rfl, (unhideI K0).trans ((unhideI K3).mono (unhideI K0).size)⟩
      · have hF := unhideI HF1
        rw [if_pos her] at hF
        subst hF
        have ee : (R == 0) = false := beq_eq_false_iff_ne.2 her
        go_wp2_with fail
        go_ret
        exact ⟨rfl, (unhideI K0).trans ((unhideI K3).mono (unhideI K0).size)⟩
end Go.Proofs.YtaidefdbjcgcbaaGreat
