/-
  Programs in memory: variables of all, parameters, functions.
-/
import Derived.Test.YtaidefdbjcgcbaaGreatLwFz
namespace Go.Proofs.YtaidefdbjcgcbaaGreat
open Go.RowKit
set_option linter.unusedSimpArgs false
set_option linter.unusedVariables false

def gbC (g : Gb) (kv : Value) : List Value := [.int .i64 g.b, .bool g.s, .string g.nm, .int .i64 g.size, kv]
def pmC (p : Pm) (_ : Value) : List Value := [.int .i64 p.b, .bool p.s, .string p.nm]
def fnC (f : Fn8) (v : Value × Value) : List Value := [.string f.nm, .int .i64 f.b, .bool f.s, v.1, v.2]
/-- A row of elements of n cells each, in blocks below B; of each something more. -/
structure RowL {α β : Type} (n : Nat) (c : α → β → List Value) (Pr : World → α → β → Prop) (B : Nat) (w : World) (v : Value) (xs : List α) (ks : List β) : Prop where
  hl : ks.length = xs.length
  hv : ∀ c, v.ownBlock = some c → xs ≠ [] → c < B
  lies : Lies w n v xs.length ((xs.zip ks).flatMap fun p => c p.1 p.2)
  each : ∀ i (h : i < xs.length), Pr w xs[i] (ks[i]'(by omega))
theorem RowL.step {α β : Type} {n : Nat} {c : α → β → List Value} {Pr : World → α → β → Prop} {B : Nat} {w w' : World} {v : Value} {xs : List α} {ks : List β} (h : RowL n c Pr B w v xs ks) (k : Below B w w') (hp : ∀ x y, Pr w x y → Pr w' x y) : RowL n c Pr B w' v xs ks :=
  ⟨h.hl, h.hv, lies_below h.lies (fun hn c hc => h.hv c hc (fun e => hn (by rw [e]; rfl))) k, fun i hi => hp _ _ (h.each i hi)⟩
theorem RowL.slice {α β : Type} {n : Nat} {c : α → β → List Value} {Pr : World → α → β → Prop} {B : Nat} {w : World} {v : Value} {xs : List α} {ks : List β} (h : RowL n c Pr B w v xs ks) : ∃ ao cap, v = .slice ao xs.length cap ∧ xs.length ≤ maxLen := by
  obtain ⟨-, ao, cap, e, h3, h4, -⟩ := h.lies
  exact ⟨ao, cap, e, Nat.le_trans h3 h4⟩
theorem RowL.read {α β : Type} {n : Nat} {c : α → β → List Value} {Pr : World → α → β → Prop} {B : Nat} {w : World} {ao : Option Addr} {m cap : Nat} {xs : List α} {ks : List β} (h : RowL n c Pr B w (.slice ao m cap) xs ks) (hn : 0 < n) (hc : ∀ x y, (c x y).length = n) (i : Nat) (hi : i < xs.length) :
    ∃ b off k, ao = some ⟨b, off, none⟩ ∧ b < w.heap.size ∧ Pr w xs[i] k ∧ ∀ j u, (c xs[i] k)[j]? = some u → w.cell? ⟨b, off + i * n + j, none⟩ = some u := by
  obtain ⟨h1, ao', cap', e1, h3, h4, h6, h5⟩ := h.lies
  injection e1 with e1 _ e2
  subst e1 e2
  obtain ⟨b, off, rfl, hb, hce⟩ := h5 (by omega)
  have hl := h.hl
  refine ⟨b, off, ks[i]'(by omega), rfl, hb, h.each i hi, fun j u hu => ?_⟩
  have hj : j < n := by have := (List.getElem?_eq_some_iff.1 hu).1; rw [hc] at this; exact this
  have hlt : i * n + j < xs.length * n := by
    have h7 : i * n + n ≤ xs.length * n := by rw [← Nat.succ_mul]; exact Nat.mul_le_mul_right n hi
    omega
  rw [Nat.add_assoc, hce (i * n + j) hlt, zip_flat hc xs ks hl i hi j hj]
  exact hu
/-- Variables of all. -/
def GbP (B : Nat) (w : World) (g : Gb) (kv : Value) : Prop := g.nm.size ≤ maxLen ∧ ExL B w kv g.init
def GbL (B : Nat) (w : World) (v : Value) (gs : List Gb) : Prop := ∃ ks, RowL 5 gbC (GbP B) B w v gs ks
theorem GbL.step {B : Nat} {w w' : World} {v : Value} {gs : List Gb} (h : GbL B w v gs) (k : Below B w w') : GbL B w' v gs := by
  obtain ⟨ks, r⟩ := h
  exact ⟨ks, r.step k fun _ _ q => ⟨q.1, q.2.step k⟩⟩
/-- Parameters. -/
def PmP (_ : World) (p : Pm) (_ : Value) : Prop := p.nm.size ≤ maxLen
def PmL (B : Nat) (w : World) (v : Value) (ps : List Pm) : Prop := ∃ ks, RowL 3 pmC PmP B w v ps ks
theorem PmL.step {B : Nat} {w w' : World} {v : Value} {ps : List Pm} (h : PmL B w v ps) (k : Below B w w') : PmL B w' v ps := by
  obtain ⟨ks, r⟩ := h
  exact ⟨ks, r.step k fun _ _ q => q⟩
/-- Functions. -/
def FnP (B : Nat) (w : World) (f : Fn8) (v : Value × Value) : Prop := f.nm.size ≤ maxLen ∧ PmL B w v.1 f.params ∧ SmL B w v.2 f.body
def FnL (B : Nat) (w : World) (v : Value) (fs : List Fn8) : Prop := ∃ ks, RowL 5 fnC (FnP B) B w v fs ks
theorem FnL.step {B : Nat} {w w' : World} {v : Value} {fs : List Fn8} (h : FnL B w v fs) (k : Below B w w') : FnL B w' v fs := by
  obtain ⟨ks, r⟩ := h
  exact ⟨ks, r.step k fun _ _ q => ⟨q.1, q.2.1.step k, q.2.2.step k⟩⟩
theorem GbL.slice {B : Nat} {w : World} {v : Value} {gs : List Gb} (h : GbL B w v gs) : ∃ ao cap, v = .slice ao gs.length cap ∧ gs.length ≤ maxLen := by obtain ⟨ks, r⟩ := h; exact r.slice
theorem FnL.slice {B : Nat} {w : World} {v : Value} {fs : List Fn8} (h : FnL B w v fs) : ∃ ao cap, v = .slice ao fs.length cap ∧ fs.length ≤ maxLen := by obtain ⟨ks, r⟩ := h; exact r.slice
theorem PmL.slice {B : Nat} {w : World} {v : Value} {ps : List Pm} (h : PmL B w v ps) : ∃ ao cap, v = .slice ao ps.length cap ∧ ps.length ≤ maxLen := by obtain ⟨ks, r⟩ := h; exact r.slice
theorem GbL.read {B : Nat} {w : World} {ao : Option Addr} {m cap : Nat} {gs : List Gb} (h : GbL B w (.slice ao m cap) gs) (i : Nat) (hi : i < gs.length) : ∃ b off ka kc, ao = some ⟨b, off, none⟩ ∧ b < w.heap.size ∧ gs[i].nm.size ≤ maxLen ∧ ExL B w (.slice ka gs[i].init.length kc) gs[i].init ∧
    w.cell? ⟨b, off + i * 5, none⟩ = some (.int .i64 gs[i].b) ∧ w.cell? ⟨b, off + i * 5 + 1, none⟩ = some (.bool gs[i].s) ∧ w.cell? ⟨b, off + i * 5 + 2, none⟩ = some (.string gs[i].nm) ∧ w.cell? ⟨b, off + i * 5 + 3, none⟩ = some (.int .i64 gs[i].size) ∧ w.cell? ⟨b, off + i * 5 + 4, none⟩ = some (.slice ka gs[i].init.length kc) := by
  obtain ⟨ks, r⟩ := h
  obtain ⟨b, off, k, e, hb, ⟨hp, hx⟩, hc⟩ := r.read (by decide) (fun _ _ => rfl) i hi
  obtain ⟨ka, kc, rfl⟩ := hx.slice
  exact ⟨b, off, ka, kc, e, hb, hp, hx, hc 0 _ rfl, hc 1 _ rfl, hc 2 _ rfl, hc 3 _ rfl, hc 4 _ rfl⟩
theorem PmL.read {B : Nat} {w : World} {ao : Option Addr} {m cap : Nat} {ps : List Pm} (h : PmL B w (.slice ao m cap) ps) (i : Nat) (hi : i < ps.length) : ∃ b off, ao = some ⟨b, off, none⟩ ∧ b < w.heap.size ∧ ps[i].nm.size ≤ maxLen ∧
    w.cell? ⟨b, off + i * 3, none⟩ = some (.int .i64 ps[i].b) ∧ w.cell? ⟨b, off + i * 3 + 1, none⟩ = some (.bool ps[i].s) ∧ w.cell? ⟨b, off + i * 3 + 2, none⟩ = some (.string ps[i].nm) := by
  obtain ⟨ks, r⟩ := h
  obtain ⟨b, off, k, e, hb, hp, hc⟩ := r.read (by decide) (fun _ _ => rfl) i hi
  exact ⟨b, off, e, hb, hp, hc 0 _ rfl, hc 1 _ rfl, hc 2 _ rfl⟩
theorem FnL.read {B : Nat} {w : World} {ao : Option Addr} {m cap : Nat} {fs : List Fn8} (h : FnL B w (.slice ao m cap) fs) (i : Nat) (hi : i < fs.length) : ∃ b off pa pc sa sc, ao = some ⟨b, off, none⟩ ∧ b < w.heap.size ∧ fs[i].nm.size ≤ maxLen ∧ PmL B w (.slice pa fs[i].params.length pc) fs[i].params ∧ SmL B w (.slice sa fs[i].body.length sc) fs[i].body ∧
    w.cell? ⟨b, off + i * 5, none⟩ = some (.string fs[i].nm) ∧ w.cell? ⟨b, off + i * 5 + 1, none⟩ = some (.int .i64 fs[i].b) ∧ w.cell? ⟨b, off + i * 5 + 2, none⟩ = some (.bool fs[i].s) ∧ w.cell? ⟨b, off + i * 5 + 3, none⟩ = some (.slice pa fs[i].params.length pc) ∧ w.cell? ⟨b, off + i * 5 + 4, none⟩ = some (.slice sa fs[i].body.length sc) := by
  obtain ⟨ks, r⟩ := h
  obtain ⟨b, off, k, e, hb, ⟨hp, hx, hy⟩, hc⟩ := r.read (by decide) (fun _ _ => rfl) i hi
  obtain ⟨k1, k2⟩ := k
  dsimp only at hx hy hc
  obtain ⟨pa, pc, rfl, -⟩ := hx.slice
  obtain ⟨sa, sc, rfl⟩ := hy.slice
  exact ⟨b, off, pa, pc, sa, sc, e, hb, hp, hx, hy, hc 0 _ rfl, hc 1 _ rfl, hc 2 _ rfl, hc 3 _ rfl, hc 4 _ rfl⟩
end Go.Proofs.YtaidefdbjcgcbaaGreat

/-
  What is wrong with a program: the program's own looker: variables of all, functions, the whole.
-/
namespace Go.Proofs.YtaidefdbjcgcbaaGreat
open Go.RowKit Go.Great
set_option linter.unusedSimpArgs false
set_option linter.unusedVariables false

theorem five_at {w : World} {b : Nat} {a0 a1 a2 a3 a4 : Value} (h : Box w b [a0, a1, a2, a3, a4]) : w.cell? ⟨b, 0, none⟩ = some a0 ∧ w.cell? ⟨b, 1, none⟩ = some a1 ∧ w.cell? ⟨b, 2, none⟩ = some a2 ∧ w.cell? ⟨b, 3, none⟩ = some a3 ∧ w.cell? ⟨b, 4, none⟩ = some a4 :=
  ⟨h.2.1 0 _ rfl, h.2.1 1 _ rfl, h.2.1 2 _ rfl, h.2.1 3 _ rfl, h.2.1 4 _ rfl⟩
theorem lkEs_le2 (xs : List Ex) (d c : Nat) (hc : c ≤ 20000) (h : (lkEs xs d c).1 = 0) : (lkEs xs d c).2 ≤ 20000 := lkEs_le (fun x _ => lkE_le x) d c hc h
theorem lkSs_le2 (xs : List Sm) (d c : Nat) (hc : c ≤ 20000) (h : (lkSs xs d c).1 = 0) : (lkSs xs d c).2 ≤ 20000 := lkSs_le (fun x _ => lkS_le x) d c hc h
theorem lkG_le (g : Gb) (c : Nat) (hc : c ≤ 20000) : (lkG g c).1 = 0 → (lkG g c).2 ≤ 20000 := by
  unfold lkG
  split
  · intro _; exact hc
  · split
    · intro _; exact hc
    · split
      · intro _; exact hc
      · split
        · rename_i h; intro e; exact absurd e h
        · rename_i h; exact lkEs_le2 _ _ _ (nodeW_ok (by simpa using h)).1
theorem lkF_le (f : Fn8) (c : Nat) (hc : c ≤ 20000) : (lkF f c).1 = 0 → (lkF f c).2 ≤ 20000 := by
  unfold lkF
  split
  · intro _; exact hc
  · split
    · intro _; exact hc
    · split
      · intro _; exact hc
      · split
        · intro _; exact hc
        · split
          · rename_i h; intro e; exact absurd e h
          · rename_i h; exact lkSs_le2 _ _ _ (nodeW_ok (by simpa using h)).1
set_option maxHeartbeats 2000000 in
theorem lglob_any (g : Gb) (B lb c : Nat) (ka : Option Addr) (kc : Nat) (w : World) (hb : Box w lb [.int .i64 (c : Int)]) (hB : B ≤ lb) (hc : c ≤ 20000) (hx : ExL B w (.slice ka g.init.length kc) g.init) :
    Calls Tryz.prog 47 #[.pointer (some ⟨lb, 0, none⟩), .agg #[.int .i64 g.b, .bool g.s, .string g.nm, .int .i64 g.size, .slice ka g.init.length kc]] w fun e w' => e = .returned (.int .i64 (lkG g c).1) ∧ Ctd w w' lb (lkG g c).2 := by
  have kal := below_a w (.cells #[.int .i64 g.b, .bool g.s, .string g.nm, .int .i64 g.size, .slice ka g.init.length kc] 37)
  have BX := Box.new w #[.int .i64 g.b, .bool g.s, .string g.nm, .int .i64 g.size, .slice ka g.init.length kc] 37
  have hlb := hb.1
  have NA := hideI (swnamed_any g.b g.s g.nm (w.alloc (.cells #[.int .i64 g.b, .bool g.s, .string g.nm, .int .i64 g.size, .slice ka g.init.length kc] 37)))
  have HX := hideI (hx.step (kal.mono (by omega)))
  have HBX := hideI BX
  have C0 := hideI (Ctd.of hb kal)
  obtain ⟨-, -, -, hmax, -⟩ := hx.at
  unfold maxLen at hmax
  have EQ : Hid (lkG g c = if wTyped g.b g.nm ≠ 0 then (wTyped g.b g.nm, c) else if g.size < 0 ∨ 8000 < g.size then (3, c) else if (max 1 g.size) < (g.init.length : Int) then (5, c) else if nodeW 1 c ≠ 0 then (nodeW 1 c, c + 1) else lkEs g.init 2 (c + 1)) := rfl
  have EX := hideI (fun W c' hb' hc' hx' => lexprs_any g.init (fun y _ => lexpr_any y) B lb c' 2 (.slice ka g.init.length kc) W hb' hB hc' (by omega) hx')
  have ND := hideI (fun W hb' => lnode_any lb c 1 W hb' hc (by omega))
  have HN := hideI (fun h => nodeW_ok (d := 1) (c := c) h)
  clear hb kal BX hx
  generalize lkG g c = R at *
  generalize wTyped g.b g.nm = wt at *
  generalize nodeW 1 c = nw at *
  generalize hRE : lkEs g.init 2 (c + 1) = RE at EQ
  have HRE := hideI hRE
  clear hRE
  obtain ⟨b, s, nm, size, l⟩ := g
  dsimp only at *
  go_enter Tryz.func47, Tryz.ntmps47
  go_wp2_with fail
  refine (unhideI NA).mono ?_
  rintro e w1 ⟨rfl, k1⟩
  have C1 := hideI ((unhideI C0).trans (Ctd.of (unhideI C0).box k1))
  have BX1 := (unhideI HBX).step k1
  obtain ⟨q0, q1, q2, q3, q4⟩ := five_at BX1
  have hw1 : w.heap.size < w1.heap.size := BX1.1
  have HX1 := hideI ((unhideI HX).step (k1.mono (by simp; omega)))
  have HBX1 := hideI BX1
  clear NA k1 HBX HX C0 BX1
  by_cases h1 : wt = 0
  · subst h1
    have E1 := unhideI EQ
    rw [if_neg (by simp)] at E1
    clear EQ
    by_cases h2 : size < 0
    · rw [if_pos (.inl h2)] at E1
      subst E1
      go_wp2_with fail
      go_ret
      exact ⟨rfl, unhideI C1⟩
    · by_cases h3 : 8000 < size
      · rw [if_pos (.inr h3)] at E1
        subst E1
        go_wp2_with fail
        go_ret
        exact ⟨rfl, unhideI C1⟩
      · rw [if_neg (by omega)] at E1
        by_cases h4 : (max 1 size) < (l.length : Int)
        · rw [if_pos h4] at E1
          subst E1
          go_wp2_with fail
          go_ret
          exact ⟨rfl, unhideI C1⟩
        · rw [if_neg h4] at E1
          have E2 := hideI E1
          clear E1
          go_wp2_with fail
          refine (unhideI ND _ (unhideI C1).box).mono ?_
          rintro e w2 ⟨rfl, k2⟩
          have C2 := hideI ((unhideI C1).trans k2)
          have BX2 := (unhideI HBX1).kb k2.kb (by omega)
          obtain ⟨r0, r1, r2, r3, r4⟩ := five_at BX2
          have hw2 : w.heap.size < w2.heap.size := BX2.1
          have HX2 := hideI ((unhideI HX1).step (k2.kb.below (by omega) hB))
          clear ND k2 HBX1 HX1 C1 BX2 q0 q1 q2 q3 q4
          by_cases h5 : nw = 0
          · subst h5
            obtain ⟨hc1, -⟩ := unhideI HN rfl
            have E3 := unhideI E2
            rw [if_neg (by simp)] at E3
            clear E2
            have CA := hideI (unhideI EX _ (c + 1) (unhideI C2).box hc1 (unhideI HX2))
            rw [unhideI HRE, ← E3] at CA
            clear E3
            go_wp2_with fail
            refine (unhideI CA).mono ?_
            rintro e w3 ⟨rfl, k3⟩
            go_wp2_with fail
            go_ret
            exact ⟨rfl, (unhideI C2).trans k3⟩
          · have e5 : (nw == 0) = false := beq_eq_false_iff_ne.2 h5
            have E3 := unhideI E2
            rw [if_pos h5] at E3
            subst E3
            go_wp2_with fail
            go_ret
            exact ⟨rfl, unhideI C2⟩
  · have e1 : (wt == 0) = false := beq_eq_false_iff_ne.2 h1
    have E1 := unhideI EQ
    rw [if_pos h1] at E1
    subst E1
    go_wp2_with fail
    go_ret
    exact ⟨rfl, unhideI C1⟩
end Go.Proofs.YtaidefdbjcgcbaaGreat
