/-
  Programs as a whole: a block's names are hidden behind it.
-/
import Derived.Test.YtaidefdbjcgcbaaGreatCkHz
import Derived.Defers
import Derived.Test.YtaidefdbjcgcbaaGreatLwCz
import Derived.Deep.MidRow
import Derived.Great.Ranges
namespace Go.Proofs.YtaidefdbjcgcbaaGreat
open Go.RowKit Go.Maps
set_option linter.unusedSimpArgs false
set_option linter.unusedVariables false

/-- On the way through a scope. -/
structure Hz (B : Nat) (w W : World) (sb vb fb lb : Nat) (wd : Int) (E : Nev) (res : Int × Bool) (lp : Nat) (v : Value) (n : Nat) (op : List ByteArray) (fr : Int) (m : ByteArray → Option (Int × Bool × Bool)) : Prop where
  wk : Wd9 B sb lb w W
  bx : BoxC W sb #[.map (some vb), .map (some fb), .int .i64 wd, .map (some lb), v, .int .i64 fr, .int .i64 (lp : Int), .int .i64 res.1, .bool res.2] 87
  ow : W.ownsRow B 9 1 v op.length (op.map .string)
  mv : Mv W lb n (fun k => (m k).map encV)
  nm : Nm W vb fb E
  hs : B ≤ sb
  hl : B ≤ lb
  hv : vb < B
  hf : fb < B
  hB : B ≤ w.heap.size
section
variable {B : Nat} {w W W' : World} {sb vb fb lb : Nat} {wd : Int} {E : Nev} {res : Int × Bool} {lp : Nat} {v : Value} {n : Nat} {op : List ByteArray} {fr : Int} {m : ByteArray → Option (Int × Bool × Bool)}
theorem Hz.slb (h : Hz B w W sb vb fb lb wd E res lp v n op fr m) : sb ≠ lb := by
  intro e
  obtain ⟨es, c, h1⟩ := h.mv.at
  have := h.bx.1
  rw [e, h1] at this
  cases this
theorem Hz.drew (h : Hz B w W sb vb fb lb wd E res lp v n op fr m) : Hz B w W.drew sb vb fb lb wd E res lp v n op fr m := by
  have k := (Below.refl W.heap.size W).drew
  exact ⟨h.wk.drew, h.bx.step k, own_step h.ow k, h.mv.step k, h.nm.step k, h.hs, h.hl, h.hv, h.hf, h.hB⟩
theorem Hz.put {nm : ByteArray} (h : Hz B w W sb vb fb lb wd E res lp v n op fr m) (x : Int × Bool × Bool) (hm : Mv W' lb (n + 1) (putV (fun k => (m k).map encV) nm (encV x))) (g : W.grownBy W' (some lb)) : Hz B w W' sb vb fb lb wd E res lp v (n + 1) op fr (fun j => if j = nm then some x else m j) := by
  have hne : ∀ c, c ≠ lb → some c ≠ some lb := fun c hc e => hc (by injection e)
  refine ⟨h.wk.trans ⟨⟨g.os, g.tape, g.output, g.size, fun k hk => g.block k (by have := h.hB; have := h.wk.wc.size; omega) (hne k (by have := h.hl; omega))⟩, Wc.map g⟩, ?_, ?_, ?_, ?_, h.hs, h.hl, h.hv, h.hf, h.hB⟩
  · exact ⟨(g.block _ h.bx.lt (hne _ h.slb)).trans h.bx.1, h.bx.2⟩
  · refine ⟨h.ow.1, ?_⟩
    rcases h.ow.2 with h0 | ⟨c, cap, cur, e1, e2, e3, e4⟩
    · exact .inl h0
    · refine .inr ⟨c, cap, cur, e1, e2, ?_, e4⟩
      rw [g.block c (Array.getElem?_eq_some_iff.1 e3).1 (hne c ?_)]
      · exact e3
      · intro e
        obtain ⟨es, k, q⟩ := h.mv.at
        rw [e, q] at e3
        cases e3
  · refine hm.congr fun k => ?_
    unfold putV
    by_cases e : k = nm
    · rw [if_pos e, if_pos e]; rfl
    · rw [if_neg e, if_neg e]
  · exact h.nm.blk fun k hk => g.block k (by rcases hk with rfl | rfl; exact h.nm.lt.1; exact h.nm.lt.2) (hne k (by have := h.hl; have := h.hv; have := h.hf; rcases hk with rfl | rfl <;> omega))
theorem Hz.store {v' u : Value} {op' : List ByteArray} {fr' : Int} {lp' j : Nat} (h : Hz B w W sb vb fb lb wd E res lp v n op fr m) (ow : W.ownsRow B 9 1 v' op'.length (op'.map .string))
    (hj : #[.map (some vb), .map (some fb), .int .i64 wd, .map (some lb), v', .int .i64 fr', .int .i64 (lp' : Int), .int .i64 res.1, .bool res.2] = (#[.map (some vb), .map (some fb), .int .i64 wd, .map (some lb), v, .int .i64 fr, .int .i64 (lp : Int), .int .i64 res.1, .bool res.2] : Array Value).setIfInBounds j u) :
    Hz B w (W.setCell ⟨sb, j, none⟩ u) sb vb fb lb wd E res lp' v' n op' fr' m := by
  have hs := h.hs
  have hv := h.hv
  have hf := h.hf
  refine ⟨h.wk.trans ⟨Below.setCell (Below.refl _ _) hs _, Wc.setCell _ _⟩, ?_, own_set ow fun q hq e => ?_, h.mv.setCell fun e => ?_, h.nm.blk fun k hk => Below.heap_setCell _ _ _ _ (show k ≠ sb by rcases hk with rfl | rfl <;> omega), hs, h.hl, hv, hf, h.hB⟩
  · rw [hj]; exact h.bx.set
  · obtain ⟨-, cur, f, q2⟩ := own_obj ow q hq
    rw [e, h.bx.1] at q2
    injection q2 with q2
    injection q2 with _ q2 _
    exact h.bx.2 q2
  · obtain ⟨es, c, q⟩ := h.mv.at
    rw [e, h.bx.1] at q
    cases q
theorem own_take {k : Nat} {va : Option Addr} {cap len : Nat} {cs : List Value} (h : W.ownsRow B 9 1 (.slice va len cap) len cs) (hk : k ≤ len) : W.ownsRow B 9 1 (.slice va k cap) k (cs.take k) := by
  refine ⟨by rw [List.length_take, h.1]; omega, ?_⟩
  rcases h.2 with ⟨e, e0⟩ | ⟨g, c, cur, e1, e2, e3, e4, e5, e6, e7⟩
  · injection e with e1 e2 e3
    subst e1 e2 e3
    obtain rfl : k = 0 := by omega
    exact .inl ⟨rfl, rfl⟩
  · injection e1 with e1 _ e8
    subst e1 e8
    refine .inr ⟨g, _, cur, rfl, e2, e3, by omega, e5, e6, ?_⟩
    rw [← e7, List.take_take]
    congr 1
    omega
end
theorem Sc.hz {B : Nat} {w : World} {sb vb fb lb : Nat} {wd : Int} {E : Nev} {m : ByteArray → Option (Int × Bool × Bool)} {op : List ByteArray} {fr : Int} {res : Int × Bool} {lp : Nat} (h : Sc B w sb vb fb lb wd E ⟨m, op, fr⟩ res lp) : ∃ va vc n, Hz B w w sb vb fb lb wd E res lp (.slice va op.length vc) n op fr m ∧ ((n + op.length : Nat) : Int) ≤ 2 * fr := by
  obtain ⟨⟨v, n, h1, h2, h3, h4⟩, hn, a1, a2, a3, a4, a5⟩ := h
  obtain ⟨va, vc, rfl⟩ := own_sliceC h2
  exact ⟨va, vc, n, ⟨Wd9.refl _ _ _ _, h1, h2, h3, hn, a1, a2, a3, a4, a5⟩, h4⟩
theorem Hz.sc {B : Nat} {w W : World} {sb vb fb lb : Nat} {wd : Int} {E : Nev} {m : ByteArray → Option (Int × Bool × Bool)} {op : List ByteArray} {fr : Int} {res : Int × Bool} {lp n : Nat} {v : Value} (h : Hz B w W sb vb fb lb wd E res lp v n op fr m) (hn : ((n + op.length : Nat) : Int) ≤ 2 * fr) : Sc B W sb vb fb lb wd E ⟨m, op, fr⟩ res lp :=
  ⟨⟨v, n, h.bx, h.ow, h.mv, hn⟩, h.nm, h.hs, h.hl, h.hv, h.hf, Nat.le_trans h.hB h.wk.wc.size⟩
/-- So many names are hidden. -/
def hidM (m : ByteArray → Option (Int × Bool × Bool)) (l : List ByteArray) : ByteArray → Option (Int × Bool × Bool) := fun j => if l.any (fun k => decide (j = k)) = true then some (0, false, false) else m j
theorem hidM_push (m : ByteArray → Option (Int × Bool × Bool)) (l : List ByteArray) (x : ByteArray) : (fun j => if j = x then some (0, false, false) else hidM m l j) = hidM m (l ++ [x]) := by
  funext j
  unfold hidM
  rw [List.any_append]
  by_cases e : j = x
  · rw [if_pos e, if_pos (by simp [e])]
  · rw [if_neg e]
    have h1 : (List.any [x] fun k => decide (j = k)) = false := by simp [e]
    rw [h1, Bool.or_false]
set_option maxRecDepth 100000 in
set_option maxHeartbeats 2000000 in
theorem hide_any (u : FrameMode) (B : Nat) (w : World) (sb vb fb lb : Nat) (wd : Int) (E : Nev) (L : Loc) (res : Int × Bool) (lp ahead : Nat) (h : Sc B w sb vb fb lb wd E L res lp) (ha : ahead ≤ L.op.length) (hop : ∀ k ∈ L.op, k.size ≤ maxLen) (hfr : L.fr ≤ 1000000) :
    CallsD Tryz.prog 51 #[.pointer (some ⟨sb, 0, none⟩), .int .i64 (ahead : Int)] u w fun e u' w' => u' = u ∧ (e = .returned (.tuple #[]) ∧ Sc B w' sb vb fb lb wd E (hideC ahead L) res lp ∧ Wd9 B sb lb w w') := by
  obtain ⟨op, fr, m, hL⟩ : ∃ op fr m, L = ⟨m, op, fr⟩ := ⟨_, _, _, rfl⟩
  subst hL
  obtain ⟨va, vc, n, h0, h4⟩ := h.hz
  dsimp only at ha hop hfr
  have H0 := hideI h0
  have H4 := hideI h4
  have HP := hideI hop
  have c4 := box_cells h0.bx 4 _ rfl
  have hsb := h0.bx.lt
  have hcap : op.length ≤ vc ∧ vc ≤ maxLen := by
    obtain ⟨_, ao, cap, e, h1, h2, _⟩ := Lies.owned h0.ow
    injection e with _ _ e
    subst e
    exact ⟨h1, h2⟩
  unfold maxLen at hcap
  obtain ⟨hc1, hc2⟩ := hcap
  have ha1 : (ahead : Int) ≤ (op.length : Int) := by omega
  have hc3 : (op.length : Int) ≤ (vc : Int) := by omega
  clear h h4 hop
  by_cases hz : vc = ahead
  · subst hz
    have hlen : op.length = vc := by omega
    have hl0 : op.length - vc = 0 := by omega
    have hl1 : ((op.length - vc : Nat) : Int) = 0 := by omega
    clear h0
    have HL := hideI hlen
    go_enter_d Tryz.func51, Tryz.ntmps51
    go_wp2_with fail
    go_loopg [13] 0 (fun gk t wr => gk = 0 ∧ t = .int .i64 0 ∧ wr = w)
    case atStart => exact ⟨rfl, rfl, rfl⟩
    case round =>
      obtain ⟨rfl, rfl, rfl⟩ := hrel
      have hsf := (unhideI H0).bx.box.2.2
      have Z := hideI (show Hz B wr (wr.setCell ⟨sb, 4, none⟩ (.slice va vc vc)) sb vb fb lb wd E res lp (.slice va vc vc) n op fr m from (unhideI H0).store (by
        have ow := (unhideI H0).ow
        rw [unhideI HL] at ow
        rw [unhideI HL]
        exact ow) rfl)
      go_wp2_with fail
      first | go_end0 | refine bodyPost_ret (results_none rfl _ _ _) rfl ?_
      have e : hideC vc ⟨m, op, fr⟩ = ⟨m, op, fr⟩ := by
        unfold hideC
        dsimp only
        rw [List.drop_of_length_le (by omega), List.take_of_length_le (by omega)]
        simp
      rw [e]
      exact ⟨rfl, (unhideI Z).sc (unhideI H4), (unhideI Z).wk⟩
  · have hz1 : ahead < vc := by omega
    obtain ⟨g, rfl⟩ : ∃ g, va = some ⟨g, 0, none⟩ := by
      rcases h0.ow.2 with ⟨e, e0⟩ | ⟨g, c, cur, e1, _⟩
      · injection e with _ _ e3
        omega
      · injection e1 with e1
        exact ⟨g, e1⟩
    clear h0
    go_enter_d Tryz.func51, Tryz.ntmps51
    go_wp2_with fail
    go_loopg [13] (op.length - ahead) (fun gk t wr => ∃ i : Nat, i ≤ op.length - ahead ∧ gk = op.length - ahead - i ∧ t = .int .i64 (i : Int) ∧ Hid (Hz B w wr sb vb fb lb wd E res lp (.slice (some ⟨g, 0, none⟩) op.length vc) (n + i) op fr (hidM m ((op.drop ahead).take i))))
    case atStart => exact ⟨0, Nat.zero_le _, rfl, rfl, H0⟩
    case round =>
      clear H0 c4 hsb
      obtain ⟨i, hi, hg, rfl, HC⟩ := hrel
      generalize wr = W1 at *
      have c3 := box_cells (unhideI HC).bx 3 _ rfl
      have c4 := box_cells (unhideI HC).bx 4 _ rfl
      have hsb := (unhideI HC).bx.lt
      have hsf := (unhideI HC).bx.box.2.2
      by_cases hlt : i < op.length - ahead
      · have hiI : (i : Int) < ((op.length - ahead : Nat) : Int) := by omega
        have hi0 : (0 : Int) ≤ (i : Int) := by omega
        have hj : ahead + i < op.length := by omega
        have x0 : W1.cell? ⟨g, ahead + i, none⟩ = some (.string op[ahead + i]) := by
          have := World.ownsRow.cellAt (g := g) (unhideI HC).ow (ahead + i) (by omega)
          rw [this]
          simp [List.getElem?_eq_getElem hj]
        have hsz := unhideI HP _ (List.getElem_mem hj)
        have HD := hideI (show (op.drop ahead).take i ++ [op[ahead + i]] = (op.drop ahead).take (i + 1) by
          rw [List.take_succ_eq_append_getElem (by rw [List.length_drop]; exact hlt), List.getElem_drop])
        generalize op[ahead + i] = z at *
        go_wp2_with (at_mapUpdate; refine wpList_putVv rfl (.tmp 20) (.tmp 21) (.tmp 22) 85 112 rfl Tryz.underlying85 lb (n + i) _ rfl (unhideI HC).mv (by have := unhideI H4; unfold maxLen; omega) z rfl hsz (encV (0, false, false)) rfl ?_; intro w9 m9 g9; have D9 := hideI ((unhideI HC).put (0, false, false) m9 g9); clear m9 g9 c3 c4 hsb hsf x0)
        have D10 := hideI (show Hz B w w9 sb vb fb lb wd E res lp (.slice (some ⟨g, 0, none⟩) op.length vc) (n + (i + 1)) op fr (hidM m ((op.drop ahead).take (i + 1))) by
          have := unhideI D9
          rw [hidM_push, unhideI HD] at this
          exact this)
        clear D9 HD HC
        go_wp2_with fail
        go_roundg (op.length - ahead - (i + 1))
        case measure => omega
        case rel => exact ⟨i + 1, by omega, rfl, by go_num, D10⟩
      · have hiI : ¬ (i : Int) < ((op.length - ahead : Nat) : Int) := by omega
        have hii : i = op.length - ahead := by omega
        have Z := hideI (show Hz B w (W1.setCell ⟨sb, 4, none⟩ (.slice (some ⟨g, 0, none⟩) ahead vc)) sb vb fb lb wd E res lp (.slice (some ⟨g, 0, none⟩) ahead vc) (n + i) (op.take ahead) fr (hidM m ((op.drop ahead).take i)) from (unhideI HC).store (by
          have hl : (op.take ahead).length = ahead := by rw [List.length_take]; omega
          rw [hl, List.map_take]
          exact own_take (unhideI HC).ow ha) rfl)
        go_wp2_with fail
        first | go_end0 | refine bodyPost_ret (results_none rfl _ _ _) rfl ?_
        have e1 : (op.drop ahead).take i = op.drop ahead := List.take_of_length_le (by rw [List.length_drop]; omega)
        have z := unhideI Z
        rw [e1] at z
        exact ⟨rfl, z.sc (by have := unhideI H4; rw [List.length_take]; omega), z.wk⟩
end Go.Proofs.YtaidefdbjcgcbaaGreat

/-
  Programs as a whole: what must tell something; loops are left.
-/
namespace Go.Proofs.YtaidefdbjcgcbaaGreat
open Go.RowKit Go.Maps
set_option linter.unusedSimpArgs false
set_option linter.unusedVariables false

set_option maxRecDepth 100000 in
set_option maxHeartbeats 1000000 in
theorem tells_any (x : Ex) (IH : TyC x) (B : Nat) (w : World) (sb vb fb lb : Nat) (wd : Int) (E : Nev) (L : Loc) (res : Int × Bool) (lp : Nat) (kv : Value) (h : Sc B w sb vb fb lb wd E L res lp) (hx : ExL B w kv x.kids) (hf : ExF x) :
    Calls Tryz.prog 95 #[.pointer (some ⟨sb, 0, none⟩), .agg #[.int .i64 x.k, .int .u64 x.n, .int .i64 x.b, .bool x.s, .string x.nm, kv]] w fun e w' => e = .returned (.int .i64 (tellC E L x)) ∧ Below w.heap.size w w' := by
  obtain ⟨ka, kc, rfl⟩ : ∃ ao cap, kv = .slice ao x.kids.length cap := by obtain ⟨ao, cap, e, -⟩ := hx.at; exact ⟨ao, cap, e⟩
  have k0 := below_a w (.cells #[.int .i64 x.k, .int .u64 x.n, .int .i64 x.b, .bool x.s, .string x.nm, .slice ka x.kids.length kc] 57)
  have CT := hideI (toldType_any x IH B _ sb vb fb lb wd E L res lp _ (h.step k0) (hx.step (k0.mono h.hB)) hf)
  obtain ⟨a0, a1, a2, a3, a4, a5⟩ := (Box.new w #[.int .i64 x.k, .int .u64 x.n, .int .i64 x.b, .bool x.s, .string x.nm, .slice ka x.kids.length kc] 57).six8
  have hsA := (Box.new w #[.int .i64 x.k, .int .u64 x.n, .int .i64 x.b, .bool x.s, .string x.nm, .slice ka x.kids.length kc] 57).1
  have K0 := hideI k0
  clear h hx hf IH k0
  unfold tellC
  generalize told (tyE E L x) = R at *
  obtain ⟨⟨tb, ts⟩, er⟩ := R
  dsimp only at CT ⊢
  generalize hW0 : w.alloc (.cells #[.int .i64 x.k, .int .u64 x.n, .int .i64 x.b, .bool x.s, .string x.nm, .slice ka x.kids.length kc] 57) = W0 at *
  go_enter Tryz.func95, Tryz.ntmps95
  go_wp2_with fail
  refine (unhideI CT).mono ?_
  rintro e w1 ⟨rfl, k1⟩
  have K1 := hideI (bT (unhideI K0) k1)
  clear CT k1 K0 a0 a1 a2 a3 a4 a5 hsA
  go_wp2_with fail
  go_ret
  exact ⟨rfl, bT (unhideI K1) (below_a _ _)⟩
set_option maxRecDepth 100000 in
set_option maxHeartbeats 1000000 in
theorem leaveD_any (u : FrameMode) (B : Nat) (w : World) (sb vb fb lb : Nat) (wd : Int) (E : Nev) (L : Loc) (res : Int × Bool) (lp : Nat) (h : Sc B w sb vb fb lb wd E L res (lp + 1)) (hl : lp ≤ 1000000) :
    CallsD Tryz.prog 138 #[.pointer (some ⟨sb, 0, none⟩)] u w fun e u' w' => u' = u ∧ (e = .returned (.tuple #[]) ∧ Sc B w' sb vb fb lb wd E L res lp ∧ Wd9 B sb lb w w') := by
  obtain ⟨op, fr, m, hL⟩ : ∃ op fr m, L = ⟨m, op, fr⟩ := ⟨_, _, _, rfl⟩
  subst hL
  obtain ⟨va, vc, n, h0, h4⟩ := h.hz
  have c6 := box_cells h0.bx 6 _ rfl
  have hsb := h0.bx.lt
  have hsf := h0.bx.box.2.2
  have e1 : ((lp + 1 : Nat) : Int) = (lp : Int) + 1 := rfl
  rw [e1] at c6
  have es : (lp : Int) + 1 - 1 = (lp : Int) := by omega
  have hlI : (lp : Int) ≤ 1000000 := by omega
  have hl0 : (0 : Int) ≤ (lp : Int) := by omega
  have Z := hideI (show Hz B w (w.setCell ⟨sb, 6, none⟩ (.int .i64 (lp : Int))) sb vb fb lb wd E res lp (.slice va op.length vc) n op fr m from h0.store h0.ow rfl)
  have H4 := hideI h4
  clear h h0 h4
  go_enter_d Tryz.func138, Tryz.ntmps138
  go_wp2_with fail
  first | go_end0 | refine bodyPost_ret (results_none rfl _ _ _) rfl ?_
  exact ⟨rfl, (unhideI Z).sc (unhideI H4), (unhideI Z).wk⟩
end Go.Proofs.YtaidefdbjcgcbaaGreat

/-
  What is wrong with a program: the program's own looker: a statement's fields.
-/
namespace Go.Proofs.YtaidefdbjcgcbaaGreat
open Go.RowKit Go.Great
set_option linter.unusedSimpArgs false
set_option linter.unusedVariables false

def smA (x : Sm) (v : Sv) : Array Value := (smC x v).toArray
theorem smA_size (x : Sm) (v : Sv) : (smA x v).size = 21 := rfl
theorem Tryz.sizeStat : (Tryz.prog.info? 103).map (·.size) = some 21 := by kernel_rfl
/-- A statement in a block of its own. -/
structure SmB (w : World) (b : Nat) (x : Sm) (v : Sv) : Prop where
  heap : w.heap[b]? = some (.cells (smA x v) 103 (0, 0))
theorem SmB.lt {w : World} {b : Nat} {x : Sm} {v : Sv} (h : SmB w b x v) : b < w.heap.size := (Array.getElem?_eq_some_iff.1 h.heap).1
theorem SmB.new (w : World) (x : Sm) (v : Sv) : SmB (w.alloc (.cells (smA x v) 103)) w.heap.size x v := ⟨by show (w.heap.push _)[w.heap.size]? = _; simp⟩
theorem SmB.step {w w' : World} {b : Nat} {x : Sm} {v : Sv} (h : SmB w b x v) (k : Below w.heap.size w w') : SmB w' b x v := ⟨(k.block b h.lt).trans h.heap⟩
theorem SmB.kb {w w' : World} {b c : Nat} {x : Sm} {v : Sv} (h : SmB w b x v) (k : Kb c w w') (hc : b ≠ c) : SmB w' b x v := ⟨(k.block b h.lt hc).trans h.heap⟩
theorem SmB.cell {w : World} {b : Nat} {x : Sm} {v : Sv} (h : SmB w b x v) (j : Nat) (u : Value) (hu : (smC x v)[j]? = some u) : w.cell? ⟨b, j, none⟩ = some u := by
  unfold World.cell?
  simp only [h.heap]
  simpa [smA] using hu
/-- The cells of a statement's own fields. -/
theorem SmB.own {w : World} {b : Nat} {x : Sm} {v : Sv} (h : SmB w b x v) : w.cell? ⟨b, 0, none⟩ = some (.int .i64 x.k) ∧ w.cell? ⟨b, 1, none⟩ = some (.int .i64 x.b) ∧ w.cell? ⟨b, 2, none⟩ = some (.bool x.s) ∧ w.cell? ⟨b, 3, none⟩ = some (.string x.nm) ∧ w.cell? ⟨b, 4, none⟩ = some (.bool x.has) :=
  ⟨h.cell 0 _ rfl, h.cell 1 _ rfl, h.cell 2 _ rfl, h.cell 3 _ rfl, h.cell 4 _ rfl⟩
theorem SmB.exX {w : World} {b : Nat} {x : Sm} {v : Sv} (h : SmB w b x v) : w.cell? ⟨b, 5, none⟩ = some (.int .i64 x.x.k) ∧ w.cell? ⟨b, 6, none⟩ = some (.int .u64 x.x.n) ∧ w.cell? ⟨b, 7, none⟩ = some (.int .i64 x.x.b) ∧ w.cell? ⟨b, 8, none⟩ = some (.bool x.x.s) ∧ w.cell? ⟨b, 9, none⟩ = some (.string x.x.nm) ∧ w.cell? ⟨b, 10, none⟩ = some v.xk :=
  ⟨h.cell 5 _ rfl, h.cell 6 _ rfl, h.cell 7 _ rfl, h.cell 8 _ rfl, h.cell 9 _ rfl, h.cell 10 _ rfl⟩
theorem SmB.exI {w : World} {b : Nat} {x : Sm} {v : Sv} (h : SmB w b x v) : w.cell? ⟨b, 11, none⟩ = some (.int .i64 x.i.k) ∧ w.cell? ⟨b, 12, none⟩ = some (.int .u64 x.i.n) ∧ w.cell? ⟨b, 13, none⟩ = some (.int .i64 x.i.b) ∧ w.cell? ⟨b, 14, none⟩ = some (.bool x.i.s) ∧ w.cell? ⟨b, 15, none⟩ = some (.string x.i.nm) ∧ w.cell? ⟨b, 16, none⟩ = some v.ik :=
  ⟨h.cell 11 _ rfl, h.cell 12 _ rfl, h.cell 13 _ rfl, h.cell 14 _ rfl, h.cell 15 _ rfl, h.cell 16 _ rfl⟩
theorem SmB.lists {w : World} {b : Nat} {x : Sm} {v : Sv} (h : SmB w b x v) : w.cell? ⟨b, 17, none⟩ = some v.init ∧ w.cell? ⟨b, 18, none⟩ = some v.step ∧ w.cell? ⟨b, 19, none⟩ = some v.body ∧ w.cell? ⟨b, 20, none⟩ = some v.els :=
  ⟨h.cell 17 _ rfl, h.cell 18 _ rfl, h.cell 19 _ rfl, h.cell 20 _ rfl⟩
set_option maxHeartbeats 1000000 in
theorem hasX_any (x : Sm) (v : Sv) (w : World) : Calls Tryz.prog 170 #[.agg (smA x v)] w fun e w' => e = .returned (.bool (hasX x.k x.has)) ∧ Below w.heap.size w w' := by
  have ka := below_a w (.cells (smA x v) 103)
  obtain ⟨c0, c1, c2, c3, c4⟩ := (SmB.new w x v).own
  generalize smA x v = A at *
  generalize hW : w.alloc (.cells A 103) = w1 at *
  generalize x.k = k at *
  generalize x.has = has at *
  by_cases h : k = 2 ∨ k = 3 ∨ k = 4 ∨ k = 5 ∨ k = 6 ∨ k = 7 ∨ k = 8
  · rcases h with rfl | rfl | rfl | rfl | rfl | rfl | rfl
    all_goals
      go_enter Tryz.func170, Tryz.ntmps170
      go_wp2_with (refine wpList_boxTo rfl 103 (.tmp 0) rfl (some 1) rfl _ rfl A rfl ?_; rw [hW])
      go_ret
      exact ⟨rfl, ka⟩
  · have e2 : (k == 2) = false := by apply beq_eq_false_iff_ne.2; omega
    have e3 : (k == 3) = false := by apply beq_eq_false_iff_ne.2; omega
    have e4 : (k == 4) = false := by apply beq_eq_false_iff_ne.2; omega
    have e5 : (k == 5) = false := by apply beq_eq_false_iff_ne.2; omega
    have e6 : (k == 6) = false := by apply beq_eq_false_iff_ne.2; omega
    have e7 : (k == 7) = false := by apply beq_eq_false_iff_ne.2; omega
    have e8 : (k == 8) = false := by apply beq_eq_false_iff_ne.2; omega
    have hx : hasX k has = false := by unfold hasX; rw [if_neg (by omega), if_neg (by omega)]
    rw [hx]
    go_enter Tryz.func170, Tryz.ntmps170
    go_wp2_with (refine wpList_boxTo rfl 103 (.tmp 0) rfl (some 1) rfl _ rfl A rfl ?_; rw [hW])
    go_ret
    exact ⟨rfl, ka⟩
end Go.Proofs.YtaidefdbjcgcbaaGreat
