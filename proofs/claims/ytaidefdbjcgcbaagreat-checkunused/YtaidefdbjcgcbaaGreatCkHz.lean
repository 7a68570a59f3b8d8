/-
  Programs as a whole: a name is declared.
-/
import Derived.Test.YtaidefdbjcgcbaaGreatCkGz
import Derived.Laws.AppendOwnNone
namespace Go.Proofs.YtaidefdbjcgcbaaGreat
open Go.RowKit Go.Maps
set_option linter.unusedSimpArgs false
set_option linter.unusedVariables false

theorem own_sliceC {w : World} {B e s n : Nat} {v : Value} {cs : List Value} (h : w.ownsRow B e s v n cs) : ∃ ao cap, v = .slice ao n cap := by
  rcases h.2 with ⟨rfl, hn⟩ | ⟨g, cap, cur, rfl, _⟩
  · exact ⟨none, 0, by rw [hn]⟩
  · exact ⟨_, _, rfl⟩
theorem own_obj {w : World} {B e s n : Nat} {v : Value} {cs : List Value} (h : w.ownsRow B e s v n cs) (c : Nat) (hc : v.ownBlock = some c) : B ≤ c ∧ ∃ cur fr, w.heap[c]? = some (.cells cur e fr) := by
  rcases h.2 with ⟨rfl, hn⟩ | ⟨g, cap, cur, rfl, hb, hg, _⟩
  · cases hc
  · injection hc with hc
    subst hc
    exact ⟨hb, cur, _, hg⟩
/-- On the way of a declaration. -/
structure Dz (B : Nat) (w W : World) (sb vb fb lb : Nat) (wd : Int) (E : Nev) (res : Int × Bool) (lp : Nat) (b : Int) (s : Bool) (v : Value) (n : Nat) (op : List ByteArray) (fr : Int) (m : ByteArray → Option (Int × Bool × Bool)) : Prop where
  wk : Wd9 B sb lb w W
  bt : BoxC W w.heap.size #[.int .i64 b, .bool s] 34
  bx : BoxC W sb #[.map (some vb), .map (some fb), .int .i64 wd, .map (some lb), v, .int .i64 fr, .int .i64 (lp : Int), .int .i64 res.1, .bool res.2] 87
  ow : W.ownsRow B 9 1 v op.length (op.map .string)
  mv : Mv W lb n (fun k => (m k).map encV)
  nm : Nm W vb fb E
  hs : B ≤ sb
  hl : B ≤ lb
  hv : vb < B
  hf : fb < B
  hB : B ≤ w.heap.size
  lts : sb < w.heap.size ∧ lb < w.heap.size
section
variable {B : Nat} {w W W' : World} {sb vb fb lb : Nat} {wd : Int} {E : Nev} {res : Int × Bool} {lp : Nat} {b : Int} {s : Bool} {v : Value} {n : Nat} {op : List ByteArray} {fr : Int} {m : ByteArray → Option (Int × Bool × Bool)}
theorem Dz.step (h : Dz B w W sb vb fb lb wd E res lp b s v n op fr m) (k : Below W.heap.size W W') : Dz B w W' sb vb fb lb wd E res lp b s v n op fr m :=
  ⟨h.wk.trans (Wd9.of k (Nat.le_trans h.hB h.wk.wc.size)), h.bt.step k, h.bx.step k, own_step h.ow k, h.mv.step k, h.nm.step k, h.hs, h.hl, h.hv, h.hf, h.hB, h.lts⟩
theorem Dz.slb (h : Dz B w W sb vb fb lb wd E res lp b s v n op fr m) : sb ≠ lb := by
  intro e
  obtain ⟨es, c, h1⟩ := h.mv.at
  have := h.bx.1
  rw [e, h1] at this
  cases this
theorem Dz.put {nm : ByteArray} (h : Dz B w W sb vb fb lb wd E res lp b s v n op fr m) (hm : Mv W' lb (n + 1) (putV (fun k => (m k).map encV) nm (encV (b, s, true)))) (g : W.grownBy W' (some lb)) : Dz B w W' sb vb fb lb wd E res lp b s v (n + 1) op fr (fun j => if j = nm then some (b, s, true) else m j) := by
  have hne : ∀ c, c ≠ lb → some c ≠ some lb := fun c hc e => hc (by injection e)
  refine ⟨h.wk.trans ⟨⟨g.os, g.tape, g.output, g.size, fun k hk => g.block k (by have := h.hB; have := h.wk.wc.size; omega) (hne k (by have := h.hl; omega))⟩, Wc.map g⟩, ?_, ?_, ?_, ?_, ?_, h.hs, h.hl, h.hv, h.hf, h.hB, h.lts⟩
  · exact ⟨(g.block _ h.bt.lt (hne _ (by have := h.lts.2; omega))).trans h.bt.1, h.bt.2⟩
  · exact ⟨(g.block _ h.bx.lt (hne _ h.slb)).trans h.bx.1, h.bx.2⟩
  · refine ⟨h.ow.1, ?_⟩
    rcases h.ow.2 with h0 | ⟨c, cap, cur, e1, e2, e3, e4⟩
    · exact .inl h0
    · refine .inr ⟨c, cap, cur, e1, e2, ?_, e4⟩
      rw [g.block c (Array.getElem?_eq_some_iff.1 e3).1 (hne c ?_)]
      · exact e3
      · intro e
        obtain ⟨es, k, q⟩ := h.mv.at
        rw [e, q] at e3
        cases e3
  · refine hm.congr fun k => ?_
    unfold putV
    by_cases e : k = nm
    · rw [if_pos e, if_pos e]; rfl
    · rw [if_neg e, if_neg e]
  · exact h.nm.blk fun k hk => g.block k (by rcases hk with rfl | rfl; exact h.nm.lt.1; exact h.nm.lt.2) (hne k (by have := h.hl; have := h.hv; have := h.hf; rcases hk with rfl | rfl <;> omega))
theorem Dz.app {v' : Value} {nm : ByteArray} (h : Dz B w W sb vb fb lb wd E res lp b s v n op fr m) (ho : W'.ownsRow B 9 1 v' (op.length + 1) (op.map .string ++ [.string nm])) (g : W.grownBy W' v.ownBlock) :
    Wd9 B sb lb w W' ∧ BoxC W' w.heap.size #[.int .i64 b, .bool s] 34 ∧ BoxC W' sb #[.map (some vb), .map (some fb), .int .i64 wd, .map (some lb), v, .int .i64 fr, .int .i64 (lp : Int), .int .i64 res.1, .bool res.2] 87 ∧ W'.ownsRow B 9 1 v' (op ++ [nm]).length ((op ++ [nm]).map .string) ∧ Mv W' lb n (fun k => (m k).map encV) ∧ Nm W' vb fb E := by
  have key : ∀ (c : Nat) (o : Obj), W.heap[c]? = some o → (∀ cs fr, o ≠ .cells cs 9 fr) → W'.heap[c]? = W.heap[c]? := fun c o hc ho => by
    refine g.block c (Array.getElem?_eq_some_iff.1 hc).1 fun e => ?_
    obtain ⟨-, cur, f, q⟩ := own_obj h.ow c e.symm
    rw [hc] at q
    injection q with q
    exact ho _ _ q
  refine ⟨h.wk.trans ⟨⟨g.os, g.tape, g.output, g.size, fun k hk => g.block k (by have := h.hB; have := h.wk.wc.size; omega) fun e => by have := (own_obj h.ow k e.symm).1; omega⟩, Wc.row h.ow g⟩, ?_, ?_, ?_, ?_, ?_⟩
  · exact ⟨(key _ _ h.bt.1 (fun cs fr e => by injection e with _ e _; exact h.bt.2 e)).trans h.bt.1, h.bt.2⟩
  · exact ⟨(key _ _ h.bx.1 (fun cs fr e => by injection e with _ e _; exact h.bx.2 e)).trans h.bx.1, h.bx.2⟩
  · rw [List.length_append, List.map_append]; exact ho
  · obtain ⟨es, c, q⟩ := h.mv.at
    exact h.mv.blk (key _ _ q (fun cs fr e => by cases e))
  · exact h.nm.blk fun k hk => g.block k (by rcases hk with rfl | rfl; exact h.nm.lt.1; exact h.nm.lt.2) fun e => by
      have := (own_obj h.ow k e.symm).1
      have := h.hv
      have := h.hf
      rcases hk with rfl | rfl <;> omega
theorem own_set {u : Value} {c j k : Nat} {v : Value} {e sz : Nat} {cs : List Value} (h : W.ownsRow B e sz v k cs) (hc : ∀ q, v.ownBlock = some q → q ≠ c) : (W.setCell ⟨c, j, none⟩ u).ownsRow B e sz v k cs := by
  refine ⟨h.1, ?_⟩
  rcases h.2 with h0 | ⟨g, cap, cur, e1, e2, e3, e4⟩
  · exact .inl h0
  · refine .inr ⟨g, cap, cur, e1, e2, ?_, e4⟩
    rw [Below.heap_setCell _ _ _ _ (hc g (by rw [e1]; rfl))]
    exact e3
theorem Dz.store {v' u : Value} {op' : List ByteArray} {fr' : Int} {j : Nat} (wk : Wd9 B sb lb w W) (bt : BoxC W w.heap.size #[.int .i64 b, .bool s] 34) (bx : BoxC W sb #[.map (some vb), .map (some fb), .int .i64 wd, .map (some lb), v, .int .i64 fr, .int .i64 (lp : Int), .int .i64 res.1, .bool res.2] 87)
    (ow : W.ownsRow B 9 1 v' op'.length (op'.map .string)) (mv : Mv W lb n (fun k => (m k).map encV)) (nm : Nm W vb fb E) (hs : B ≤ sb) (hl : B ≤ lb) (hv : vb < B) (hf : fb < B) (hB : B ≤ w.heap.size) (lts : sb < w.heap.size ∧ lb < w.heap.size)
    (hj : #[.map (some vb), .map (some fb), .int .i64 wd, .map (some lb), v', .int .i64 fr', .int .i64 (lp : Int), .int .i64 res.1, .bool res.2] = (#[.map (some vb), .map (some fb), .int .i64 wd, .map (some lb), v, .int .i64 fr, .int .i64 (lp : Int), .int .i64 res.1, .bool res.2] : Array Value).setIfInBounds j u) :
    Dz B w (W.setCell ⟨sb, j, none⟩ u) sb vb fb lb wd E res lp b s v' n op' fr' m := by
  refine ⟨wk.trans ⟨Below.setCell (Below.refl _ _) hs _, Wc.setCell _ _⟩, bt.other (by omega), ?_, own_set ow fun q hq e => ?_, mv.setCell fun e => ?_, nm.blk fun k hk => Below.heap_setCell _ _ _ _ (show k ≠ sb by rcases hk with rfl | rfl <;> omega), hs, hl, hv, hf, hB, lts⟩
  · rw [hj]; exact bx.set
  · obtain ⟨-, cur, f, q2⟩ := own_obj ow q hq
    rw [e, bx.1] at q2
    injection q2 with q2
    injection q2 with _ q2 _
    exact bx.2 q2
  · obtain ⟨es, c, q⟩ := mv.at
    rw [e, bx.1] at q
    cases q
end
end Go.Proofs.YtaidefdbjcgcbaaGreat

/-
  Programs as a whole: declare.
-/
namespace Go.Proofs.YtaidefdbjcgcbaaGreat
open Go.RowKit Go.Maps
set_option linter.unusedSimpArgs false
set_option linter.unusedVariables false

theorem infoStrC : (Tryz.prog.info? 9).map (fun i => (i.zero, i.size, i.bytes)) = some (some (.string ⟨#[]⟩), 1, 16) := by kernel_rfl
theorem append_liesC {P : Program} {w : World} {ops : Array Oper} {rest : List Oper} {o : Oper} {a : Act} {Q : Exit → Act → World → Prop} (hgd : o.guard = none) (s x : Operand) (t : TypeId)
    (ho : o.op = .call { callee := .builtin .append, args := #[s, x], argTypes := #[t, t] })
    (base : Nat) (e : TypeId) (i : TypeInfo) (z : Value) (size bytes : Nat) (ht : P.underlying t = some (.slice e)) (hi : P.info? e = some i) (hz : i.zero = some z)
    (hsize : i.size = size) (hby : i.bytes = bytes) (hzs : z.cells.size = size) (hsz : 0 < size)
    (v : Value) (n : Nat) (xs : List Value) (hs : a.eval s = v) (hown : w.ownsRow base e size v n xs)
    (vx : Value) (m : Nat) (news : List Value) (hx : a.eval x = vx) (hl : Lies w size vx m news) (h1 : ∀ u ∈ news, u.oneCell' = true)
    (h63 : n + m ≤ maxLen) (hbytes : (n + m) * bytes ≤ 140737488355328) (hbase : base ≤ w.heap.size)
    (h : ∀ v' w', w'.ownsRow base e size v' (n + m) (xs ++ news) → w.grownBy w' v.ownBlock → wpList P ops Q rest (a.put o.dst v') w') : wpList P ops Q (o :: rest) a w := by
  rcases hl.src with ⟨rfl, rfl, rfl⟩ | ⟨ad, cap, rfl, hlen, hc⟩
  · exact wpList_append_own_none hgd s x t ho base e i size ht hi v n xs hs hown hx (h v w (by simpa using hown) (World.grownBy.refl _ _))
  · exact wpList_append_own_at w hgd s x t ho base e i z size bytes ht hi hz hsize hby hzs hsz v n xs hs hown ad m cap news hx hlen hc h1 h63 hbytes hbase fun v' w' k1 k2 _ _ => h v' w' k1 k2
theorem lies_one1 {w : World} {b : Nat} {u : Value} (h : Box w b [u]) : Lies w 1 (.slice (some ⟨b, 0, none⟩) 1 1) 1 [u] :=
  ⟨rfl, some ⟨b, 0, none⟩, 1, rfl, Nat.le_refl _, by unfold maxLen; omega, (fun h => by cases h), fun _ => ⟨b, 0, rfl, h.1, fun j hj => by
    obtain rfl : j = 0 := by omega
    exact h.2.1 0 u rfl⟩⟩
theorem wds_ge (b : Int) : 1 ≤ wds b ∧ wds b ≤ 4 := by
  unfold wds
  repeat' split
  all_goals omega
set_option maxRecDepth 100000 in
set_option maxHeartbeats 2000000 in
theorem declare_any (B : Nat) (w : World) (sb vb fb lb : Nat) (wd : Int) (E : Nev) (L : Loc) (res : Int × Bool) (lp : Nat) (h : Sc B w sb vb fb lb wd E L res lp) (b : Int) (s : Bool) (nm : ByteArray) (hn : nm.size ≤ maxLen) (hb : IsW b) (hfr : L.fr ≤ 1000000) :
    Calls Tryz.prog 30 #[.pointer (some ⟨sb, 0, none⟩), .agg #[.int .i64 b, .bool s], .string nm] w fun e w' => e = .returned (.int .i64 (declC L b s nm).1) ∧ Sc B w' sb vb fb lb wd E (declC L b s nm).2 res lp ∧ Wd9 B sb lb w w' := by
  obtain ⟨i0, hi0, hz0, hz1, hz2⟩ := info_partsC infoStrC
  obtain ⟨op, fr, m, hL⟩ : ∃ op fr m, L = ⟨m, op, fr⟩ := ⟨_, _, _, rfl⟩
  subst hL
  have hlts := h.lts
  obtain ⟨⟨v, n, h1, h2, h3, h4⟩, hnm, hs, hl, hv, hf, hB⟩ := h
  dsimp only at h1 h2 h3 h4 hfr
  obtain ⟨va, vc, rfl⟩ := own_sliceC h2
  have k0 := below_a w (.cells #[.int .i64 b, .bool s] 34)
  have D := hideI (show Dz B w (w.alloc (.cells #[.int .i64 b, .bool s] 34)) sb vb fb lb wd E res lp b s (.slice va op.length vc) n op fr m from ⟨Wd9.of k0 hB, BoxC.new _ _ _ (by decide), h1.step k0, own_step h2 k0, h3.step k0, hnm.step k0, hs, hl, hv, hf, hB, hlts⟩)
  have R1 := (unhideI D).mv.run_ok Tryz.underlying85 (zLocal _) nm hn
  rw [enc_getD] at R1
  have H4 := hideI h4
  have HB := hideI hb
  clear h1 h2 h3 h4 hnm hs hl hv hf hB hlts k0 hb
  obtain ⟨R, hR⟩ : ∃ R, R = declC ⟨m, op, fr⟩ b s nm := ⟨_, rfl⟩
  obtain ⟨q, hq⟩ : ∃ q, q = wds b := ⟨_, rfl⟩
  rw [← hR]
  have c3 := box_cells (unhideI D).bx 3 _ rfl
  have c4 := box_cells (unhideI D).bx 4 _ rfl
  have c5 := box_cells (unhideI D).bx 5 _ rfl
  have hsb := (unhideI D).bx.lt
  have hsf := (unhideI D).bx.box.2.2
  have t0 := box_cells (unhideI D).bt 0 _ rfl
  have t1 := box_cells (unhideI D).bt 1 _ rfl
  have hst := (unhideI D).bt.lt
  generalize hW0 : w.alloc (.cells #[.int .i64 b, .bool s] 34) = W0 at *
  rcases hm : m nm with _ | ⟨yb, ys, yc⟩
  rotate_left
  · obtain rfl : R = (7, ⟨m, op, fr⟩) := by rw [hR]; exact if_pos (show (m nm).isSome = true by rw [hm]; rfl)
    rw [hm] at R1
    have HM := hideI hm
    clear hm
    simp only [Option.getD_some, Option.map_some, Option.isSome_some, encV] at R1
    go_enter Tryz.func30, Tryz.ntmps30
    go_wp2_with fail
    go_ret
    have D2 := (unhideI D).step (below_a _ (.cells #[.int .i64 yb, .bool ys, .bool yc] 112))
    exact ⟨rfl, ⟨⟨_, _, D2.bx, D2.ow, D2.mv, unhideI H4⟩, D2.nm, D2.hs, D2.hl, D2.hv, D2.hf, Nat.le_trans D2.hB D2.wk.wc.size⟩, D2.wk⟩
  · obtain rfl : R = (0, ⟨fun j => if j = nm then some (b, s, true) else m j, op ++ [nm], fr + q⟩) := by rw [hR, hq]; exact if_neg (show ¬ (m nm).isSome = true by rw [hm]; decide)
    rw [hm] at R1
    have HM := hideI hm
    have HQ0 := hideI hq
    clear hm hq
    simp only [Option.getD_none, Option.map_none, Option.isSome_none, encV] at R1
    go_enter Tryz.func30, Tryz.ntmps30
    go_wp2_with fail
    have D1 := hideI ((unhideI D).step (below_a _ (.cells #[.int .i64 0, .bool false, .bool false] 112)))
    generalize W0.alloc (.cells #[.int .i64 0, .bool false, .bool false] 112) = W1 at *
    refine reg_start (fun W => W.cell? ⟨sb, 3, none⟩ = some (.map (some lb)) ∧ W.cell? ⟨w.heap.size, 0, none⟩ = some (.int .i64 b) ∧ W.cell? ⟨w.heap.size, 1, none⟩ = some (.bool s)) (by kernel_rfl) ?_
    have D2 := hideI ((unhideI D1).step (Below.refl _ _).drew)
    clear D D1 R1 c3 c4 c5 hsb hsf t0 t1 hst
    generalize W1.drew = W8 at *
    have CL := hideI (fun (W : World) (n : Nat) (m : ByteArray → Option (Int × Bool × Bool)) (D : Dz B w W sb vb fb lb wd E res lp b s (.slice va op.length vc) n op fr m) => (⟨box_cells D.bx 3 _ rfl, box_cells D.bt 0 _ rfl, box_cells D.bt 1 _ rfl⟩ : W.cell? ⟨sb, 3, none⟩ = some (.map (some lb)) ∧ W.cell? ⟨w.heap.size, 0, none⟩ = some (.int .i64 b) ∧ W.cell? ⟨w.heap.size, 1, none⟩ = some (.bool s)))
    refine reg_seg 0 7 1 (by kernel_rfl) (by decide) (by kernel_rfl) (by kernel_rfl) (fun _ _ _ _ _ h => h) ?_
    simp only [List.take_succ_cons, List.take_zero, List.drop_succ_cons, List.drop_zero]
    repeat (refine wpSteady_step (fun K hK => ?_); go_simp; first | (refine steady_of ?_ (fun W hW => ?_) (hK _ ?_); rotate_left; (obtain ⟨d0, d1, d2⟩ := hW; go_simp; first | done | rfl); clear hK K) | (refine hK _ ?_; clear hK K))
    refine wpSteady_nil ?_
    refine reg_one 7 0 (by kernel_rfl) (by kernel_rfl) (unhideI CL _ _ _ (unhideI D2)) ?_
    simp only [List.take_succ_cons, List.take_zero, List.drop_succ_cons, List.drop_zero]
    go_wp2_with (at_mapUpdate; refine wpList_putVv rfl (.tmp 22) (.tmp 23) (.tmp 25) 85 112 rfl Tryz.underlying85 lb n _ rfl (unhideI D2).mv (by have := unhideI H4; unfold maxLen; omega) nm rfl hn (encV (b, s, true)) rfl ?_; intro w9 m9 g9; have D9 := hideI ((unhideI D2).put m9 g9); clear m9 g9)
    first | refine next_nil ?_ | refine next_go ?_
    refine reg_end (by kernel_rfl) (unhideI CL _ _ _ (unhideI D9)) ?_
    clear D2 CL
    have D := D9
    clear D9
    have c3 := box_cells (unhideI D).bx 3 _ rfl
    have c4 := box_cells (unhideI D).bx 4 _ rfl
    have c5 := box_cells (unhideI D).bx 5 _ rfl
    have hsb := (unhideI D).bx.lt
    have hsf := (unhideI D).bx.box.2.2
    have t0 := box_cells (unhideI D).bt 0 _ rfl
    have t1 := box_cells (unhideI D).bt 1 _ rfl
    have hst := (unhideI D).bt.lt
    have D10 := hideI ((unhideI D).step (below_a _ (.cells #[.string nm] 9)))
    have BN := hideI (Box.new w9 #[.string nm] 9)
    have HSZ := hideI (show B ≤ (w9.alloc (.cells #[.string nm] 9)).heap.size from Nat.le_trans (unhideI D10).hB (unhideI D10).wk.wc.size)
    go_wp2_with (at_builtin; refine append_liesC rfl (.tmp 30) (.tmp 32) 52 rfl B 9 i0 _ 1 16 Tryz.underlying52 hi0 hz0 hz1 hz2 rfl (by decide) _ _ _ rfl (unhideI D10).ow _ 1 [.string nm] rfl (lies_one1 (unhideI BN)) (by intro u hu; simp at hu; subst hu; rfl) (by have := unhideI H4; unfold maxLen; omega) (by have := unhideI H4; omega) (unhideI HSZ) ?_; intro v' w10 o10 g10; obtain ⟨va', vc', rfl⟩ := own_sliceC o10; have A9 := hideI ((unhideI D10).app o10 g10); clear o10 g10 c3 c4 c5 hsb hsf t0 t1 hst; have c4 := box_cells (unhideI A9).2.2.1 4 _ rfl; have hsf := (unhideI A9).2.2.1.box.2.2; have hsb := (unhideI A9).2.2.1.lt)
    have D11 := hideI (show Dz B w (w10.setCell ⟨sb, 4, none⟩ (.slice va' (op.length + 1) vc')) sb vb fb lb wd E res lp b s (.slice va' (op.length + 1) vc') (n + 1) (op ++ [nm]) fr (fun j => if j = nm then some (b, s, true) else m j) from Dz.store (unhideI A9).1 (unhideI A9).2.1 (unhideI A9).2.2.1 (unhideI A9).2.2.2.1 (unhideI A9).2.2.2.2.1 (unhideI A9).2.2.2.2.2 (unhideI D10).hs (unhideI D10).hl (unhideI D10).hv (unhideI D10).hf (unhideI D10).hB (unhideI D10).lts rfl)
    clear A9 D10 D BN HSZ c4 hsf hsb
    generalize w10.setCell ⟨sb, 4, none⟩ (.slice va' (op.length + 1) vc') = W11 at *
    have hfr0 : 0 ≤ fr := by have := unhideI H4; omega
    have CW := hideI (fun w => twords_any b s w (unhideI HB))
    obtain ⟨hq1, hq2⟩ := wds_ge b
    rw [← unhideI HQ0] at CW hq1 hq2
    have HQ1 := hideI hq1
    have CL := hideI (fun (W : World) (D : Dz B w W sb vb fb lb wd E res lp b s (.slice va' (op.length + 1) vc') (n + 1) (op ++ [nm]) fr (fun j => if j = nm then some (b, s, true) else m j)) => (⟨box_cells D.bt 0 _ rfl, box_cells D.bt 1 _ rfl⟩ : W.cell? ⟨w.heap.size, 0, none⟩ = some (.int .i64 b) ∧ W.cell? ⟨w.heap.size, 1, none⟩ = some (.bool s)))
    refine reg_start (fun W => W.cell? ⟨w.heap.size, 0, none⟩ = some (.int .i64 b) ∧ W.cell? ⟨w.heap.size, 1, none⟩ = some (.bool s)) (by kernel_rfl) ?_
    have D12 := hideI ((unhideI D11).step (Below.refl _ _).drew)
    clear D11
    generalize W11.drew = W12 at *
    refine reg_seg 0 3 7 (by kernel_rfl) (by decide) (by kernel_rfl) (by kernel_rfl) (fun _ _ _ _ _ h => h) ?_
    simp only [List.take_succ_cons, List.take_zero, List.drop_succ_cons, List.drop_zero]
    repeat (refine wpSteady_step (fun K hK => ?_); go_simp; first | (refine steady_of ?_ (fun W hW => ?_) (hK _ ?_); rotate_left; (obtain ⟨d0, d1⟩ := hW; go_simp; first | done | rfl); clear hK K) | (refine hK _ ?_; clear hK K))
    refine wpSteady_nil ?_
    refine reg_seg 4 1 6 (by kernel_rfl) (by decide) (by kernel_rfl) (by kernel_rfl) (fun _ _ _ _ _ h => h) ?_
    simp only [List.take_succ_cons, List.take_zero, List.drop_succ_cons, List.drop_zero]
    repeat (refine wpSteady_step (fun K hK => ?_); go_simp; first | (refine steady_of ?_ (fun W hW => ?_) (hK _ ?_); rotate_left; (obtain ⟨d0, d1⟩ := hW; go_simp; first | done | rfl); clear hK K) | (refine hK _ ?_; clear hK K))
    refine wpSteady_nil ?_
    refine reg_two 3 5 5 (by kernel_rfl) (by kernel_rfl) (unhideI CL _ (unhideI D12)) ?_ ?_
    all_goals simp only [List.take_succ_cons, List.take_zero, List.drop_succ_cons, List.drop_zero]
    · have c5 := box_cells (unhideI D12).bx 5 _ rfl
      have hsb := (unhideI D12).bx.lt
      go_wp2_with fail
      first | refine next_nil ?_ | refine next_go ?_
      refine reg_one 5 4 (by kernel_rfl) (by kernel_rfl) (unhideI CL _ (unhideI D12)) ?_
      simp only [List.take_succ_cons, List.take_zero, List.drop_succ_cons, List.drop_zero]
      go_wp2_with fail
      refine (unhideI CW _).mono ?_
      rintro e w13 ⟨rfl, k13⟩
      have D13 := hideI ((unhideI D12).step k13)
      clear c5 hsb k13 D12
      go_wp2_with fail
      first | refine next_nil ?_ | refine next_go ?_
      refine reg_one 6 3 (by kernel_rfl) (by kernel_rfl) (unhideI CL _ (unhideI D13)) ?_
      simp only [List.take_succ_cons, List.take_zero, List.drop_succ_cons, List.drop_zero]
      go_wp2_with fail
      first | refine next_nil ?_ | refine next_go ?_
      refine reg_seg 7 2 1 (by kernel_rfl) (by decide) (by kernel_rfl) (by kernel_rfl) (fun _ _ _ _ _ h => h) ?_
      simp only [List.take_succ_cons, List.take_zero, List.drop_succ_cons, List.drop_zero]
      repeat (refine wpSteady_step (fun K hK => ?_); go_simp; first | (refine steady_of ?_ (fun W hW => ?_) (hK _ ?_); rotate_left; (obtain ⟨d0, d1⟩ := hW; go_simp; first | done | rfl); clear hK K) | (refine hK _ ?_; clear hK K))
      refine wpSteady_nil ?_
      have c5 := box_cells (unhideI D13).bx 5 _ rfl
      have hsb := (unhideI D13).bx.lt
      have hsf := (unhideI D13).bx.box.2.2
      refine reg_one 9 0 (by kernel_rfl) (by kernel_rfl) (unhideI CL _ (unhideI D13)) ?_
      simp only [List.take_succ_cons, List.take_zero, List.drop_succ_cons, List.drop_zero]
      go_wp2_with fail
      first | refine next_nil ?_ | refine next_go ?_
      have D14 := hideI (show Dz B w (w13.setCell ⟨sb, 5, none⟩ (.int .i64 (fr + q))) sb vb fb lb wd E res lp b s (.slice va' (op.length + 1) vc') (n + 1) (op ++ [nm]) (fr + q) (fun j => if j = nm then some (b, s, true) else m j) from Dz.store (unhideI D13).wk (unhideI D13).bt (unhideI D13).bx (unhideI D13).ow (unhideI D13).mv (unhideI D13).nm (unhideI D13).hs (unhideI D13).hl (unhideI D13).hv (unhideI D13).hf (unhideI D13).hB (unhideI D13).lts rfl)
      have HCE := hideI (show (w13.setCell ⟨sb, 5, none⟩ (.int .i64 (fr + q))).cell? ⟨w.heap.size, 0, none⟩ = some (.int .i64 b) ∧ (w13.setCell ⟨sb, 5, none⟩ (.int .i64 (fr + q))).cell? ⟨w.heap.size, 1, none⟩ = some (.bool s) from ⟨box_cells (unhideI D14).bt 0 _ rfl, box_cells (unhideI D14).bt 1 _ rfl⟩)
      refine reg_end (by kernel_rfl) (unhideI HCE) ?_
      go_wp2_with fail
      go_ret
      have Z := unhideI D14
      refine ⟨rfl, ⟨⟨_, _, Z.bx, Z.ow, Z.mv, ?_⟩, Z.nm, Z.hs, Z.hl, Z.hv, Z.hf, Nat.le_trans Z.hB Z.wk.wc.size⟩, Z.wk⟩
      have := unhideI H4
      have := unhideI HQ1
      simp only [List.length_append, List.length_cons, List.length_nil]
      omega
    · go_wp2_with fail
      refine (unhideI CW _).mono ?_
      rintro e w13 ⟨rfl, k13⟩
      have D13 := hideI ((unhideI D12).step k13)
      clear k13 D12
      go_wp2_with fail
      first | refine next_nil ?_ | refine next_go ?_
      have c5 := box_cells (unhideI D13).bx 5 _ rfl
      have hsb := (unhideI D13).bx.lt
      refine reg_one 3 4 (by kernel_rfl) (by kernel_rfl) (unhideI CL _ (unhideI D13)) ?_
      simp only [List.take_succ_cons, List.take_zero, List.drop_succ_cons, List.drop_zero]
      go_wp2_with fail
      first | refine next_nil ?_ | refine next_go ?_
      clear c5 hsb
      refine reg_one 6 3 (by kernel_rfl) (by kernel_rfl) (unhideI CL _ (unhideI D13)) ?_
      simp only [List.take_succ_cons, List.take_zero, List.drop_succ_cons, List.drop_zero]
      go_wp2_with fail
      first | refine next_nil ?_ | refine next_go ?_
      refine reg_seg 7 2 1 (by kernel_rfl) (by decide) (by kernel_rfl) (by kernel_rfl) (fun _ _ _ _ _ h => h) ?_
      simp only [List.take_succ_cons, List.take_zero, List.drop_succ_cons, List.drop_zero]
      repeat (refine wpSteady_step (fun K hK => ?_); go_simp; first | (refine steady_of ?_ (fun W hW => ?_) (hK _ ?_); rotate_left; (obtain ⟨d0, d1⟩ := hW; go_simp; first | done | rfl); clear hK K) | (refine hK _ ?_; clear hK K))
      refine wpSteady_nil ?_
      have c5 := box_cells (unhideI D13).bx 5 _ rfl
      have hsb := (unhideI D13).bx.lt
      have hsf := (unhideI D13).bx.box.2.2
      refine reg_one 9 0 (by kernel_rfl) (by kernel_rfl) (unhideI CL _ (unhideI D13)) ?_
      simp only [List.take_succ_cons, List.take_zero, List.drop_succ_cons, List.drop_zero]
      go_wp2_with fail
      first | refine next_nil ?_ | refine next_go ?_
      have D14 := hideI (show Dz B w (w13.setCell ⟨sb, 5, none⟩ (.int .i64 (fr + q))) sb vb fb lb wd E res lp b s (.slice va' (op.length + 1) vc') (n + 1) (op ++ [nm]) (fr + q) (fun j => if j = nm then some (b, s, true) else m j) from Dz.store (unhideI D13).wk (unhideI D13).bt (unhideI D13).bx (unhideI D13).ow (unhideI D13).mv (unhideI D13).nm (unhideI D13).hs (unhideI D13).hl (unhideI D13).hv (unhideI D13).hf (unhideI D13).hB (unhideI D13).lts rfl)
      have HCE := hideI (show (w13.setCell ⟨sb, 5, none⟩ (.int .i64 (fr + q))).cell? ⟨w.heap.size, 0, none⟩ = some (.int .i64 b) ∧ (w13.setCell ⟨sb, 5, none⟩ (.int .i64 (fr + q))).cell? ⟨w.heap.size, 1, none⟩ = some (.bool s) from ⟨box_cells (unhideI D14).bt 0 _ rfl, box_cells (unhideI D14).bt 1 _ rfl⟩)
      refine reg_end (by kernel_rfl) (unhideI HCE) ?_
      go_wp2_with fail
      go_ret
      have Z := unhideI D14
      refine ⟨rfl, ⟨⟨_, _, Z.bx, Z.ow, Z.mv, ?_⟩, Z.nm, Z.hs, Z.hl, Z.hv, Z.hf, Nat.le_trans Z.hB Z.wk.wc.size⟩, Z.wk⟩
      have := unhideI H4
      have := unhideI HQ1
      simp only [List.length_append, List.length_cons, List.length_nil]
      omega
end Go.Proofs.YtaidefdbjcgcbaaGreat
