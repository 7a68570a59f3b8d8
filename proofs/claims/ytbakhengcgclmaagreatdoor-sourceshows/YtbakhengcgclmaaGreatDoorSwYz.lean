/-
  Writing: source.Show.
-/
import Derived.Test.YtbakhengcgclmaaGreatDoorSwX
namespace Go.Proofs.YtbakhengcgclmaaGreatDoor
open Go.RowKit Go.Great
set_option linter.unusedSimpArgs false
set_option linter.unusedVariables false

theorem ExL.mono {B B' : Nat} {w : World} {v : Value} {xs : List Ex} (h : ExL B w v xs) (hB : B ≤ B') : ExL B' w v xs := by
  induction h with
  | mk v xs ks hl hv lies ok kids ih => exact .mk v xs ks hl (fun c hc hn => Nat.lt_of_lt_of_le (hv c hc hn) hB) lies ok ih
theorem SmL.mono {B B' : Nat} {w : World} {v : Value} {xs : List Sm} (h : SmL B w v xs) (hB : B ≤ B') : SmL B' w v xs := by
  induction h with
  | mk v xs ks hl hv lies ok hx hi h1 h2 h3 h4 i1 i2 i3 i4 => exact .mk v xs ks hl (fun c hc hn => Nat.lt_of_lt_of_le (hv c hc hn) hB) lies ok (fun i h => (hx i h).mono hB) (fun i h => (hi i h).mono hB) i1 i2 i3 i4
theorem RowL.mono {α β : Type} {n : Nat} {c : α → β → List Value} {Pr Pr' : World → α → β → Prop} {B B' : Nat} {w : World} {v : Value} {xs : List α} {ks : List β} (h : RowL n c Pr B w v xs ks) (hB : B ≤ B') (hp : ∀ x y, Pr w x y → Pr' w x y) : RowL n c Pr' B' w v xs ks :=
  ⟨h.hl, fun c hc hn => Nat.lt_of_lt_of_le (h.hv c hc hn) hB, h.lies, fun i hi => hp _ _ (h.each i hi)⟩
theorem PmL.mono {B B' : Nat} {w : World} {v : Value} {ps : List Pm} (h : PmL B w v ps) (hB : B ≤ B') : PmL B' w v ps := by
  obtain ⟨ks, r⟩ := h
  exact ⟨ks, r.mono hB fun _ _ q => q⟩
theorem PgL.mono {B B' : Nat} {w : World} {v1 v2 : Value} {p : Pg} (h : PgL B w v1 v2 p) (hB : B ≤ B') : PgL B' w v1 v2 p := by
  obtain ⟨⟨k1, r1⟩, ⟨k2, r2⟩⟩ := h
  exact ⟨⟨k1, r1.mono hB fun _ _ q => ⟨q.1, q.2.mono hB⟩⟩, ⟨k2, r2.mono hB fun _ _ q => ⟨q.1, q.2.1.mono hB, q.2.2.mono hB⟩⟩⟩
theorem zlen_any (B b n : Nat) (mv : Value) (t : List UInt8) (w : World) (h : Wz w B b mv n t) : Calls Tryz.prog 11 #[.pointer (some ⟨b, 0, none⟩)] w fun e w' => e = .returned (.int .i64 t.length) ∧ w' = w := by
  obtain ⟨g, h⟩ := h
  obtain ⟨v, c1, _, hown, _, hne, hB, p, hbk, hp⟩ := h.buf
  obtain ⟨ao, cap, rfl⟩ : ∃ ao cap, v = .slice ao t.length cap := by
    rcases hown.2 with ⟨hv, hz⟩ | ⟨g, cap, cur, hv, r⟩
    · exact ⟨none, 0, by rw [hv, hz]⟩
    · exact ⟨_, _, hv⟩
  have hlt := h.lt
  clear hown hbk hp h
  go_enter Tryz.func11, Tryz.ntmps11
  go_wp2_with fail
  go_ret
  exact ⟨rfl, rfl⟩
set_option maxHeartbeats 2000000 in
set_option maxRecDepth 100000 in
theorem wstring_nil (B b : Nat) (w : World) (hb : b < w.heap.size) (h : w.cell? ⟨b, 1, none⟩ = some (.slice none 0 0)) : Calls Tryz.prog 12 #[.pointer (some ⟨b, 0, none⟩)] w fun e w' => e = .returned (.string ⟨#[]⟩) ∧ Below B w w' := by
  have c1 : w.drew.cell? ⟨b, 1, none⟩ = some (.slice none 0 0) := h
  have hSD : (Builtin.unsafeSliceData_ #[34] 84 #[.slice none 0 0]).run Tryz.prog w.drew = .ok (.pointer none) w.drew :=
    Lib.run_unsafeSliceData_nil _ _ _ _ _
  have hUS : (Builtin.unsafeString_ #[84, 3] 9 #[.pointer none, .int .i64 0]).run Tryz.prog w.drew = .ok (.string ⟨#[]⟩) w.drew :=
    Lib.run_unsafeString_none _ _ _ _ _
  clear h
  have mixed : Tryz.prog.follows Departure.mixedOrders = true := by kernel_rfl
  go_enter Tryz.func12, Tryz.ntmps12
  go_wp2_with fail
  go_region_o
  all_goals (go_wp2_with fail; go_ret; exact ⟨rfl, Below.drew (Below.refl B w)⟩)
theorem zstring_any (B b n : Nat) (mv : Value) (t : List UInt8) (w : World) (h : Wz w B b mv n t) (hn : t = [] → w.cell? ⟨b, 1, none⟩ = some (.slice none 0 0)) (hl : t.length ≤ 1099511627776) : Calls Tryz.prog 12 #[.pointer (some ⟨b, 0, none⟩)] w fun e w' => e = .returned (.string ⟨t.toArray⟩) ∧ Below B w w' := by
  by_cases ht : t = []
  · subst ht
    exact wstring_nil B b w h.lt (hn rfl)
  · obtain ⟨g, h⟩ := h
    exact wstring_any B b n mv t g w h ht hl
/-- On the way through a program. -/
structure Sq (w W : World) (b mb : Nat) (p : Pg) (v1 v2 : Value) (t : List UInt8) : Prop where
  bn : Bn w W w.heap.size b 0 mb t
  bx : BoxT W w.heap.size #[v1, v2] 25
  bl : w.heap.size < b
  pl : PgL w.heap.size W v1 v2 p
  nn : t = [] → W.cell? ⟨b, 1, none⟩ = some (.slice none 0 0)
theorem sq_glob {w W : World} {b mb : Nat} {p : Pg} {v1 v2 : Value} {t : List UInt8} (h : Sq w W b mb p v1 v2 t) (g : Gb) (ka : Option Addr) (kc : Nat) (hx : ExL w.heap.size W (.slice ka g.init.length kc) g.init) (ho : ∀ x ∈ g.init, OkE x) (hz : g.size ≤ 8000) (hl : t.length + (glT g).length ≤ 1000000000000) :
    Calls Tryz.prog 9 #[.pointer (some ⟨b, 0, none⟩), .agg #[.int .i64 g.b, .bool g.s, .string g.nm, .int .i64 g.size, .slice ka g.init.length kc]] (W.alloc (.cells #[.int .i64 g.b, .bool g.s, .string g.nm, .int .i64 g.size, .slice ka g.init.length kc] 43)) fun e W' => e = .returned (.tuple #[]) ∧ Sq w W' b mb p v1 v2 (t ++ glT g) := by
  have k := below_a W (.cells #[.int .i64 g.b, .bool g.s, .string g.nm, .int .i64 g.size, .slice ka g.init.length kc] 43)
  have hle := h.bn.e.le
  have hbl := h.bl
  exact (wglobal_any g ka kc _ b 0 mb t _ (h.bn.z.step k) (h.bn.e.below k) (hx.step (k.mono hle)) ho (by omega) hl).mono fun _ _ ⟨h1, h2, h3⟩ => ⟨h1, (h.bn.alloc _).next h3 h2, (h.bx.step k).wf h3.wf (by omega), hbl, (h.pl.step (k.mono hle)).step h3.below, fun e => absurd e (by unfold glT; simp)⟩
theorem sq_func {w W : World} {b mb : Nat} {p : Pg} {v1 v2 : Value} {t : List UInt8} (h : Sq w W b mb p v1 v2 t) (f : Fn8) (pa sa : Option Addr) (pc sc : Nat) (hp : PmL w.heap.size W (.slice pa f.params.length pc) f.params) (hs : SmL w.heap.size W (.slice sa f.body.length sc) f.body) (ho : ∀ y ∈ f.body, OkS y) (hl : t.length + (fnT f 0).length + 2 ≤ 1000000000000) :
    Calls Tryz.prog 10 #[.pointer (some ⟨b, 0, none⟩), .agg #[.string f.nm, .int .i64 f.b, .bool f.s, .slice pa f.params.length pc, .slice sa f.body.length sc]] (W.alloc (.cells #[.string f.nm, .int .i64 f.b, .bool f.s, .slice pa f.params.length pc, .slice sa f.body.length sc] 48)) fun e W' => e = .returned (.tuple #[]) ∧ Sq w W' b mb p v1 v2 (t ++ fnT f 0) := by
  have k := below_a W (.cells #[.string f.nm, .int .i64 f.b, .bool f.s, .slice pa f.params.length pc, .slice sa f.body.length sc] 48)
  have hle := h.bn.e.le
  have hbl := h.bl
  exact (wfunc_any f pa sa pc sc _ b 0 mb t _ (h.bn.z.step k) (h.bn.e.below k) (hp.step (k.mono hle)) (hs.step (k.mono hle)) ho hl).mono fun _ _ ⟨h1, h2, h3⟩ => ⟨h1, (h.bn.alloc _).next h3 h2, (h.bx.step k).wf h3.wf (by omega), hbl, (h.pl.step (k.mono hle)).step h3.below, fun e => absurd e (by unfold fnT; simp)⟩
theorem flat_take_g {α : Type} (f : α → List UInt8) (l : List α) (i : Nat) (hi : i < l.length) : ((l.take (i + 1)).map f).flatten = ((l.take i).map f).flatten ++ f l[i] := by
  rw [List.take_succ_eq_append_getElem hi, List.map_append, List.flatten_append]; simp only [List.map_cons, List.map_nil, List.flatten_cons, List.flatten_nil, List.append_nil]
theorem flat_take_g_le {α : Type} (f : α → List UInt8) (l : List α) (i : Nat) (hi : i < l.length) : ((l.take i).map f).flatten.length + (f l[i]).length ≤ (l.map f).flatten.length := by
  rw [← List.length_append, ← flat_take_g f l i hi]
  conv => rhs; rw [← List.take_append_drop (i + 1) l, List.map_append, List.flatten_append, List.length_append]
  omega
set_option maxRecDepth 100000 in
set_option maxHeartbeats 2000000 in
theorem sshow_any (p : Pg) (v1 v2 : Value) (w : World) (hp : PgL w.heap.size w v1 v2 p) (G : Gw w.heap.size w) (GO : Gop w) : Calls Tryz.prog 4 #[.agg #[v1, v2]] w fun e w' => e = .returned (.tuple #[.string ⟨(showT p).1.toArray⟩, .int .i64 (showT p).2]) ∧ Below w.heap.size w w' := by
  obtain ⟨ga, gc, rfl, hgm⟩ := hp.g.slice
  obtain ⟨fa, fc, rfl, hfm⟩ := hp.f.slice
  unfold maxLen at hgm hfm
  have kal := below_a w (.cells #[.slice ga p.globals.length gc, .slice fa p.funcs.length fc] 25)
  have hsz : (w.alloc (.cells #[.slice ga p.globals.length gc, .slice fa p.funcs.length fc] 25)).heap.size = w.heap.size + 1 := by simp
  have SW := hideI (swrong_any p _ _ _ ((hp.step kal).mono (by omega)))
  have BX := hideI (BoxT.new w #[.slice ga p.globals.length gc, .slice fa p.funcs.length fc] 25 (by decide))
  have HP := hideI (hp.step kal)
  have HG := hideI (G.step kal)
  have HO := hideI (GO.step kal)
  have KAL := hideI kal
  have HS := hideI hsz
  obtain ⟨c0, c1⟩ := (unhideI BX).box.at2
  have hs0 := (unhideI BX).lt
  clear hp G GO kal hsz
  have EQ := hideI (show showT p = if (lkP p).1 = 0 then (if 65536 < (shP p).length then ([], 4) else (shP p, 0)) else ([], (lkP p).1) from rfl)
  generalize showT p = R at *
  by_cases he : (lkP p).1 = 0
  · obtain ⟨OG, OF, OL⟩ := lkP_good p he
    have E1 := unhideI EQ
    rw [if_pos he] at E1
    rw [he] at SW
    have E2 := hideI E1
    have HL := hideI OL
    have HOG := hideI OG
    have HOF := hideI OF
    have ESP := hideI (show shP p = (p.globals.map glT).flatten ++ (p.funcs.map (fnT · 0)).flatten from rfl)
    generalize shP p = SP at *
    clear EQ E1 he OG OF OL
    obtain ⟨gs, fs⟩ := p
    dsimp only at *
    go_enter Tryz.func4, Tryz.ntmps4
    go_wp2_with fail
    generalize w.alloc (.cells #[.slice ga gs.length gc, .slice fa fs.length fc] 25) = w1 at *
    refine (unhideI SW).mono ?_
    rintro e w2 ⟨rfl, k2⟩
    have BX2 := hideI ((unhideI BX).step k2)
    have K2 := hideI (bT (unhideI KAL) k2)
    have HP2 := hideI ((unhideI HP).step (k2.mono (by have := unhideI HS; omega)))
    have HG2 := hideI ((unhideI HG).step (k2.mono (by have := unhideI HS; omega)))
    have BK := hideI (byKind_any w2 ((unhideI HO).step k2))
    have hs2 := k2.size
    clear SW BX KAL HP HG HO k2 c0 c1
    go_wp2_with fail
    refine (unhideI BK).mono ?_
    rintro e w3 ⟨rfl, hm3, k3⟩
    have hs3 := k3.size
    have hm3l : w2.heap.size < w3.heap.size := (Array.getElem?_eq_some_iff.1 hm3).1
    have kb := below_a w3 (.cells #[.pointer none, .slice none 0 0, .map (some w2.heap.size), .int .i64 0] 38)
    have hb4 : (w3.alloc (.cells #[.pointer none, .slice none 0 0, .map (some w2.heap.size), .int .i64 0] 38)).heap[w3.heap.size]? = some (.cells #[.pointer none, .slice none 0 0, .map (some w2.heap.size), .int .i64 0] 38 (0, 0)) := by show (w3.heap.push _)[w3.heap.size]? = _; simp
    have K4 := bT (unhideI K2) ((bT k3 kb).mono (by omega))
    have S0 : Hid (Sq w (w3.alloc (.cells #[.pointer none, .slice none 0 0, .map (some w2.heap.size), .int .i64 0] 38)) w3.heap.size w2.heap.size ⟨gs, fs⟩ (.slice ga gs.length gc) (.slice fa fs.length fc) []) := by
      refine ⟨⟨⟨none, .pointer none, .slice none 0 0, by omega, hb4, .inl rfl, ?_, rfl, by simp⟩, ⟨(unhideI HG2).step ((bT k3 kb).mono (by omega)), by rw [kb.block _ hm3l]; exact hm3, by omega, by have := kb.size; omega⟩, ⟨K4, Wf.of K4⟩⟩, ((unhideI BX2).step k3).step kb, by have := (unhideI BX2).lt; omega, (unhideI HP2).step ((bT k3 kb).mono (by omega)), fun _ => ?_⟩
      · exact ⟨rfl, .inl ⟨rfl, rfl⟩⟩
      · rw [Lib.cell_of_heap hb4]; rfl
    clear BK BX2 K2 HP2 HG2 hm3 k3 kb hb4 K4
    obtain ⟨d0, d1⟩ := (unhideI S0).bx.box.at2
    have hs4 : w.heap.size < w3.heap.size + 1 := by have := (unhideI S0).bx.lt; simpa using this
    go_wp2_with fail
    generalize w3.alloc (.cells #[.pointer none, .slice none 0 0, .map (some w2.heap.size), .int .i64 0] 38) = w4 at *
    generalize w3.heap.size = b at *
    generalize w2.heap.size = mb at *
    go_loopg [20] gs.length (fun g x wr => ∃ (i : Nat), i ≤ gs.length ∧ g = gs.length - i ∧ x = .int .i64 (i : Int) ∧ Hid (Sq w wr b mb ⟨gs, fs⟩ (.slice ga gs.length gc) (.slice fa fs.length fc) ((gs.take i).map glT).flatten))
    case atStart => exact ⟨0, Nat.zero_le _, rfl, rfl, S0⟩
    case round =>
      obtain ⟨i, hi, hg, rfl, HC⟩ := hrel
      generalize wr = W0 at *
      clear S0 d0 d1
      have hsW : w.heap.size < W0.heap.size := (unhideI HC).bx.lt
      have hbW : b < W0.heap.size := (unhideI HC).bn.z.lt
      by_cases hlt : i < gs.length
      · obtain ⟨b1, o1, ka, kc, rfl, hb1, hnm, hx, x0, x1, x2, x3, x4⟩ := (unhideI HC).pl.g.read i hlt
        have hiI : (i : Int) < (gs.length : Int) := by omega
        have hi0 : (0 : Int) ≤ (i : Int) := by omega
        have ET := hideI (flat_take_g glT gs i hlt)
        obtain ⟨og, oz, oz2⟩ := (unhideI HOG) gs[i] (List.getElem_mem hlt)
        have hfl := flat_take_g_le glT gs i hlt
        have CA := hideI (sq_glob (unhideI HC) gs[i] ka kc hx og oz2 (by have h1 := unhideI HL; rw [unhideI ESP, List.length_append] at h1; omega))
        clear hx hnm og oz oz2 hfl HC
        generalize gs[i] = y at *
        go_wp2_with fail
        refine (unhideI CA).mono ?_
        rintro e w5 ⟨rfl, s5⟩
        have S5 := hideI s5
        clear CA s5 x0 x1 x2 x3 x4
        go_wp2_with fail
        go_roundg (gs.length - (i + 1))
        case measure => omega
        case rel =>
          refine ⟨i + 1, by omega, rfl, by go_num, ?_⟩
          rw [unhideI ET]
          exact S5
      · have hiI : ¬ (i : Int) < (gs.length : Int) := by omega
        have hil : gs.take i = gs := List.take_of_length_le (by omega)
        rw [hil] at HC
        clear hil
        obtain ⟨d0, d1⟩ := (unhideI HC).bx.box.at2
        have S1 := HC
        clear HC
        generalize W0.heap.size = z0 at *
        go_wp2_with fail
        go_loopg [30] fs.length (fun g x wr => ∃ (j : Nat), j ≤ fs.length ∧ g = fs.length - j ∧ x = .int .i64 (j : Int) ∧ Hid (Sq w wr b mb ⟨gs, fs⟩ (.slice ga gs.length gc) (.slice fa fs.length fc) ((gs.map glT).flatten ++ ((fs.take j).map (fnT · 0)).flatten)))
        case atStart => exact ⟨0, Nat.zero_le _, rfl, rfl, by simpa using S1⟩
        case round =>
          obtain ⟨j, hj, hgj, rfl, HCj⟩ := hrel
          generalize wr = V0 at *
          clear S1 d0 d1
          have hsV : w.heap.size < V0.heap.size := (unhideI HCj).bx.lt
          have hbV : b < V0.heap.size := (unhideI HCj).bn.z.lt
          by_cases hltj : j < fs.length
          · obtain ⟨b1, o1, pa, pc, sa, sc, rfl, hb1, hnm, hx, hy, x0, x1, x2, x3, x4⟩ := (unhideI HCj).pl.f.read j hltj
            have hjI : (j : Int) < (fs.length : Int) := by omega
            have hj0 : (0 : Int) ≤ (j : Int) := by omega
            have ET := hideI (flat_take_g (fnT · 0) fs j hltj)
            have of := (unhideI HOF) fs[j] (List.getElem_mem hltj)
            have hfl := flat_take_g_le (fnT · 0) fs j hltj
            have CA := hideI (sq_func (unhideI HCj) fs[j] pa sa pc sc hx hy of (by have h1 := unhideI HL; rw [unhideI ESP, List.length_append] at h1; rw [List.length_append]; omega))
            clear hx hy hnm of hfl HCj
            generalize fs[j] = y at *
            go_wp2_with fail
            refine (unhideI CA).mono ?_
            rintro e w5 ⟨rfl, s5⟩
            have S5 := hideI s5
            clear CA s5 x0 x1 x2 x3 x4
            go_wp2_with fail
            go_roundg (fs.length - (j + 1))
            case measure => omega
            case rel =>
              refine ⟨j + 1, by omega, rfl, by go_num, ?_⟩
              rw [unhideI ET, ← List.append_assoc]
              exact S5
          · have hjI : ¬ (j : Int) < (fs.length : Int) := by omega
            have hjl : fs.take j = fs := List.take_of_length_le (by omega)
            rw [hjl, ← unhideI ESP] at HCj
            clear hjl
            have LN := hideI (zlen_any _ b 0 _ SP V0 (unhideI HCj).bn.z)
            have ST := hideI (zstring_any _ b 0 _ SP V0 (unhideI HCj).bn.z (unhideI HCj).nn (by have := unhideI HL; omega))
            have KV := hideI (unhideI HCj).bn.d.below
            clear HCj
            have E3 := unhideI E2
            by_cases hm : 65536 < SP.length
            · have hmI : (65536 : Int) < (SP.length : Int) := by omega
              rw [if_pos hm] at E3
              subst E3
              go_wp2_with fail
              refine (unhideI LN).mono ?_
              rintro e w6 ⟨rfl, hw6⟩
              subst w6
              clear LN ST
              go_wp2_with fail
              exact bodyPost_ret (v := .tuple #[.string ⟨#[]⟩, .int .i64 4]) (by simp [results, Tryz.results4, go_sem]) rfl ⟨rfl, unhideI KV⟩
            · have hmI : ¬ (65536 : Int) < (SP.length : Int) := by omega
              rw [if_neg hm] at E3
              subst E3
              go_wp2_with fail
              refine (unhideI LN).mono ?_
              rintro e w6 ⟨rfl, hw6⟩
              subst w6
              clear LN
              go_wp2_with fail
              refine (unhideI ST).mono ?_
              rintro e w7 ⟨rfl, k7⟩
              have K7 := hideI ((unhideI KV).trans k7)
              clear ST k7
              go_wp2_with fail
              exact bodyPost_ret (v := .tuple #[.string ⟨SP.toArray⟩, .int .i64 0]) (by simp [results, Tryz.results4, go_sem]) rfl ⟨rfl, unhideI K7⟩
  · have E1 := unhideI EQ
    rw [if_neg he] at E1
    subst E1
    generalize (lkP p).1 = r at *
    have hne : (r != 0) = true := bne_iff_ne.2 he
    go_enter Tryz.func4, Tryz.ntmps4
    go_wp2_with fail
    refine (unhideI SW).mono ?_
    rintro e w2 ⟨rfl, k2⟩
    have K2 := hideI (bT (unhideI KAL) k2)
    clear SW k2
    go_wp2_with fail
    exact bodyPost_ret (v := .tuple #[.string ⟨#[]⟩, .int .i64 r]) (by simp [results, Tryz.results4, go_sem]) rfl ⟨rfl, unhideI K2⟩
end Go.Proofs.YtbakhengcgclmaaGreatDoor

/-
  Writing: the document's answer: digits, tabs.
-/
namespace Go.Proofs.YtbakhengcgclmaaGreatDoor
open Go.RowKit Go.Great
set_option linter.unusedSimpArgs false
set_option linter.unusedVariables false

theorem bcat (a b : List UInt8) : ba a ++ ba b = ba (a ++ b) := by
  have h : ∀ a b : ByteArray, a.data = b.data → a = b := fun a b h => by cases a; cases b; exact congrArg _ h
  apply h
  rw [ByteArray.data_append]
  simp [ba]
theorem enc_d8 (d : Nat) (h : d < 10) : Utf8.encode (48 + (d : Int)) = ba [UInt8.ofNat (48 + d)] := by
  have : d = 0 ∨ d = 1 ∨ d = 2 ∨ d = 3 ∨ d = 4 ∨ d = 5 ∨ d = 6 ∨ d = 7 ∨ d = 8 ∨ d = 9 := by omega
  rcases this with rfl | rfl | rfl | rfl | rfl | rfl | rfl | rfl | rfl | rfl <;> rfl
set_option maxRecDepth 100000 in
set_option maxHeartbeats 1000000 in
theorem rbig_any (n : Nat) (hn : n ≤ 18446744073709551615) (w : World) : Calls Tryz.prog 31 #[.int .u64 (n : Int)] w fun e w' => e = .returned (.string (ba (Lib.decDigits n))) ∧ Below w.heap.size w w' := by
  induction n using Nat.strongRecOn generalizing w with
  | _ n ih =>
    by_cases h : n < 10
    · have e : Lib.decDigits n = [UInt8.ofNat (48 + n)] := by rw [Lib.decDigits, dif_pos h]
      rw [e, ← enc_d8 n h]
      have h' : (n : Int) < 10 := by omega
      go_enter Tryz.func31, Tryz.ntmps31
      go_wp2_with fail
      go_ret
      exact ⟨rfl, Below.refl _ _⟩
    · have e : Lib.decDigits n = Lib.decDigits (n / 10) ++ [UInt8.ofNat (48 + n % 10)] := by rw [Lib.decDigits, dif_neg h]
      have IH := ih (n / 10) (by omega) (by omega)
      have h' : ¬ (n : Int) < 10 := by omega
      have hq : ((n / 10 : Nat) : Int) = (n : Int) / 10 := by omega
      have hr : ((n % 10 : Nat) : Int) = (n : Int) % 10 := by omega
      have hen := enc_d8 (n % 10) (by omega)
      have hsz : (ba (Lib.decDigits (n / 10))).size ≤ 20 := by rw [ba_size]; exact decDigits_le _ (by omega)
      have hdl : (ba [UInt8.ofNat (48 + n % 10)]).size = 1 := rfl
      have hcat : ba (Lib.decDigits (n / 10)) ++ ba [UInt8.ofNat (48 + n % 10)] = ba (Lib.decDigits n) := by rw [e]; exact bcat _ _
      have hno : ¬ 9223372036854775807 < (ba (Lib.decDigits (n / 10))).size + (ba [UInt8.ofNat (48 + n % 10)]).size := by omega
      rw [← hcat]
      rw [hr] at hen
      rw [hq] at IH
      rw [← hen] at hno ⊢
      clear hcat hdl hsz hen hr hq e ih
      generalize ba (Lib.decDigits (n / 10)) = A at *
      go_enter Tryz.func31, Tryz.ntmps31
      go_wp2_with fail
      refine (IH _).mono ?_
      rintro e w1 ⟨rfl, k1⟩
      go_wp2_with fail
      go_ret
      exact ⟨rfl, k1⟩
set_option maxRecDepth 100000 in
set_option maxHeartbeats 1000000 in
theorem rtabs_any (n : Nat) (hn : n ≤ 1000000000) (w : World) : Calls Tryz.prog 33 #[.int .i64 (n : Int)] w fun e w' => e = .returned (.string (ba (List.replicate n 9))) ∧ Below w.heap.size w w' := by
  go_enter Tryz.func33, Tryz.ntmps33
  go_wp2_with fail
  go_loopg [3, 4] n (fun g x y wr => ∃ (i : Nat), i ≤ n ∧ g = n - i ∧ y = .int .i64 (i : Int) ∧ x = .string (ba (List.replicate i 9)) ∧ wr = w)
  case atStart => exact ⟨0, Nat.zero_le _, rfl, rfl, rfl, rfl⟩
  case round =>
    obtain ⟨i, hi, hg, rfl, rfl, hw⟩ := hrel
    subst wr
    by_cases hlt : i < n
    · have hiI : (i : Int) < (n : Int) := by omega
      have hz : ¬ 9223372036854775807 < (ba (List.replicate i 9)).size + 1 := by rw [ba_size, List.length_replicate]; omega
      have EC := hideI (show ba (List.replicate i 9) ++ ⟨#[9]⟩ = ba (List.replicate (i + 1) 9) by rw [show (⟨#[9]⟩ : ByteArray) = ba [9] from rfl, bcat, ← List.replicate_succ'])
      generalize ba (List.replicate i 9) = A at *
      go_wp2_with fail
      go_roundg (n - (i + 1))
      case measure => omega
      case rel => exact ⟨i + 1, by omega, rfl, by go_num, by rw [unhideI EC], rfl⟩
    · have hiI : ¬ (i : Int) < (n : Int) := by omega
      obtain rfl : i = n := by omega
      go_wp2_with fail
      go_ret
      exact ⟨rfl, Below.refl _ _⟩
end Go.Proofs.YtbakhengcgclmaaGreatDoor
