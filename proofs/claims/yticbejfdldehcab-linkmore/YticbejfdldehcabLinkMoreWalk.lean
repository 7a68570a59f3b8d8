/-
  LinkMore, walked.
-/
import Derived.Test.YticbejfdldehcabLkMo
namespace Go.Proofs.Yticbejfdldehcab
open Go.RowKit Go.Maps
set_option linter.unusedSimpArgs false
set_option linter.unusedVariables false

theorem lies_lt {w : World} {s n b : Nat} {v : Value} {cs : List Value} (h : Lies w s v n cs) (hb : v.ownBlock = some b) (hn : n ≠ 0) : b < w.heap.size := by
  obtain ⟨-, ao, cap, rfl, -, -, -, h5⟩ := h
  obtain ⟨b', off, rfl, h1, -⟩ := h5 hn
  obtain rfl : b' = b := Option.some.inj hb
  exact h1
set_option maxRecDepth 100000 in
set_option maxHeartbeats 8000000 in
theorem walk_linkMore (l : List (Un × Value)) (s : ByteArray) (mu : Un) (v vm : Value) (w : World) (hl : Lies w 2 v l.length (l.flatMap cellsUV)) (hok : ∀ a ∈ l, UvOk w a) (hs : s.size ≤ maxLen) (hm : Lns w vm mu.lines) (hmk : UnOk mu) :
    Calls Try.prog 6 #[v, .string s, .agg #[.string mu.name, vm]] w fun e w' => e = .returned (.bool true) ∧ Below w.heap.size w w' := by
  obtain ⟨i0, hi0, hz0, hz1, hz2⟩ := info_parts Try.infoUnit
  have HL := hideI hl
  have HOK := hideI hok
  have HM := hideI hm
  obtain ⟨mo, mc, rfl, -, -⟩ := hm.at
  obtain ⟨-, lo, lc, rfl, -⟩ := hl
  have HU := hideI (uns_of (unhideI HL) hok)
  have HMU : Hid (UvOk w (mu, .slice mo mu.lines.length mc)) := ⟨hmk.1, hm, hmk.2⟩
  have LA := fun w h => link_any (l.map (·.1)) (.slice lo l.length lc) s w h hs
  have LB := fun v w h => link_any2 (l.map (·.1) ++ [mu]) v s w h hs
  have LM := hideI (link_more (l.map (·.1)) mu s.toList)
  have LO := fun h => link_ok (us := l.map (·.1)) (e := s.toList) h
  unfold LinkRet at LA
  unfold LinkRet2 at LB
  generalize linkL (l.map (·.1)) s.toList = R at *
  generalize linkL (l.map (·.1) ++ [mu]) s.toList = R' at *
  obtain ⟨⟨zs, os, sp⟩, er, ef⟩ := R
  obtain ⟨im', er', ef'⟩ := R'
  dsimp only at LA LB LM LO
  clear hok hm
  by_cases her : er = 0
  · subst her
    obtain ⟨h400, -⟩ := LO rfl
    rw [List.length_map] at h400
    clear LO
    go_enter Try.func6, Try.ntmps6
    go_wp2_with fail
    have BM1 := hideI (Box.new w #[.string mu.name, .slice mo mu.lines.length mc] 39)
    have K1 := hideI (below_a w (.cells #[.string mu.name, .slice mo mu.lines.length mc] 39))
    refine (alive5 _).mono ?_
    rintro e w2 ⟨rfl, k2⟩
    have BM2 := hideI ((unhideI BM1).step k2)
    have K2 := hideI (bt (unhideI K1) k2)
    clear k2 BM1 K1
    go_wp2_with fail
    refine (LA _ ((unhideI HU).step (unhideI K2))).mono ?_
    rintro e w3 ⟨vw, vu, vs, rfl, i1, i2, i3, k3⟩
    have I1 := hideI i1
    have I2 := hideI i2
    have I3 := hideI i3
    obtain ⟨b1, o1, rfl, m1, -⟩ := i1.at
    obtain ⟨b2, o2, rfl, m2, -⟩ := i2.at
    obtain ⟨-, sa, sc, rfl, -⟩ := i3
    have KA4 := bt (below_a w3 (.cells #[.slice b1 zs.length o1, .slice b2 os.length o2, .slice sa sp.length sc] 26)) (below_a _ (.cells #[.int .i64 0, .int .i64 ef] 29))
    have BM5 := hideI (((unhideI BM2).step k3).step KA4)
    have BI5 := hideI ((Box.new w3 #[.slice b1 zs.length o1, .slice b2 os.length o2, .slice sa sp.length sc] 26).step (below_a _ (.cells #[.int .i64 0, .int .i64 ef] 29)))
    have BF5 := hideI (Box.new (w3.alloc (.cells #[.slice b1 zs.length o1, .slice b2 os.length o2, .slice sa sp.length sc] 26)) #[.int .i64 0, .int .i64 ef] 29)
    simp only [World.size_alloc] at BF5
    have K5 := hideI (bt (bt (unhideI K2) k3) KA4)
    have hpb3 : w.heap.size < w3.heap.size := ((unhideI BM2).step k3).1
    have HS5 := hideI (show ((w3.alloc (.cells #[.slice b1 zs.length o1, .slice b2 os.length o2, .slice sa sp.length sc] 26)).alloc (.cells #[.int .i64 0, .int .i64 ef] 29)).heap.size = w3.heap.size + 1 + 1 by simp)
    have M1 := hideI (fun b (hb : (Value.slice b1 zs.length o1).ownBlock = some b) (hn : zs.length ≠ 0) (e : b = w3.heap.size + 1) => show False by have := lies_lt (unhideI I1) hb hn; omega)
    have M2 := hideI (fun b (hb : (Value.slice b2 os.length o2).ownBlock = some b) (hn : os.length ≠ 0) (e : b = w3.heap.size + 1) => show False by have := lies_lt (unhideI I2) hb hn; omega)
    have M3 := hideI (fun b (hb : (Value.slice sa sp.length sc).ownBlock = some b) (hn : sp.length ≠ 0) (e : b = w3.heap.size + 1) => show False by have := lies_lt (unhideI I3) hb hn; omega)
    have J1 := hideI (Lies.step (unhideI I1) KA4)
    have J2 := hideI (Lies.step (unhideI I2) KA4)
    have J3 := hideI (Lies.step (unhideI I3) KA4)
    clear KA4 k3 i1 i2 I1 I2 I3 BM2 K2
    go_wp2_with fail
    generalize (w3.alloc (.cells #[.slice b1 zs.length o1, .slice b2 os.length o2, .slice sa sp.length sc] 26)).alloc (.cells #[.int .i64 0, .int .i64 ef] 29) = w5 at *
    have HL5 := hideI (Lies.step (unhideI HL) (unhideI K5))
    have HON := hideI (uv_ones (unhideI HOK))
    have hpb := (unhideI BM5).1
    obtain ⟨c0, c1⟩ := (unhideI BM5).at2
    have HC : Hid (∀ U, Below w5.heap.size w5 U → U.cell? ⟨w.heap.size, 0, none⟩ = some (.string mu.name) ∧ U.cell? ⟨w.heap.size, 1, none⟩ = some (.slice mo mu.lines.length mc)) := fun U k => ⟨cell_keep k hpb c0, cell_keep k hpb c1⟩
    refine reg_start (fun U => U.cell? ⟨w.heap.size, 0, none⟩ = some (.string mu.name) ∧ U.cell? ⟨w.heap.size, 1, none⟩ = some (.slice mo mu.lines.length mc)) (by kernel_rfl) ?_
    have T := hideI (Sm.start w5 l [.string mu.name, .slice mo mu.lines.length mc] [.slice none 0 0, .slice none 0 0, .slice none 0 0])
    generalize w5.drew = W at *
    refine reg_seg 1 1 13 (by kernel_rfl) (by decide) (by kernel_rfl) (by kernel_rfl) (fun _ _ _ _ _ h => h) ?_
    simp only [List.take_succ_cons, List.take_zero, List.drop_succ_cons, List.drop_zero]
    repeat (refine wpSteady_step (fun K hK => ?_); go_simp; first | (refine steady_of ?_ (fun W hW => ?_) (hK _ ?_); rotate_left; (obtain ⟨hc1, hc2⟩ := hW; go_simp; first | done | rfl); clear hK K) | (refine hK _ ?_; clear hK K))
    refine wpSteady_nil ?_
    refine reg_seg 3 1 12 (by kernel_rfl) (by decide) (by kernel_rfl) (by kernel_rfl) (fun _ _ _ _ _ h => h) ?_
    simp only [List.take_succ_cons, List.take_zero, List.drop_succ_cons, List.drop_zero]
    repeat (refine wpSteady_step (fun K hK => ?_); go_simp; first | (refine steady_of ?_ (fun W hW => ?_) (hK _ ?_); rotate_left; (obtain ⟨hc1, hc2⟩ := hW; go_simp; first | done | rfl); clear hK K) | (refine hK _ ?_; clear hK K))
    refine wpSteady_nil ?_
    refine reg_seg 6 1 11 (by kernel_rfl) (by decide) (by kernel_rfl) (by kernel_rfl) (fun _ _ _ _ _ h => h) ?_
    simp only [List.take_succ_cons, List.take_zero, List.drop_succ_cons, List.drop_zero]
    repeat (refine wpSteady_step (fun K hK => ?_); go_simp; first | (refine steady_of ?_ (fun W hW => ?_) (hK _ ?_); rotate_left; (obtain ⟨hc1, hc2⟩ := hW; go_simp; first | done | rfl); clear hK K) | (refine hK _ ?_; clear hK K))
    refine wpSteady_nil ?_
    apply reg_meetM (R := fun _ v24 g26 g9 W => Sm w5 l [.string mu.name, .slice mo mu.lines.length mc] [.slice none 0 0, .slice none 0 0, .slice none 0 0] 2 true true v24 g26 g9 W)
    · intro h211
      apply reg_meetN (R := fun _ v24 g26 W => ∃ z, Sm w5 l [.string mu.name, .slice mo mu.lines.length mc] [.slice none 0 0, .slice none 0 0, .slice none 0 0] 2 true false v24 g26 z W)
      · intro h210
        refine reg_three 0 4 11 10 (by kernel_rfl) (by kernel_rfl) ((unhideI HC) W (unhideI T).kw) ?_ ?_ ?_
        · skip
          simp only [List.take_succ_cons, List.take_zero, List.drop_succ_cons, List.drop_zero]
          go_wp2_with fail
          first | refine next_nil ?_ | refine next_go ?_
          replace T := hideI (unhideI T).op0
          generalize (Value.slice (some ⟨W.heap.size, 0, none⟩) 0 0) = v22 at *
          generalize W.alloc (.cells #[] 39) = W at *
          refine reg_three 2 4 11 9 (by kernel_rfl) (by kernel_rfl) ((unhideI HC) W (unhideI T).kw) ?_ ?_ ?_
          · skip
            simp only [List.take_succ_cons, List.take_zero, List.drop_succ_cons, List.drop_zero]
            refine append_lies_at rfl (.tmp 22) (.tmp 23) 22 rfl w5.heap.size 39 i0 (.agg #[.string ⟨#[]⟩, .slice none 0 0]) 2 40 Try.underlying22 hi0 hz0 hz1 hz2 rfl (by decide) _ _ _ rfl ((unhideI T).own (by decide)) _ l.length (l.flatMap cellsUV) rfl (Lies.step (unhideI HL5) (unhideI T).kw) (unhideI HON) (by unfold maxLen; simp; omega) (by simp; omega) (unhideI T).kw.size ?_
            intro v24 W n1 n2 n3
            go_wp2_with fail
            first | refine next_nil ?_ | refine next_go ?_
            replace T := hideI ((unhideI T).op2 n1 n2 n3)
            clear n1 n2 n3
            refine reg_two 4 11 8 (by kernel_rfl) (by kernel_rfl) ((unhideI HC) W (unhideI T).kw) ?_ ?_
            · skip
              simp only [List.take_succ_cons, List.take_zero, List.drop_succ_cons, List.drop_zero]
              go_wp2_with fail
              first | refine next_nil ?_ | refine next_go ?_
              replace T := hideI (Sm.op4 (T := 39) (xs := #[.string mu.name, .slice mo mu.lines.length mc]) (unhideI T))
              generalize W.heap.size = g26 at *
              generalize W.alloc (.cells #[.string mu.name, .slice mo mu.lines.length mc] 39) = W at *
              exact h210 v22 v24 g26 W ⟨_, unhideI T⟩
            · skip
              simp only [List.take_succ_cons, List.take_zero, List.drop_succ_cons, List.drop_zero]
              go_wp2_with fail
              first | refine next_nil ?_ | refine next_go ?_
              replace T := hideI (Sm.op11 (T := 26) (xs := #[.slice none 0 0, .slice none 0 0, .slice none 0 0]) (unhideI T))
              generalize W.heap.size = g9 at *
              generalize W.alloc (.cells #[.slice none 0 0, .slice none 0 0, .slice none 0 0] 26) = W at *
              refine reg_one 4 7 (by kernel_rfl) (by kernel_rfl) ((unhideI HC) W (unhideI T).kw) ?_
              simp only [List.take_succ_cons, List.take_zero, List.drop_succ_cons, List.drop_zero]
              go_wp2_with fail
              first | refine next_nil ?_ | refine next_go ?_
              replace T := hideI (Sm.op4 (T := 39) (xs := #[.string mu.name, .slice mo mu.lines.length mc]) (unhideI T))
              generalize W.heap.size = g26 at *
              generalize W.alloc (.cells #[.string mu.name, .slice mo mu.lines.length mc] 39) = W at *
              exact h211 v22 v24 g26 g9 W (unhideI T)
          · skip
            simp only [List.take_succ_cons, List.take_zero, List.drop_succ_cons, List.drop_zero]
            go_wp2_with fail
            first | refine next_nil ?_ | refine next_go ?_
            replace T := hideI (Sm.op4 (T := 39) (xs := #[.string mu.name, .slice mo mu.lines.length mc]) (unhideI T))
            generalize W.heap.size = g26 at *
            generalize W.alloc (.cells #[.string mu.name, .slice mo mu.lines.length mc] 39) = W at *
            refine reg_two 2 11 8 (by kernel_rfl) (by kernel_rfl) ((unhideI HC) W (unhideI T).kw) ?_ ?_
            · skip
              simp only [List.take_succ_cons, List.take_zero, List.drop_succ_cons, List.drop_zero]
              refine append_lies_at rfl (.tmp 22) (.tmp 23) 22 rfl w5.heap.size 39 i0 (.agg #[.string ⟨#[]⟩, .slice none 0 0]) 2 40 Try.underlying22 hi0 hz0 hz1 hz2 rfl (by decide) _ _ _ rfl ((unhideI T).own (by decide)) _ l.length (l.flatMap cellsUV) rfl (Lies.step (unhideI HL5) (unhideI T).kw) (unhideI HON) (by unfold maxLen; simp; omega) (by simp; omega) (unhideI T).kw.size ?_
              intro v24 W n1 n2 n3
              go_wp2_with fail
              first | refine next_nil ?_ | refine next_go ?_
              replace T := hideI ((unhideI T).op2 n1 n2 n3)
              clear n1 n2 n3
              exact h210 v22 v24 g26 W ⟨_, unhideI T⟩
            · skip
              simp only [List.take_succ_cons, List.take_zero, List.drop_succ_cons, List.drop_zero]
              go_wp2_with fail
              first | refine next_nil ?_ | refine next_go ?_
              replace T := hideI (Sm.op11 (T := 26) (xs := #[.slice none 0 0, .slice none 0 0, .slice none 0 0]) (unhideI T))
              generalize W.heap.size = g9 at *
              generalize W.alloc (.cells #[.slice none 0 0, .slice none 0 0, .slice none 0 0] 26) = W at *
              refine reg_one 2 7 (by kernel_rfl) (by kernel_rfl) ((unhideI HC) W (unhideI T).kw) ?_
              simp only [List.take_succ_cons, List.take_zero, List.drop_succ_cons, List.drop_zero]
              refine append_lies_at rfl (.tmp 22) (.tmp 23) 22 rfl w5.heap.size 39 i0 (.agg #[.string ⟨#[]⟩, .slice none 0 0]) 2 40 Try.underlying22 hi0 hz0 hz1 hz2 rfl (by decide) _ _ _ rfl ((unhideI T).own (by decide)) _ l.length (l.flatMap cellsUV) rfl (Lies.step (unhideI HL5) (unhideI T).kw) (unhideI HON) (by unfold maxLen; simp; omega) (by simp; omega) (unhideI T).kw.size ?_
              intro v24 W n1 n2 n3
              go_wp2_with fail
              first | refine next_nil ?_ | refine next_go ?_
              replace T := hideI ((unhideI T).op2 n1 n2 n3)
              clear n1 n2 n3
              exact h211 v22 v24 g26 g9 W (unhideI T)
          · skip
            simp only [List.take_succ_cons, List.take_zero, List.drop_succ_cons, List.drop_zero]
            go_wp2_with fail
            first | refine next_nil ?_ | refine next_go ?_
            replace T := hideI (Sm.op11 (T := 26) (xs := #[.slice none 0 0, .slice none 0 0, .slice none 0 0]) (unhideI T))
            generalize W.heap.size = g9 at *
            generalize W.alloc (.cells #[.slice none 0 0, .slice none 0 0, .slice none 0 0] 26) = W at *
            refine reg_two 2 4 8 (by kernel_rfl) (by kernel_rfl) ((unhideI HC) W (unhideI T).kw) ?_ ?_
            · skip
              simp only [List.take_succ_cons, List.take_zero, List.drop_succ_cons, List.drop_zero]
              refine append_lies_at rfl (.tmp 22) (.tmp 23) 22 rfl w5.heap.size 39 i0 (.agg #[.string ⟨#[]⟩, .slice none 0 0]) 2 40 Try.underlying22 hi0 hz0 hz1 hz2 rfl (by decide) _ _ _ rfl ((unhideI T).own (by decide)) _ l.length (l.flatMap cellsUV) rfl (Lies.step (unhideI HL5) (unhideI T).kw) (unhideI HON) (by unfold maxLen; simp; omega) (by simp; omega) (unhideI T).kw.size ?_
              intro v24 W n1 n2 n3
              go_wp2_with fail
              first | refine next_nil ?_ | refine next_go ?_
              replace T := hideI ((unhideI T).op2 n1 n2 n3)
              clear n1 n2 n3
              refine reg_one 4 7 (by kernel_rfl) (by kernel_rfl) ((unhideI HC) W (unhideI T).kw) ?_
              simp only [List.take_succ_cons, List.take_zero, List.drop_succ_cons, List.drop_zero]
              go_wp2_with fail
              first | refine next_nil ?_ | refine next_go ?_
              replace T := hideI (Sm.op4 (T := 39) (xs := #[.string mu.name, .slice mo mu.lines.length mc]) (unhideI T))
              generalize W.heap.size = g26 at *
              generalize W.alloc (.cells #[.string mu.name, .slice mo mu.lines.length mc] 39) = W at *
              exact h211 v22 v24 g26 g9 W (unhideI T)
            · skip
              simp only [List.take_succ_cons, List.take_zero, List.drop_succ_cons, List.drop_zero]
              go_wp2_with fail
              first | refine next_nil ?_ | refine next_go ?_
              replace T := hideI (Sm.op4 (T := 39) (xs := #[.string mu.name, .slice mo mu.lines.length mc]) (unhideI T))
              generalize W.heap.size = g26 at *
              generalize W.alloc (.cells #[.string mu.name, .slice mo mu.lines.length mc] 39) = W at *
              refine reg_one 2 7 (by kernel_rfl) (by kernel_rfl) ((unhideI HC) W (unhideI T).kw) ?_
              simp only [List.take_succ_cons, List.take_zero, List.drop_succ_cons, List.drop_zero]
              refine append_lies_at rfl (.tmp 22) (.tmp 23) 22 rfl w5.heap.size 39 i0 (.agg #[.string ⟨#[]⟩, .slice none 0 0]) 2 40 Try.underlying22 hi0 hz0 hz1 hz2 rfl (by decide) _ _ _ rfl ((unhideI T).own (by decide)) _ l.length (l.flatMap cellsUV) rfl (Lies.step (unhideI HL5) (unhideI T).kw) (unhideI HON) (by unfold maxLen; simp; omega) (by simp; omega) (unhideI T).kw.size ?_
              intro v24 W n1 n2 n3
              go_wp2_with fail
              first | refine next_nil ?_ | refine next_go ?_
              replace T := hideI ((unhideI T).op2 n1 n2 n3)
              clear n1 n2 n3
              exact h211 v22 v24 g26 g9 W (unhideI T)
        · skip
          simp only [List.take_succ_cons, List.take_zero, List.drop_succ_cons, List.drop_zero]
          go_wp2_with fail
          first | refine next_nil ?_ | refine next_go ?_
          replace T := hideI (Sm.op4 (T := 39) (xs := #[.string mu.name, .slice mo mu.lines.length mc]) (unhideI T))
          generalize W.heap.size = g26 at *
          generalize W.alloc (.cells #[.string mu.name, .slice mo mu.lines.length mc] 39) = W at *
          refine reg_two 0 11 9 (by kernel_rfl) (by kernel_rfl) ((unhideI HC) W (unhideI T).kw) ?_ ?_
          · skip
            simp only [List.take_succ_cons, List.take_zero, List.drop_succ_cons, List.drop_zero]
            go_wp2_with fail
            first | refine next_nil ?_ | refine next_go ?_
            replace T := hideI (unhideI T).op0
            generalize (Value.slice (some ⟨W.heap.size, 0, none⟩) 0 0) = v22 at *
            generalize W.alloc (.cells #[] 39) = W at *
            refine reg_two 2 11 8 (by kernel_rfl) (by kernel_rfl) ((unhideI HC) W (unhideI T).kw) ?_ ?_
            · skip
              simp only [List.take_succ_cons, List.take_zero, List.drop_succ_cons, List.drop_zero]
              refine append_lies_at rfl (.tmp 22) (.tmp 23) 22 rfl w5.heap.size 39 i0 (.agg #[.string ⟨#[]⟩, .slice none 0 0]) 2 40 Try.underlying22 hi0 hz0 hz1 hz2 rfl (by decide) _ _ _ rfl ((unhideI T).own (by decide)) _ l.length (l.flatMap cellsUV) rfl (Lies.step (unhideI HL5) (unhideI T).kw) (unhideI HON) (by unfold maxLen; simp; omega) (by simp; omega) (unhideI T).kw.size ?_
              intro v24 W n1 n2 n3
              go_wp2_with fail
              first | refine next_nil ?_ | refine next_go ?_
              replace T := hideI ((unhideI T).op2 n1 n2 n3)
              clear n1 n2 n3
              exact h210 v22 v24 g26 W ⟨_, unhideI T⟩
            · skip
              simp only [List.take_succ_cons, List.take_zero, List.drop_succ_cons, List.drop_zero]
              go_wp2_with fail
              first | refine next_nil ?_ | refine next_go ?_
              replace T := hideI (Sm.op11 (T := 26) (xs := #[.slice none 0 0, .slice none 0 0, .slice none 0 0]) (unhideI T))
              generalize W.heap.size = g9 at *
              generalize W.alloc (.cells #[.slice none 0 0, .slice none 0 0, .slice none 0 0] 26) = W at *
              refine reg_one 2 7 (by kernel_rfl) (by kernel_rfl) ((unhideI HC) W (unhideI T).kw) ?_
              simp only [List.take_succ_cons, List.take_zero, List.drop_succ_cons, List.drop_zero]
              refine append_lies_at rfl (.tmp 22) (.tmp 23) 22 rfl w5.heap.size 39 i0 (.agg #[.string ⟨#[]⟩, .slice none 0 0]) 2 40 Try.underlying22 hi0 hz0 hz1 hz2 rfl (by decide) _ _ _ rfl ((unhideI T).own (by decide)) _ l.length (l.flatMap cellsUV) rfl (Lies.step (unhideI HL5) (unhideI T).kw) (unhideI HON) (by unfold maxLen; simp; omega) (by simp; omega) (unhideI T).kw.size ?_
              intro v24 W n1 n2 n3
              go_wp2_with fail
              first | refine next_nil ?_ | refine next_go ?_
              replace T := hideI ((unhideI T).op2 n1 n2 n3)
              clear n1 n2 n3
              exact h211 v22 v24 g26 g9 W (unhideI T)
          · skip
            simp only [List.take_succ_cons, List.take_zero, List.drop_succ_cons, List.drop_zero]
            go_wp2_with fail
            first | refine next_nil ?_ | refine next_go ?_
            replace T := hideI (Sm.op11 (T := 26) (xs := #[.slice none 0 0, .slice none 0 0, .slice none 0 0]) (unhideI T))
            generalize W.heap.size = g9 at *
            generalize W.alloc (.cells #[.slice none 0 0, .slice none 0 0, .slice none 0 0] 26) = W at *
            refine reg_one 0 8 (by kernel_rfl) (by kernel_rfl) ((unhideI HC) W (unhideI T).kw) ?_
            simp only [List.take_succ_cons, List.take_zero, List.drop_succ_cons, List.drop_zero]
            go_wp2_with fail
            first | refine next_nil ?_ | refine next_go ?_
            replace T := hideI (unhideI T).op0
            generalize (Value.slice (some ⟨W.heap.size, 0, none⟩) 0 0) = v22 at *
            generalize W.alloc (.cells #[] 39) = W at *
            refine reg_one 2 7 (by kernel_rfl) (by kernel_rfl) ((unhideI HC) W (unhideI T).kw) ?_
            simp only [List.take_succ_cons, List.take_zero, List.drop_succ_cons, List.drop_zero]
            refine append_lies_at rfl (.tmp 22) (.tmp 23) 22 rfl w5.heap.size 39 i0 (.agg #[.string ⟨#[]⟩, .slice none 0 0]) 2 40 Try.underlying22 hi0 hz0 hz1 hz2 rfl (by decide) _ _ _ rfl ((unhideI T).own (by decide)) _ l.length (l.flatMap cellsUV) rfl (Lies.step (unhideI HL5) (unhideI T).kw) (unhideI HON) (by unfold maxLen; simp; omega) (by simp; omega) (unhideI T).kw.size ?_
            intro v24 W n1 n2 n3
            go_wp2_with fail
            first | refine next_nil ?_ | refine next_go ?_
            replace T := hideI ((unhideI T).op2 n1 n2 n3)
            clear n1 n2 n3
            exact h211 v22 v24 g26 g9 W (unhideI T)
        · skip
          simp only [List.take_succ_cons, List.take_zero, List.drop_succ_cons, List.drop_zero]
          go_wp2_with fail
          first | refine next_nil ?_ | refine next_go ?_
          replace T := hideI (Sm.op11 (T := 26) (xs := #[.slice none 0 0, .slice none 0 0, .slice none 0 0]) (unhideI T))
          generalize W.heap.size = g9 at *
          generalize W.alloc (.cells #[.slice none 0 0, .slice none 0 0, .slice none 0 0] 26) = W at *
          refine reg_two 0 4 9 (by kernel_rfl) (by kernel_rfl) ((unhideI HC) W (unhideI T).kw) ?_ ?_
          · skip
            simp only [List.take_succ_cons, List.take_zero, List.drop_succ_cons, List.drop_zero]
            go_wp2_with fail
            first | refine next_nil ?_ | refine next_go ?_
            replace T := hideI (unhideI T).op0
            generalize (Value.slice (some ⟨W.heap.size, 0, none⟩) 0 0) = v22 at *
            generalize W.alloc (.cells #[] 39) = W at *
            refine reg_two 2 4 8 (by kernel_rfl) (by kernel_rfl) ((unhideI HC) W (unhideI T).kw) ?_ ?_
            · skip
              simp only [List.take_succ_cons, List.take_zero, List.drop_succ_cons, List.drop_zero]
              refine append_lies_at rfl (.tmp 22) (.tmp 23) 22 rfl w5.heap.size 39 i0 (.agg #[.string ⟨#[]⟩, .slice none 0 0]) 2 40 Try.underlying22 hi0 hz0 hz1 hz2 rfl (by decide) _ _ _ rfl ((unhideI T).own (by decide)) _ l.length (l.flatMap cellsUV) rfl (Lies.step (unhideI HL5) (unhideI T).kw) (unhideI HON) (by unfold maxLen; simp; omega) (by simp; omega) (unhideI T).kw.size ?_
              intro v24 W n1 n2 n3
              go_wp2_with fail
              first | refine next_nil ?_ | refine next_go ?_
              replace T := hideI ((unhideI T).op2 n1 n2 n3)
              clear n1 n2 n3
              refine reg_one 4 7 (by kernel_rfl) (by kernel_rfl) ((unhideI HC) W (unhideI T).kw) ?_
              simp only [List.take_succ_cons, List.take_zero, List.drop_succ_cons, List.drop_zero]
              go_wp2_with fail
              first | refine next_nil ?_ | refine next_go ?_
              replace T := hideI (Sm.op4 (T := 39) (xs := #[.string mu.name, .slice mo mu.lines.length mc]) (unhideI T))
              generalize W.heap.size = g26 at *
              generalize W.alloc (.cells #[.string mu.name, .slice mo mu.lines.length mc] 39) = W at *
              exact h211 v22 v24 g26 g9 W (unhideI T)
            · skip
              simp only [List.take_succ_cons, List.take_zero, List.drop_succ_cons, List.drop_zero]
              go_wp2_with fail
              first | refine next_nil ?_ | refine next_go ?_
              replace T := hideI (Sm.op4 (T := 39) (xs := #[.string mu.name, .slice mo mu.lines.length mc]) (unhideI T))
              generalize W.heap.size = g26 at *
              generalize W.alloc (.cells #[.string mu.name, .slice mo mu.lines.length mc] 39) = W at *
              refine reg_one 2 7 (by kernel_rfl) (by kernel_rfl) ((unhideI HC) W (unhideI T).kw) ?_
              simp only [List.take_succ_cons, List.take_zero, List.drop_succ_cons, List.drop_zero]
              refine append_lies_at rfl (.tmp 22) (.tmp 23) 22 rfl w5.heap.size 39 i0 (.agg #[.string ⟨#[]⟩, .slice none 0 0]) 2 40 Try.underlying22 hi0 hz0 hz1 hz2 rfl (by decide) _ _ _ rfl ((unhideI T).own (by decide)) _ l.length (l.flatMap cellsUV) rfl (Lies.step (unhideI HL5) (unhideI T).kw) (unhideI HON) (by unfold maxLen; simp; omega) (by simp; omega) (unhideI T).kw.size ?_
              intro v24 W n1 n2 n3
              go_wp2_with fail
              first | refine next_nil ?_ | refine next_go ?_
              replace T := hideI ((unhideI T).op2 n1 n2 n3)
              clear n1 n2 n3
              exact h211 v22 v24 g26 g9 W (unhideI T)
          · skip
            simp only [List.take_succ_cons, List.take_zero, List.drop_succ_cons, List.drop_zero]
            go_wp2_with fail
            first | refine next_nil ?_ | refine next_go ?_
            replace T := hideI (Sm.op4 (T := 39) (xs := #[.string mu.name, .slice mo mu.lines.length mc]) (unhideI T))
            generalize W.heap.size = g26 at *
            generalize W.alloc (.cells #[.string mu.name, .slice mo mu.lines.length mc] 39) = W at *
            refine reg_one 0 8 (by kernel_rfl) (by kernel_rfl) ((unhideI HC) W (unhideI T).kw) ?_
            simp only [List.take_succ_cons, List.take_zero, List.drop_succ_cons, List.drop_zero]
            go_wp2_with fail
            first | refine next_nil ?_ | refine next_go ?_
            replace T := hideI (unhideI T).op0
            generalize (Value.slice (some ⟨W.heap.size, 0, none⟩) 0 0) = v22 at *
            generalize W.alloc (.cells #[] 39) = W at *
            refine reg_one 2 7 (by kernel_rfl) (by kernel_rfl) ((unhideI HC) W (unhideI T).kw) ?_
            simp only [List.take_succ_cons, List.take_zero, List.drop_succ_cons, List.drop_zero]
            refine append_lies_at rfl (.tmp 22) (.tmp 23) 22 rfl w5.heap.size 39 i0 (.agg #[.string ⟨#[]⟩, .slice none 0 0]) 2 40 Try.underlying22 hi0 hz0 hz1 hz2 rfl (by decide) _ _ _ rfl ((unhideI T).own (by decide)) _ l.length (l.flatMap cellsUV) rfl (Lies.step (unhideI HL5) (unhideI T).kw) (unhideI HON) (by unfold maxLen; simp; omega) (by simp; omega) (unhideI T).kw.size ?_
            intro v24 W n1 n2 n3
            go_wp2_with fail
            first | refine next_nil ?_ | refine next_go ?_
            replace T := hideI ((unhideI T).op2 n1 n2 n3)
            clear n1 n2 n3
            exact h211 v22 v24 g26 g9 W (unhideI T)
      · intro v22 v24 g26 W T0
        obtain ⟨z, T0⟩ := T0
        have T := hideI T0
        clear T0
        refine reg_two 5 11 7 (by kernel_rfl) (by kernel_rfl) ((unhideI HC) W (unhideI T).kw) ?_ ?_
        · skip
          simp only [List.take_succ_cons, List.take_zero, List.drop_succ_cons, List.drop_zero]
          refine wpList_append_lies _ rfl (.tmp 24) (.tmp 26) 22 rfl w5.heap.size 39 i0 (.agg #[.string ⟨#[]⟩, .slice none 0 0]) 2 40 Try.underlying22 hi0 hz0 hz1 hz2 rfl (by decide) _ _ _ rfl ((unhideI T).own (by decide)) ⟨g26, 0, none⟩ 1 1 [.string mu.name, .slice mo mu.lines.length mc] rfl rfl (box_add ((unhideI T).b26 rfl).1) (by simp [Value.oneCell']) (by decide) (by unfold maxLen; simp; omega) (by simp; omega) (unhideI T).kw.size _ rfl ?_
          intro g27 cap27 W n1 n2 n3 n4
          go_wp2_with fail
          first | refine next_nil ?_ | refine next_go ?_
          replace T := hideI ((unhideI T).op5 (unhideI K5) (unhideI HOK) (unhideI HMU) n1 rfl rfl n2)
          clear n1 n2 n3 n4
          refine reg_two 7 11 6 (by kernel_rfl) (by kernel_rfl) ((unhideI HC) W (unhideI T).kw) ?_ ?_
          · skip
            simp only [List.take_succ_cons, List.take_zero, List.drop_succ_cons, List.drop_zero]
            go_wp2_with fail
            refine (LB _ _ (unhideI T).uns).mono ?_
            rintro e W ⟨vw', vu', vs', rfl, i1', i2', i3', k', nw'⟩
            have Q1 := hideI i1'
            have Q2 := hideI i2'
            have Q3 := hideI i3'
            obtain ⟨b1', o1', rfl, -, -⟩ := i1'.at
            obtain ⟨b2', o2', rfl, -, -⟩ := i2'.at
            obtain ⟨-, sa', sc', rfl, -⟩ := i3'
            have NW := hideI (fun k hk => Nat.le_trans (unhideI T).kw.size (nw' k hk))
            replace T := hideI ((unhideI T).step k')
            clear nw'
            clear i1' i2' k'
            go_wp2_with fail
            first | refine next_nil ?_ | refine next_go ?_
            refine reg_seg 8 3 3 (by kernel_rfl) (by decide) (by kernel_rfl) (by kernel_rfl) (fun _ _ _ _ _ h => h) ?_
            simp only [List.take_succ_cons, List.take_zero, List.drop_succ_cons, List.drop_zero]
            repeat (refine wpSteady_step (fun K hK => ?_); go_simp; first | (refine steady_of ?_ (fun W hW => ?_) (hK _ ?_); rotate_left; (obtain ⟨hc1, hc2⟩ := hW; go_simp; first | done | rfl); clear hK K) | (refine hK _ ?_; clear hK K))
            refine wpSteady_nil ?_
            refine reg_one 11 2 (by kernel_rfl) (by kernel_rfl) ((unhideI HC) W (unhideI T).kw) ?_
            simp only [List.take_succ_cons, List.take_zero, List.drop_succ_cons, List.drop_zero]
            go_wp2_with fail
            first | refine next_nil ?_ | refine next_go ?_
            have N1 := hideI (fun b (hb : (Value.slice b1' im'.words.length o1').ownBlock = some b) (hn : im'.words.length ≠ 0) (e : b = W.heap.size) => show False by have := lies_lt (unhideI Q1) hb hn; omega)
            have N2 := hideI (fun b (hb : (Value.slice b2' im'.units.length o2').ownBlock = some b) (hn : im'.units.length ≠ 0) (e : b = W.heap.size) => show False by have := lies_lt (unhideI Q2) hb hn; omega)
            have N3 := hideI (fun b (hb : (Value.slice sa' im'.spots.length sc').ownBlock = some b) (hn : im'.spots.length ≠ 0) (e : b = W.heap.size) => show False by have := lies_lt (unhideI Q3) hb hn; omega)
            replace T := hideI (Sn.op11 (T := 26) (xs := #[.slice none 0 0, .slice none 0 0, .slice none 0 0]) (unhideI T))
            replace Q1 := hideI (Lies.step (unhideI Q1) (below_a _ (.cells #[.slice none 0 0, .slice none 0 0, .slice none 0 0] 26)))
            replace Q2 := hideI (Lies.step (unhideI Q2) (below_a _ (.cells #[.slice none 0 0, .slice none 0 0, .slice none 0 0] 26)))
            replace Q3 := hideI (Lies.step (unhideI Q3) (below_a _ (.cells #[.slice none 0 0, .slice none 0 0, .slice none 0 0] 26)))
            generalize W.heap.size = g9 at *
            generalize W.alloc (.cells #[.slice none 0 0, .slice none 0 0, .slice none 0 0] 26) = W at *
            have B9 := hideI ((unhideI T).b9 rfl).1
            have hg9 := ((unhideI T).b9 rfl).2
            obtain ⟨q0, q1, q2⟩ := (unhideI B9).at3
            have q3 := (unhideI B9).2.2
            have hb9 := (unhideI B9).1
            refine reg_one 12 1 (by kernel_rfl) (by kernel_rfl) ((unhideI HC) W (unhideI T).kw) ?_
            simp only [List.take_succ_cons, List.take_zero, List.drop_succ_cons, List.drop_zero]
            go_wp2_with fail
            first | refine next_nil ?_ | refine next_go ?_
            have KX : Kpt (fun k => k = g9) W (((W.setCell ⟨g9, 0, none⟩ (.slice b1' im'.words.length o1')).setCell ⟨g9, 1, none⟩ (.slice b2' im'.units.length o2')).setCell ⟨g9, 2, none⟩ (.slice sa' im'.spots.length sc')) := (Kpt.set2 _ _ _ _).trans (Kpt.setCell (X := fun k => k = g9) _ _ rfl) (fun _ h => h) (fun _ h _ => h)
            have B10 := hideI ((((unhideI B9).set (j := 0) (u := .slice b1' im'.words.length o1') (by simp)).set (j := 1) (u := .slice b2' im'.units.length o2') (by simp)).set (j := 2) (u := .slice sa' im'.spots.length sc') (by simp))
            have KW10 := hideI ((unhideI T).kw.trans (KX.below (unhideI T).kw.size (fun k hk => by omega)))
            replace Q1 := hideI (lies_kpt (unhideI Q1) KX (unhideI N1))
            replace Q2 := hideI (lies_kpt (unhideI Q2) KX (unhideI N2))
            replace Q3 := hideI (lies_kpt (unhideI Q3) KX (unhideI N3))
            clear q0 q1 q2 q3 KX T B9
            generalize ((W.setCell ⟨g9, 0, none⟩ (.slice b1' im'.words.length o1')).setCell ⟨g9, 1, none⟩ (.slice b2' im'.units.length o2')).setCell ⟨g9, 2, none⟩ (.slice sa' im'.spots.length sc') = W10 at *
            have BF10 := hideI ((unhideI BF5).step (unhideI KW10))
            have BI10 := hideI ((unhideI BI5).step (unhideI KW10))
            have P1 := hideI (Lies.step (unhideI J1) (unhideI KW10))
            have P2 := hideI (Lies.step (unhideI J2) (unhideI KW10))
            have P3 := hideI (Lies.step (unhideI J3) (unhideI KW10))
            obtain ⟨f0, f1⟩ := (unhideI BF10).at2
            have f2 := (unhideI BF10).2.2
            refine reg_one 13 0 (by kernel_rfl) (by kernel_rfl) ((unhideI HC) W10 (unhideI KW10)) ?_
            simp only [List.take_succ_cons, List.take_zero, List.drop_succ_cons, List.drop_zero]
            go_wp2_with fail
            first | refine next_nil ?_ | refine next_go ?_
            have s5 := unhideI HS5
            have s10 := (unhideI KW10).size
            have KY : Kpt (fun k => k = w3.heap.size + 1) W10 ((W10.setCell ⟨w3.heap.size + 1, 0, none⟩ (.int .i64 er')).setCell ⟨w3.heap.size + 1, 1, none⟩ (.int .i64 ef')) := Kpt.set2 _ _ _ _
            have hcl := (unhideI HC) W10 (unhideI KW10)
            refine reg_end (by kernel_rfl) ⟨by rw [KY.cell (by omega) (by omega)]; exact hcl.1, by rw [KY.cell (by omega) (by omega)]; exact hcl.2⟩ ?_
            have B11 := hideI ((unhideI B10).kpt KY (by omega))
            have BI11 := hideI ((unhideI BI10).kpt KY (by omega))
            have BF11 := hideI (((unhideI BF10).set (j := 0) (u := .int .i64 er') (by simp)).set (j := 1) (u := .int .i64 ef') (by simp))
            replace P1 := hideI (lies_kpt (unhideI P1) KY (unhideI M1))
            replace P2 := hideI (lies_kpt (unhideI P2) KY (unhideI M2))
            replace P3 := hideI (lies_kpt (unhideI P3) KY (unhideI M3))
            replace Q1 := hideI (lies_kpt (unhideI Q1) KY (fun b hb _ e => by have := (unhideI NW) b (.inl hb); omega))
            replace Q2 := hideI (lies_kpt (unhideI Q2) KY (fun b hb _ e => by have := (unhideI NW) b (.inr (.inl hb)); omega))
            replace Q3 := hideI (lies_kpt (unhideI Q3) KY (fun b hb _ e => by have := (unhideI NW) b (.inr (.inr hb)); omega))
            have KWF := hideI ((bt (unhideI K5) (unhideI KW10)).trans (KY.below (by omega) (fun k hk => by omega)))
            clear f0 f1 f2 KY hcl s5 s10 BF10 BI10 B10
            generalize (W10.setCell ⟨w3.heap.size + 1, 0, none⟩ (.int .i64 er')).setCell ⟨w3.heap.size + 1, 1, none⟩ (.int .i64 ef') = W11 at *
            obtain ⟨f0, f1⟩ := (unhideI BF11).at2
            by_cases her' : er' = 0
            · subst her'
              have hlm := (unhideI LM) trivial rfl
              injection hlm with hl1 _
              subst hl1
              obtain ⟨q0, q1, q2⟩ := (unhideI BI11).at3
              obtain ⟨r0, r1, r2⟩ := (unhideI B11).at3
              have SM := same5_yes ⟨zs, os, sp⟩ (.slice b1 zs.length o1) (.slice b2 os.length o2) (.slice sa sp.length sc) (.slice b1' zs.length o1') (.slice b2' os.length o2') (.slice sa' sp.length sc') W11 (unhideI P1) (unhideI Q1) (unhideI P2) (unhideI Q2) (unhideI P3) (unhideI Q3)
              dsimp only at r0 r1 r2
              go_wp2_with fail
              refine SM.mono ?_
              rintro e W12 ⟨rfl, k12⟩
              go_wp2_with fail
              go_ret
              exact ⟨rfl, bt (unhideI KWF) k12⟩
            · have her2' : (er' != 0) = true := by simpa using her'
              go_wp2_with fail
              go_ret
              exact ⟨rfl, unhideI KWF⟩
          · skip
            simp only [List.take_succ_cons, List.take_zero, List.drop_succ_cons, List.drop_zero]
            go_wp2_with fail
            first | refine next_nil ?_ | refine next_go ?_
            replace T := hideI (Sn.op11 (T := 26) (xs := #[.slice none 0 0, .slice none 0 0, .slice none 0 0]) (unhideI T))
            generalize W.heap.size = g9 at *
            generalize W.alloc (.cells #[.slice none 0 0, .slice none 0 0, .slice none 0 0] 26) = W at *
            refine reg_one 7 5 (by kernel_rfl) (by kernel_rfl) ((unhideI HC) W (unhideI T).kw) ?_
            simp only [List.take_succ_cons, List.take_zero, List.drop_succ_cons, List.drop_zero]
            go_wp2_with fail
            refine (LB _ _ (unhideI T).uns).mono ?_
            rintro e W ⟨vw', vu', vs', rfl, i1', i2', i3', k', nw'⟩
            have Q1 := hideI i1'
            have Q2 := hideI i2'
            have Q3 := hideI i3'
            obtain ⟨b1', o1', rfl, -, -⟩ := i1'.at
            obtain ⟨b2', o2', rfl, -, -⟩ := i2'.at
            obtain ⟨-, sa', sc', rfl, -⟩ := i3'
            have hb9o := ((unhideI T).b9 rfl).1.1
            have N1 := hideI (fun b (hb : (Value.slice b1' im'.words.length o1').ownBlock = some b) (_ : im'.words.length ≠ 0) (e : b = g9) => show False by have := nw' b (.inl hb); omega)
            have N2 := hideI (fun b (hb : (Value.slice b2' im'.units.length o2').ownBlock = some b) (_ : im'.units.length ≠ 0) (e : b = g9) => show False by have := nw' b (.inr (.inl hb)); omega)
            have N3 := hideI (fun b (hb : (Value.slice sa' im'.spots.length sc').ownBlock = some b) (_ : im'.spots.length ≠ 0) (e : b = g9) => show False by have := nw' b (.inr (.inr hb)); omega)
            have NW := hideI (fun k hk => Nat.le_trans (unhideI T).kw.size (nw' k hk))
            replace T := hideI ((unhideI T).step k')
            clear nw' hb9o
            clear i1' i2' k'
            go_wp2_with fail
            first | refine next_nil ?_ | refine next_go ?_
            refine reg_seg 8 3 2 (by kernel_rfl) (by decide) (by kernel_rfl) (by kernel_rfl) (fun _ _ _ _ _ h => h) ?_
            simp only [List.take_succ_cons, List.take_zero, List.drop_succ_cons, List.drop_zero]
            repeat (refine wpSteady_step (fun K hK => ?_); go_simp; first | (refine steady_of ?_ (fun W hW => ?_) (hK _ ?_); rotate_left; (obtain ⟨hc1, hc2⟩ := hW; go_simp; first | done | rfl); clear hK K) | (refine hK _ ?_; clear hK K))
            refine wpSteady_nil ?_
            have B9 := hideI ((unhideI T).b9 rfl).1
            have hg9 := ((unhideI T).b9 rfl).2
            obtain ⟨q0, q1, q2⟩ := (unhideI B9).at3
            have q3 := (unhideI B9).2.2
            have hb9 := (unhideI B9).1
            refine reg_one 12 1 (by kernel_rfl) (by kernel_rfl) ((unhideI HC) W (unhideI T).kw) ?_
            simp only [List.take_succ_cons, List.take_zero, List.drop_succ_cons, List.drop_zero]
            go_wp2_with fail
            first | refine next_nil ?_ | refine next_go ?_
            have KX : Kpt (fun k => k = g9) W (((W.setCell ⟨g9, 0, none⟩ (.slice b1' im'.words.length o1')).setCell ⟨g9, 1, none⟩ (.slice b2' im'.units.length o2')).setCell ⟨g9, 2, none⟩ (.slice sa' im'.spots.length sc')) := (Kpt.set2 _ _ _ _).trans (Kpt.setCell (X := fun k => k = g9) _ _ rfl) (fun _ h => h) (fun _ h _ => h)
            have B10 := hideI ((((unhideI B9).set (j := 0) (u := .slice b1' im'.words.length o1') (by simp)).set (j := 1) (u := .slice b2' im'.units.length o2') (by simp)).set (j := 2) (u := .slice sa' im'.spots.length sc') (by simp))
            have KW10 := hideI ((unhideI T).kw.trans (KX.below (unhideI T).kw.size (fun k hk => by omega)))
            replace Q1 := hideI (lies_kpt (unhideI Q1) KX (unhideI N1))
            replace Q2 := hideI (lies_kpt (unhideI Q2) KX (unhideI N2))
            replace Q3 := hideI (lies_kpt (unhideI Q3) KX (unhideI N3))
            clear q0 q1 q2 q3 KX T B9
            generalize ((W.setCell ⟨g9, 0, none⟩ (.slice b1' im'.words.length o1')).setCell ⟨g9, 1, none⟩ (.slice b2' im'.units.length o2')).setCell ⟨g9, 2, none⟩ (.slice sa' im'.spots.length sc') = W10 at *
            have BF10 := hideI ((unhideI BF5).step (unhideI KW10))
            have BI10 := hideI ((unhideI BI5).step (unhideI KW10))
            have P1 := hideI (Lies.step (unhideI J1) (unhideI KW10))
            have P2 := hideI (Lies.step (unhideI J2) (unhideI KW10))
            have P3 := hideI (Lies.step (unhideI J3) (unhideI KW10))
            obtain ⟨f0, f1⟩ := (unhideI BF10).at2
            have f2 := (unhideI BF10).2.2
            refine reg_one 13 0 (by kernel_rfl) (by kernel_rfl) ((unhideI HC) W10 (unhideI KW10)) ?_
            simp only [List.take_succ_cons, List.take_zero, List.drop_succ_cons, List.drop_zero]
            go_wp2_with fail
            first | refine next_nil ?_ | refine next_go ?_
            have s5 := unhideI HS5
            have s10 := (unhideI KW10).size
            have KY : Kpt (fun k => k = w3.heap.size + 1) W10 ((W10.setCell ⟨w3.heap.size + 1, 0, none⟩ (.int .i64 er')).setCell ⟨w3.heap.size + 1, 1, none⟩ (.int .i64 ef')) := Kpt.set2 _ _ _ _
            have hcl := (unhideI HC) W10 (unhideI KW10)
            refine reg_end (by kernel_rfl) ⟨by rw [KY.cell (by omega) (by omega)]; exact hcl.1, by rw [KY.cell (by omega) (by omega)]; exact hcl.2⟩ ?_
            have B11 := hideI ((unhideI B10).kpt KY (by omega))
            have BI11 := hideI ((unhideI BI10).kpt KY (by omega))
            have BF11 := hideI (((unhideI BF10).set (j := 0) (u := .int .i64 er') (by simp)).set (j := 1) (u := .int .i64 ef') (by simp))
            replace P1 := hideI (lies_kpt (unhideI P1) KY (unhideI M1))
            replace P2 := hideI (lies_kpt (unhideI P2) KY (unhideI M2))
            replace P3 := hideI (lies_kpt (unhideI P3) KY (unhideI M3))
            replace Q1 := hideI (lies_kpt (unhideI Q1) KY (fun b hb _ e => by have := (unhideI NW) b (.inl hb); omega))
            replace Q2 := hideI (lies_kpt (unhideI Q2) KY (fun b hb _ e => by have := (unhideI NW) b (.inr (.inl hb)); omega))
            replace Q3 := hideI (lies_kpt (unhideI Q3) KY (fun b hb _ e => by have := (unhideI NW) b (.inr (.inr hb)); omega))
            have KWF := hideI ((bt (unhideI K5) (unhideI KW10)).trans (KY.below (by omega) (fun k hk => by omega)))
            clear f0 f1 f2 KY hcl s5 s10 BF10 BI10 B10
            generalize (W10.setCell ⟨w3.heap.size + 1, 0, none⟩ (.int .i64 er')).setCell ⟨w3.heap.size + 1, 1, none⟩ (.int .i64 ef') = W11 at *
            obtain ⟨f0, f1⟩ := (unhideI BF11).at2
            by_cases her' : er' = 0
            · subst her'
              have hlm := (unhideI LM) trivial rfl
              injection hlm with hl1 _
              subst hl1
              obtain ⟨q0, q1, q2⟩ := (unhideI BI11).at3
              obtain ⟨r0, r1, r2⟩ := (unhideI B11).at3
              have SM := same5_yes ⟨zs, os, sp⟩ (.slice b1 zs.length o1) (.slice b2 os.length o2) (.slice sa sp.length sc) (.slice b1' zs.length o1') (.slice b2' os.length o2') (.slice sa' sp.length sc') W11 (unhideI P1) (unhideI Q1) (unhideI P2) (unhideI Q2) (unhideI P3) (unhideI Q3)
              dsimp only at r0 r1 r2
              go_wp2_with fail
              refine SM.mono ?_
              rintro e W12 ⟨rfl, k12⟩
              go_wp2_with fail
              go_ret
              exact ⟨rfl, bt (unhideI KWF) k12⟩
            · have her2' : (er' != 0) = true := by simpa using her'
              go_wp2_with fail
              go_ret
              exact ⟨rfl, unhideI KWF⟩
        · skip
          simp only [List.take_succ_cons, List.take_zero, List.drop_succ_cons, List.drop_zero]
          go_wp2_with fail
          first | refine next_nil ?_ | refine next_go ?_
          replace T := hideI (Sm.op11 (T := 26) (xs := #[.slice none 0 0, .slice none 0 0, .slice none 0 0]) (unhideI T))
          generalize W.heap.size = g9 at *
          generalize W.alloc (.cells #[.slice none 0 0, .slice none 0 0, .slice none 0 0] 26) = W at *
          exact h211 v22 v24 g26 g9 W (unhideI T)
    · intro v22 v24 g26 g9 W T0
      have T := hideI T0
      clear T0
      refine reg_one 5 6 (by kernel_rfl) (by kernel_rfl) ((unhideI HC) W (unhideI T).kw) ?_
      simp only [List.take_succ_cons, List.take_zero, List.drop_succ_cons, List.drop_zero]
      refine wpList_append_lies _ rfl (.tmp 24) (.tmp 26) 22 rfl w5.heap.size 39 i0 (.agg #[.string ⟨#[]⟩, .slice none 0 0]) 2 40 Try.underlying22 hi0 hz0 hz1 hz2 rfl (by decide) _ _ _ rfl ((unhideI T).own (by decide)) ⟨g26, 0, none⟩ 1 1 [.string mu.name, .slice mo mu.lines.length mc] rfl rfl (box_add ((unhideI T).b26 rfl).1) (by simp [Value.oneCell']) (by decide) (by unfold maxLen; simp; omega) (by simp; omega) (unhideI T).kw.size _ rfl ?_
      intro g27 cap27 W n1 n2 n3 n4
      go_wp2_with fail
      first | refine next_nil ?_ | refine next_go ?_
      replace T := hideI ((unhideI T).op5 (unhideI K5) (unhideI HOK) (unhideI HMU) n1 rfl rfl n2)
      clear n1 n2 n3 n4
      refine reg_one 7 5 (by kernel_rfl) (by kernel_rfl) ((unhideI HC) W (unhideI T).kw) ?_
      simp only [List.take_succ_cons, List.take_zero, List.drop_succ_cons, List.drop_zero]
      go_wp2_with fail
      refine (LB _ _ (unhideI T).uns).mono ?_
      rintro e W ⟨vw', vu', vs', rfl, i1', i2', i3', k', nw'⟩
      have Q1 := hideI i1'
      have Q2 := hideI i2'
      have Q3 := hideI i3'
      obtain ⟨b1', o1', rfl, -, -⟩ := i1'.at
      obtain ⟨b2', o2', rfl, -, -⟩ := i2'.at
      obtain ⟨-, sa', sc', rfl, -⟩ := i3'
      have hb9o := ((unhideI T).b9 rfl).1.1
      have N1 := hideI (fun b (hb : (Value.slice b1' im'.words.length o1').ownBlock = some b) (_ : im'.words.length ≠ 0) (e : b = g9) => show False by have := nw' b (.inl hb); omega)
      have N2 := hideI (fun b (hb : (Value.slice b2' im'.units.length o2').ownBlock = some b) (_ : im'.units.length ≠ 0) (e : b = g9) => show False by have := nw' b (.inr (.inl hb)); omega)
      have N3 := hideI (fun b (hb : (Value.slice sa' im'.spots.length sc').ownBlock = some b) (_ : im'.spots.length ≠ 0) (e : b = g9) => show False by have := nw' b (.inr (.inr hb)); omega)
      have NW := hideI (fun k hk => Nat.le_trans (unhideI T).kw.size (nw' k hk))
      replace T := hideI ((unhideI T).step k')
      clear nw' hb9o
      clear i1' i2' k'
      go_wp2_with fail
      first | refine next_nil ?_ | refine next_go ?_
      refine reg_seg 8 3 2 (by kernel_rfl) (by decide) (by kernel_rfl) (by kernel_rfl) (fun _ _ _ _ _ h => h) ?_
      simp only [List.take_succ_cons, List.take_zero, List.drop_succ_cons, List.drop_zero]
      repeat (refine wpSteady_step (fun K hK => ?_); go_simp; first | (refine steady_of ?_ (fun W hW => ?_) (hK _ ?_); rotate_left; (obtain ⟨hc1, hc2⟩ := hW; go_simp; first | done | rfl); clear hK K) | (refine hK _ ?_; clear hK K))
      refine wpSteady_nil ?_
      have B9 := hideI ((unhideI T).b9 rfl).1
      have hg9 := ((unhideI T).b9 rfl).2
      obtain ⟨q0, q1, q2⟩ := (unhideI B9).at3
      have q3 := (unhideI B9).2.2
      have hb9 := (unhideI B9).1
      refine reg_one 12 1 (by kernel_rfl) (by kernel_rfl) ((unhideI HC) W (unhideI T).kw) ?_
      simp only [List.take_succ_cons, List.take_zero, List.drop_succ_cons, List.drop_zero]
      go_wp2_with fail
      first | refine next_nil ?_ | refine next_go ?_
      have KX : Kpt (fun k => k = g9) W (((W.setCell ⟨g9, 0, none⟩ (.slice b1' im'.words.length o1')).setCell ⟨g9, 1, none⟩ (.slice b2' im'.units.length o2')).setCell ⟨g9, 2, none⟩ (.slice sa' im'.spots.length sc')) := (Kpt.set2 _ _ _ _).trans (Kpt.setCell (X := fun k => k = g9) _ _ rfl) (fun _ h => h) (fun _ h _ => h)
      have B10 := hideI ((((unhideI B9).set (j := 0) (u := .slice b1' im'.words.length o1') (by simp)).set (j := 1) (u := .slice b2' im'.units.length o2') (by simp)).set (j := 2) (u := .slice sa' im'.spots.length sc') (by simp))
      have KW10 := hideI ((unhideI T).kw.trans (KX.below (unhideI T).kw.size (fun k hk => by omega)))
      replace Q1 := hideI (lies_kpt (unhideI Q1) KX (unhideI N1))
      replace Q2 := hideI (lies_kpt (unhideI Q2) KX (unhideI N2))
      replace Q3 := hideI (lies_kpt (unhideI Q3) KX (unhideI N3))
      clear q0 q1 q2 q3 KX T B9
      generalize ((W.setCell ⟨g9, 0, none⟩ (.slice b1' im'.words.length o1')).setCell ⟨g9, 1, none⟩ (.slice b2' im'.units.length o2')).setCell ⟨g9, 2, none⟩ (.slice sa' im'.spots.length sc') = W10 at *
      have BF10 := hideI ((unhideI BF5).step (unhideI KW10))
      have BI10 := hideI ((unhideI BI5).step (unhideI KW10))
      have P1 := hideI (Lies.step (unhideI J1) (unhideI KW10))
      have P2 := hideI (Lies.step (unhideI J2) (unhideI KW10))
      have P3 := hideI (Lies.step (unhideI J3) (unhideI KW10))
      obtain ⟨f0, f1⟩ := (unhideI BF10).at2
      have f2 := (unhideI BF10).2.2
      refine reg_one 13 0 (by kernel_rfl) (by kernel_rfl) ((unhideI HC) W10 (unhideI KW10)) ?_
      simp only [List.take_succ_cons, List.take_zero, List.drop_succ_cons, List.drop_zero]
      go_wp2_with fail
      first | refine next_nil ?_ | refine next_go ?_
      have s5 := unhideI HS5
      have s10 := (unhideI KW10).size
      have KY : Kpt (fun k => k = w3.heap.size + 1) W10 ((W10.setCell ⟨w3.heap.size + 1, 0, none⟩ (.int .i64 er')).setCell ⟨w3.heap.size + 1, 1, none⟩ (.int .i64 ef')) := Kpt.set2 _ _ _ _
      have hcl := (unhideI HC) W10 (unhideI KW10)
      refine reg_end (by kernel_rfl) ⟨by rw [KY.cell (by omega) (by omega)]; exact hcl.1, by rw [KY.cell (by omega) (by omega)]; exact hcl.2⟩ ?_
      have B11 := hideI ((unhideI B10).kpt KY (by omega))
      have BI11 := hideI ((unhideI BI10).kpt KY (by omega))
      have BF11 := hideI (((unhideI BF10).set (j := 0) (u := .int .i64 er') (by simp)).set (j := 1) (u := .int .i64 ef') (by simp))
      replace P1 := hideI (lies_kpt (unhideI P1) KY (unhideI M1))
      replace P2 := hideI (lies_kpt (unhideI P2) KY (unhideI M2))
      replace P3 := hideI (lies_kpt (unhideI P3) KY (unhideI M3))
      replace Q1 := hideI (lies_kpt (unhideI Q1) KY (fun b hb _ e => by have := (unhideI NW) b (.inl hb); omega))
      replace Q2 := hideI (lies_kpt (unhideI Q2) KY (fun b hb _ e => by have := (unhideI NW) b (.inr (.inl hb)); omega))
      replace Q3 := hideI (lies_kpt (unhideI Q3) KY (fun b hb _ e => by have := (unhideI NW) b (.inr (.inr hb)); omega))
      have KWF := hideI ((bt (unhideI K5) (unhideI KW10)).trans (KY.below (by omega) (fun k hk => by omega)))
      clear f0 f1 f2 KY hcl s5 s10 BF10 BI10 B10
      generalize (W10.setCell ⟨w3.heap.size + 1, 0, none⟩ (.int .i64 er')).setCell ⟨w3.heap.size + 1, 1, none⟩ (.int .i64 ef') = W11 at *
      obtain ⟨f0, f1⟩ := (unhideI BF11).at2
      by_cases her' : er' = 0
      · subst her'
        have hlm := (unhideI LM) trivial rfl
        injection hlm with hl1 _
        subst hl1
        obtain ⟨q0, q1, q2⟩ := (unhideI BI11).at3
        obtain ⟨r0, r1, r2⟩ := (unhideI B11).at3
        have SM := same5_yes ⟨zs, os, sp⟩ (.slice b1 zs.length o1) (.slice b2 os.length o2) (.slice sa sp.length sc) (.slice b1' zs.length o1') (.slice b2' os.length o2') (.slice sa' sp.length sc') W11 (unhideI P1) (unhideI Q1) (unhideI P2) (unhideI Q2) (unhideI P3) (unhideI Q3)
        dsimp only at r0 r1 r2
        go_wp2_with fail
        refine SM.mono ?_
        rintro e W12 ⟨rfl, k12⟩
        go_wp2_with fail
        go_ret
        exact ⟨rfl, bt (unhideI KWF) k12⟩
      · have her2' : (er' != 0) = true := by simpa using her'
        go_wp2_with fail
        go_ret
        exact ⟨rfl, unhideI KWF⟩
  · have her2 : (er != 0) = true := by simpa using her
    go_enter Try.func6, Try.ntmps6
    go_wp2_with fail
    have K1 := hideI (below_a w (.cells #[.string mu.name, .slice mo mu.lines.length mc] 39))
    refine (alive5 _).mono ?_
    rintro e w2 ⟨rfl, k2⟩
    have K2 := hideI (bt (unhideI K1) k2)
    clear k2 K1
    go_wp2_with fail
    refine (LA _ ((unhideI HU).step (unhideI K2))).mono ?_
    rintro e w3 ⟨vw, vu, vs, rfl, i1, i2, i3, k3⟩
    obtain ⟨b1, o1, rfl, m1, -⟩ := i1.at
    obtain ⟨b2, o2, rfl, m2, -⟩ := i2.at
    obtain ⟨-, sa, sc, rfl, -⟩ := i3
    have K3 := hideI (bt (unhideI K2) k3)
    have s3 := (unhideI K3).size
    clear k3 i1 i2 LA
    go_wp2_with fail
    go_ret
    exact ⟨rfl, (by repeat (first | exact unhideI K3 | refine Below.setCell ?_ (by first | exact Nat.le_refl _ | (simp; done) | omega | (simp; omega)) _ | refine Below.alloc ?_ (by first | (simp; done) | omega | (simp; omega)) _))⟩
end Go.Proofs.Yticbejfdldehcab
