/-
  Sums and differences on the machine: sums.
-/
import Derived.Test.YtjlbenbfmookoaaEmuF
namespace Go.Proofs.Ytjlbenbfmookoaa
open Go.RowKit
set_option linter.unusedSimpArgs false
set_option linter.unusedVariables false
variable {X : Sd}

set_option maxRecDepth 100000 in
set_option maxHeartbeats 1000000 in
theorem co5 {w0 w : World} {p q : Nat} {vc vi vo : Value} {m : Ma} {xs bs : List Int} (h : Mach X w0 w p q vc vi vo m xs bs) (d s mm : Int) (hd : 0 ≤ d) (hd' : d ≤ 7) (hs : 0 ≤ s) (hs' : s ≤ 7) :
    Calls Try.prog 69 #[.pointer (some ⟨p, 0, none⟩), .agg #[.int .i64 5, .int .i64 d, .int .i64 s, .int .i64 mm]] w fun e w' => e = .returned (.tuple #[]) ∧ Mach X w0 w' p q vc vi vo (m.sum d (m.reg d) (m.reg s) false) xs bs := by
  have HM := hideI h
  have c0 := h.reg hd hd'
  have c1 := h.reg hs hs'
  obtain ⟨c8, c9, c10, c11, -, -, -, -, -, -, -, -, -⟩ := h.at
  have fz := h.flat
  have hp := h.pw
  clear h
  go_enter Try.func69, Try.ntmps69
  go_upto_region 1 with fail
  go_cut [4, 5, 6] (fun a b f wx => a = .int .i64 (m.reg d) ∧ b = .int .i64 (m.reg s) ∧ f = .pointer (some ⟨w.heap.size + 1, 0, none⟩) ∧ Mach X w0 wx p q vc vi vo m xs bs ∧ Box wx w.heap.size [.int .i64 5, .int .i64 d, .int .i64 s, .int .i64 mm] ∧ Box wx (w.heap.size + 1) [.bool m.c, .bool m.z, .bool m.n, .bool m.v])
  case first =>
    go_region
    all_goals
      go_wp2_with fail
      go_meet
      exact ⟨rfl, rfl, rfl, (((unhideI HM).new _).new _).drew, (((Box.new w #[.int .i64 5, .int .i64 d, .int .i64 s, .int .i64 mm] _).step (below_a _ _)).drew), by
        have := (Box.new (w.alloc (.cells #[.int .i64 5, .int .i64 d, .int .i64 s, .int .i64 mm] 49)) #[.bool m.c, .bool m.z, .bool m.n, .bool m.v] 25).drew
        simpa only [World.size_alloc] using this⟩
  case rest =>
    obtain ⟨rfl, rfl, rfl, h, h1, h2⟩ := hcut
    clear c0 c1 c8 c9 c10 c11 fz hp HM
    have HM := hideI h
    have H1 := hideI h1
    obtain ⟨b0, b1, b2, b3⟩ := h1.at4
    obtain ⟨f0, f1, f2, f3⟩ := h2.at4
    clear h h1 h2
    go_wp2_with fail
    go_region_with (go_at_call 77; refine (sum_mach (unhideI HM).drew (unhideI H1).drew _ _ _).mono ?_; rintro e w2 ⟨rfl, M2, B2⟩; unfold sfl; have HM2 := hideI M2; obtain ⟨g0, g1, g2, g3⟩ := B2.at4; have cd := M2.reg hd hd'; obtain ⟨c8, c9, c10, c11, -, -, -, -, -, -, -, -, -⟩ := M2.at; have fz := M2.flat; clear M2 B2)
    all_goals
      go_wp2_with fail
      go_end0
      exact ⟨rfl, ((unhideI HM2).sreg d (lw (sumt (m.reg d) (m.reg s) false)) hd hd' (lw_b _)).flags _ _ _ _⟩

set_option maxRecDepth 100000 in
set_option maxHeartbeats 1000000 in
theorem co6 {w0 w : World} {p q : Nat} {vc vi vo : Value} {m : Ma} {xs bs : List Int} (h : Mach X w0 w p q vc vi vo m xs bs) (d s mm : Int) (hd : 0 ≤ d) (hd' : d ≤ 7) (hs : 0 ≤ s) (hs' : s ≤ 7) :
    Calls Try.prog 69 #[.pointer (some ⟨p, 0, none⟩), .agg #[.int .i64 6, .int .i64 d, .int .i64 s, .int .i64 mm]] w fun e w' => e = .returned (.tuple #[]) ∧ Mach X w0 w' p q vc vi vo (m.sum d (m.reg d) (m.reg s) m.c) xs bs := by
  have HM := hideI h
  have c0 := h.reg hd hd'
  have c1 := h.reg hs hs'
  obtain ⟨c8, c9, c10, c11, -, -, -, -, -, -, -, -, -⟩ := h.at
  have fz := h.flat
  have hp := h.pw
  clear h
  go_enter Try.func69, Try.ntmps69
  go_upto_region 1 with fail
  go_cut [4, 5, 6] (fun a b f wx => a = .int .i64 (m.reg d) ∧ b = .int .i64 (m.reg s) ∧ f = .pointer (some ⟨w.heap.size + 1, 0, none⟩) ∧ Mach X w0 wx p q vc vi vo m xs bs ∧ Box wx w.heap.size [.int .i64 6, .int .i64 d, .int .i64 s, .int .i64 mm] ∧ Box wx (w.heap.size + 1) [.bool m.c, .bool m.z, .bool m.n, .bool m.v])
  case first =>
    go_region
    all_goals
      go_wp2_with fail
      go_meet
      exact ⟨rfl, rfl, rfl, (((unhideI HM).new _).new _).drew, (((Box.new w #[.int .i64 6, .int .i64 d, .int .i64 s, .int .i64 mm] _).step (below_a _ _)).drew), by
        have := (Box.new (w.alloc (.cells #[.int .i64 6, .int .i64 d, .int .i64 s, .int .i64 mm] 49)) #[.bool m.c, .bool m.z, .bool m.n, .bool m.v] 25).drew
        simpa only [World.size_alloc] using this⟩
  case rest =>
    obtain ⟨rfl, rfl, rfl, h, h1, h2⟩ := hcut
    clear c0 c1 c8 c9 c10 c11 fz hp HM
    have HM := hideI h
    have H1 := hideI h1
    obtain ⟨b0, b1, b2, b3⟩ := h1.at4
    obtain ⟨f0, f1, f2, f3⟩ := h2.at4
    clear h h1 h2
    go_wp2_with fail
    go_region_with (go_at_call 77; refine (sum_mach (unhideI HM).drew (unhideI H1).drew _ _ _).mono ?_; rintro e w2 ⟨rfl, M2, B2⟩; unfold sfl; have HM2 := hideI M2; obtain ⟨g0, g1, g2, g3⟩ := B2.at4; have cd := M2.reg hd hd'; obtain ⟨c8, c9, c10, c11, -, -, -, -, -, -, -, -, -⟩ := M2.at; have fz := M2.flat; clear M2 B2)
    all_goals
      go_wp2_with fail
      go_end0
      exact ⟨rfl, ((unhideI HM2).sreg d (lw (sumt (m.reg d) (m.reg s) m.c)) hd hd' (lw_b _)).flags _ _ _ _⟩

end Go.Proofs.Ytjlbenbfmookoaa
