/-
  Valid, Name, Named, Promote, Words, Common, Result, Literal and Convert tell what becomes of types: the walk.
-/
import Derived.Test.YtfkhbhjpnfajeaaDoorR7E
import Derived.Test.YtfkhbhjpnfajeaaDoorR7G
import Derived.Test.YtfkhbhjpnfajeaaDoorR7H
namespace Go.Proofs.YtfkhbhjpnfajeaaDoor
open Go.RowKit
set_option linter.unusedSimpArgs false
set_option linter.unusedVariables false

set_option maxRecDepth 100000 in
set_option maxHeartbeats 4000000 in
theorem typesTell_no (a : Int) (s : Bool) (b : Int) (t : Bool) (z : ByteArray) (k n : Int) (u : Bool) (w : World) (hn : U n) (ha : NoW a) : Calls Tryd.prog 3 #[.agg #[.int .i64 a, .bool s], .agg #[.int .i64 b, .bool t], .string z, .int .i64 k, .int .u64 n, .bool u] w fun e w' => e = .returned (.bool true) ∧ Below w.heap.size w w' := by
  have HN := hide (fun (w : World) => named_any z w)
  have HM := hide (fun (w : World) => rnamed_any z w)
  have HL := hide (fun (w : World) => literal_any n u w)
  have HK := hide (fun (w : World) => rliteral_any n u w hn)
  generalize (lit n u).1 = LB at *
  generalize (lit n u).2.1 = LS at *
  generalize (lit n u).2.2 = LE at *
  generalize nb z = NB at *
  generalize ng z = NG at *
  generalize nk z = NK at *
  have NO := hide (fun (w : World) => name_no a s w ha)
  have RO := hide (fun (w : World) => rname_no a s w ha)
  generalize (if a = 0 then (⟨#[118, 111, 105, 100]⟩ : ByteArray) else ⟨#[]⟩) = nm at *
  go_enter Tryd.func3, Tryd.ntmps3
  go_wp2_with fail
  have R := hide (Duo.new (w := w) (T := 23) (a0 := .int .i64 a) (a1 := .bool s) (b0 := .int .i64 b) (b1 := .bool t) (Below.refl _ _))
  generalize (w.alloc (.cells #[.int .i64 a, .bool s] 23)).alloc (.cells #[.int .i64 b, .bool t] 23) = w1 at *
  obtain ⟨x0, x1⟩ := (unhide R).A.at2
  obtain ⟨x2, x3⟩ := (unhide R).B.at2
  have l0 := (unhide R).A.1
  have l1 := (unhide R).B.1
  refine wp_region_later (by kernel_rfl) (by kernel_rfl) ?_
  intro L hne lt hlc hlf hlm
  repeat (go_big_quiet_step (first | (go_at_call 8; exact later_call hlm (tvalid_no _ _ _ ha)) | (go_at_call 9; exact later_call hlm (rvalid7_no _ _ _ ha)) | (go_at_call 10; exact later_call hlm (unhide NO _)) | (go_at_call 11; exact later_call hlm (unhide RO _))))
  refine wpQuiet_nil ?_
  intro wq kq
  clear hlm hlf hlc lt hne L
  obtain ⟨hqc, hqf⟩ := below_cells kq
  clear hqc hqf l0 l1
  have R' := hide ((unhide R).step kq)
  clear R x0 x1 x2 x3 kq
  have R := R'
  clear R'
  obtain ⟨x0, x1⟩ := (unhide R).A.at2
  obtain ⟨x2, x3⟩ := (unhide R).B.at2
  go_wp2_with fail
  refine (unhide HN _).mono ?_
  rintro e wn ⟨rfl, kn⟩
  have R' := hide ((unhide R).step kn)
  clear R x0 x1 x2 x3
  have R := R'
  clear R'
  obtain ⟨x0, x1⟩ := (unhide R).A.at2
  obtain ⟨x2, x3⟩ := (unhide R).B.at2
  clear kn
  have R' := hide ((unhide R).more (T := 23) (u := .int .i64 NB) (v := .bool NG))
  go_wp2_with fail
  generalize wn.alloc (.cells #[.int .i64 NB, .bool NG] 23) = wa at *
  generalize wn.heap.size = pa at *
  have BA := hide (unhide R').2
  have Ra := hide (unhide R').1
  clear R R' x0 x1 x2 x3
  have R := Ra
  clear Ra
  obtain ⟨x0, x1⟩ := (unhide R).A.at2
  obtain ⟨x2, x3⟩ := (unhide R).B.at2
  refine (unhide HM _).mono ?_
  rintro e wn ⟨rfl, kn⟩
  have R' := hide ((unhide R).step kn)
  clear R x0 x1 x2 x3
  have R := R'
  clear R'
  obtain ⟨x0, x1⟩ := (unhide R).A.at2
  obtain ⟨x2, x3⟩ := (unhide R).B.at2
  have BA' := hide ((unhide BA).step kn)
  clear BA kn
  have R' := hide ((unhide R).more (T := 23) (u := .int .i64 NB) (v := .bool NG))
  have BA := hide ((unhide BA').step (below_a wn (.cells #[.int .i64 NB, .bool NG] 23)))
  go_wp2_with fail
  generalize wn.alloc (.cells #[.int .i64 NB, .bool NG] 23) = wb at *
  generalize wn.heap.size = pb' at *
  have BB := hide (unhide R').2
  have Ra := hide (unhide R').1
  clear R R' x0 x1 x2 x3 BA'
  have R := Ra
  clear Ra
  obtain ⟨x0, x1⟩ := (unhide R).A.at2
  obtain ⟨x2, x3⟩ := (unhide R).B.at2
  refine (unhide HL _).mono ?_
  rintro e wn ⟨rfl, kn⟩
  have R' := hide ((unhide R).step kn)
  clear R x0 x1 x2 x3
  have R := R'
  clear R'
  obtain ⟨x0, x1⟩ := (unhide R).A.at2
  obtain ⟨x2, x3⟩ := (unhide R).B.at2
  have BA' := hide ((unhide BA).step kn)
  have BB' := hide ((unhide BB).step kn)
  clear BA BB kn
  have R' := hide ((unhide R).more (T := 23) (u := .int .i64 LB) (v := .bool LS))
  have BA := hide ((unhide BA').step (below_a wn (.cells #[.int .i64 LB, .bool LS] 23)))
  have BB := hide ((unhide BB').step (below_a wn (.cells #[.int .i64 LB, .bool LS] 23)))
  go_wp2_with fail
  generalize wn.alloc (.cells #[.int .i64 LB, .bool LS] 23) = wc at *
  generalize wn.heap.size = pc at *
  have BC := hide (unhide R').2
  have Ra := hide (unhide R').1
  clear R R' x0 x1 x2 x3 BA' BB'
  have R := Ra
  clear Ra
  obtain ⟨x0, x1⟩ := (unhide R).A.at2
  obtain ⟨x2, x3⟩ := (unhide R).B.at2
  refine (unhide HK _).mono ?_
  rintro e wn ⟨rfl, kn⟩
  have R' := hide ((unhide R).step kn)
  clear R x0 x1 x2 x3
  have R := R'
  clear R'
  obtain ⟨x0, x1⟩ := (unhide R).A.at2
  obtain ⟨x2, x3⟩ := (unhide R).B.at2
  have BA' := hide ((unhide BA).step kn)
  have BB' := hide ((unhide BB).step kn)
  have BC' := hide ((unhide BC).step kn)
  clear BA BB BC kn
  have R' := hide ((unhide R).more (T := 23) (u := .int .i64 LB) (v := .bool LS))
  have BA := hide ((unhide BA').step (below_a wn (.cells #[.int .i64 LB, .bool LS] 23)))
  have BB := hide ((unhide BB').step (below_a wn (.cells #[.int .i64 LB, .bool LS] 23)))
  have BC := hide ((unhide BC').step (below_a wn (.cells #[.int .i64 LB, .bool LS] 23)))
  obtain ⟨y0, y1⟩ := (unhide BA').at2
  obtain ⟨y2, y3⟩ := (unhide BB').at2
  obtain ⟨y4, y5⟩ := (unhide BC').at2
  have ly0 := (unhide BA').1
  have ly1 := (unhide BB').1
  have ly2 := (unhide BC').1
  have ly3 := (unhide R).A.1
  have ly4 := (unhide R).B.1
  go_wp2_with fail
  generalize wn.alloc (.cells #[.int .i64 LB, .bool LS] 23) = wd at *
  have Ra := hide (unhide R').1
  clear R R' x0 x1 x2 x3 BA BB BC BA' BB' BC' y0 y1 y2 y3 y4 y5 ly0 ly1 ly2 ly3 ly4
  have R := Ra
  clear Ra
  obtain ⟨x0, x1⟩ := (unhide R).A.at2
  obtain ⟨x2, x3⟩ := (unhide R).B.at2
  refine (rvalid7_no a s _ ha).mono ?_
  rintro e wn ⟨rfl, kn⟩
  have R' := hide ((unhide R).step kn)
  clear R x0 x1 x2 x3
  have R := R'
  clear R'
  obtain ⟨x0, x1⟩ := (unhide R).A.at2
  obtain ⟨x2, x3⟩ := (unhide R).B.at2
  go_wp2_with fail
  go_ret
  exact ⟨rfl, (unhide R).bel⟩
set_option maxRecDepth 100000 in
set_option maxHeartbeats 4000000 in
theorem typesTell_half (a : Int) (s : Bool) (b : Int) (t : Bool) (z : ByteArray) (k n : Int) (u : Bool) (w : World) (hn : U n) (ha : IsW a) (hb : NoW b) : Calls Tryd.prog 3 #[.agg #[.int .i64 a, .bool s], .agg #[.int .i64 b, .bool t], .string z, .int .i64 k, .int .u64 n, .bool u] w fun e w' => e = .returned (.bool true) ∧ Below w.heap.size w w' := by
  have HN := hide (fun (w : World) => named_any z w)
  have HM := hide (fun (w : World) => rnamed_any z w)
  have HL := hide (fun (w : World) => literal_any n u w)
  have HK := hide (fun (w : World) => rliteral_any n u w hn)
  generalize (lit n u).1 = LB at *
  generalize (lit n u).2.1 = LS at *
  generalize (lit n u).2.2 = LE at *
  generalize nb z = NB at *
  generalize ng z = NG at *
  generalize nk z = NK at *
  go_enter Tryd.func3, Tryd.ntmps3
  go_wp2_with fail
  have R := hide (Duo.new (w := w) (T := 23) (a0 := .int .i64 a) (a1 := .bool s) (b0 := .int .i64 b) (b1 := .bool t) (Below.refl _ _))
  generalize (w.alloc (.cells #[.int .i64 a, .bool s] 23)).alloc (.cells #[.int .i64 b, .bool t] 23) = w1 at *
  obtain ⟨x0, x1⟩ := (unhide R).A.at2
  obtain ⟨x2, x3⟩ := (unhide R).B.at2
  have l0 := (unhide R).A.1
  have l1 := (unhide R).B.1
  refine wp_region_later (by kernel_rfl) (by kernel_rfl) ?_
  intro L hne lt hlc hlf hlm
  repeat (go_big_quiet_step (first | (go_at_call 8; exact later_call hlm (tvalid_yes _ _ _ ha)) | (go_at_call 9; exact later_call hlm (rvalid7_yes _ _ _ ha)) | (go_at_call 10; exact later_call hlm (name_yes _ _ _ ha)) | (go_at_call 11; exact later_call hlm (rname_yes _ _ _ ha))))
  refine wpQuiet_nil ?_
  intro wq kq
  clear hlm hlf hlc lt hne L
  obtain ⟨hqc, hqf⟩ := below_cells kq
  clear hqc hqf l0 l1
  have R' := hide ((unhide R).step kq)
  clear R x0 x1 x2 x3 kq
  have R := R'
  clear R'
  obtain ⟨x0, x1⟩ := (unhide R).A.at2
  obtain ⟨x2, x3⟩ := (unhide R).B.at2
  go_wp2_with fail
  refine (unhide HN _).mono ?_
  rintro e wn ⟨rfl, kn⟩
  have R' := hide ((unhide R).step kn)
  clear R x0 x1 x2 x3
  have R := R'
  clear R'
  obtain ⟨x0, x1⟩ := (unhide R).A.at2
  obtain ⟨x2, x3⟩ := (unhide R).B.at2
  clear kn
  have R' := hide ((unhide R).more (T := 23) (u := .int .i64 NB) (v := .bool NG))
  go_wp2_with fail
  generalize wn.alloc (.cells #[.int .i64 NB, .bool NG] 23) = wa at *
  generalize wn.heap.size = pa at *
  have BA := hide (unhide R').2
  have Ra := hide (unhide R').1
  clear R R' x0 x1 x2 x3
  have R := Ra
  clear Ra
  obtain ⟨x0, x1⟩ := (unhide R).A.at2
  obtain ⟨x2, x3⟩ := (unhide R).B.at2
  refine (unhide HM _).mono ?_
  rintro e wn ⟨rfl, kn⟩
  have R' := hide ((unhide R).step kn)
  clear R x0 x1 x2 x3
  have R := R'
  clear R'
  obtain ⟨x0, x1⟩ := (unhide R).A.at2
  obtain ⟨x2, x3⟩ := (unhide R).B.at2
  have BA' := hide ((unhide BA).step kn)
  clear BA kn
  have R' := hide ((unhide R).more (T := 23) (u := .int .i64 NB) (v := .bool NG))
  have BA := hide ((unhide BA').step (below_a wn (.cells #[.int .i64 NB, .bool NG] 23)))
  go_wp2_with fail
  generalize wn.alloc (.cells #[.int .i64 NB, .bool NG] 23) = wb at *
  generalize wn.heap.size = pb' at *
  have BB := hide (unhide R').2
  have Ra := hide (unhide R').1
  clear R R' x0 x1 x2 x3 BA'
  have R := Ra
  clear Ra
  obtain ⟨x0, x1⟩ := (unhide R).A.at2
  obtain ⟨x2, x3⟩ := (unhide R).B.at2
  refine (unhide HL _).mono ?_
  rintro e wn ⟨rfl, kn⟩
  have R' := hide ((unhide R).step kn)
  clear R x0 x1 x2 x3
  have R := R'
  clear R'
  obtain ⟨x0, x1⟩ := (unhide R).A.at2
  obtain ⟨x2, x3⟩ := (unhide R).B.at2
  have BA' := hide ((unhide BA).step kn)
  have BB' := hide ((unhide BB).step kn)
  clear BA BB kn
  have R' := hide ((unhide R).more (T := 23) (u := .int .i64 LB) (v := .bool LS))
  have BA := hide ((unhide BA').step (below_a wn (.cells #[.int .i64 LB, .bool LS] 23)))
  have BB := hide ((unhide BB').step (below_a wn (.cells #[.int .i64 LB, .bool LS] 23)))
  go_wp2_with fail
  generalize wn.alloc (.cells #[.int .i64 LB, .bool LS] 23) = wc at *
  generalize wn.heap.size = pc at *
  have BC := hide (unhide R').2
  have Ra := hide (unhide R').1
  clear R R' x0 x1 x2 x3 BA' BB'
  have R := Ra
  clear Ra
  obtain ⟨x0, x1⟩ := (unhide R).A.at2
  obtain ⟨x2, x3⟩ := (unhide R).B.at2
  refine (unhide HK _).mono ?_
  rintro e wn ⟨rfl, kn⟩
  have R' := hide ((unhide R).step kn)
  clear R x0 x1 x2 x3
  have R := R'
  clear R'
  obtain ⟨x0, x1⟩ := (unhide R).A.at2
  obtain ⟨x2, x3⟩ := (unhide R).B.at2
  have BA' := hide ((unhide BA).step kn)
  have BB' := hide ((unhide BB).step kn)
  have BC' := hide ((unhide BC).step kn)
  clear BA BB BC kn
  have R' := hide ((unhide R).more (T := 23) (u := .int .i64 LB) (v := .bool LS))
  have BA := hide ((unhide BA').step (below_a wn (.cells #[.int .i64 LB, .bool LS] 23)))
  have BB := hide ((unhide BB').step (below_a wn (.cells #[.int .i64 LB, .bool LS] 23)))
  have BC := hide ((unhide BC').step (below_a wn (.cells #[.int .i64 LB, .bool LS] 23)))
  obtain ⟨y0, y1⟩ := (unhide BA').at2
  obtain ⟨y2, y3⟩ := (unhide BB').at2
  obtain ⟨y4, y5⟩ := (unhide BC').at2
  have ly0 := (unhide BA').1
  have ly1 := (unhide BB').1
  have ly2 := (unhide BC').1
  have ly3 := (unhide R).A.1
  have ly4 := (unhide R).B.1
  go_wp2_with fail
  generalize wn.alloc (.cells #[.int .i64 LB, .bool LS] 23) = wd at *
  have Ra := hide (unhide R').1
  clear R R' x0 x1 x2 x3 BA BB BC BA' BB' BC' y0 y1 y2 y3 y4 y5 ly0 ly1 ly2 ly3 ly4
  have R := Ra
  clear Ra
  obtain ⟨x0, x1⟩ := (unhide R).A.at2
  obtain ⟨x2, x3⟩ := (unhide R).B.at2
  refine (rvalid7_yes a s _ ha).mono ?_
  rintro e wn ⟨rfl, kn⟩
  have R' := hide ((unhide R).step kn)
  clear R x0 x1 x2 x3
  have R := R'
  clear R'
  obtain ⟨x0, x1⟩ := (unhide R).A.at2
  obtain ⟨x2, x3⟩ := (unhide R).B.at2
  go_wp2_with fail
  refine (rvalid7_no b t _ hb).mono ?_
  rintro e wn ⟨rfl, kn⟩
  have R' := hide ((unhide R).step kn)
  clear R x0 x1 x2 x3
  have R := R'
  clear R'
  obtain ⟨x0, x1⟩ := (unhide R).A.at2
  obtain ⟨x2, x3⟩ := (unhide R).B.at2
  go_wp2_with fail
  go_ret
  exact ⟨rfl, (unhide R).bel⟩
set_option maxRecDepth 100000 in
set_option maxHeartbeats 4000000 in
theorem typesTell_yes (a : Int) (s : Bool) (b : Int) (t : Bool) (z : ByteArray) (k n : Int) (u : Bool) (w : World) (hn : U n) (ha : IsW a) (hb : IsW b) : Calls Tryd.prog 3 #[.agg #[.int .i64 a, .bool s], .agg #[.int .i64 b, .bool t], .string z, .int .i64 k, .int .u64 n, .bool u] w fun e w' => e = .returned (.bool true) ∧ Below w.heap.size w w' := by
  have HN := hide (fun (w : World) => named_any z w)
  have HM := hide (fun (w : World) => rnamed_any z w)
  have HL := hide (fun (w : World) => literal_any n u w)
  have HK := hide (fun (w : World) => rliteral_any n u w hn)
  generalize (lit n u).1 = LB at *
  generalize (lit n u).2.1 = LS at *
  generalize (lit n u).2.2 = LE at *
  generalize nb z = NB at *
  generalize ng z = NG at *
  generalize nk z = NK at *
  have HW := hide (fun (v : World) => twords_any a s v ha)
  go_enter Tryd.func3, Tryd.ntmps3
  go_wp2_with fail
  have R := hide (Duo.new (w := w) (T := 23) (a0 := .int .i64 a) (a1 := .bool s) (b0 := .int .i64 b) (b1 := .bool t) (Below.refl _ _))
  generalize (w.alloc (.cells #[.int .i64 a, .bool s] 23)).alloc (.cells #[.int .i64 b, .bool t] 23) = w1 at *
  obtain ⟨x0, x1⟩ := (unhide R).A.at2
  obtain ⟨x2, x3⟩ := (unhide R).B.at2
  have l0 := (unhide R).A.1
  have l1 := (unhide R).B.1
  refine wp_region_later (by kernel_rfl) (by kernel_rfl) ?_
  intro L hne lt hlc hlf hlm
  repeat (go_big_quiet_step (first | (go_at_call 8; exact later_call hlm (tvalid_yes _ _ _ ha)) | (go_at_call 9; exact later_call hlm (rvalid7_yes _ _ _ ha)) | (go_at_call 10; exact later_call hlm (name_yes _ _ _ ha)) | (go_at_call 11; exact later_call hlm (rname_yes _ _ _ ha))))
  refine wpQuiet_nil ?_
  intro wq kq
  clear hlm hlf hlc lt hne L
  obtain ⟨hqc, hqf⟩ := below_cells kq
  clear hqc hqf l0 l1
  have R' := hide ((unhide R).step kq)
  clear R x0 x1 x2 x3 kq
  have R := R'
  clear R'
  obtain ⟨x0, x1⟩ := (unhide R).A.at2
  obtain ⟨x2, x3⟩ := (unhide R).B.at2
  go_wp2_with fail
  refine (unhide HN _).mono ?_
  rintro e wn ⟨rfl, kn⟩
  have R' := hide ((unhide R).step kn)
  clear R x0 x1 x2 x3
  have R := R'
  clear R'
  obtain ⟨x0, x1⟩ := (unhide R).A.at2
  obtain ⟨x2, x3⟩ := (unhide R).B.at2
  clear kn
  have R' := hide ((unhide R).more (T := 23) (u := .int .i64 NB) (v := .bool NG))
  go_wp2_with fail
  generalize wn.alloc (.cells #[.int .i64 NB, .bool NG] 23) = wa at *
  generalize wn.heap.size = pa at *
  have BA := hide (unhide R').2
  have Ra := hide (unhide R').1
  clear R R' x0 x1 x2 x3
  have R := Ra
  clear Ra
  obtain ⟨x0, x1⟩ := (unhide R).A.at2
  obtain ⟨x2, x3⟩ := (unhide R).B.at2
  refine (unhide HM _).mono ?_
  rintro e wn ⟨rfl, kn⟩
  have R' := hide ((unhide R).step kn)
  clear R x0 x1 x2 x3
  have R := R'
  clear R'
  obtain ⟨x0, x1⟩ := (unhide R).A.at2
  obtain ⟨x2, x3⟩ := (unhide R).B.at2
  have BA' := hide ((unhide BA).step kn)
  clear BA kn
  have R' := hide ((unhide R).more (T := 23) (u := .int .i64 NB) (v := .bool NG))
  have BA := hide ((unhide BA').step (below_a wn (.cells #[.int .i64 NB, .bool NG] 23)))
  go_wp2_with fail
  generalize wn.alloc (.cells #[.int .i64 NB, .bool NG] 23) = wb at *
  generalize wn.heap.size = pb' at *
  have BB := hide (unhide R').2
  have Ra := hide (unhide R').1
  clear R R' x0 x1 x2 x3 BA'
  have R := Ra
  clear Ra
  obtain ⟨x0, x1⟩ := (unhide R).A.at2
  obtain ⟨x2, x3⟩ := (unhide R).B.at2
  refine (unhide HL _).mono ?_
  rintro e wn ⟨rfl, kn⟩
  have R' := hide ((unhide R).step kn)
  clear R x0 x1 x2 x3
  have R := R'
  clear R'
  obtain ⟨x0, x1⟩ := (unhide R).A.at2
  obtain ⟨x2, x3⟩ := (unhide R).B.at2
  have BA' := hide ((unhide BA).step kn)
  have BB' := hide ((unhide BB).step kn)
  clear BA BB kn
  have R' := hide ((unhide R).more (T := 23) (u := .int .i64 LB) (v := .bool LS))
  have BA := hide ((unhide BA').step (below_a wn (.cells #[.int .i64 LB, .bool LS] 23)))
  have BB := hide ((unhide BB').step (below_a wn (.cells #[.int .i64 LB, .bool LS] 23)))
  go_wp2_with fail
  generalize wn.alloc (.cells #[.int .i64 LB, .bool LS] 23) = wc at *
  generalize wn.heap.size = pc at *
  have BC := hide (unhide R').2
  have Ra := hide (unhide R').1
  clear R R' x0 x1 x2 x3 BA' BB'
  have R := Ra
  clear Ra
  obtain ⟨x0, x1⟩ := (unhide R).A.at2
  obtain ⟨x2, x3⟩ := (unhide R).B.at2
  refine (unhide HK _).mono ?_
  rintro e wn ⟨rfl, kn⟩
  have R' := hide ((unhide R).step kn)
  clear R x0 x1 x2 x3
  have R := R'
  clear R'
  obtain ⟨x0, x1⟩ := (unhide R).A.at2
  obtain ⟨x2, x3⟩ := (unhide R).B.at2
  have BA' := hide ((unhide BA).step kn)
  have BB' := hide ((unhide BB).step kn)
  have BC' := hide ((unhide BC).step kn)
  clear BA BB BC kn
  have R' := hide ((unhide R).more (T := 23) (u := .int .i64 LB) (v := .bool LS))
  have BA := hide ((unhide BA').step (below_a wn (.cells #[.int .i64 LB, .bool LS] 23)))
  have BB := hide ((unhide BB').step (below_a wn (.cells #[.int .i64 LB, .bool LS] 23)))
  have BC := hide ((unhide BC').step (below_a wn (.cells #[.int .i64 LB, .bool LS] 23)))
  obtain ⟨y0, y1⟩ := (unhide BA').at2
  obtain ⟨y2, y3⟩ := (unhide BB').at2
  obtain ⟨y4, y5⟩ := (unhide BC').at2
  have ly0 := (unhide BA').1
  have ly1 := (unhide BB').1
  have ly2 := (unhide BC').1
  have ly3 := (unhide R).A.1
  have ly4 := (unhide R).B.1
  go_wp2_with fail
  generalize wn.alloc (.cells #[.int .i64 LB, .bool LS] 23) = wd at *
  have Ra := hide (unhide R').1
  clear R R' x0 x1 x2 x3 BA BB BC BA' BB' BC' y0 y1 y2 y3 y4 y5 ly0 ly1 ly2 ly3 ly4
  have R := Ra
  clear Ra
  obtain ⟨x0, x1⟩ := (unhide R).A.at2
  obtain ⟨x2, x3⟩ := (unhide R).B.at2
  refine (rvalid7_yes _ s _ ha).mono ?_
  rintro e wn ⟨rfl, kn⟩
  have R' := hide ((unhide R).step kn)
  clear R x0 x1 x2 x3
  have R := R'
  clear R'
  obtain ⟨x0, x1⟩ := (unhide R).A.at2
  obtain ⟨x2, x3⟩ := (unhide R).B.at2
  go_wp2_with fail
  refine (rvalid7_yes b t _ hb).mono ?_
  rintro e wn ⟨rfl, kn⟩
  have R' := hide ((unhide R).step kn)
  clear R x0 x1 x2 x3
  have R := R'
  clear R'
  obtain ⟨x0, x1⟩ := (unhide R).A.at2
  obtain ⟨x2, x3⟩ := (unhide R).B.at2
  have l0 := (unhide R).A.1
  have l1 := (unhide R).B.1
  have ha' := ha
  have e8 : wds 8 = 1 := by decide
  have e16 : wds 16 = 1 := by decide
  have e32 : wds 32 = 2 := by decide
  have e64 : wds 64 = 4 := by decide
  rcases ha' with rfl | rfl | rfl | rfl
  all_goals
    first | rw [e8] at HW | rw [e16] at HW | rw [e32] at HW | rw [e64] at HW
    clear e8 e16 e32 e64
    go_wp2_with fail
    refine wp_region_later (by kernel_rfl) (by kernel_rfl) ?_
    intro L hne lt hlc hlf hlm
    repeat (go_big_quiet_step (first | (go_at_call 16; exact later_call hlm (promote_any _ _ _)) | (go_at_call 17; exact later_call hlm (rwide_any _ _ _)) | (go_at_call 18; exact later_call hlm (unhide HW _)) | (go_at_call 19; exact later_call hlm (common_any _ _ _ _ _)) | (go_at_call 20; exact later_call hlm (rcommon_any _ _ _ _ _)) | (go_at_call 21; exact later_call hlm (result_any _ _ _ _ _ _)) | (go_at_call 22; exact later_call hlm (rresult_any _ _ _ _ _ _)) | (go_at_call 23; exact later_call hlm (convert_any _ _ _ _ _ _ (by assumption) (by assumption) (by assumption))) | (go_at_call 24; exact later_call hlm (rconvert_any _ _ _ _ _ _ (by assumption) (by assumption) (by assumption)))))
    refine wpQuiet_nil ?_
    intro wq kq
    clear hlm hlf hlc lt hne L
    obtain ⟨hqc, hqf⟩ := below_cells kq
    go_wp2_with fail
    go_ret
    exact ⟨rfl, bT (unhide R).bel kq⟩
theorem u_ofT {x : Int} (h : (Lit.int .u64 x).wf = true) : U x := by
  have h1 : IntKind.u64.min = 0 := rfl
  have h2 : IntKind.u64.max = 18446744073709551615 := rfl
  simp only [Lit.wf, Bool.and_eq_true, decide_eq_true_eq] at h
  unfold U
  omega
theorem walk_typesTell (a : Int) (s : Bool) (b : Int) (t : Bool) (z : ByteArray) (k n : Int) (u : Bool) (w : World) (_ : (Lit.int .i64 k).wf = true) (hn : (Lit.int .u64 n).wf = true) : Calls Tryd.prog 3 #[.agg #[.int .i64 a, .bool s], .agg #[.int .i64 b, .bool t], .string z, .int .i64 k, .int .u64 n, .bool u] w fun e w' => e = .returned (.bool true) ∧ Below w.heap.size w w' := by
  rcases isW_or a with ha | ha
  · rcases isW_or b with hb | hb
    · exact typesTell_yes a s b t z k n u w (u_ofT hn) ha hb
    · exact typesTell_half a s b t z k n u w (u_ofT hn) ha hb
  · exact typesTell_no a s b t z k n u w (u_ofT hn) ha
end Go.Proofs.YtfkhbhjpnfajeaaDoor
