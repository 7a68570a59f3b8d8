/-
  RtF2.
-/
import Derived.Test.YtlkoidkdeopgjaaGreatDoorwb
set_option maxHeartbeats 4000000
set_option maxRecDepth 100000
namespace Go.Proofs.YtlkoidkdeopgjaaGreatDoor
open Go.RowKit
set_option linter.unusedSimpArgs false
set_option linter.unusedVariables false
theorem neg_len (pl : List UInt8) (n : Nat) (hpl : pl.length ≤ 10) (hn : n ≤ 4) : (negT pl n).length ≤ 2400 := by
 have hpl20 : pl.length ≤ 20 := by omega
 unfold negT
 have := each_len (n := n) (c := 600) (f := fun k => insT [108, 100, 105] [[114, 54], [48]] ++ insT [108, 100] [hld 0, pl, dgs k] ++ insT (chd k [115, 117, 98] [115, 98, 99]) [[114, 54], hld 0] ++ insT [115, 116] [pl, [114, 54], dgs k]) (fun k => by
   simp only [List.length_append]
   have e0 := insT_len (kd := [108, 100, 105]) (fs := [[114, 54], [48]]) (by decide) (by simp) (by decide)
   have e1 := insT_len (kd := [108, 100]) (fs := [hld 0, pl, dgs k]) (by decide) (by simp) (List.forall_mem_cons.2 ⟨hld_len _, List.forall_mem_cons.2 ⟨hpl20, List.forall_mem_cons.2 ⟨dgs_len20 _, fun _ h => absurd h List.not_mem_nil⟩⟩⟩)
   have e2 := insT_len (kd := chd k [115, 117, 98] [115, 98, 99]) (fs := [[114, 54], hld 0]) (chd_len _ (by decide) (by decide)) (by simp) (List.forall_mem_cons.2 ⟨by decide, List.forall_mem_cons.2 ⟨hld_len _, fun _ h => absurd h List.not_mem_nil⟩⟩)
   have e3 := insT_len (kd := [115, 116]) (fs := [pl, [114, 54], dgs k]) (by decide) (by simp) (List.forall_mem_cons.2 ⟨hpl20, List.forall_mem_cons.2 ⟨by decide, List.forall_mem_cons.2 ⟨dgs_len20 _, fun _ h => absurd h List.not_mem_nil⟩⟩⟩)
   omega)
 omega
theorem drop_any (B b n : Nat) (t : List UInt8) (g : Option Nat) (c : Nat) (w : World) (h : Wr w B b n t g) (hn1 : 1 ≤ n) (hn : n ≤ 4) (hl : t.length ≤ 900000) (hBw : B ≤ w.heap.size) (hc : c ≤ 9) : Calls Tryz.prog 182 #[.pointer (some ⟨b, 0, none⟩), .int .i64 (c : Int)] w fun e w' => e = .returned (.tuple #[]) ∧ (∃ g', Wr w' B b n (t ++ dropT c) g') ∧ Below B w w' := by
 have H0 := zH h
 have K0 := zH (Below.refl B w)
 have hnI : (n : Int) ≤ 4 := by omega
 have hnI1 : (1 : Int) ≤ (n : Int) := by omega
 have c2 := h.words
 clear h
 go_enter Tryz.func182, Tryz.ntmps182
 have HH := zH (fun W => digits_any c (by omega) W)
 go_wp2_with fail
 refine (uI HH _).mono ?_
 rintro e wq ⟨rfl, hq⟩
 subst wq
 clear HH
 have HD := zH (do_at B b n t g [108, 100, 105] [[114, 54], dgs c] w (uI H0) (by simp) (by simp) (fmc (by decide) (fmc (dgs_len20 _) fmn)) (by omega) (by decide) hBw)
 have HD2 : Hid (Calls Tryz.prog 138 #[.pointer (some ⟨b, 0, none⟩), .string ⟨#[108, 100, 105]⟩, .slice (some ⟨w.heap.size, 0, none⟩) 2 2] (w.alloc (.cells #[.string ⟨#[114, 54]⟩, .string (sb (dgs c))] 9)) fun e w' => e = .returned (.tuple #[]) ∧ (∃ g', Wr w' B b n (t ++ insT [108, 100, 105] [[114, 54], dgs c]) g') ∧ Below B w w') := HD
 have hl22 := insT_len (kd := [108, 100, 105]) (fs := [[114, 54], dgs c]) (by decide) (by simp) (fmc (by decide) (fmc (dgs_len20 _) fmn))
 clear HD
 go_wp2_with fail
 refine (uI HD2).mono ?_
 rintro e w22 ⟨rfl, ⟨g22, hH22⟩, kK22⟩
 generalize hE22 : t ++ insT [108, 100, 105] [[114, 54], dgs c] = T22 at hH22
 have H22 := zH hH22
 have K22 := zH ((uI K0).trans kK22)
 have lb22 : B ≤ w22.heap.size := Nat.le_trans hBw kK22.size
 clear HD2 hH22 kK22 H0 K0
 have hT22 : T22.length = (t).length + (insT [108, 100, 105] [[114, 54], dgs c]).length := by rw [← hE22]; exact List.length_append
 have HE22 := zH hE22
 clear hE22
 have HD := zH (do_at B b n T22 g22 [97, 100, 100] [[114, 55], [114, 54]] w22 (uI H22) (by simp) (by simp) (fmc (by decide) (fmc (by decide) fmn)) (by omega) (by decide) lb22)
 have HD2 : Hid (Calls Tryz.prog 138 #[.pointer (some ⟨b, 0, none⟩), .string ⟨#[97, 100, 100]⟩, .slice (some ⟨w22.heap.size, 0, none⟩) 2 2] (w22.alloc (.cells #[.string ⟨#[114, 55]⟩, .string ⟨#[114, 54]⟩] 9)) fun e w' => e = .returned (.tuple #[]) ∧ (∃ g', Wr w' B b n (T22 ++ insT [97, 100, 100] [[114, 55], [114, 54]]) g') ∧ Below B w22 w') := HD
 have hl23 := insT_len (kd := [97, 100, 100]) (fs := [[114, 55], [114, 54]]) (by decide) (by simp) (fmc (by decide) (fmc (by decide) fmn))
 clear HD
 go_wp2_with fail
 refine (uI HD2).mono ?_
 rintro e w23 ⟨rfl, ⟨g23, hH23⟩, kK23⟩
 generalize hE23 : T22 ++ insT [97, 100, 100] [[114, 55], [114, 54]] = T23 at hH23
 have H23 := zH hH23
 have K23 := zH ((uI K22).trans kK23)
 have lb23 : B ≤ w23.heap.size := Nat.le_trans lb22 kK23.size
 clear HD2 hH23 kK23 H22 K22
 have hT23 : T23.length = (T22).length + (insT [97, 100, 100] [[114, 55], [114, 54]]).length := by rw [← hE23]; exact List.length_append
 have HE23 := zH hE23
 clear hE23
 go_wp2_with fail
 go_end0
 refine ⟨rfl, ⟨g23, ?_⟩, uI K23⟩
 have hz := uI H23
 rw [← uI HE23, ← uI HE22] at hz; 
 unfold dropT
 simpa only [List.append_assoc] using hz
theorem per_any (B b n : Nat) (t : List UInt8) (g : Option Nat)  (w : World) (h : Wr w B b n t g) (hn1 : 1 ≤ n) (hn : n ≤ 4) (hl : t.length ≤ 800000) (hBw : B ≤ w.heap.size)  : Calls Tryz.prog 135 #[.pointer (some ⟨b, 0, none⟩)] w fun e w' => e = .returned (.tuple #[]) ∧ (∃ g', Wr w' B b n (t ++ perT n) g') ∧ Below B w w' := by
 have H0 := zH h
 have K0 := zH (Below.refl B w)
 have hnI : (n : Int) ≤ 4 := by omega
 have hnI1 : (1 : Int) ≤ (n : Int) := by omega
 have c2 := h.words
 clear h
 go_enter Tryz.func135, Tryz.ntmps135
 have HD := zH (push_anyW B b n t g  w (uI H0) hn1 hn (by omega) hBw )
 have HD2 : Hid (Calls Tryz.prog 176 #[.pointer (some ⟨b, 0, none⟩)] w fun e w' => e = .returned (.tuple #[]) ∧ (∃ g', Wr w' B b n (t ++ pushT n) g') ∧ Below B w w') := HD
 have hl24 := (show ∀ n, n < 5 → (pushT n).length ≤ 20000 from by decide +kernel) n (by omega)
 clear HD
 go_wp2_with fail
 refine (uI HD2).mono ?_
 rintro e w24 ⟨rfl, ⟨g24, hH24⟩, kK24⟩
 generalize hE24 : t ++ pushT n = T24 at hH24
 have H24 := zH hH24
 have K24 := zH ((uI K0).trans kK24)
 have lb24 : B ≤ w24.heap.size := Nat.le_trans hBw kK24.size
 clear HD2 hH24 kK24 H0 K0
 have hT24 : T24.length = (t).length + (pushT n).length := by rw [← hE24]; exact List.length_append
 have HE24 := zH hE24
 clear hE24
 have c2 := (uI H24).words
 have HB := zH (bits_any B b n T24 g24 w24 (uI H24) hn)
 go_wp2_with fail
 refine (uI HB).mono ?_
 rintro e wq ⟨rfl, hq⟩
 subst wq
 clear HB
 have HH := zH (fun W => digits_any (16 * n) (by omega) W)
 rw [show (((16 * n) : Nat) : Int) = 16 * (n : Int) by omega] at HH
 go_wp2_with fail
 refine (uI HH _).mono ?_
 rintro e wq ⟨rfl, hq⟩
 subst wq
 clear HH
 have HD := zH (do_at B b n T24 g24 [108, 100, 105] [[114, 54], dgs (16 * n)] w24 (uI H24) (by simp) (by simp) (fmc (by decide) (fmc (dgs_len20 _) fmn)) (by omega) (by decide) lb24)
 have HD2 : Hid (Calls Tryz.prog 138 #[.pointer (some ⟨b, 0, none⟩), .string ⟨#[108, 100, 105]⟩, .slice (some ⟨w24.heap.size, 0, none⟩) 2 2] (w24.alloc (.cells #[.string ⟨#[114, 54]⟩, .string (sb (dgs (16 * n)))] 9)) fun e w' => e = .returned (.tuple #[]) ∧ (∃ g', Wr w' B b n (T24 ++ insT [108, 100, 105] [[114, 54], dgs (16 * n)]) g') ∧ Below B w24 w') := HD
 have hl25 := insT_len (kd := [108, 100, 105]) (fs := [[114, 54], dgs (16 * n)]) (by decide) (by simp) (fmc (by decide) (fmc (dgs_len20 _) fmn))
 clear HD
 go_wp2_with fail
 refine (uI HD2).mono ?_
 rintro e w25 ⟨rfl, ⟨g25, hH25⟩, kK25⟩
 generalize hE25 : T24 ++ insT [108, 100, 105] [[114, 54], dgs (16 * n)] = T25 at hH25
 have H25 := zH hH25
 have K25 := zH ((uI K24).trans kK25)
 have lb25 : B ≤ w25.heap.size := Nat.le_trans lb24 kK25.size
 clear HD2 hH25 kK25 H24 K24
 have hT25 : T25.length = (T24).length + (insT [108, 100, 105] [[114, 54], dgs (16 * n)]).length := by rw [← hE25]; exact List.length_append
 have HE25 := zH hE25
 clear hE25
 have HD := zH (do_at B b n T25 g25 [112, 117, 115, 104] [[114, 54]] w25 (uI H25) (by simp) (by simp) (fmc (by decide) fmn) (by omega) (by decide) lb25)
 have HD2 : Hid (Calls Tryz.prog 138 #[.pointer (some ⟨b, 0, none⟩), .string ⟨#[112, 117, 115, 104]⟩, .slice (some ⟨w25.heap.size, 0, none⟩) 1 1] (w25.alloc (.cells #[.string ⟨#[114, 54]⟩] 9)) fun e w' => e = .returned (.tuple #[]) ∧ (∃ g', Wr w' B b n (T25 ++ insT [112, 117, 115, 104] [[114, 54]]) g') ∧ Below B w25 w') := HD
 have hl26 := insT_len (kd := [112, 117, 115, 104]) (fs := [[114, 54]]) (by decide) (by simp) (fmc (by decide) fmn)
 clear HD
 go_wp2_with fail
 refine (uI HD2).mono ?_
 rintro e w26 ⟨rfl, ⟨g26, hH26⟩, kK26⟩
 generalize hE26 : T25 ++ insT [112, 117, 115, 104] [[114, 54]] = T26 at hH26
 have H26 := zH hH26
 have K26 := zH ((uI K25).trans kK26)
 have lb26 : B ≤ w26.heap.size := Nat.le_trans lb25 kK26.size
 clear HD2 hH26 kK26 H25 K25
 have hT26 : T26.length = (T25).length + (insT [112, 117, 115, 104] [[114, 54]]).length := by rw [← hE26]; exact List.length_append
 have HE26 := zH hE26
 clear hE26
 have HD := zH (do_at B b n T26 g26 [108, 100, 105] [[114, 49], [49]] w26 (uI H26) (by simp) (by simp) (fmc (by decide) (fmc (by decide) fmn)) (by omega) (by decide) lb26)
 have HD2 : Hid (Calls Tryz.prog 138 #[.pointer (some ⟨b, 0, none⟩), .string ⟨#[108, 100, 105]⟩, .slice (some ⟨w26.heap.size, 0, none⟩) 2 2] (w26.alloc (.cells #[.string ⟨#[114, 49]⟩, .string ⟨#[49]⟩] 9)) fun e w' => e = .returned (.tuple #[]) ∧ (∃ g', Wr w' B b n (T26 ++ insT [108, 100, 105] [[114, 49], [49]]) g') ∧ Below B w26 w') := HD
 have hl27 := insT_len (kd := [108, 100, 105]) (fs := [[114, 49], [49]]) (by decide) (by simp) (fmc (by decide) (fmc (by decide) fmn))
 clear HD
 go_wp2_with fail
 refine (uI HD2).mono ?_
 rintro e w27 ⟨rfl, ⟨g27, hH27⟩, kK27⟩
 generalize hE27 : T26 ++ insT [108, 100, 105] [[114, 49], [49]] = T27 at hH27
 have H27 := zH hH27
 have K27 := zH ((uI K26).trans kK27)
 have lb27 : B ≤ w27.heap.size := Nat.le_trans lb26 kK27.size
 clear HD2 hH27 kK27 H26 K26
 have hT27 : T27.length = (T26).length + (insT [108, 100, 105] [[114, 49], [49]]).length := by rw [← hE27]; exact List.length_append
 have HE27 := zH hE27
 clear hE27
 have HD := zH (clear_any B b n T27 g27  w27 (uI H27) hn1 hn (by omega) lb27 )
 have HD2 : Hid (Calls Tryz.prog 178 #[.pointer (some ⟨b, 0, none⟩)] w27 fun e w' => e = .returned (.tuple #[]) ∧ (∃ g', Wr w' B b n (T27 ++ clearT n) g') ∧ Below B w27 w') := HD
 have hl28 := (show ∀ n, n < 5 → (clearT n).length ≤ 20000 from by decide +kernel) n (by omega)
 clear HD
 go_wp2_with fail
 refine (uI HD2).mono ?_
 rintro e w28 ⟨rfl, ⟨g28, hH28⟩, kK28⟩
 generalize hE28 : T27 ++ clearT n = T28 at hH28
 have H28 := zH hH28
 have K28 := zH ((uI K27).trans kK28)
 have lb28 : B ≤ w28.heap.size := Nat.le_trans lb27 kK28.size
 clear HD2 hH28 kK28 H27 K27
 have hT28 : T28.length = (T27).length + (clearT n).length := by rw [← hE28]; exact List.length_append
 have HE28 := zH hE28
 clear hE28
 have HD := zH (label_any B b n T28 g28 [46, 98, 105, 116] w28 (uI H28) (by have : ([46, 98, 105, 116]).length ≤ 20 := (by decide); omega) lb28)
 have HD2 : Hid (Calls Tryz.prog 73 #[.pointer (some ⟨b, 0, none⟩), .string ⟨#[46, 98, 105, 116]⟩] w28 fun e w' => e = .returned (.tuple #[]) ∧ (∃ g', Wr w' B b n (T28 ++ labT [46, 98, 105, 116]) g') ∧ Below B w28 w') := HD
 have hl29 := labT_len (s := [46, 98, 105, 116]) (by decide)
 clear HD
 go_wp2_with fail
 refine (uI HD2).mono ?_
 rintro e w29 ⟨rfl, ⟨g29, hH29⟩, kK29⟩
 generalize hE29 : T28 ++ labT [46, 98, 105, 116] = T29 at hH29
 have H29 := zH hH29
 have K29 := zH ((uI K28).trans kK29)
 have lb29 : B ≤ w29.heap.size := Nat.le_trans lb28 kK29.size
 clear HD2 hH29 kK29 H28 K28
 have hT29 : T29.length = (T28).length + (labT [46, 98, 105, 116]).length := by rw [← hE29]; exact List.length_append
 have HE29 := zH hE29
 clear hE29
 go_wp2_with fail
 go_end0
 refine ⟨rfl, ⟨g29, ?_⟩, uI K29⟩
 have hz := uI H29
 rw [← uI HE29, ← uI HE28, ← uI HE27, ← uI HE26, ← uI HE25, ← uI HE24] at hz; 
 unfold perT
 simpa only [List.append_assoc] using hz
theorem done_any (B b n : Nat) (t : List UInt8) (g : Option Nat)  (w : World) (h : Wr w B b n t g) (hn1 : 1 ≤ n) (hn : n ≤ 4) (hl : t.length ≤ 800000) (hBw : B ≤ w.heap.size)  : Calls Tryz.prog 140 #[.pointer (some ⟨b, 0, none⟩)] w fun e w' => e = .returned (.tuple #[]) ∧ (∃ g', Wr w' B b n (t ++ doneT n) g') ∧ Below B w w' := by
 have H0 := zH h
 have K0 := zH (Below.refl B w)
 have hnI : (n : Int) ≤ 4 := by omega
 have hnI1 : (1 : Int) ≤ (n : Int) := by omega
 have c2 := h.words
 clear h
 go_enter Tryz.func140, Tryz.ntmps140
 have HD := zH (label_any B b n t g [46, 110, 101, 120, 116] w (uI H0) (by have : ([46, 110, 101, 120, 116]).length ≤ 20 := (by decide); omega) hBw)
 have HD2 : Hid (Calls Tryz.prog 73 #[.pointer (some ⟨b, 0, none⟩), .string ⟨#[46, 110, 101, 120, 116]⟩] w fun e w' => e = .returned (.tuple #[]) ∧ (∃ g', Wr w' B b n (t ++ labT [46, 110, 101, 120, 116]) g') ∧ Below B w w') := HD
 have hl30 := labT_len (s := [46, 110, 101, 120, 116]) (by decide)
 clear HD
 go_wp2_with fail
 refine (uI HD2).mono ?_
 rintro e w30 ⟨rfl, ⟨g30, hH30⟩, kK30⟩
 generalize hE30 : t ++ labT [46, 110, 101, 120, 116] = T30 at hH30
 have H30 := zH hH30
 have K30 := zH ((uI K0).trans kK30)
 have lb30 : B ≤ w30.heap.size := Nat.le_trans hBw kK30.size
 clear HD2 hH30 kK30 H0 K0
 have hT30 : T30.length = (t).length + (labT [46, 110, 101, 120, 116]).length := by rw [← hE30]; exact List.length_append
 have HE30 := zH hE30
 clear hE30
 have HH := zH (fun W => digits_any 0 (by omega) W)
 rw [show ((0 : Nat) : Int) = 0 by omega] at HH
 go_wp2_with fail
 refine (uI HH _).mono ?_
 rintro e wq ⟨rfl, hq⟩
 subst wq
 clear HH
 have HD := zH (do_at B b n T30 g30 [108, 100] [[114, 54], [114, 55], dgs 0] w30 (uI H30) (by simp) (by simp) (fmc (by decide) (fmc (by decide) (fmc (dgs_len20 _) fmn))) (by omega) (by decide) lb30)
 have HD2 : Hid (Calls Tryz.prog 138 #[.pointer (some ⟨b, 0, none⟩), .string ⟨#[108, 100]⟩, .slice (some ⟨w30.heap.size, 0, none⟩) 3 3] (w30.alloc (.cells #[.string ⟨#[114, 54]⟩, .string ⟨#[114, 55]⟩, .string (sb (dgs 0))] 9)) fun e w' => e = .returned (.tuple #[]) ∧ (∃ g', Wr w' B b n (T30 ++ insT [108, 100] [[114, 54], [114, 55], dgs 0]) g') ∧ Below B w30 w') := HD
 have hl31 := insT_len (kd := [108, 100]) (fs := [[114, 54], [114, 55], dgs 0]) (by decide) (by simp) (fmc (by decide) (fmc (by decide) (fmc (dgs_len20 _) fmn)))
 clear HD
 go_wp2_with fail
 refine (uI HD2).mono ?_
 rintro e w31 ⟨rfl, ⟨g31, hH31⟩, kK31⟩
 generalize hE31 : T30 ++ insT [108, 100] [[114, 54], [114, 55], dgs 0] = T31 at hH31
 have H31 := zH hH31
 have K31 := zH ((uI K30).trans kK31)
 have lb31 : B ≤ w31.heap.size := Nat.le_trans lb30 kK31.size
 clear HD2 hH31 kK31 H30 K30
 have hT31 : T31.length = (T30).length + (insT [108, 100] [[114, 54], [114, 55], dgs 0]).length := by rw [← hE31]; exact List.length_append
 have HE31 := zH hE31
 clear hE31
 have HD := zH (do_at B b n T31 g31 [115, 117, 98] [[114, 54], [114, 49]] w31 (uI H31) (by simp) (by simp) (fmc (by decide) (fmc (by decide) fmn)) (by omega) (by decide) lb31)
 have HD2 : Hid (Calls Tryz.prog 138 #[.pointer (some ⟨b, 0, none⟩), .string ⟨#[115, 117, 98]⟩, .slice (some ⟨w31.heap.size, 0, none⟩) 2 2] (w31.alloc (.cells #[.string ⟨#[114, 54]⟩, .string ⟨#[114, 49]⟩] 9)) fun e w' => e = .returned (.tuple #[]) ∧ (∃ g', Wr w' B b n (T31 ++ insT [115, 117, 98] [[114, 54], [114, 49]]) g') ∧ Below B w31 w') := HD
 have hl32 := insT_len (kd := [115, 117, 98]) (fs := [[114, 54], [114, 49]]) (by decide) (by simp) (fmc (by decide) (fmc (by decide) fmn))
 clear HD
 go_wp2_with fail
 refine (uI HD2).mono ?_
 rintro e w32 ⟨rfl, ⟨g32, hH32⟩, kK32⟩
 generalize hE32 : T31 ++ insT [115, 117, 98] [[114, 54], [114, 49]] = T32 at hH32
 have H32 := zH hH32
 have K32 := zH ((uI K31).trans kK32)
 have lb32 : B ≤ w32.heap.size := Nat.le_trans lb31 kK32.size
 clear HD2 hH32 kK32 H31 K31
 have hT32 : T32.length = (T31).length + (insT [115, 117, 98] [[114, 54], [114, 49]]).length := by rw [← hE32]; exact List.length_append
 have HE32 := zH hE32
 clear hE32
 have HH := zH (fun W => digits_any 0 (by omega) W)
 rw [show ((0 : Nat) : Int) = 0 by omega] at HH
 go_wp2_with fail
 refine (uI HH _).mono ?_
 rintro e wq ⟨rfl, hq⟩
 subst wq
 clear HH
 have HD := zH (do_at B b n T32 g32 [115, 116] [[114, 55], [114, 54], dgs 0] w32 (uI H32) (by simp) (by simp) (fmc (by decide) (fmc (by decide) (fmc (dgs_len20 _) fmn))) (by omega) (by decide) lb32)
 have HD2 : Hid (Calls Tryz.prog 138 #[.pointer (some ⟨b, 0, none⟩), .string ⟨#[115, 116]⟩, .slice (some ⟨w32.heap.size, 0, none⟩) 3 3] (w32.alloc (.cells #[.string ⟨#[114, 55]⟩, .string ⟨#[114, 54]⟩, .string (sb (dgs 0))] 9)) fun e w' => e = .returned (.tuple #[]) ∧ (∃ g', Wr w' B b n (T32 ++ insT [115, 116] [[114, 55], [114, 54], dgs 0]) g') ∧ Below B w32 w') := HD
 have hl33 := insT_len (kd := [115, 116]) (fs := [[114, 55], [114, 54], dgs 0]) (by decide) (by simp) (fmc (by decide) (fmc (by decide) (fmc (dgs_len20 _) fmn)))
 clear HD
 go_wp2_with fail
 refine (uI HD2).mono ?_
 rintro e w33 ⟨rfl, ⟨g33, hH33⟩, kK33⟩
 generalize hE33 : T32 ++ insT [115, 116] [[114, 55], [114, 54], dgs 0] = T33 at hH33
 have H33 := zH hH33
 have K33 := zH ((uI K32).trans kK33)
 have lb33 : B ≤ w33.heap.size := Nat.le_trans lb32 kK33.size
 clear HD2 hH33 kK33 H32 K32
 have hT33 : T33.length = (T32).length + (insT [115, 116] [[114, 55], [114, 54], dgs 0]).length := by rw [← hE33]; exact List.length_append
 have HE33 := zH hE33
 clear hE33
 have HD := zH (do_at B b n T33 g33 [106, 110, 122] [[46, 98, 105, 116]] w33 (uI H33) (by simp) (by simp) (fmc (by decide) fmn) (by omega) (by decide) lb33)
 have HD2 : Hid (Calls Tryz.prog 138 #[.pointer (some ⟨b, 0, none⟩), .string ⟨#[106, 110, 122]⟩, .slice (some ⟨w33.heap.size, 0, none⟩) 1 1] (w33.alloc (.cells #[.string ⟨#[46, 98, 105, 116]⟩] 9)) fun e w' => e = .returned (.tuple #[]) ∧ (∃ g', Wr w' B b n (T33 ++ insT [106, 110, 122] [[46, 98, 105, 116]]) g') ∧ Below B w33 w') := HD
 have hl34 := insT_len (kd := [106, 110, 122]) (fs := [[46, 98, 105, 116]]) (by decide) (by simp) (fmc (by decide) fmn)
 clear HD
 go_wp2_with fail
 refine (uI HD2).mono ?_
 rintro e w34 ⟨rfl, ⟨g34, hH34⟩, kK34⟩
 generalize hE34 : T33 ++ insT [106, 110, 122] [[46, 98, 105, 116]] = T34 at hH34
 have H34 := zH hH34
 have K34 := zH ((uI K33).trans kK34)
 have lb34 : B ≤ w34.heap.size := Nat.le_trans lb33 kK34.size
 clear HD2 hH34 kK34 H33 K33
 have hT34 : T34.length = (T33).length + (insT [106, 110, 122] [[46, 98, 105, 116]]).length := by rw [← hE34]; exact List.length_append
 have HE34 := zH hE34
 clear hE34
 have c2 := (uI H34).words
 have HD := zH (drop_any B b n T34 g34 (1 + n) w34 (uI H34) hn1 hn (by omega) lb34 (by omega))
 have HD2 : Hid (Calls Tryz.prog 182 #[.pointer (some ⟨b, 0, none⟩), .int .i64 (1 + (n : Int))] w34 fun e w' => e = .returned (.tuple #[]) ∧ (∃ g', Wr w' B b n (T34 ++ dropT (1 + n)) g') ∧ Below B w34 w') := (by have := HD; rw [show ((1 + n : Nat) : Int) = 1 + (n : Int) by omega] at this; exact this)
 have hl35 := (show ∀ n, n < 5 → (dropT (1 + n)).length ≤ 20000 from by decide +kernel) n (by omega)
 clear HD
 go_wp2_with fail
 refine (uI HD2).mono ?_
 rintro e w35 ⟨rfl, ⟨g35, hH35⟩, kK35⟩
 generalize hE35 : T34 ++ dropT (1 + n) = T35 at hH35
 have H35 := zH hH35
 have K35 := zH ((uI K34).trans kK35)
 have lb35 : B ≤ w35.heap.size := Nat.le_trans lb34 kK35.size
 clear HD2 hH35 kK35 H34 K34
 have hT35 : T35.length = (T34).length + (dropT (1 + n)).length := by rw [← hE35]; exact List.length_append
 have HE35 := zH hE35
 clear hE35
 go_wp2_with fail
 go_end0
 refine ⟨rfl, ⟨g35, ?_⟩, uI K35⟩
 have hz := uI H35
 rw [← uI HE35, ← uI HE34, ← uI HE33, ← uI HE32, ← uI HE31, ← uI HE30] at hz; 
 unfold doneT
 simpa only [List.append_assoc] using hz
theorem uns_any (B b n : Nat) (t : List UInt8) (g : Option Nat) (pl past : List UInt8) (w : World) (h : Wr w B b n t g) (hn1 : 1 ≤ n) (hn : n ≤ 4) (hl : t.length ≤ 800000) (hBw : B ≤ w.heap.size) (hpl10 : pl.length ≤ 10) (hpast : past.length ≤ 20) : Calls Tryz.prog 184 #[.pointer (some ⟨b, 0, none⟩), .string (sb pl), .string (sb past)] w fun e w' => e = .returned (.tuple #[]) ∧ (∃ g', Wr w' B b n (t ++ unsT pl past n) g') ∧ Below B w w' := by
 have hpl20 : pl.length ≤ 20 := by omega
 have H0 := zH h
 have K0 := zH (Below.refl B w)
 have hnI : (n : Int) ≤ 4 := by omega
 have hnI1 : (1 : Int) ≤ (n : Int) := by omega
 have c2 := h.words
 clear h
 go_enter Tryz.func184, Tryz.ntmps184
 have c2 := (uI H0).words
 have HH := zH (fun W => digits_any (n - 1) (by omega) W)
 rw [show (((n - 1) : Nat) : Int) = (n : Int) - 1 by omega] at HH
 go_wp2_with fail
 refine (uI HH _).mono ?_
 rintro e wq ⟨rfl, hq⟩
 subst wq
 clear HH
 have HD := zH (do_at B b n t g [108, 100] [[114, 54], pl, dgs (n - 1)] w (uI H0) (by simp) (by simp) (fmc (by decide) (fmc hpl20 (fmc (dgs_len20 _) fmn))) (by omega) (by decide) hBw)
 have HD2 : Hid (Calls Tryz.prog 138 #[.pointer (some ⟨b, 0, none⟩), .string ⟨#[108, 100]⟩, .slice (some ⟨w.heap.size, 0, none⟩) 3 3] (w.alloc (.cells #[.string ⟨#[114, 54]⟩, .string (sb (pl)), .string (sb (dgs (n - 1)))] 9)) fun e w' => e = .returned (.tuple #[]) ∧ (∃ g', Wr w' B b n (t ++ insT [108, 100] [[114, 54], pl, dgs (n - 1)]) g') ∧ Below B w w') := HD
 have hl36 := insT_len (kd := [108, 100]) (fs := [[114, 54], pl, dgs (n - 1)]) (by decide) (by simp) (fmc (by decide) (fmc hpl20 (fmc (dgs_len20 _) fmn)))
 clear HD
 go_wp2_with fail
 refine (uI HD2).mono ?_
 rintro e w36 ⟨rfl, ⟨g36, hH36⟩, kK36⟩
 generalize hE36 : t ++ insT [108, 100] [[114, 54], pl, dgs (n - 1)] = T36 at hH36
 have H36 := zH hH36
 have K36 := zH ((uI K0).trans kK36)
 have lb36 : B ≤ w36.heap.size := Nat.le_trans hBw kK36.size
 clear HD2 hH36 kK36 H0 K0
 have hT36 : T36.length = (t).length + (insT [108, 100] [[114, 54], pl, dgs (n - 1)]).length := by rw [← hE36]; exact List.length_append
 have HE36 := zH hE36
 clear hE36
 have HD := zH (do_at B b n T36 g36 [111, 114] [[114, 54], [114, 54]] w36 (uI H36) (by simp) (by simp) (fmc (by decide) (fmc (by decide) fmn)) (by omega) (by decide) lb36)
 have HD2 : Hid (Calls Tryz.prog 138 #[.pointer (some ⟨b, 0, none⟩), .string ⟨#[111, 114]⟩, .slice (some ⟨w36.heap.size, 0, none⟩) 2 2] (w36.alloc (.cells #[.string ⟨#[114, 54]⟩, .string ⟨#[114, 54]⟩] 9)) fun e w' => e = .returned (.tuple #[]) ∧ (∃ g', Wr w' B b n (T36 ++ insT [111, 114] [[114, 54], [114, 54]]) g') ∧ Below B w36 w') := HD
 have hl37 := insT_len (kd := [111, 114]) (fs := [[114, 54], [114, 54]]) (by decide) (by simp) (fmc (by decide) (fmc (by decide) fmn))
 clear HD
 go_wp2_with fail
 refine (uI HD2).mono ?_
 rintro e w37 ⟨rfl, ⟨g37, hH37⟩, kK37⟩
 generalize hE37 : T36 ++ insT [111, 114] [[114, 54], [114, 54]] = T37 at hH37
 have H37 := zH hH37
 have K37 := zH ((uI K36).trans kK37)
 have lb37 : B ≤ w37.heap.size := Nat.le_trans lb36 kK37.size
 clear HD2 hH37 kK37 H36 K36
 have hT37 : T37.length = (T36).length + (insT [111, 114] [[114, 54], [114, 54]]).length := by rw [← hE37]; exact List.length_append
 have HE37 := zH hE37
 clear hE37
 have HD := zH (do_at B b n T37 g37 [106, 103, 101] [past] w37 (uI H37) (by simp) (by simp) (fmc hpast fmn) (by omega) (by decide) lb37)
 have HD2 : Hid (Calls Tryz.prog 138 #[.pointer (some ⟨b, 0, none⟩), .string ⟨#[106, 103, 101]⟩, .slice (some ⟨w37.heap.size, 0, none⟩) 1 1] (w37.alloc (.cells #[.string (sb (past))] 9)) fun e w' => e = .returned (.tuple #[]) ∧ (∃ g', Wr w' B b n (T37 ++ insT [106, 103, 101] [past]) g') ∧ Below B w37 w') := HD
 have hl38 := insT_len (kd := [106, 103, 101]) (fs := [past]) (by decide) (by simp) (fmc hpast fmn)
 clear HD
 go_wp2_with fail
 refine (uI HD2).mono ?_
 rintro e w38 ⟨rfl, ⟨g38, hH38⟩, kK38⟩
 generalize hE38 : T37 ++ insT [106, 103, 101] [past] = T38 at hH38
 have H38 := zH hH38
 have K38 := zH ((uI K37).trans kK38)
 have lb38 : B ≤ w38.heap.size := Nat.le_trans lb37 kK38.size
 clear HD2 hH38 kK38 H37 K37
 have hT38 : T38.length = (T37).length + (insT [106, 103, 101] [past]).length := by rw [← hE38]; exact List.length_append
 have HE38 := zH hE38
 clear hE38
 have HD := zH (neg_any B b n T38 g38 pl w38 (uI H38) hn1 hn (by omega) lb38 hpl10)
 have HD2 : Hid (Calls Tryz.prog 185 #[.pointer (some ⟨b, 0, none⟩), .string (sb pl)] w38 fun e w' => e = .returned (.tuple #[]) ∧ (∃ g', Wr w' B b n (T38 ++ negT pl n) g') ∧ Below B w38 w') := HD
 have hl39 := neg_len pl n hpl10 hn
 clear HD
 go_wp2_with fail
 refine (uI HD2).mono ?_
 rintro e w39 ⟨rfl, ⟨g39, hH39⟩, kK39⟩
 generalize hE39 : T38 ++ negT pl n = T39 at hH39
 have H39 := zH hH39
 have K39 := zH ((uI K38).trans kK39)
 have lb39 : B ≤ w39.heap.size := Nat.le_trans lb38 kK39.size
 clear HD2 hH39 kK39 H38 K38
 have hT39 : T39.length = (T38).length + (negT pl n).length := by rw [← hE39]; exact List.length_append
 have HE39 := zH hE39
 clear hE39
 have HD := zH (label_any B b n T39 g39 past w39 (uI H39) (by have : (past).length ≤ 20 := hpast; omega) lb39)
 have HD2 : Hid (Calls Tryz.prog 73 #[.pointer (some ⟨b, 0, none⟩), .string (sb (past))] w39 fun e w' => e = .returned (.tuple #[]) ∧ (∃ g', Wr w' B b n (T39 ++ labT past) g') ∧ Below B w39 w') := HD
 have hl40 := labT_len (s := past) hpast
 clear HD
 go_wp2_with fail
 refine (uI HD2).mono ?_
 rintro e w40 ⟨rfl, ⟨g40, hH40⟩, kK40⟩
 generalize hE40 : T39 ++ labT past = T40 at hH40
 have H40 := zH hH40
 have K40 := zH ((uI K39).trans kK40)
 have lb40 : B ≤ w40.heap.size := Nat.le_trans lb39 kK40.size
 clear HD2 hH40 kK40 H39 K39
 have hT40 : T40.length = (T39).length + (labT past).length := by rw [← hE40]; exact List.length_append
 have HE40 := zH hE40
 clear hE40
 go_wp2_with fail
 go_end0
 refine ⟨rfl, ⟨g40, ?_⟩, uI K40⟩
 have hz := uI H40
 rw [← uI HE40, ← uI HE39, ← uI HE38, ← uI HE37, ← uI HE36] at hz; 
 unfold unsT
 simpa only [List.append_assoc] using hz
theorem down_any (B b n : Nat) (t : List UInt8) (g : Option Nat) (f : List UInt8) (w : World) (h : Wr w B b n t g) (hn1 : 1 ≤ n) (hn : n ≤ 4) (hl : t.length ≤ 900000) (hBw : B ≤ w.heap.size) (hf : f.length ≤ 10) : Calls Tryz.prog 143 #[.pointer (some ⟨b, 0, none⟩), .string (sb f)] w fun e w' => e = .returned (.tuple #[]) ∧ (∃ g', Wr w' B b n (t ++ downT f n) g') ∧ Below B w w' := by
 have H0 := zH h
 have K0 := zH (Below.refl B w)
 have hnI : (n : Int) ≤ 4 := by omega
 have hnI1 : (1 : Int) ≤ (n : Int) := by omega
 have c2 := h.words
 clear h
 go_enter Tryz.func143, Tryz.ntmps143
 go_wp2_with fail
 have HE := zH (fun k => each_len (n := k) (f := (fun k => insT (chd k f [114, 111, 114]) [hld (n - 1 - k)])) (c := 150) (fun k => by (try simp only [List.length_append]); have e0 := insT_len (kd := (chd k f [114, 111, 114])) (fs := [hld (n - 1 - k)]) (chd_len _ hf (by decide)) (by simp) (fmc (hld_len _) fmn); omega))
 go_loopg [9] n (fun gm tt wr => ∃ (k : Nat) (gg : Option Nat), k ≤ n ∧ gm = n - k ∧ tt = .int .i64 (k : Int) ∧ Hid (Wr wr B b n (t ++ each k (fun k => insT (chd k f [114, 111, 114]) [hld (n - 1 - k)])) gg) ∧ Hid (Below B w wr))
 case atStart => exact ⟨0, g, Nat.zero_le _, rfl, rfl, by simpa [each] using H0, K0⟩
 case round =>
   obtain ⟨k, gg, hk, hgm, rfl, HW, HK⟩ := hrel
   generalize wr = W0 at *
   have lbw : B ≤ W0.heap.size := Nat.le_trans hBw (show _ from (uI HK).size)
   have hEk := uI HE k
   have hT0 : (t ++ each k (fun k => insT (chd k f [114, 111, 114]) [hld (n - 1 - k)])).length = (t).length + (each k (fun k => insT (chd k f [114, 111, 114]) [hld (n - 1 - k)])).length := List.length_append
   clear H0 K0 c2
   have hkn : k * 150 ≤ 600 := by omega
   by_cases hlt : k < n
   · have hkI : (k : Int) < (n : Int) := by omega
     have hk0 : (0 : Int) ≤ (k : Int) := by omega
     have c2 := (uI HW).words
     have kd : Below W0.heap.size W0 W0.drew := Below.drew (Below.refl _ _)
     have HV := zH ((uI HW).step kd)
     have KV := zH ((uI HK).trans (kd.mono lbw))
     have lv41 : B ≤ W0.drew.heap.size := lbw
     clear kd c2
     go_wp2_with fail
     refine reg_start (fun W => W.cell? ⟨b, 2, none⟩ = some (.int .i64 (n : Int))) (by kernel_rfl) ?_
     generalize W0.drew = v41 at *
     have C0 := zH (uI HV).words
     refine reg_seg 0 3 11 (by kernel_rfl) (by decide) (by kernel_rfl) (by kernel_rfl) (fun _ _ _ _ _ h => h) ?_
     simp only [List.take_succ_cons, List.take_zero, List.drop_succ_cons, List.drop_zero]
     repeat (refine wpSteady_step (fun K hK => ?_); go_simp; first | (refine steady_of ?_ (fun W hW => ?_) (hK _ ?_); rotate_left; (obtain hcW := hW; go_simp; first | done | rfl); clear hK K) | (refine hK _ ?_; clear hK K))
     refine wpSteady_nil ?_
     refine reg_seg 4 7 4 (by kernel_rfl) (by decide) (by kernel_rfl) (by kernel_rfl) (fun _ _ _ _ _ h => h) ?_
     simp only [List.take_succ_cons, List.take_zero, List.drop_succ_cons, List.drop_zero]
     repeat (refine wpSteady_step (fun K hK => ?_); go_simp; first | (refine steady_of ?_ (fun W hW => ?_) (hK _ ?_); rotate_left; (obtain hcW := hW; go_simp; first | done | rfl); clear hK K) | (refine hK _ ?_; clear hK K))
     refine wpSteady_nil ?_
     have HH := zH (fun W => chained_any k f [114, 111, 114] W)
     refine reg_one 3 3 (by kernel_rfl) (by kernel_rfl) (uI C0) ?_
     simp only [List.take_succ_cons, List.take_zero, List.drop_succ_cons, List.drop_zero]
     go_wp2_with fail
     refine (uI HH _).mono ?_
     rintro e wq ⟨rfl, hq⟩
     subst wq
     clear HH
     go_wp2_with fail
     first | refine next_nil ?_ | refine next_go ?_
     have HH := zH (fun W => held_any (n - 1 - k) (by omega) W)
     rw [show (((n - 1 - k) : Nat) : Int) = (n : Int) - 1 - (k : Int) by omega] at HH
     refine reg_one 11 2 (by kernel_rfl) (by kernel_rfl) (uI C0) ?_
     simp only [List.take_succ_cons, List.take_zero, List.drop_succ_cons, List.drop_zero]
     go_wp2_with fail
     refine (uI HH _).mono ?_
     rintro e wq ⟨rfl, hq⟩
     subst wq
     clear HH
     go_wp2_with fail
     first | refine next_nil ?_ | refine next_go ?_
     have HD := zH (do_at B b n (t ++ each k (fun k => insT (chd k f [114, 111, 114]) [hld (n - 1 - k)])) gg (chd k f [114, 111, 114]) [hld (n - 1 - k)] v41 (uI HV) (by simp) (by simp) (fmc (hld_len _) fmn) (by omega) (chd_len _ hf (by decide)) lv41)
     have HD2 : Hid (Calls Tryz.prog 138 #[.pointer (some ⟨b, 0, none⟩), .string (sb ((chd k f [114, 111, 114]))), .slice (some ⟨v41.heap.size, 0, none⟩) 1 1] (v41.alloc (.cells #[.string (sb (hld (n - 1 - k)))] 9)) fun e w' => e = .returned (.tuple #[]) ∧ (∃ g', Wr w' B b n ((t ++ each k (fun k => insT (chd k f [114, 111, 114]) [hld (n - 1 - k)])) ++ insT (chd k f [114, 111, 114]) [hld (n - 1 - k)]) g') ∧ Below B v41 w') := HD
     have hl41 := insT_len (kd := (chd k f [114, 111, 114])) (fs := [hld (n - 1 - k)]) (chd_len _ hf (by decide)) (by simp) (fmc (hld_len _) fmn)
     have C1 : Hid ((v41.alloc (.cells #[.string (sb (hld (n - 1 - k)))] 9)).cell? ⟨b, 2, none⟩ = some (.int .i64 (n : Int))) := zH (cell_keep ((Below.refl _ _).alloc (Nat.le_refl _) _) (uI HV).lt (uI C0))
     clear HD
     refine reg_one 12 1 (by kernel_rfl) (by kernel_rfl) (uI C0) ?_
     simp only [List.take_succ_cons, List.take_zero, List.drop_succ_cons, List.drop_zero]
     go_wp2_with fail
     first | refine next_nil ?_ | refine next_go ?_
     refine reg_one 13 0 (by kernel_rfl) (by kernel_rfl) (uI C1) ?_
     simp only [List.take_succ_cons, List.take_zero, List.drop_succ_cons, List.drop_zero]
     go_wp2_with fail
     refine (uI HD2).mono ?_
     rintro e w41 ⟨rfl, ⟨g41, hH41⟩, kK41⟩
     generalize hE41 : (t ++ each k (fun k => insT (chd k f [114, 111, 114]) [hld (n - 1 - k)])) ++ insT (chd k f [114, 111, 114]) [hld (n - 1 - k)] = T41 at hH41
     have H41 := zH hH41
     have K41 := zH ((uI KV).trans kK41)
     have lb41 : B ≤ w41.heap.size := Nat.le_trans lv41 kK41.size
     clear HD2 hH41 kK41 HW HK HV KV C0 C1
     go_wp2_with fail
     first | refine next_nil ?_ | refine next_go ?_
     refine reg_end (by kernel_rfl) (uI H41).words ?_
     have hT41 : T41.length = ((t ++ each k (fun k => insT (chd k f [114, 111, 114]) [hld (n - 1 - k)]))).length + (insT (chd k f [114, 111, 114]) [hld (n - 1 - k)]).length := by rw [← hE41]; exact List.length_append
     have HE41 := zH hE41
     clear hE41
     go_wp2_with fail
     go_roundg (n - (k + 1))
     case measure => omega
     case rel => exact ⟨k + 1, _, by omega, rfl, by go_num, by have hz := H41; rw [← uI HE41] at hz; rw [each_succ]; simpa only [List.append_assoc] using hz, K41⟩
   · have hkI : ¬ (k : Int) < (n : Int) := by omega
     have HKE := zH (show k = n by omega)
     have c2 := (uI HW).words
     go_wp2_with fail
     go_end0
     refine ⟨rfl, ⟨gg, ?_⟩, uI HK⟩
     have hz := uI HW
     skip
     rw [uI HKE] at hz
     unfold downT
     simpa only [List.append_assoc] using hz
theorem mul_any (B b n : Nat) (t : List UInt8) (g : Option Nat)  (w : World) (h : Wr w B b n t g) (hn1 : 1 ≤ n) (hn : n ≤ 4) (hl : t.length ≤ 600000) (hBw : B ≤ w.heap.size)  : Calls Tryz.prog 95 #[.pointer (some ⟨b, 0, none⟩)] w fun e w' => e = .returned (.tuple #[]) ∧ (∃ g', Wr w' B b n (t ++ mulT n) g') ∧ Below B w w' := by
 have H0 := zH h
 have K0 := zH (Below.refl B w)
 have hnI : (n : Int) ≤ 4 := by omega
 have hnI1 : (1 : Int) ≤ (n : Int) := by omega
 have c2 := h.words
 clear h
 go_enter Tryz.func95, Tryz.ntmps95
 have HD := zH (per_any B b n t g  w (uI H0) hn1 hn (by omega) hBw )
 have HD2 : Hid (Calls Tryz.prog 135 #[.pointer (some ⟨b, 0, none⟩)] w fun e w' => e = .returned (.tuple #[]) ∧ (∃ g', Wr w' B b n (t ++ perT n) g') ∧ Below B w w') := HD
 have hl42 := (show ∀ n, n < 5 → (perT n).length ≤ 20000 from by decide +kernel) n (by omega)
 clear HD
 go_wp2_with fail
 refine (uI HD2).mono ?_
 rintro e w42 ⟨rfl, ⟨g42, hH42⟩, kK42⟩
 generalize hE42 : t ++ perT n = T42 at hH42
 have H42 := zH hH42
 have K42 := zH ((uI K0).trans kK42)
 have lb42 : B ≤ w42.heap.size := Nat.le_trans hBw kK42.size
 clear HD2 hH42 kK42 H0 K0
 have hT42 : T42.length = (t).length + (perT n).length := by rw [← hE42]; exact List.length_append
 have HE42 := zH hE42
 clear hE42
 have HD := zH (up_any B b n T42 g42 [115, 104, 108] w42 (uI H42) hn1 hn (by omega) lb42 (by decide))
 have HD2 : Hid (Calls Tryz.prog 136 #[.pointer (some ⟨b, 0, none⟩), .string ⟨#[115, 104, 108]⟩] w42 fun e w' => e = .returned (.tuple #[]) ∧ (∃ g', Wr w' B b n (T42 ++ upT [115, 104, 108] n) g') ∧ Below B w42 w') := HD
 have hl43 := (show ∀ n, n < 5 → (upT [115, 104, 108] n).length ≤ 20000 from by decide +kernel) n (by omega)
 clear HD
 go_wp2_with fail
 refine (uI HD2).mono ?_
 rintro e w43 ⟨rfl, ⟨g43, hH43⟩, kK43⟩
 generalize hE43 : T42 ++ upT [115, 104, 108] n = T43 at hH43
 have H43 := zH hH43
 have K43 := zH ((uI K42).trans kK43)
 have lb43 : B ≤ w43.heap.size := Nat.le_trans lb42 kK43.size
 clear HD2 hH43 kK43 H42 K42
 have hT43 : T43.length = (T42).length + (upT [115, 104, 108] n).length := by rw [← hE43]; exact List.length_append
 have HE43 := zH hE43
 clear hE43
 have HD := zH (upAt_any B b n T43 g43 [114, 55] 1 w43 (uI H43) hn1 hn (by omega) lb43 (by decide) (by decide))
 have HD2 : Hid (Calls Tryz.prog 137 #[.pointer (some ⟨b, 0, none⟩), .string ⟨#[114, 55]⟩, .int .i64 1] w43 fun e w' => e = .returned (.tuple #[]) ∧ (∃ g', Wr w' B b n (T43 ++ upAtT [114, 55] 1 n) g') ∧ Below B w43 w') := HD
 have hl44 := (show ∀ n, n < 5 → (upAtT [114, 55] 1 n).length ≤ 20000 from by decide +kernel) n (by omega)
 clear HD
 go_wp2_with fail
 refine (uI HD2).mono ?_
 rintro e w44 ⟨rfl, ⟨g44, hH44⟩, kK44⟩
 generalize hE44 : T43 ++ upAtT [114, 55] 1 n = T44 at hH44
 have H44 := zH hH44
 have K44 := zH ((uI K43).trans kK44)
 have lb44 : B ≤ w44.heap.size := Nat.le_trans lb43 kK44.size
 clear HD2 hH44 kK44 H43 K43
 have hT44 : T44.length = (T43).length + (upAtT [114, 55] 1 n).length := by rw [← hE44]; exact List.length_append
 have HE44 := zH hE44
 clear hE44
 have HD := zH (do_at B b n T44 g44 [106, 110, 99] [[46, 110, 101, 120, 116]] w44 (uI H44) (by simp) (by simp) (fmc (by decide) fmn) (by omega) (by decide) lb44)
 have HD2 : Hid (Calls Tryz.prog 138 #[.pointer (some ⟨b, 0, none⟩), .string ⟨#[106, 110, 99]⟩, .slice (some ⟨w44.heap.size, 0, none⟩) 1 1] (w44.alloc (.cells #[.string ⟨#[46, 110, 101, 120, 116]⟩] 9)) fun e w' => e = .returned (.tuple #[]) ∧ (∃ g', Wr w' B b n (T44 ++ insT [106, 110, 99] [[46, 110, 101, 120, 116]]) g') ∧ Below B w44 w') := HD
 have hl45 := insT_len (kd := [106, 110, 99]) (fs := [[46, 110, 101, 120, 116]]) (by decide) (by simp) (fmc (by decide) fmn)
 clear HD
 go_wp2_with fail
 refine (uI HD2).mono ?_
 rintro e w45 ⟨rfl, ⟨g45, hH45⟩, kK45⟩
 generalize hE45 : T44 ++ insT [106, 110, 99] [[46, 110, 101, 120, 116]] = T45 at hH45
 have H45 := zH hH45
 have K45 := zH ((uI K44).trans kK45)
 have lb45 : B ≤ w45.heap.size := Nat.le_trans lb44 kK45.size
 clear HD2 hH45 kK45 H44 K44
 have hT45 : T45.length = (T44).length + (insT [106, 110, 99] [[46, 110, 101, 120, 116]]).length := by rw [← hE45]; exact List.length_append
 have HE45 := zH hE45
 clear hE45
 have HD := zH (with_any B b n T45 g45 [97, 100, 100] [97, 100, 99] [114, 48] 0 w45 (uI H45) hn1 hn (by omega) lb45 (by decide) (by decide) (by decide) (by decide))
 have HD2 : Hid (Calls Tryz.prog 139 #[.pointer (some ⟨b, 0, none⟩), .string ⟨#[97, 100, 100]⟩, .string ⟨#[97, 100, 99]⟩, .string ⟨#[114, 48]⟩, .int .i64 0] w45 fun e w' => e = .returned (.tuple #[]) ∧ (∃ g', Wr w' B b n (T45 ++ withT [97, 100, 100] [97, 100, 99] [114, 48] 0 n) g') ∧ Below B w45 w') := HD
 have hl46 := (show ∀ n, n < 5 → (withT [97, 100, 100] [97, 100, 99] [114, 48] 0 n).length ≤ 20000 from by decide +kernel) n (by omega)
 clear HD
 go_wp2_with fail
 refine (uI HD2).mono ?_
 rintro e w46 ⟨rfl, ⟨g46, hH46⟩, kK46⟩
 generalize hE46 : T45 ++ withT [97, 100, 100] [97, 100, 99] [114, 48] 0 n = T46 at hH46
 have H46 := zH hH46
 have K46 := zH ((uI K45).trans kK46)
 have lb46 : B ≤ w46.heap.size := Nat.le_trans lb45 kK46.size
 clear HD2 hH46 kK46 H45 K45
 have hT46 : T46.length = (T45).length + (withT [97, 100, 100] [97, 100, 99] [114, 48] 0 n).length := by rw [← hE46]; exact List.length_append
 have HE46 := zH hE46
 clear hE46
 have HD := zH (done_any B b n T46 g46  w46 (uI H46) hn1 hn (by omega) lb46 )
 have HD2 : Hid (Calls Tryz.prog 140 #[.pointer (some ⟨b, 0, none⟩)] w46 fun e w' => e = .returned (.tuple #[]) ∧ (∃ g', Wr w' B b n (T46 ++ doneT n) g') ∧ Below B w46 w') := HD
 have hl47 := (show ∀ n, n < 5 → (doneT n).length ≤ 20000 from by decide +kernel) n (by omega)
 clear HD
 go_wp2_with fail
 refine (uI HD2).mono ?_
 rintro e w47 ⟨rfl, ⟨g47, hH47⟩, kK47⟩
 generalize hE47 : T46 ++ doneT n = T47 at hH47
 have H47 := zH hH47
 have K47 := zH ((uI K46).trans kK47)
 have lb47 : B ≤ w47.heap.size := Nat.le_trans lb46 kK47.size
 clear HD2 hH47 kK47 H46 K46
 have hT47 : T47.length = (T46).length + (doneT n).length := by rw [← hE47]; exact List.length_append
 have HE47 := zH hE47
 clear hE47
 have HD := zH (store_any B b n T47 g47  w47 (uI H47) hn1 hn (by omega) lb47 )
 have HD2 : Hid (Calls Tryz.prog 141 #[.pointer (some ⟨b, 0, none⟩)] w47 fun e w' => e = .returned (.tuple #[]) ∧ (∃ g', Wr w' B b n (T47 ++ storeT n) g') ∧ Below B w47 w') := HD
 have hl48 := (show ∀ n, n < 5 → (storeT n).length ≤ 20000 from by decide +kernel) n (by omega)
 clear HD
 go_wp2_with fail
 refine (uI HD2).mono ?_
 rintro e w48 ⟨rfl, ⟨g48, hH48⟩, kK48⟩
 generalize hE48 : T47 ++ storeT n = T48 at hH48
 have H48 := zH hH48
 have K48 := zH ((uI K47).trans kK48)
 have lb48 : B ≤ w48.heap.size := Nat.le_trans lb47 kK48.size
 clear HD2 hH48 kK48 H47 K47
 have hT48 : T48.length = (T47).length + (storeT n).length := by rw [← hE48]; exact List.length_append
 have HE48 := zH hE48
 clear hE48
 have HD := zH (do_none B b n T48 g48 [114, 101, 116] w48 (uI H48) (by first | omega | (simp; omega)) lb48)
 have HD2 : Hid (Calls Tryz.prog 138 #[.pointer (some ⟨b, 0, none⟩), .string ⟨#[114, 101, 116]⟩, .slice none 0 0] w48 fun e w' => e = .returned (.tuple #[]) ∧ (∃ g', Wr w' B b n (T48 ++ insT [114, 101, 116] []) g') ∧ Below B w48 w') := HD
 have hl49 := insT_len (kd := [114, 101, 116]) (fs := []) (by decide) (by simp) fmn
 clear HD
 go_wp2_with fail
 refine (uI HD2).mono ?_
 rintro e w49 ⟨rfl, ⟨g49, hH49⟩, kK49⟩
 generalize hE49 : T48 ++ insT [114, 101, 116] [] = T49 at hH49
 have H49 := zH hH49
 have K49 := zH ((uI K48).trans kK49)
 have lb49 : B ≤ w49.heap.size := Nat.le_trans lb48 kK49.size
 clear HD2 hH49 kK49 H48 K48
 have hT49 : T49.length = (T48).length + (insT [114, 101, 116] []).length := by rw [← hE49]; exact List.length_append
 have HE49 := zH hE49
 clear hE49
 go_wp2_with fail
 go_end0
 refine ⟨rfl, ⟨g49, ?_⟩, uI K49⟩
 have hz := uI H49
 rw [← uI HE49, ← uI HE48, ← uI HE47, ← uI HE46, ← uI HE45, ← uI HE44, ← uI HE43, ← uI HE42] at hz; 
 unfold mulT
 simpa only [List.append_assoc] using hz
theorem div_any (B b n : Nat) (t : List UInt8) (g : Option Nat)  (w : World) (h : Wr w B b n t g) (hn1 : 1 ≤ n) (hn : n ≤ 4) (hl : t.length ≤ 600000) (hBw : B ≤ w.heap.size)  : Calls Tryz.prog 148 #[.pointer (some ⟨b, 0, none⟩)] w fun e w' => e = .returned (.tuple #[]) ∧ (∃ g', Wr w' B b n (t ++ divT n) g') ∧ Below B w w' := by
 have H0 := zH h
 have K0 := zH (Below.refl B w)
 have hnI : (n : Int) ≤ 4 := by omega
 have hnI1 : (1 : Int) ≤ (n : Int) := by omega
 have c2 := h.words
 clear h
 go_enter Tryz.func148, Tryz.ntmps148
 have HD := zH (trapZ_any B b n t g  w (uI H0) hn1 hn (by omega) hBw )
 have HD2 : Hid (Calls Tryz.prog 144 #[.pointer (some ⟨b, 0, none⟩)] w fun e w' => e = .returned (.tuple #[]) ∧ (∃ g', Wr w' B b n (t ++ trapT n) g') ∧ Below B w w') := HD
 have hl50 := (show ∀ n, n < 5 → (trapT n).length ≤ 20000 from by decide +kernel) n (by omega)
 clear HD
 go_wp2_with fail
 refine (uI HD2).mono ?_
 rintro e w50 ⟨rfl, ⟨g50, hH50⟩, kK50⟩
 generalize hE50 : t ++ trapT n = T50 at hH50
 have H50 := zH hH50
 have K50 := zH ((uI K0).trans kK50)
 have lb50 : B ≤ w50.heap.size := Nat.le_trans hBw kK50.size
 clear HD2 hH50 kK50 H0 K0
 have hT50 : T50.length = (t).length + (trapT n).length := by rw [← hE50]; exact List.length_append
 have HE50 := zH hE50
 clear hE50
 have HD := zH (per_any B b n T50 g50  w50 (uI H50) hn1 hn (by omega) lb50 )
 have HD2 : Hid (Calls Tryz.prog 135 #[.pointer (some ⟨b, 0, none⟩)] w50 fun e w' => e = .returned (.tuple #[]) ∧ (∃ g', Wr w' B b n (T50 ++ perT n) g') ∧ Below B w50 w') := HD
 have hl51 := (show ∀ n, n < 5 → (perT n).length ≤ 20000 from by decide +kernel) n (by omega)
 clear HD
 go_wp2_with fail
 refine (uI HD2).mono ?_
 rintro e w51 ⟨rfl, ⟨g51, hH51⟩, kK51⟩
 generalize hE51 : T50 ++ perT n = T51 at hH51
 have H51 := zH hH51
 have K51 := zH ((uI K50).trans kK51)
 have lb51 : B ≤ w51.heap.size := Nat.le_trans lb50 kK51.size
 clear HD2 hH51 kK51 H50 K50
 have hT51 : T51.length = (T50).length + (perT n).length := by rw [← hE51]; exact List.length_append
 have HE51 := zH hE51
 clear hE51
 have HD := zH (upAt_any B b n T51 g51 [114, 48] 0 w51 (uI H51) hn1 hn (by omega) lb51 (by decide) (by decide))
 have HD2 : Hid (Calls Tryz.prog 137 #[.pointer (some ⟨b, 0, none⟩), .string ⟨#[114, 48]⟩, .int .i64 0] w51 fun e w' => e = .returned (.tuple #[]) ∧ (∃ g', Wr w' B b n (T51 ++ upAtT [114, 48] 0 n) g') ∧ Below B w51 w') := HD
 have hl52 := (show ∀ n, n < 5 → (upAtT [114, 48] 0 n).length ≤ 20000 from by decide +kernel) n (by omega)
 clear HD
 go_wp2_with fail
 refine (uI HD2).mono ?_
 rintro e w52 ⟨rfl, ⟨g52, hH52⟩, kK52⟩
 generalize hE52 : T51 ++ upAtT [114, 48] 0 n = T52 at hH52
 have H52 := zH hH52
 have K52 := zH ((uI K51).trans kK52)
 have lb52 : B ≤ w52.heap.size := Nat.le_trans lb51 kK52.size
 clear HD2 hH52 kK52 H51 K51
 have hT52 : T52.length = (T51).length + (upAtT [114, 48] 0 n).length := by rw [← hE52]; exact List.length_append
 have HE52 := zH hE52
 clear hE52
 have HD := zH (up_any B b n T52 g52 [114, 111, 108] w52 (uI H52) hn1 hn (by omega) lb52 (by decide))
 have HD2 : Hid (Calls Tryz.prog 136 #[.pointer (some ⟨b, 0, none⟩), .string ⟨#[114, 111, 108]⟩] w52 fun e w' => e = .returned (.tuple #[]) ∧ (∃ g', Wr w' B b n (T52 ++ upT [114, 111, 108] n) g') ∧ Below B w52 w') := HD
 have hl53 := (show ∀ n, n < 5 → (upT [114, 111, 108] n).length ≤ 20000 from by decide +kernel) n (by omega)
 clear HD
 go_wp2_with fail
 refine (uI HD2).mono ?_
 rintro e w53 ⟨rfl, ⟨g53, hH53⟩, kK53⟩
 generalize hE53 : T52 ++ upT [114, 111, 108] n = T53 at hH53
 have H53 := zH hH53
 have K53 := zH ((uI K52).trans kK53)
 have lb53 : B ≤ w53.heap.size := Nat.le_trans lb52 kK53.size
 clear HD2 hH53 kK53 H52 K52
 have hT53 : T53.length = (T52).length + (upT [114, 111, 108] n).length := by rw [← hE53]; exact List.length_append
 have HE53 := zH hE53
 clear hE53
 have HD := zH (with_any B b n T53 g53 [99, 109, 112] [99, 112, 99] [114, 55] 1 w53 (uI H53) hn1 hn (by omega) lb53 (by decide) (by decide) (by decide) (by decide))
 have HD2 : Hid (Calls Tryz.prog 139 #[.pointer (some ⟨b, 0, none⟩), .string ⟨#[99, 109, 112]⟩, .string ⟨#[99, 112, 99]⟩, .string ⟨#[114, 55]⟩, .int .i64 1] w53 fun e w' => e = .returned (.tuple #[]) ∧ (∃ g', Wr w' B b n (T53 ++ withT [99, 109, 112] [99, 112, 99] [114, 55] 1 n) g') ∧ Below B w53 w') := HD
 have hl54 := (show ∀ n, n < 5 → (withT [99, 109, 112] [99, 112, 99] [114, 55] 1 n).length ≤ 20000 from by decide +kernel) n (by omega)
 clear HD
 go_wp2_with fail
 refine (uI HD2).mono ?_
 rintro e w54 ⟨rfl, ⟨g54, hH54⟩, kK54⟩
 generalize hE54 : T53 ++ withT [99, 109, 112] [99, 112, 99] [114, 55] 1 n = T54 at hH54
 have H54 := zH hH54
 have K54 := zH ((uI K53).trans kK54)
 have lb54 : B ≤ w54.heap.size := Nat.le_trans lb53 kK54.size
 clear HD2 hH54 kK54 H53 K53
 have hT54 : T54.length = (T53).length + (withT [99, 109, 112] [99, 112, 99] [114, 55] 1 n).length := by rw [← hE54]; exact List.length_append
 have HE54 := zH hE54
 clear hE54
 have HD := zH (do_at B b n T54 g54 [106, 99] [[46, 110, 101, 120, 116]] w54 (uI H54) (by simp) (by simp) (fmc (by decide) fmn) (by omega) (by decide) lb54)
 have HD2 : Hid (Calls Tryz.prog 138 #[.pointer (some ⟨b, 0, none⟩), .string ⟨#[106, 99]⟩, .slice (some ⟨w54.heap.size, 0, none⟩) 1 1] (w54.alloc (.cells #[.string ⟨#[46, 110, 101, 120, 116]⟩] 9)) fun e w' => e = .returned (.tuple #[]) ∧ (∃ g', Wr w' B b n (T54 ++ insT [106, 99] [[46, 110, 101, 120, 116]]) g') ∧ Below B w54 w') := HD
 have hl55 := insT_len (kd := [106, 99]) (fs := [[46, 110, 101, 120, 116]]) (by decide) (by simp) (fmc (by decide) fmn)
 clear HD
 go_wp2_with fail
 refine (uI HD2).mono ?_
 rintro e w55 ⟨rfl, ⟨g55, hH55⟩, kK55⟩
 generalize hE55 : T54 ++ insT [106, 99] [[46, 110, 101, 120, 116]] = T55 at hH55
 have H55 := zH hH55
 have K55 := zH ((uI K54).trans kK55)
 have lb55 : B ≤ w55.heap.size := Nat.le_trans lb54 kK55.size
 clear HD2 hH55 kK55 H54 K54
 have hT55 : T55.length = (T54).length + (insT [106, 99] [[46, 110, 101, 120, 116]]).length := by rw [← hE55]; exact List.length_append
 have HE55 := zH hE55
 clear hE55
 have HD := zH (with_any B b n T55 g55 [115, 117, 98] [115, 98, 99] [114, 55] 1 w55 (uI H55) hn1 hn (by omega) lb55 (by decide) (by decide) (by decide) (by decide))
 have HD2 : Hid (Calls Tryz.prog 139 #[.pointer (some ⟨b, 0, none⟩), .string ⟨#[115, 117, 98]⟩, .string ⟨#[115, 98, 99]⟩, .string ⟨#[114, 55]⟩, .int .i64 1] w55 fun e w' => e = .returned (.tuple #[]) ∧ (∃ g', Wr w' B b n (T55 ++ withT [115, 117, 98] [115, 98, 99] [114, 55] 1 n) g') ∧ Below B w55 w') := HD
 have hl56 := (show ∀ n, n < 5 → (withT [115, 117, 98] [115, 98, 99] [114, 55] 1 n).length ≤ 20000 from by decide +kernel) n (by omega)
 clear HD
 go_wp2_with fail
 refine (uI HD2).mono ?_
 rintro e w56 ⟨rfl, ⟨g56, hH56⟩, kK56⟩
 generalize hE56 : T55 ++ withT [115, 117, 98] [115, 98, 99] [114, 55] 1 n = T56 at hH56
 have H56 := zH hH56
 have K56 := zH ((uI K55).trans kK56)
 have lb56 : B ≤ w56.heap.size := Nat.le_trans lb55 kK56.size
 clear HD2 hH56 kK56 H55 K55
 have hT56 : T56.length = (T55).length + (withT [115, 117, 98] [115, 98, 99] [114, 55] 1 n).length := by rw [← hE56]; exact List.length_append
 have HE56 := zH hE56
 clear hE56
 have HD := zH (do_at B b n T56 g56 [108, 100] [[114, 54], [114, 48], [48]] w56 (uI H56) (by simp) (by simp) (fmc (by decide) (fmc (by decide) (fmc (by decide) fmn))) (by omega) (by decide) lb56)
 have HD2 : Hid (Calls Tryz.prog 138 #[.pointer (some ⟨b, 0, none⟩), .string ⟨#[108, 100]⟩, .slice (some ⟨w56.heap.size, 0, none⟩) 3 3] (w56.alloc (.cells #[.string ⟨#[114, 54]⟩, .string ⟨#[114, 48]⟩, .string ⟨#[48]⟩] 9)) fun e w' => e = .returned (.tuple #[]) ∧ (∃ g', Wr w' B b n (T56 ++ insT [108, 100] [[114, 54], [114, 48], [48]]) g') ∧ Below B w56 w') := HD
 have hl57 := insT_len (kd := [108, 100]) (fs := [[114, 54], [114, 48], [48]]) (by decide) (by simp) (fmc (by decide) (fmc (by decide) (fmc (by decide) fmn)))
 clear HD
 go_wp2_with fail
 refine (uI HD2).mono ?_
 rintro e w57 ⟨rfl, ⟨g57, hH57⟩, kK57⟩
 generalize hE57 : T56 ++ insT [108, 100] [[114, 54], [114, 48], [48]] = T57 at hH57
 have H57 := zH hH57
 have K57 := zH ((uI K56).trans kK57)
 have lb57 : B ≤ w57.heap.size := Nat.le_trans lb56 kK57.size
 clear HD2 hH57 kK57 H56 K56
 have hT57 : T57.length = (T56).length + (insT [108, 100] [[114, 54], [114, 48], [48]]).length := by rw [← hE57]; exact List.length_append
 have HE57 := zH hE57
 clear hE57
 have HD := zH (do_at B b n T57 g57 [111, 114] [[114, 54], [114, 49]] w57 (uI H57) (by simp) (by simp) (fmc (by decide) (fmc (by decide) fmn)) (by omega) (by decide) lb57)
 have HD2 : Hid (Calls Tryz.prog 138 #[.pointer (some ⟨b, 0, none⟩), .string ⟨#[111, 114]⟩, .slice (some ⟨w57.heap.size, 0, none⟩) 2 2] (w57.alloc (.cells #[.string ⟨#[114, 54]⟩, .string ⟨#[114, 49]⟩] 9)) fun e w' => e = .returned (.tuple #[]) ∧ (∃ g', Wr w' B b n (T57 ++ insT [111, 114] [[114, 54], [114, 49]]) g') ∧ Below B w57 w') := HD
 have hl58 := insT_len (kd := [111, 114]) (fs := [[114, 54], [114, 49]]) (by decide) (by simp) (fmc (by decide) (fmc (by decide) fmn))
 clear HD
 go_wp2_with fail
 refine (uI HD2).mono ?_
 rintro e w58 ⟨rfl, ⟨g58, hH58⟩, kK58⟩
 generalize hE58 : T57 ++ insT [111, 114] [[114, 54], [114, 49]] = T58 at hH58
 have H58 := zH hH58
 have K58 := zH ((uI K57).trans kK58)
 have lb58 : B ≤ w58.heap.size := Nat.le_trans lb57 kK58.size
 clear HD2 hH58 kK58 H57 K57
 have hT58 : T58.length = (T57).length + (insT [111, 114] [[114, 54], [114, 49]]).length := by rw [← hE58]; exact List.length_append
 have HE58 := zH hE58
 clear hE58
 have HD := zH (do_at B b n T58 g58 [115, 116] [[114, 48], [114, 54], [48]] w58 (uI H58) (by simp) (by simp) (fmc (by decide) (fmc (by decide) (fmc (by decide) fmn))) (by omega) (by decide) lb58)
 have HD2 : Hid (Calls Tryz.prog 138 #[.pointer (some ⟨b, 0, none⟩), .string ⟨#[115, 116]⟩, .slice (some ⟨w58.heap.size, 0, none⟩) 3 3] (w58.alloc (.cells #[.string ⟨#[114, 48]⟩, .string ⟨#[114, 54]⟩, .string ⟨#[48]⟩] 9)) fun e w' => e = .returned (.tuple #[]) ∧ (∃ g', Wr w' B b n (T58 ++ insT [115, 116] [[114, 48], [114, 54], [48]]) g') ∧ Below B w58 w') := HD
 have hl59 := insT_len (kd := [115, 116]) (fs := [[114, 48], [114, 54], [48]]) (by decide) (by simp) (fmc (by decide) (fmc (by decide) (fmc (by decide) fmn)))
 clear HD
 go_wp2_with fail
 refine (uI HD2).mono ?_
 rintro e w59 ⟨rfl, ⟨g59, hH59⟩, kK59⟩
 generalize hE59 : T58 ++ insT [115, 116] [[114, 48], [114, 54], [48]] = T59 at hH59
 have H59 := zH hH59
 have K59 := zH ((uI K58).trans kK59)
 have lb59 : B ≤ w59.heap.size := Nat.le_trans lb58 kK59.size
 clear HD2 hH59 kK59 H58 K58
 have hT59 : T59.length = (T58).length + (insT [115, 116] [[114, 48], [114, 54], [48]]).length := by rw [← hE59]; exact List.length_append
 have HE59 := zH hE59
 clear hE59
 have HD := zH (done_any B b n T59 g59  w59 (uI H59) hn1 hn (by omega) lb59 )
 have HD2 : Hid (Calls Tryz.prog 140 #[.pointer (some ⟨b, 0, none⟩)] w59 fun e w' => e = .returned (.tuple #[]) ∧ (∃ g', Wr w' B b n (T59 ++ doneT n) g') ∧ Below B w59 w') := HD
 have hl60 := (show ∀ n, n < 5 → (doneT n).length ≤ 20000 from by decide +kernel) n (by omega)
 clear HD
 go_wp2_with fail
 refine (uI HD2).mono ?_
 rintro e w60 ⟨rfl, ⟨g60, hH60⟩, kK60⟩
 generalize hE60 : T59 ++ doneT n = T60 at hH60
 have H60 := zH hH60
 have K60 := zH ((uI K59).trans kK60)
 have lb60 : B ≤ w60.heap.size := Nat.le_trans lb59 kK60.size
 clear HD2 hH60 kK60 H59 K59
 have hT60 : T60.length = (T59).length + (doneT n).length := by rw [← hE60]; exact List.length_append
 have HE60 := zH hE60
 clear hE60
 go_wp2_with fail
 go_end0
 refine ⟨rfl, ⟨g60, ?_⟩, uI K60⟩
 have hz := uI H60
 rw [← uI HE60, ← uI HE59, ← uI HE58, ← uI HE57, ← uI HE56, ← uI HE55, ← uI HE54, ← uI HE53, ← uI HE52, ← uI HE51, ← uI HE50] at hz; 
 unfold divT
 simpa only [List.append_assoc] using hz
theorem udiv_any (B b n : Nat) (t : List UInt8) (g : Option Nat)  (w : World) (h : Wr w B b n t g) (hn1 : 1 ≤ n) (hn : n ≤ 4) (hl : t.length ≤ 400000) (hBw : B ≤ w.heap.size)  : Calls Tryz.prog 101 #[.pointer (some ⟨b, 0, none⟩)] w fun e w' => e = .returned (.tuple #[]) ∧ (∃ g', Wr w' B b n (t ++ udivT n) g') ∧ Below B w w' := by
 have H0 := zH h
 have K0 := zH (Below.refl B w)
 have hnI : (n : Int) ≤ 4 := by omega
 have hnI1 : (1 : Int) ≤ (n : Int) := by omega
 have c2 := h.words
 clear h
 go_enter Tryz.func101, Tryz.ntmps101
 have HD := zH (div_any B b n t g  w (uI H0) hn1 hn (by omega) hBw )
 have HD2 : Hid (Calls Tryz.prog 148 #[.pointer (some ⟨b, 0, none⟩)] w fun e w' => e = .returned (.tuple #[]) ∧ (∃ g', Wr w' B b n (t ++ divT n) g') ∧ Below B w w') := HD
 have hl61 := (show ∀ n, n < 5 → (divT n).length ≤ 20000 from by decide +kernel) n (by omega)
 clear HD
 go_wp2_with fail
 refine (uI HD2).mono ?_
 rintro e w61 ⟨rfl, ⟨g61, hH61⟩, kK61⟩
 generalize hE61 : t ++ divT n = T61 at hH61
 have H61 := zH hH61
 have K61 := zH ((uI K0).trans kK61)
 have lb61 : B ≤ w61.heap.size := Nat.le_trans hBw kK61.size
 clear HD2 hH61 kK61 H0 K0
 have hT61 : T61.length = (t).length + (divT n).length := by rw [← hE61]; exact List.length_append
 have HE61 := zH hE61
 clear hE61
 have HD := zH (do_none B b n T61 g61 [114, 101, 116] w61 (uI H61) (by first | omega | (simp; omega)) lb61)
 have HD2 : Hid (Calls Tryz.prog 138 #[.pointer (some ⟨b, 0, none⟩), .string ⟨#[114, 101, 116]⟩, .slice none 0 0] w61 fun e w' => e = .returned (.tuple #[]) ∧ (∃ g', Wr w' B b n (T61 ++ insT [114, 101, 116] []) g') ∧ Below B w61 w') := HD
 have hl62 := insT_len (kd := [114, 101, 116]) (fs := []) (by decide) (by simp) fmn
 clear HD
 go_wp2_with fail
 refine (uI HD2).mono ?_
 rintro e w62 ⟨rfl, ⟨g62, hH62⟩, kK62⟩
 generalize hE62 : T61 ++ insT [114, 101, 116] [] = T62 at hH62
 have H62 := zH hH62
 have K62 := zH ((uI K61).trans kK62)
 have lb62 : B ≤ w62.heap.size := Nat.le_trans lb61 kK62.size
 clear HD2 hH62 kK62 H61 K61
 have hT62 : T62.length = (T61).length + (insT [114, 101, 116] []).length := by rw [← hE62]; exact List.length_append
 have HE62 := zH hE62
 clear hE62
 go_wp2_with fail
 go_end0
 refine ⟨rfl, ⟨g62, ?_⟩, uI K62⟩
 have hz := uI H62
 rw [← uI HE62, ← uI HE61] at hz; 
 unfold udivT
 simpa only [List.append_assoc] using hz
theorem urem_any (B b n : Nat) (t : List UInt8) (g : Option Nat)  (w : World) (h : Wr w B b n t g) (hn1 : 1 ≤ n) (hn : n ≤ 4) (hl : t.length ≤ 400000) (hBw : B ≤ w.heap.size)  : Calls Tryz.prog 102 #[.pointer (some ⟨b, 0, none⟩)] w fun e w' => e = .returned (.tuple #[]) ∧ (∃ g', Wr w' B b n (t ++ uremT n) g') ∧ Below B w w' := by
 have H0 := zH h
 have K0 := zH (Below.refl B w)
 have hnI : (n : Int) ≤ 4 := by omega
 have hnI1 : (1 : Int) ≤ (n : Int) := by omega
 have c2 := h.words
 clear h
 go_enter Tryz.func102, Tryz.ntmps102
 have HD := zH (div_any B b n t g  w (uI H0) hn1 hn (by omega) hBw )
 have HD2 : Hid (Calls Tryz.prog 148 #[.pointer (some ⟨b, 0, none⟩)] w fun e w' => e = .returned (.tuple #[]) ∧ (∃ g', Wr w' B b n (t ++ divT n) g') ∧ Below B w w') := HD
 have hl63 := (show ∀ n, n < 5 → (divT n).length ≤ 20000 from by decide +kernel) n (by omega)
 clear HD
 go_wp2_with fail
 refine (uI HD2).mono ?_
 rintro e w63 ⟨rfl, ⟨g63, hH63⟩, kK63⟩
 generalize hE63 : t ++ divT n = T63 at hH63
 have H63 := zH hH63
 have K63 := zH ((uI K0).trans kK63)
 have lb63 : B ≤ w63.heap.size := Nat.le_trans hBw kK63.size
 clear HD2 hH63 kK63 H0 K0
 have hT63 : T63.length = (t).length + (divT n).length := by rw [← hE63]; exact List.length_append
 have HE63 := zH hE63
 clear hE63
 have HD := zH (store_any B b n T63 g63  w63 (uI H63) hn1 hn (by omega) lb63 )
 have HD2 : Hid (Calls Tryz.prog 141 #[.pointer (some ⟨b, 0, none⟩)] w63 fun e w' => e = .returned (.tuple #[]) ∧ (∃ g', Wr w' B b n (T63 ++ storeT n) g') ∧ Below B w63 w') := HD
 have hl64 := (show ∀ n, n < 5 → (storeT n).length ≤ 20000 from by decide +kernel) n (by omega)
 clear HD
 go_wp2_with fail
 refine (uI HD2).mono ?_
 rintro e w64 ⟨rfl, ⟨g64, hH64⟩, kK64⟩
 generalize hE64 : T63 ++ storeT n = T64 at hH64
 have H64 := zH hH64
 have K64 := zH ((uI K63).trans kK64)
 have lb64 : B ≤ w64.heap.size := Nat.le_trans lb63 kK64.size
 clear HD2 hH64 kK64 H63 K63
 have hT64 : T64.length = (T63).length + (storeT n).length := by rw [← hE64]; exact List.length_append
 have HE64 := zH hE64
 clear hE64
 have HD := zH (do_none B b n T64 g64 [114, 101, 116] w64 (uI H64) (by first | omega | (simp; omega)) lb64)
 have HD2 : Hid (Calls Tryz.prog 138 #[.pointer (some ⟨b, 0, none⟩), .string ⟨#[114, 101, 116]⟩, .slice none 0 0] w64 fun e w' => e = .returned (.tuple #[]) ∧ (∃ g', Wr w' B b n (T64 ++ insT [114, 101, 116] []) g') ∧ Below B w64 w') := HD
 have hl65 := insT_len (kd := [114, 101, 116]) (fs := []) (by decide) (by simp) fmn
 clear HD
 go_wp2_with fail
 refine (uI HD2).mono ?_
 rintro e w65 ⟨rfl, ⟨g65, hH65⟩, kK65⟩
 generalize hE65 : T64 ++ insT [114, 101, 116] [] = T65 at hH65
 have H65 := zH hH65
 have K65 := zH ((uI K64).trans kK65)
 have lb65 : B ≤ w65.heap.size := Nat.le_trans lb64 kK65.size
 clear HD2 hH65 kK65 H64 K64
 have hT65 : T65.length = (T64).length + (insT [114, 101, 116] []).length := by rw [← hE65]; exact List.length_append
 have HE65 := zH hE65
 clear hE65
 go_wp2_with fail
 go_end0
 refine ⟨rfl, ⟨g65, ?_⟩, uI K65⟩
 have hz := uI H65
 rw [← uI HE65, ← uI HE64, ← uI HE63] at hz; 
 unfold uremT
 simpa only [List.append_assoc] using hz
end Go.Proofs.YtlkoidkdeopgjaaGreatDoor
