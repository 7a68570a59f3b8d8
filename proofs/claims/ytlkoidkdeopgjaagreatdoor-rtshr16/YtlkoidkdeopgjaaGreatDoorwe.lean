/-
  RtF4.
-/
import Derived.Test.YtlkoidkdeopgjaaGreatDoorwc
set_option maxHeartbeats 4000000
set_option maxRecDepth 100000
namespace Go.Proofs.YtlkoidkdeopgjaaGreatDoor
open Go.RowKit
set_option linter.unusedSimpArgs false
set_option linter.unusedVariables false
theorem shiftL_any (B b n : Nat) (t : List UInt8) (g : Option Nat)  (w : World) (h : Wr w B b n t g) (hn1 : 1 ≤ n) (hn : n ≤ 4) (hl : t.length ≤ 600000) (hBw : B ≤ w.heap.size)  : Calls Tryz.prog 142 #[.pointer (some ⟨b, 0, none⟩), .func (.func 136) #[] #[], .string ⟨#[115, 104, 108]⟩] w fun e w' => e = .returned (.tuple #[]) ∧ (∃ g', Wr w' B b n (t ++ shlT n) g') ∧ Below B w w' := by
 have H0 := zH h
 have K0 := zH (Below.refl B w)
 have hnI : (n : Int) ≤ 4 := by omega
 have hnI1 : (1 : Int) ≤ (n : Int) := by omega
 have c2 := h.words
 clear h
 go_enter Tryz.func142, Tryz.ntmps142
 have HD := zH (do_at B b n t g [108, 100] [[114, 49], [114, 49], [48]] w (uI H0) (by simp) (by simp) (fmc (by decide) (fmc (by decide) (fmc (by decide) fmn))) (by omega) (by decide) hBw)
 have HD2 : Hid (Calls Tryz.prog 138 #[.pointer (some ⟨b, 0, none⟩), .string ⟨#[108, 100]⟩, .slice (some ⟨w.heap.size, 0, none⟩) 3 3] (w.alloc (.cells #[.string ⟨#[114, 49]⟩, .string ⟨#[114, 49]⟩, .string ⟨#[48]⟩] 9)) fun e w' => e = .returned (.tuple #[]) ∧ (∃ g', Wr w' B b n (t ++ insT [108, 100] [[114, 49], [114, 49], [48]]) g') ∧ Below B w w') := HD
 have hl89 := insT_len (kd := [108, 100]) (fs := [[114, 49], [114, 49], [48]]) (by decide) (by simp) (fmc (by decide) (fmc (by decide) (fmc (by decide) fmn)))
 clear HD
 go_wp2_with fail
 refine (uI HD2).mono ?_
 rintro e w89 ⟨rfl, ⟨g89, hH89⟩, kK89⟩
 generalize hE89 : t ++ insT [108, 100] [[114, 49], [114, 49], [48]] = T89 at hH89
 have H89 := zH hH89
 have K89 := zH ((uI K0).trans kK89)
 have lb89 : B ≤ w89.heap.size := Nat.le_trans hBw kK89.size
 clear HD2 hH89 kK89 H0 K0
 have hT89 : T89.length = (t).length + (insT [108, 100] [[114, 49], [114, 49], [48]]).length := by rw [← hE89]; exact List.length_append
 have HE89 := zH hE89
 clear hE89
 have c2 := (uI H89).words
 have HB := zH (bits_any B b n T89 g89 w89 (uI H89) hn)
 go_wp2_with fail
 refine (uI HB).mono ?_
 rintro e wq ⟨rfl, hq⟩
 subst wq
 clear HB
 have HH := zH (fun W => digits_any (16 * n) (by omega) W)
 rw [show (((16 * n) : Nat) : Int) = 16 * (n : Int) by omega] at HH
 go_wp2_with fail
 refine (uI HH _).mono ?_
 rintro e wq ⟨rfl, hq⟩
 subst wq
 clear HH
 have HD := zH (do_at B b n T89 g89 [108, 100, 105] [[114, 54], dgs (16 * n)] w89 (uI H89) (by simp) (by simp) (fmc (by decide) (fmc (dgs_len20 _) fmn)) (by omega) (by decide) lb89)
 have HD2 : Hid (Calls Tryz.prog 138 #[.pointer (some ⟨b, 0, none⟩), .string ⟨#[108, 100, 105]⟩, .slice (some ⟨w89.heap.size, 0, none⟩) 2 2] (w89.alloc (.cells #[.string ⟨#[114, 54]⟩, .string (sb (dgs (16 * n)))] 9)) fun e w' => e = .returned (.tuple #[]) ∧ (∃ g', Wr w' B b n (T89 ++ insT [108, 100, 105] [[114, 54], dgs (16 * n)]) g') ∧ Below B w89 w') := HD
 have hl90 := insT_len (kd := [108, 100, 105]) (fs := [[114, 54], dgs (16 * n)]) (by decide) (by simp) (fmc (by decide) (fmc (dgs_len20 _) fmn))
 clear HD
 go_wp2_with fail
 refine (uI HD2).mono ?_
 rintro e w90 ⟨rfl, ⟨g90, hH90⟩, kK90⟩
 generalize hE90 : T89 ++ insT [108, 100, 105] [[114, 54], dgs (16 * n)] = T90 at hH90
 have H90 := zH hH90
 have K90 := zH ((uI K89).trans kK90)
 have lb90 : B ≤ w90.heap.size := Nat.le_trans lb89 kK90.size
 clear HD2 hH90 kK90 H89 K89
 have hT90 : T90.length = (T89).length + (insT [108, 100, 105] [[114, 54], dgs (16 * n)]).length := by rw [← hE90]; exact List.length_append
 have HE90 := zH hE90
 clear hE90
 have HD := zH (do_at B b n T90 g90 [99, 109, 112] [[114, 49], [114, 54]] w90 (uI H90) (by simp) (by simp) (fmc (by decide) (fmc (by decide) fmn)) (by omega) (by decide) lb90)
 have HD2 : Hid (Calls Tryz.prog 138 #[.pointer (some ⟨b, 0, none⟩), .string ⟨#[99, 109, 112]⟩, .slice (some ⟨w90.heap.size, 0, none⟩) 2 2] (w90.alloc (.cells #[.string ⟨#[114, 49]⟩, .string ⟨#[114, 54]⟩] 9)) fun e w' => e = .returned (.tuple #[]) ∧ (∃ g', Wr w' B b n (T90 ++ insT [99, 109, 112] [[114, 49], [114, 54]]) g') ∧ Below B w90 w') := HD
 have hl91 := insT_len (kd := [99, 109, 112]) (fs := [[114, 49], [114, 54]]) (by decide) (by simp) (fmc (by decide) (fmc (by decide) fmn))
 clear HD
 go_wp2_with fail
 refine (uI HD2).mono ?_
 rintro e w91 ⟨rfl, ⟨g91, hH91⟩, kK91⟩
 generalize hE91 : T90 ++ insT [99, 109, 112] [[114, 49], [114, 54]] = T91 at hH91
 have H91 := zH hH91
 have K91 := zH ((uI K90).trans kK91)
 have lb91 : B ≤ w91.heap.size := Nat.le_trans lb90 kK91.size
 clear HD2 hH91 kK91 H90 K90
 have hT91 : T91.length = (T90).length + (insT [99, 109, 112] [[114, 49], [114, 54]]).length := by rw [← hE91]; exact List.length_append
 have HE91 := zH hE91
 clear hE91
 have HD := zH (do_at B b n T91 g91 [106, 99] [[46, 102, 101, 119]] w91 (uI H91) (by simp) (by simp) (fmc (by decide) fmn) (by omega) (by decide) lb91)
 have HD2 : Hid (Calls Tryz.prog 138 #[.pointer (some ⟨b, 0, none⟩), .string ⟨#[106, 99]⟩, .slice (some ⟨w91.heap.size, 0, none⟩) 1 1] (w91.alloc (.cells #[.string ⟨#[46, 102, 101, 119]⟩] 9)) fun e w' => e = .returned (.tuple #[]) ∧ (∃ g', Wr w' B b n (T91 ++ insT [106, 99] [[46, 102, 101, 119]]) g') ∧ Below B w91 w') := HD
 have hl92 := insT_len (kd := [106, 99]) (fs := [[46, 102, 101, 119]]) (by decide) (by simp) (fmc (by decide) fmn)
 clear HD
 go_wp2_with fail
 refine (uI HD2).mono ?_
 rintro e w92 ⟨rfl, ⟨g92, hH92⟩, kK92⟩
 generalize hE92 : T91 ++ insT [106, 99] [[46, 102, 101, 119]] = T92 at hH92
 have H92 := zH hH92
 have K92 := zH ((uI K91).trans kK92)
 have lb92 : B ≤ w92.heap.size := Nat.le_trans lb91 kK92.size
 clear HD2 hH92 kK92 H91 K91
 have hT92 : T92.length = (T91).length + (insT [106, 99] [[46, 102, 101, 119]]).length := by rw [← hE92]; exact List.length_append
 have HE92 := zH hE92
 clear hE92
 have HD := zH (do_at B b n T92 g92 [109, 111, 118] [[114, 49], [114, 54]] w92 (uI H92) (by simp) (by simp) (fmc (by decide) (fmc (by decide) fmn)) (by omega) (by decide) lb92)
 have HD2 : Hid (Calls Tryz.prog 138 #[.pointer (some ⟨b, 0, none⟩), .string ⟨#[109, 111, 118]⟩, .slice (some ⟨w92.heap.size, 0, none⟩) 2 2] (w92.alloc (.cells #[.string ⟨#[114, 49]⟩, .string ⟨#[114, 54]⟩] 9)) fun e w' => e = .returned (.tuple #[]) ∧ (∃ g', Wr w' B b n (T92 ++ insT [109, 111, 118] [[114, 49], [114, 54]]) g') ∧ Below B w92 w') := HD
 have hl93 := insT_len (kd := [109, 111, 118]) (fs := [[114, 49], [114, 54]]) (by decide) (by simp) (fmc (by decide) (fmc (by decide) fmn))
 clear HD
 go_wp2_with fail
 refine (uI HD2).mono ?_
 rintro e w93 ⟨rfl, ⟨g93, hH93⟩, kK93⟩
 generalize hE93 : T92 ++ insT [109, 111, 118] [[114, 49], [114, 54]] = T93 at hH93
 have H93 := zH hH93
 have K93 := zH ((uI K92).trans kK93)
 have lb93 : B ≤ w93.heap.size := Nat.le_trans lb92 kK93.size
 clear HD2 hH93 kK93 H92 K92
 have hT93 : T93.length = (T92).length + (insT [109, 111, 118] [[114, 49], [114, 54]]).length := by rw [← hE93]; exact List.length_append
 have HE93 := zH hE93
 clear hE93
 have HD := zH (label_any B b n T93 g93 [46, 102, 101, 119] w93 (uI H93) (by have : ([46, 102, 101, 119]).length ≤ 20 := (by decide); omega) lb93)
 have HD2 : Hid (Calls Tryz.prog 73 #[.pointer (some ⟨b, 0, none⟩), .string ⟨#[46, 102, 101, 119]⟩] w93 fun e w' => e = .returned (.tuple #[]) ∧ (∃ g', Wr w' B b n (T93 ++ labT [46, 102, 101, 119]) g') ∧ Below B w93 w') := HD
 have hl94 := labT_len (s := [46, 102, 101, 119]) (by decide)
 clear HD
 go_wp2_with fail
 refine (uI HD2).mono ?_
 rintro e w94 ⟨rfl, ⟨g94, hH94⟩, kK94⟩
 generalize hE94 : T93 ++ labT [46, 102, 101, 119] = T94 at hH94
 have H94 := zH hH94
 have K94 := zH ((uI K93).trans kK94)
 have lb94 : B ≤ w94.heap.size := Nat.le_trans lb93 kK94.size
 clear HD2 hH94 kK94 H93 K93
 have hT94 : T94.length = (T93).length + (labT [46, 102, 101, 119]).length := by rw [← hE94]; exact List.length_append
 have HE94 := zH hE94
 clear hE94
 have HD := zH (load_any B b n T94 g94  w94 (uI H94) hn1 hn (by omega) lb94 )
 have HD2 : Hid (Calls Tryz.prog 183 #[.pointer (some ⟨b, 0, none⟩)] w94 fun e w' => e = .returned (.tuple #[]) ∧ (∃ g', Wr w' B b n (T94 ++ loadT n) g') ∧ Below B w94 w') := HD
 have hl95 := (show ∀ n, n < 5 → (loadT n).length ≤ 20000 from by decide +kernel) n (by omega)
 clear HD
 go_wp2_with fail
 refine (uI HD2).mono ?_
 rintro e w95 ⟨rfl, ⟨g95, hH95⟩, kK95⟩
 generalize hE95 : T94 ++ loadT n = T95 at hH95
 have H95 := zH hH95
 have K95 := zH ((uI K94).trans kK95)
 have lb95 : B ≤ w95.heap.size := Nat.le_trans lb94 kK95.size
 clear HD2 hH95 kK95 H94 K94
 have hT95 : T95.length = (T94).length + (loadT n).length := by rw [← hE95]; exact List.length_append
 have HE95 := zH hE95
 clear hE95
 have HD := zH (do_at B b n T95 g95 [108, 100, 105] [[114, 54], [49]] w95 (uI H95) (by simp) (by simp) (fmc (by decide) (fmc (by decide) fmn)) (by omega) (by decide) lb95)
 have HD2 : Hid (Calls Tryz.prog 138 #[.pointer (some ⟨b, 0, none⟩), .string ⟨#[108, 100, 105]⟩, .slice (some ⟨w95.heap.size, 0, none⟩) 2 2] (w95.alloc (.cells #[.string ⟨#[114, 54]⟩, .string ⟨#[49]⟩] 9)) fun e w' => e = .returned (.tuple #[]) ∧ (∃ g', Wr w' B b n (T95 ++ insT [108, 100, 105] [[114, 54], [49]]) g') ∧ Below B w95 w') := HD
 have hl96 := insT_len (kd := [108, 100, 105]) (fs := [[114, 54], [49]]) (by decide) (by simp) (fmc (by decide) (fmc (by decide) fmn))
 clear HD
 go_wp2_with fail
 refine (uI HD2).mono ?_
 rintro e w96 ⟨rfl, ⟨g96, hH96⟩, kK96⟩
 generalize hE96 : T95 ++ insT [108, 100, 105] [[114, 54], [49]] = T96 at hH96
 have H96 := zH hH96
 have K96 := zH ((uI K95).trans kK96)
 have lb96 : B ≤ w96.heap.size := Nat.le_trans lb95 kK96.size
 clear HD2 hH96 kK96 H95 K95
 have hT96 : T96.length = (T95).length + (insT [108, 100, 105] [[114, 54], [49]]).length := by rw [← hE96]; exact List.length_append
 have HE96 := zH hE96
 clear hE96
 have HD := zH (label_any B b n T96 g96 [46, 112, 108, 97, 99, 101] w96 (uI H96) (by have : ([46, 112, 108, 97, 99, 101]).length ≤ 20 := (by decide); omega) lb96)
 have HD2 : Hid (Calls Tryz.prog 73 #[.pointer (some ⟨b, 0, none⟩), .string ⟨#[46, 112, 108, 97, 99, 101]⟩] w96 fun e w' => e = .returned (.tuple #[]) ∧ (∃ g', Wr w' B b n (T96 ++ labT [46, 112, 108, 97, 99, 101]) g') ∧ Below B w96 w') := HD
 have hl97 := labT_len (s := [46, 112, 108, 97, 99, 101]) (by decide)
 clear HD
 go_wp2_with fail
 refine (uI HD2).mono ?_
 rintro e w97 ⟨rfl, ⟨g97, hH97⟩, kK97⟩
 generalize hE97 : T96 ++ labT [46, 112, 108, 97, 99, 101] = T97 at hH97
 have H97 := zH hH97
 have K97 := zH ((uI K96).trans kK97)
 have lb97 : B ≤ w97.heap.size := Nat.le_trans lb96 kK97.size
 clear HD2 hH97 kK97 H96 K96
 have hT97 : T97.length = (T96).length + (labT [46, 112, 108, 97, 99, 101]).length := by rw [← hE97]; exact List.length_append
 have HE97 := zH hE97
 clear hE97
 have HD := zH (do_at B b n T97 g97 [115, 117, 98] [[114, 49], [114, 54]] w97 (uI H97) (by simp) (by simp) (fmc (by decide) (fmc (by decide) fmn)) (by omega) (by decide) lb97)
 have HD2 : Hid (Calls Tryz.prog 138 #[.pointer (some ⟨b, 0, none⟩), .string ⟨#[115, 117, 98]⟩, .slice (some ⟨w97.heap.size, 0, none⟩) 2 2] (w97.alloc (.cells #[.string ⟨#[114, 49]⟩, .string ⟨#[114, 54]⟩] 9)) fun e w' => e = .returned (.tuple #[]) ∧ (∃ g', Wr w' B b n (T97 ++ insT [115, 117, 98] [[114, 49], [114, 54]]) g') ∧ Below B w97 w') := HD
 have hl98 := insT_len (kd := [115, 117, 98]) (fs := [[114, 49], [114, 54]]) (by decide) (by simp) (fmc (by decide) (fmc (by decide) fmn))
 clear HD
 go_wp2_with fail
 refine (uI HD2).mono ?_
 rintro e w98 ⟨rfl, ⟨g98, hH98⟩, kK98⟩
 generalize hE98 : T97 ++ insT [115, 117, 98] [[114, 49], [114, 54]] = T98 at hH98
 have H98 := zH hH98
 have K98 := zH ((uI K97).trans kK98)
 have lb98 : B ≤ w98.heap.size := Nat.le_trans lb97 kK98.size
 clear HD2 hH98 kK98 H97 K97
 have hT98 : T98.length = (T97).length + (insT [115, 117, 98] [[114, 49], [114, 54]]).length := by rw [← hE98]; exact List.length_append
 have HE98 := zH hE98
 clear hE98
 have HD := zH (do_at B b n T98 g98 [106, 99] [[46, 101, 110, 100]] w98 (uI H98) (by simp) (by simp) (fmc (by decide) fmn) (by omega) (by decide) lb98)
 have HD2 : Hid (Calls Tryz.prog 138 #[.pointer (some ⟨b, 0, none⟩), .string ⟨#[106, 99]⟩, .slice (some ⟨w98.heap.size, 0, none⟩) 1 1] (w98.alloc (.cells #[.string ⟨#[46, 101, 110, 100]⟩] 9)) fun e w' => e = .returned (.tuple #[]) ∧ (∃ g', Wr w' B b n (T98 ++ insT [106, 99] [[46, 101, 110, 100]]) g') ∧ Below B w98 w') := HD
 have hl99 := insT_len (kd := [106, 99]) (fs := [[46, 101, 110, 100]]) (by decide) (by simp) (fmc (by decide) fmn)
 clear HD
 go_wp2_with fail
 refine (uI HD2).mono ?_
 rintro e w99 ⟨rfl, ⟨g99, hH99⟩, kK99⟩
 generalize hE99 : T98 ++ insT [106, 99] [[46, 101, 110, 100]] = T99 at hH99
 have H99 := zH hH99
 have K99 := zH ((uI K98).trans kK99)
 have lb99 : B ≤ w99.heap.size := Nat.le_trans lb98 kK99.size
 clear HD2 hH99 kK99 H98 K98
 have hT99 : T99.length = (T98).length + (insT [106, 99] [[46, 101, 110, 100]]).length := by rw [← hE99]; exact List.length_append
 have HE99 := zH hE99
 clear hE99
 have HD := zH (up_any B b n T99 g99 [115, 104, 108] w99 (uI H99) hn1 hn (by omega) lb99 (by decide))
 have HD2 : Hid (Calls Tryz.prog 136 #[.pointer (some ⟨b, 0, none⟩), .string ⟨#[115, 104, 108]⟩] w99 fun e w' => e = .returned (.tuple #[]) ∧ (∃ g', Wr w' B b n (T99 ++ upT [115, 104, 108] n) g') ∧ Below B w99 w') := HD
 have hl100 := (show ∀ n, n < 5 → (upT [115, 104, 108] n).length ≤ 20000 from by decide +kernel) n (by omega)
 clear HD
 go_wp2_with fail
 refine (uI HD2).mono ?_
 rintro e w100 ⟨rfl, ⟨g100, hH100⟩, kK100⟩
 generalize hE100 : T99 ++ upT [115, 104, 108] n = T100 at hH100
 have H100 := zH hH100
 have K100 := zH ((uI K99).trans kK100)
 have lb100 : B ≤ w100.heap.size := Nat.le_trans lb99 kK100.size
 clear HD2 hH100 kK100 H99 K99
 have hT100 : T100.length = (T99).length + (upT [115, 104, 108] n).length := by rw [← hE100]; exact List.length_append
 have HE100 := zH hE100
 clear hE100
 have HD := zH (do_at B b n T100 g100 [106, 109, 112] [[46, 112, 108, 97, 99, 101]] w100 (uI H100) (by simp) (by simp) (fmc (by decide) fmn) (by omega) (by decide) lb100)
 have HD2 : Hid (Calls Tryz.prog 138 #[.pointer (some ⟨b, 0, none⟩), .string ⟨#[106, 109, 112]⟩, .slice (some ⟨w100.heap.size, 0, none⟩) 1 1] (w100.alloc (.cells #[.string ⟨#[46, 112, 108, 97, 99, 101]⟩] 9)) fun e w' => e = .returned (.tuple #[]) ∧ (∃ g', Wr w' B b n (T100 ++ insT [106, 109, 112] [[46, 112, 108, 97, 99, 101]]) g') ∧ Below B w100 w') := HD
 have hl101 := insT_len (kd := [106, 109, 112]) (fs := [[46, 112, 108, 97, 99, 101]]) (by decide) (by simp) (fmc (by decide) fmn)
 clear HD
 go_wp2_with fail
 refine (uI HD2).mono ?_
 rintro e w101 ⟨rfl, ⟨g101, hH101⟩, kK101⟩
 generalize hE101 : T100 ++ insT [106, 109, 112] [[46, 112, 108, 97, 99, 101]] = T101 at hH101
 have H101 := zH hH101
 have K101 := zH ((uI K100).trans kK101)
 have lb101 : B ≤ w101.heap.size := Nat.le_trans lb100 kK101.size
 clear HD2 hH101 kK101 H100 K100
 have hT101 : T101.length = (T100).length + (insT [106, 109, 112] [[46, 112, 108, 97, 99, 101]]).length := by rw [← hE101]; exact List.length_append
 have HE101 := zH hE101
 clear hE101
 have HD := zH (label_any B b n T101 g101 [46, 101, 110, 100] w101 (uI H101) (by have : ([46, 101, 110, 100]).length ≤ 20 := (by decide); omega) lb101)
 have HD2 : Hid (Calls Tryz.prog 73 #[.pointer (some ⟨b, 0, none⟩), .string ⟨#[46, 101, 110, 100]⟩] w101 fun e w' => e = .returned (.tuple #[]) ∧ (∃ g', Wr w' B b n (T101 ++ labT [46, 101, 110, 100]) g') ∧ Below B w101 w') := HD
 have hl102 := labT_len (s := [46, 101, 110, 100]) (by decide)
 clear HD
 go_wp2_with fail
 refine (uI HD2).mono ?_
 rintro e w102 ⟨rfl, ⟨g102, hH102⟩, kK102⟩
 generalize hE102 : T101 ++ labT [46, 101, 110, 100] = T102 at hH102
 have H102 := zH hH102
 have K102 := zH ((uI K101).trans kK102)
 have lb102 : B ≤ w102.heap.size := Nat.le_trans lb101 kK102.size
 clear HD2 hH102 kK102 H101 K101
 have hT102 : T102.length = (T101).length + (labT [46, 101, 110, 100]).length := by rw [← hE102]; exact List.length_append
 have HE102 := zH hE102
 clear hE102
 have HD := zH (store_any B b n T102 g102  w102 (uI H102) hn1 hn (by omega) lb102 )
 have HD2 : Hid (Calls Tryz.prog 141 #[.pointer (some ⟨b, 0, none⟩)] w102 fun e w' => e = .returned (.tuple #[]) ∧ (∃ g', Wr w' B b n (T102 ++ storeT n) g') ∧ Below B w102 w') := HD
 have hl103 := (show ∀ n, n < 5 → (storeT n).length ≤ 20000 from by decide +kernel) n (by omega)
 clear HD
 go_wp2_with fail
 refine (uI HD2).mono ?_
 rintro e w103 ⟨rfl, ⟨g103, hH103⟩, kK103⟩
 generalize hE103 : T102 ++ storeT n = T103 at hH103
 have H103 := zH hH103
 have K103 := zH ((uI K102).trans kK103)
 have lb103 : B ≤ w103.heap.size := Nat.le_trans lb102 kK103.size
 clear HD2 hH103 kK103 H102 K102
 have hT103 : T103.length = (T102).length + (storeT n).length := by rw [← hE103]; exact List.length_append
 have HE103 := zH hE103
 clear hE103
 have HD := zH (do_none B b n T103 g103 [114, 101, 116] w103 (uI H103) (by first | omega | (simp; omega)) lb103)
 have HD2 : Hid (Calls Tryz.prog 138 #[.pointer (some ⟨b, 0, none⟩), .string ⟨#[114, 101, 116]⟩, .slice none 0 0] w103 fun e w' => e = .returned (.tuple #[]) ∧ (∃ g', Wr w' B b n (T103 ++ insT [114, 101, 116] []) g') ∧ Below B w103 w') := HD
 have hl104 := insT_len (kd := [114, 101, 116]) (fs := []) (by decide) (by simp) fmn
 clear HD
 go_wp2_with fail
 refine (uI HD2).mono ?_
 rintro e w104 ⟨rfl, ⟨g104, hH104⟩, kK104⟩
 generalize hE104 : T103 ++ insT [114, 101, 116] [] = T104 at hH104
 have H104 := zH hH104
 have K104 := zH ((uI K103).trans kK104)
 have lb104 : B ≤ w104.heap.size := Nat.le_trans lb103 kK104.size
 clear HD2 hH104 kK104 H103 K103
 have hT104 : T104.length = (T103).length + (insT [114, 101, 116] []).length := by rw [← hE104]; exact List.length_append
 have HE104 := zH hE104
 clear hE104
 go_wp2_with fail
 go_end0
 refine ⟨rfl, ⟨g104, ?_⟩, uI K104⟩
 have hz := uI H104
 rw [← uI HE104, ← uI HE103, ← uI HE102, ← uI HE101, ← uI HE100, ← uI HE99, ← uI HE98, ← uI HE97, ← uI HE96, ← uI HE95, ← uI HE94, ← uI HE93, ← uI HE92, ← uI HE91, ← uI HE90, ← uI HE89] at hz; 
 unfold shlT shiftT
 simpa only [List.append_assoc] using hz
theorem shiftR_any (B b n : Nat) (t : List UInt8) (g : Option Nat)  (w : World) (h : Wr w B b n t g) (hn1 : 1 ≤ n) (hn : n ≤ 4) (hl : t.length ≤ 600000) (hBw : B ≤ w.heap.size)  : Calls Tryz.prog 142 #[.pointer (some ⟨b, 0, none⟩), .func (.func 143) #[] #[], .string ⟨#[115, 104, 114]⟩] w fun e w' => e = .returned (.tuple #[]) ∧ (∃ g', Wr w' B b n (t ++ shrT n) g') ∧ Below B w w' := by
 have H0 := zH h
 have K0 := zH (Below.refl B w)
 have hnI : (n : Int) ≤ 4 := by omega
 have hnI1 : (1 : Int) ≤ (n : Int) := by omega
 have c2 := h.words
 clear h
 go_enter Tryz.func142, Tryz.ntmps142
 have HD := zH (do_at B b n t g [108, 100] [[114, 49], [114, 49], [48]] w (uI H0) (by simp) (by simp) (fmc (by decide) (fmc (by decide) (fmc (by decide) fmn))) (by omega) (by decide) hBw)
 have HD2 : Hid (Calls Tryz.prog 138 #[.pointer (some ⟨b, 0, none⟩), .string ⟨#[108, 100]⟩, .slice (some ⟨w.heap.size, 0, none⟩) 3 3] (w.alloc (.cells #[.string ⟨#[114, 49]⟩, .string ⟨#[114, 49]⟩, .string ⟨#[48]⟩] 9)) fun e w' => e = .returned (.tuple #[]) ∧ (∃ g', Wr w' B b n (t ++ insT [108, 100] [[114, 49], [114, 49], [48]]) g') ∧ Below B w w') := HD
 have hl105 := insT_len (kd := [108, 100]) (fs := [[114, 49], [114, 49], [48]]) (by decide) (by simp) (fmc (by decide) (fmc (by decide) (fmc (by decide) fmn)))
 clear HD
 go_wp2_with fail
 refine (uI HD2).mono ?_
 rintro e w105 ⟨rfl, ⟨g105, hH105⟩, kK105⟩
 generalize hE105 : t ++ insT [108, 100] [[114, 49], [114, 49], [48]] = T105 at hH105
 have H105 := zH hH105
 have K105 := zH ((uI K0).trans kK105)
 have lb105 : B ≤ w105.heap.size := Nat.le_trans hBw kK105.size
 clear HD2 hH105 kK105 H0 K0
 have hT105 : T105.length = (t).length + (insT [108, 100] [[114, 49], [114, 49], [48]]).length := by rw [← hE105]; exact List.length_append
 have HE105 := zH hE105
 clear hE105
 have c2 := (uI H105).words
 have HB := zH (bits_any B b n T105 g105 w105 (uI H105) hn)
 go_wp2_with fail
 refine (uI HB).mono ?_
 rintro e wq ⟨rfl, hq⟩
 subst wq
 clear HB
 have HH := zH (fun W => digits_any (16 * n) (by omega) W)
 rw [show (((16 * n) : Nat) : Int) = 16 * (n : Int) by omega] at HH
 go_wp2_with fail
 refine (uI HH _).mono ?_
 rintro e wq ⟨rfl, hq⟩
 subst wq
 clear HH
 have HD := zH (do_at B b n T105 g105 [108, 100, 105] [[114, 54], dgs (16 * n)] w105 (uI H105) (by simp) (by simp) (fmc (by decide) (fmc (dgs_len20 _) fmn)) (by omega) (by decide) lb105)
 have HD2 : Hid (Calls Tryz.prog 138 #[.pointer (some ⟨b, 0, none⟩), .string ⟨#[108, 100, 105]⟩, .slice (some ⟨w105.heap.size, 0, none⟩) 2 2] (w105.alloc (.cells #[.string ⟨#[114, 54]⟩, .string (sb (dgs (16 * n)))] 9)) fun e w' => e = .returned (.tuple #[]) ∧ (∃ g', Wr w' B b n (T105 ++ insT [108, 100, 105] [[114, 54], dgs (16 * n)]) g') ∧ Below B w105 w') := HD
 have hl106 := insT_len (kd := [108, 100, 105]) (fs := [[114, 54], dgs (16 * n)]) (by decide) (by simp) (fmc (by decide) (fmc (dgs_len20 _) fmn))
 clear HD
 go_wp2_with fail
 refine (uI HD2).mono ?_
 rintro e w106 ⟨rfl, ⟨g106, hH106⟩, kK106⟩
 generalize hE106 : T105 ++ insT [108, 100, 105] [[114, 54], dgs (16 * n)] = T106 at hH106
 have H106 := zH hH106
 have K106 := zH ((uI K105).trans kK106)
 have lb106 : B ≤ w106.heap.size := Nat.le_trans lb105 kK106.size
 clear HD2 hH106 kK106 H105 K105
 have hT106 : T106.length = (T105).length + (insT [108, 100, 105] [[114, 54], dgs (16 * n)]).length := by rw [← hE106]; exact List.length_append
 have HE106 := zH hE106
 clear hE106
 have HD := zH (do_at B b n T106 g106 [99, 109, 112] [[114, 49], [114, 54]] w106 (uI H106) (by simp) (by simp) (fmc (by decide) (fmc (by decide) fmn)) (by omega) (by decide) lb106)
 have HD2 : Hid (Calls Tryz.prog 138 #[.pointer (some ⟨b, 0, none⟩), .string ⟨#[99, 109, 112]⟩, .slice (some ⟨w106.heap.size, 0, none⟩) 2 2] (w106.alloc (.cells #[.string ⟨#[114, 49]⟩, .string ⟨#[114, 54]⟩] 9)) fun e w' => e = .returned (.tuple #[]) ∧ (∃ g', Wr w' B b n (T106 ++ insT [99, 109, 112] [[114, 49], [114, 54]]) g') ∧ Below B w106 w') := HD
 have hl107 := insT_len (kd := [99, 109, 112]) (fs := [[114, 49], [114, 54]]) (by decide) (by simp) (fmc (by decide) (fmc (by decide) fmn))
 clear HD
 go_wp2_with fail
 refine (uI HD2).mono ?_
 rintro e w107 ⟨rfl, ⟨g107, hH107⟩, kK107⟩
 generalize hE107 : T106 ++ insT [99, 109, 112] [[114, 49], [114, 54]] = T107 at hH107
 have H107 := zH hH107
 have K107 := zH ((uI K106).trans kK107)
 have lb107 : B ≤ w107.heap.size := Nat.le_trans lb106 kK107.size
 clear HD2 hH107 kK107 H106 K106
 have hT107 : T107.length = (T106).length + (insT [99, 109, 112] [[114, 49], [114, 54]]).length := by rw [← hE107]; exact List.length_append
 have HE107 := zH hE107
 clear hE107
 have HD := zH (do_at B b n T107 g107 [106, 99] [[46, 102, 101, 119]] w107 (uI H107) (by simp) (by simp) (fmc (by decide) fmn) (by omega) (by decide) lb107)
 have HD2 : Hid (Calls Tryz.prog 138 #[.pointer (some ⟨b, 0, none⟩), .string ⟨#[106, 99]⟩, .slice (some ⟨w107.heap.size, 0, none⟩) 1 1] (w107.alloc (.cells #[.string ⟨#[46, 102, 101, 119]⟩] 9)) fun e w' => e = .returned (.tuple #[]) ∧ (∃ g', Wr w' B b n (T107 ++ insT [106, 99] [[46, 102, 101, 119]]) g') ∧ Below B w107 w') := HD
 have hl108 := insT_len (kd := [106, 99]) (fs := [[46, 102, 101, 119]]) (by decide) (by simp) (fmc (by decide) fmn)
 clear HD
 go_wp2_with fail
 refine (uI HD2).mono ?_
 rintro e w108 ⟨rfl, ⟨g108, hH108⟩, kK108⟩
 generalize hE108 : T107 ++ insT [106, 99] [[46, 102, 101, 119]] = T108 at hH108
 have H108 := zH hH108
 have K108 := zH ((uI K107).trans kK108)
 have lb108 : B ≤ w108.heap.size := Nat.le_trans lb107 kK108.size
 clear HD2 hH108 kK108 H107 K107
 have hT108 : T108.length = (T107).length + (insT [106, 99] [[46, 102, 101, 119]]).length := by rw [← hE108]; exact List.length_append
 have HE108 := zH hE108
 clear hE108
 have HD := zH (do_at B b n T108 g108 [109, 111, 118] [[114, 49], [114, 54]] w108 (uI H108) (by simp) (by simp) (fmc (by decide) (fmc (by decide) fmn)) (by omega) (by decide) lb108)
 have HD2 : Hid (Calls Tryz.prog 138 #[.pointer (some ⟨b, 0, none⟩), .string ⟨#[109, 111, 118]⟩, .slice (some ⟨w108.heap.size, 0, none⟩) 2 2] (w108.alloc (.cells #[.string ⟨#[114, 49]⟩, .string ⟨#[114, 54]⟩] 9)) fun e w' => e = .returned (.tuple #[]) ∧ (∃ g', Wr w' B b n (T108 ++ insT [109, 111, 118] [[114, 49], [114, 54]]) g') ∧ Below B w108 w') := HD
 have hl109 := insT_len (kd := [109, 111, 118]) (fs := [[114, 49], [114, 54]]) (by decide) (by simp) (fmc (by decide) (fmc (by decide) fmn))
 clear HD
 go_wp2_with fail
 refine (uI HD2).mono ?_
 rintro e w109 ⟨rfl, ⟨g109, hH109⟩, kK109⟩
 generalize hE109 : T108 ++ insT [109, 111, 118] [[114, 49], [114, 54]] = T109 at hH109
 have H109 := zH hH109
 have K109 := zH ((uI K108).trans kK109)
 have lb109 : B ≤ w109.heap.size := Nat.le_trans lb108 kK109.size
 clear HD2 hH109 kK109 H108 K108
 have hT109 : T109.length = (T108).length + (insT [109, 111, 118] [[114, 49], [114, 54]]).length := by rw [← hE109]; exact List.length_append
 have HE109 := zH hE109
 clear hE109
 have HD := zH (label_any B b n T109 g109 [46, 102, 101, 119] w109 (uI H109) (by have : ([46, 102, 101, 119]).length ≤ 20 := (by decide); omega) lb109)
 have HD2 : Hid (Calls Tryz.prog 73 #[.pointer (some ⟨b, 0, none⟩), .string ⟨#[46, 102, 101, 119]⟩] w109 fun e w' => e = .returned (.tuple #[]) ∧ (∃ g', Wr w' B b n (T109 ++ labT [46, 102, 101, 119]) g') ∧ Below B w109 w') := HD
 have hl110 := labT_len (s := [46, 102, 101, 119]) (by decide)
 clear HD
 go_wp2_with fail
 refine (uI HD2).mono ?_
 rintro e w110 ⟨rfl, ⟨g110, hH110⟩, kK110⟩
 generalize hE110 : T109 ++ labT [46, 102, 101, 119] = T110 at hH110
 have H110 := zH hH110
 have K110 := zH ((uI K109).trans kK110)
 have lb110 : B ≤ w110.heap.size := Nat.le_trans lb109 kK110.size
 clear HD2 hH110 kK110 H109 K109
 have hT110 : T110.length = (T109).length + (labT [46, 102, 101, 119]).length := by rw [← hE110]; exact List.length_append
 have HE110 := zH hE110
 clear hE110
 have HD := zH (load_any B b n T110 g110  w110 (uI H110) hn1 hn (by omega) lb110 )
 have HD2 : Hid (Calls Tryz.prog 183 #[.pointer (some ⟨b, 0, none⟩)] w110 fun e w' => e = .returned (.tuple #[]) ∧ (∃ g', Wr w' B b n (T110 ++ loadT n) g') ∧ Below B w110 w') := HD
 have hl111 := (show ∀ n, n < 5 → (loadT n).length ≤ 20000 from by decide +kernel) n (by omega)
 clear HD
 go_wp2_with fail
 refine (uI HD2).mono ?_
 rintro e w111 ⟨rfl, ⟨g111, hH111⟩, kK111⟩
 generalize hE111 : T110 ++ loadT n = T111 at hH111
 have H111 := zH hH111
 have K111 := zH ((uI K110).trans kK111)
 have lb111 : B ≤ w111.heap.size := Nat.le_trans lb110 kK111.size
 clear HD2 hH111 kK111 H110 K110
 have hT111 : T111.length = (T110).length + (loadT n).length := by rw [← hE111]; exact List.length_append
 have HE111 := zH hE111
 clear hE111
 have HD := zH (do_at B b n T111 g111 [108, 100, 105] [[114, 54], [49]] w111 (uI H111) (by simp) (by simp) (fmc (by decide) (fmc (by decide) fmn)) (by omega) (by decide) lb111)
 have HD2 : Hid (Calls Tryz.prog 138 #[.pointer (some ⟨b, 0, none⟩), .string ⟨#[108, 100, 105]⟩, .slice (some ⟨w111.heap.size, 0, none⟩) 2 2] (w111.alloc (.cells #[.string ⟨#[114, 54]⟩, .string ⟨#[49]⟩] 9)) fun e w' => e = .returned (.tuple #[]) ∧ (∃ g', Wr w' B b n (T111 ++ insT [108, 100, 105] [[114, 54], [49]]) g') ∧ Below B w111 w') := HD
 have hl112 := insT_len (kd := [108, 100, 105]) (fs := [[114, 54], [49]]) (by decide) (by simp) (fmc (by decide) (fmc (by decide) fmn))
 clear HD
 go_wp2_with fail
 refine (uI HD2).mono ?_
 rintro e w112 ⟨rfl, ⟨g112, hH112⟩, kK112⟩
 generalize hE112 : T111 ++ insT [108, 100, 105] [[114, 54], [49]] = T112 at hH112
 have H112 := zH hH112
 have K112 := zH ((uI K111).trans kK112)
 have lb112 : B ≤ w112.heap.size := Nat.le_trans lb111 kK112.size
 clear HD2 hH112 kK112 H111 K111
 have hT112 : T112.length = (T111).length + (insT [108, 100, 105] [[114, 54], [49]]).length := by rw [← hE112]; exact List.length_append
 have HE112 := zH hE112
 clear hE112
 have HD := zH (label_any B b n T112 g112 [46, 112, 108, 97, 99, 101] w112 (uI H112) (by have : ([46, 112, 108, 97, 99, 101]).length ≤ 20 := (by decide); omega) lb112)
 have HD2 : Hid (Calls Tryz.prog 73 #[.pointer (some ⟨b, 0, none⟩), .string ⟨#[46, 112, 108, 97, 99, 101]⟩] w112 fun e w' => e = .returned (.tuple #[]) ∧ (∃ g', Wr w' B b n (T112 ++ labT [46, 112, 108, 97, 99, 101]) g') ∧ Below B w112 w') := HD
 have hl113 := labT_len (s := [46, 112, 108, 97, 99, 101]) (by decide)
 clear HD
 go_wp2_with fail
 refine (uI HD2).mono ?_
 rintro e w113 ⟨rfl, ⟨g113, hH113⟩, kK113⟩
 generalize hE113 : T112 ++ labT [46, 112, 108, 97, 99, 101] = T113 at hH113
 have H113 := zH hH113
 have K113 := zH ((uI K112).trans kK113)
 have lb113 : B ≤ w113.heap.size := Nat.le_trans lb112 kK113.size
 clear HD2 hH113 kK113 H112 K112
 have hT113 : T113.length = (T112).length + (labT [46, 112, 108, 97, 99, 101]).length := by rw [← hE113]; exact List.length_append
 have HE113 := zH hE113
 clear hE113
 have HD := zH (do_at B b n T113 g113 [115, 117, 98] [[114, 49], [114, 54]] w113 (uI H113) (by simp) (by simp) (fmc (by decide) (fmc (by decide) fmn)) (by omega) (by decide) lb113)
 have HD2 : Hid (Calls Tryz.prog 138 #[.pointer (some ⟨b, 0, none⟩), .string ⟨#[115, 117, 98]⟩, .slice (some ⟨w113.heap.size, 0, none⟩) 2 2] (w113.alloc (.cells #[.string ⟨#[114, 49]⟩, .string ⟨#[114, 54]⟩] 9)) fun e w' => e = .returned (.tuple #[]) ∧ (∃ g', Wr w' B b n (T113 ++ insT [115, 117, 98] [[114, 49], [114, 54]]) g') ∧ Below B w113 w') := HD
 have hl114 := insT_len (kd := [115, 117, 98]) (fs := [[114, 49], [114, 54]]) (by decide) (by simp) (fmc (by decide) (fmc (by decide) fmn))
 clear HD
 go_wp2_with fail
 refine (uI HD2).mono ?_
 rintro e w114 ⟨rfl, ⟨g114, hH114⟩, kK114⟩
 generalize hE114 : T113 ++ insT [115, 117, 98] [[114, 49], [114, 54]] = T114 at hH114
 have H114 := zH hH114
 have K114 := zH ((uI K113).trans kK114)
 have lb114 : B ≤ w114.heap.size := Nat.le_trans lb113 kK114.size
 clear HD2 hH114 kK114 H113 K113
 have hT114 : T114.length = (T113).length + (insT [115, 117, 98] [[114, 49], [114, 54]]).length := by rw [← hE114]; exact List.length_append
 have HE114 := zH hE114
 clear hE114
 have HD := zH (do_at B b n T114 g114 [106, 99] [[46, 101, 110, 100]] w114 (uI H114) (by simp) (by simp) (fmc (by decide) fmn) (by omega) (by decide) lb114)
 have HD2 : Hid (Calls Tryz.prog 138 #[.pointer (some ⟨b, 0, none⟩), .string ⟨#[106, 99]⟩, .slice (some ⟨w114.heap.size, 0, none⟩) 1 1] (w114.alloc (.cells #[.string ⟨#[46, 101, 110, 100]⟩] 9)) fun e w' => e = .returned (.tuple #[]) ∧ (∃ g', Wr w' B b n (T114 ++ insT [106, 99] [[46, 101, 110, 100]]) g') ∧ Below B w114 w') := HD
 have hl115 := insT_len (kd := [106, 99]) (fs := [[46, 101, 110, 100]]) (by decide) (by simp) (fmc (by decide) fmn)
 clear HD
 go_wp2_with fail
 refine (uI HD2).mono ?_
 rintro e w115 ⟨rfl, ⟨g115, hH115⟩, kK115⟩
 generalize hE115 : T114 ++ insT [106, 99] [[46, 101, 110, 100]] = T115 at hH115
 have H115 := zH hH115
 have K115 := zH ((uI K114).trans kK115)
 have lb115 : B ≤ w115.heap.size := Nat.le_trans lb114 kK115.size
 clear HD2 hH115 kK115 H114 K114
 have hT115 : T115.length = (T114).length + (insT [106, 99] [[46, 101, 110, 100]]).length := by rw [← hE115]; exact List.length_append
 have HE115 := zH hE115
 clear hE115
 have HD := zH (down_any B b n T115 g115 [115, 104, 114] w115 (uI H115) hn1 hn (by omega) lb115 (by decide))
 have HD2 : Hid (Calls Tryz.prog 143 #[.pointer (some ⟨b, 0, none⟩), .string ⟨#[115, 104, 114]⟩] w115 fun e w' => e = .returned (.tuple #[]) ∧ (∃ g', Wr w' B b n (T115 ++ downT [115, 104, 114] n) g') ∧ Below B w115 w') := HD
 have hl116 := (show ∀ n, n < 5 → (downT [115, 104, 114] n).length ≤ 20000 from by decide +kernel) n (by omega)
 clear HD
 go_wp2_with fail
 refine (uI HD2).mono ?_
 rintro e w116 ⟨rfl, ⟨g116, hH116⟩, kK116⟩
 generalize hE116 : T115 ++ downT [115, 104, 114] n = T116 at hH116
 have H116 := zH hH116
 have K116 := zH ((uI K115).trans kK116)
 have lb116 : B ≤ w116.heap.size := Nat.le_trans lb115 kK116.size
 clear HD2 hH116 kK116 H115 K115
 have hT116 : T116.length = (T115).length + (downT [115, 104, 114] n).length := by rw [← hE116]; exact List.length_append
 have HE116 := zH hE116
 clear hE116
 have HD := zH (do_at B b n T116 g116 [106, 109, 112] [[46, 112, 108, 97, 99, 101]] w116 (uI H116) (by simp) (by simp) (fmc (by decide) fmn) (by omega) (by decide) lb116)
 have HD2 : Hid (Calls Tryz.prog 138 #[.pointer (some ⟨b, 0, none⟩), .string ⟨#[106, 109, 112]⟩, .slice (some ⟨w116.heap.size, 0, none⟩) 1 1] (w116.alloc (.cells #[.string ⟨#[46, 112, 108, 97, 99, 101]⟩] 9)) fun e w' => e = .returned (.tuple #[]) ∧ (∃ g', Wr w' B b n (T116 ++ insT [106, 109, 112] [[46, 112, 108, 97, 99, 101]]) g') ∧ Below B w116 w') := HD
 have hl117 := insT_len (kd := [106, 109, 112]) (fs := [[46, 112, 108, 97, 99, 101]]) (by decide) (by simp) (fmc (by decide) fmn)
 clear HD
 go_wp2_with fail
 refine (uI HD2).mono ?_
 rintro e w117 ⟨rfl, ⟨g117, hH117⟩, kK117⟩
 generalize hE117 : T116 ++ insT [106, 109, 112] [[46, 112, 108, 97, 99, 101]] = T117 at hH117
 have H117 := zH hH117
 have K117 := zH ((uI K116).trans kK117)
 have lb117 : B ≤ w117.heap.size := Nat.le_trans lb116 kK117.size
 clear HD2 hH117 kK117 H116 K116
 have hT117 : T117.length = (T116).length + (insT [106, 109, 112] [[46, 112, 108, 97, 99, 101]]).length := by rw [← hE117]; exact List.length_append
 have HE117 := zH hE117
 clear hE117
 have HD := zH (label_any B b n T117 g117 [46, 101, 110, 100] w117 (uI H117) (by have : ([46, 101, 110, 100]).length ≤ 20 := (by decide); omega) lb117)
 have HD2 : Hid (Calls Tryz.prog 73 #[.pointer (some ⟨b, 0, none⟩), .string ⟨#[46, 101, 110, 100]⟩] w117 fun e w' => e = .returned (.tuple #[]) ∧ (∃ g', Wr w' B b n (T117 ++ labT [46, 101, 110, 100]) g') ∧ Below B w117 w') := HD
 have hl118 := labT_len (s := [46, 101, 110, 100]) (by decide)
 clear HD
 go_wp2_with fail
 refine (uI HD2).mono ?_
 rintro e w118 ⟨rfl, ⟨g118, hH118⟩, kK118⟩
 generalize hE118 : T117 ++ labT [46, 101, 110, 100] = T118 at hH118
 have H118 := zH hH118
 have K118 := zH ((uI K117).trans kK118)
 have lb118 : B ≤ w118.heap.size := Nat.le_trans lb117 kK118.size
 clear HD2 hH118 kK118 H117 K117
 have hT118 : T118.length = (T117).length + (labT [46, 101, 110, 100]).length := by rw [← hE118]; exact List.length_append
 have HE118 := zH hE118
 clear hE118
 have HD := zH (store_any B b n T118 g118  w118 (uI H118) hn1 hn (by omega) lb118 )
 have HD2 : Hid (Calls Tryz.prog 141 #[.pointer (some ⟨b, 0, none⟩)] w118 fun e w' => e = .returned (.tuple #[]) ∧ (∃ g', Wr w' B b n (T118 ++ storeT n) g') ∧ Below B w118 w') := HD
 have hl119 := (show ∀ n, n < 5 → (storeT n).length ≤ 20000 from by decide +kernel) n (by omega)
 clear HD
 go_wp2_with fail
 refine (uI HD2).mono ?_
 rintro e w119 ⟨rfl, ⟨g119, hH119⟩, kK119⟩
 generalize hE119 : T118 ++ storeT n = T119 at hH119
 have H119 := zH hH119
 have K119 := zH ((uI K118).trans kK119)
 have lb119 : B ≤ w119.heap.size := Nat.le_trans lb118 kK119.size
 clear HD2 hH119 kK119 H118 K118
 have hT119 : T119.length = (T118).length + (storeT n).length := by rw [← hE119]; exact List.length_append
 have HE119 := zH hE119
 clear hE119
 have HD := zH (do_none B b n T119 g119 [114, 101, 116] w119 (uI H119) (by first | omega | (simp; omega)) lb119)
 have HD2 : Hid (Calls Tryz.prog 138 #[.pointer (some ⟨b, 0, none⟩), .string ⟨#[114, 101, 116]⟩, .slice none 0 0] w119 fun e w' => e = .returned (.tuple #[]) ∧ (∃ g', Wr w' B b n (T119 ++ insT [114, 101, 116] []) g') ∧ Below B w119 w') := HD
 have hl120 := insT_len (kd := [114, 101, 116]) (fs := []) (by decide) (by simp) fmn
 clear HD
 go_wp2_with fail
 refine (uI HD2).mono ?_
 rintro e w120 ⟨rfl, ⟨g120, hH120⟩, kK120⟩
 generalize hE120 : T119 ++ insT [114, 101, 116] [] = T120 at hH120
 have H120 := zH hH120
 have K120 := zH ((uI K119).trans kK120)
 have lb120 : B ≤ w120.heap.size := Nat.le_trans lb119 kK120.size
 clear HD2 hH120 kK120 H119 K119
 have hT120 : T120.length = (T119).length + (insT [114, 101, 116] []).length := by rw [← hE120]; exact List.length_append
 have HE120 := zH hE120
 clear hE120
 go_wp2_with fail
 go_end0
 refine ⟨rfl, ⟨g120, ?_⟩, uI K120⟩
 have hz := uI H120
 rw [← uI HE120, ← uI HE119, ← uI HE118, ← uI HE117, ← uI HE116, ← uI HE115, ← uI HE114, ← uI HE113, ← uI HE112, ← uI HE111, ← uI HE110, ← uI HE109, ← uI HE108, ← uI HE107, ← uI HE106, ← uI HE105] at hz; 
 unfold shrT shiftT
 simpa only [List.append_assoc] using hz
theorem shiftA_any (B b n : Nat) (t : List UInt8) (g : Option Nat)  (w : World) (h : Wr w B b n t g) (hn1 : 1 ≤ n) (hn : n ≤ 4) (hl : t.length ≤ 600000) (hBw : B ≤ w.heap.size)  : Calls Tryz.prog 142 #[.pointer (some ⟨b, 0, none⟩), .func (.func 143) #[] #[], .string ⟨#[115, 97, 114]⟩] w fun e w' => e = .returned (.tuple #[]) ∧ (∃ g', Wr w' B b n (t ++ sarT n) g') ∧ Below B w w' := by
 have H0 := zH h
 have K0 := zH (Below.refl B w)
 have hnI : (n : Int) ≤ 4 := by omega
 have hnI1 : (1 : Int) ≤ (n : Int) := by omega
 have c2 := h.words
 clear h
 go_enter Tryz.func142, Tryz.ntmps142
 have HD := zH (do_at B b n t g [108, 100] [[114, 49], [114, 49], [48]] w (uI H0) (by simp) (by simp) (fmc (by decide) (fmc (by decide) (fmc (by decide) fmn))) (by omega) (by decide) hBw)
 have HD2 : Hid (Calls Tryz.prog 138 #[.pointer (some ⟨b, 0, none⟩), .string ⟨#[108, 100]⟩, .slice (some ⟨w.heap.size, 0, none⟩) 3 3] (w.alloc (.cells #[.string ⟨#[114, 49]⟩, .string ⟨#[114, 49]⟩, .string ⟨#[48]⟩] 9)) fun e w' => e = .returned (.tuple #[]) ∧ (∃ g', Wr w' B b n (t ++ insT [108, 100] [[114, 49], [114, 49], [48]]) g') ∧ Below B w w') := HD
 have hl121 := insT_len (kd := [108, 100]) (fs := [[114, 49], [114, 49], [48]]) (by decide) (by simp) (fmc (by decide) (fmc (by decide) (fmc (by decide) fmn)))
 clear HD
 go_wp2_with fail
 refine (uI HD2).mono ?_
 rintro e w121 ⟨rfl, ⟨g121, hH121⟩, kK121⟩
 generalize hE121 : t ++ insT [108, 100] [[114, 49], [114, 49], [48]] = T121 at hH121
 have H121 := zH hH121
 have K121 := zH ((uI K0).trans kK121)
 have lb121 : B ≤ w121.heap.size := Nat.le_trans hBw kK121.size
 clear HD2 hH121 kK121 H0 K0
 have hT121 : T121.length = (t).length + (insT [108, 100] [[114, 49], [114, 49], [48]]).length := by rw [← hE121]; exact List.length_append
 have HE121 := zH hE121
 clear hE121
 have c2 := (uI H121).words
 have HB := zH (bits_any B b n T121 g121 w121 (uI H121) hn)
 go_wp2_with fail
 refine (uI HB).mono ?_
 rintro e wq ⟨rfl, hq⟩
 subst wq
 clear HB
 have HH := zH (fun W => digits_any (16 * n) (by omega) W)
 rw [show (((16 * n) : Nat) : Int) = 16 * (n : Int) by omega] at HH
 go_wp2_with fail
 refine (uI HH _).mono ?_
 rintro e wq ⟨rfl, hq⟩
 subst wq
 clear HH
 have HD := zH (do_at B b n T121 g121 [108, 100, 105] [[114, 54], dgs (16 * n)] w121 (uI H121) (by simp) (by simp) (fmc (by decide) (fmc (dgs_len20 _) fmn)) (by omega) (by decide) lb121)
 have HD2 : Hid (Calls Tryz.prog 138 #[.pointer (some ⟨b, 0, none⟩), .string ⟨#[108, 100, 105]⟩, .slice (some ⟨w121.heap.size, 0, none⟩) 2 2] (w121.alloc (.cells #[.string ⟨#[114, 54]⟩, .string (sb (dgs (16 * n)))] 9)) fun e w' => e = .returned (.tuple #[]) ∧ (∃ g', Wr w' B b n (T121 ++ insT [108, 100, 105] [[114, 54], dgs (16 * n)]) g') ∧ Below B w121 w') := HD
 have hl122 := insT_len (kd := [108, 100, 105]) (fs := [[114, 54], dgs (16 * n)]) (by decide) (by simp) (fmc (by decide) (fmc (dgs_len20 _) fmn))
 clear HD
 go_wp2_with fail
 refine (uI HD2).mono ?_
 rintro e w122 ⟨rfl, ⟨g122, hH122⟩, kK122⟩
 generalize hE122 : T121 ++ insT [108, 100, 105] [[114, 54], dgs (16 * n)] = T122 at hH122
 have H122 := zH hH122
 have K122 := zH ((uI K121).trans kK122)
 have lb122 : B ≤ w122.heap.size := Nat.le_trans lb121 kK122.size
 clear HD2 hH122 kK122 H121 K121
 have hT122 : T122.length = (T121).length + (insT [108, 100, 105] [[114, 54], dgs (16 * n)]).length := by rw [← hE122]; exact List.length_append
 have HE122 := zH hE122
 clear hE122
 have HD := zH (do_at B b n T122 g122 [99, 109, 112] [[114, 49], [114, 54]] w122 (uI H122) (by simp) (by simp) (fmc (by decide) (fmc (by decide) fmn)) (by omega) (by decide) lb122)
 have HD2 : Hid (Calls Tryz.prog 138 #[.pointer (some ⟨b, 0, none⟩), .string ⟨#[99, 109, 112]⟩, .slice (some ⟨w122.heap.size, 0, none⟩) 2 2] (w122.alloc (.cells #[.string ⟨#[114, 49]⟩, .string ⟨#[114, 54]⟩] 9)) fun e w' => e = .returned (.tuple #[]) ∧ (∃ g', Wr w' B b n (T122 ++ insT [99, 109, 112] [[114, 49], [114, 54]]) g') ∧ Below B w122 w') := HD
 have hl123 := insT_len (kd := [99, 109, 112]) (fs := [[114, 49], [114, 54]]) (by decide) (by simp) (fmc (by decide) (fmc (by decide) fmn))
 clear HD
 go_wp2_with fail
 refine (uI HD2).mono ?_
 rintro e w123 ⟨rfl, ⟨g123, hH123⟩, kK123⟩
 generalize hE123 : T122 ++ insT [99, 109, 112] [[114, 49], [114, 54]] = T123 at hH123
 have H123 := zH hH123
 have K123 := zH ((uI K122).trans kK123)
 have lb123 : B ≤ w123.heap.size := Nat.le_trans lb122 kK123.size
 clear HD2 hH123 kK123 H122 K122
 have hT123 : T123.length = (T122).length + (insT [99, 109, 112] [[114, 49], [114, 54]]).length := by rw [← hE123]; exact List.length_append
 have HE123 := zH hE123
 clear hE123
 have HD := zH (do_at B b n T123 g123 [106, 99] [[46, 102, 101, 119]] w123 (uI H123) (by simp) (by simp) (fmc (by decide) fmn) (by omega) (by decide) lb123)
 have HD2 : Hid (Calls Tryz.prog 138 #[.pointer (some ⟨b, 0, none⟩), .string ⟨#[106, 99]⟩, .slice (some ⟨w123.heap.size, 0, none⟩) 1 1] (w123.alloc (.cells #[.string ⟨#[46, 102, 101, 119]⟩] 9)) fun e w' => e = .returned (.tuple #[]) ∧ (∃ g', Wr w' B b n (T123 ++ insT [106, 99] [[46, 102, 101, 119]]) g') ∧ Below B w123 w') := HD
 have hl124 := insT_len (kd := [106, 99]) (fs := [[46, 102, 101, 119]]) (by decide) (by simp) (fmc (by decide) fmn)
 clear HD
 go_wp2_with fail
 refine (uI HD2).mono ?_
 rintro e w124 ⟨rfl, ⟨g124, hH124⟩, kK124⟩
 generalize hE124 : T123 ++ insT [106, 99] [[46, 102, 101, 119]] = T124 at hH124
 have H124 := zH hH124
 have K124 := zH ((uI K123).trans kK124)
 have lb124 : B ≤ w124.heap.size := Nat.le_trans lb123 kK124.size
 clear HD2 hH124 kK124 H123 K123
 have hT124 : T124.length = (T123).length + (insT [106, 99] [[46, 102, 101, 119]]).length := by rw [← hE124]; exact List.length_append
 have HE124 := zH hE124
 clear hE124
 have HD := zH (do_at B b n T124 g124 [109, 111, 118] [[114, 49], [114, 54]] w124 (uI H124) (by simp) (by simp) (fmc (by decide) (fmc (by decide) fmn)) (by omega) (by decide) lb124)
 have HD2 : Hid (Calls Tryz.prog 138 #[.pointer (some ⟨b, 0, none⟩), .string ⟨#[109, 111, 118]⟩, .slice (some ⟨w124.heap.size, 0, none⟩) 2 2] (w124.alloc (.cells #[.string ⟨#[114, 49]⟩, .string ⟨#[114, 54]⟩] 9)) fun e w' => e = .returned (.tuple #[]) ∧ (∃ g', Wr w' B b n (T124 ++ insT [109, 111, 118] [[114, 49], [114, 54]]) g') ∧ Below B w124 w') := HD
 have hl125 := insT_len (kd := [109, 111, 118]) (fs := [[114, 49], [114, 54]]) (by decide) (by simp) (fmc (by decide) (fmc (by decide) fmn))
 clear HD
 go_wp2_with fail
 refine (uI HD2).mono ?_
 rintro e w125 ⟨rfl, ⟨g125, hH125⟩, kK125⟩
 generalize hE125 : T124 ++ insT [109, 111, 118] [[114, 49], [114, 54]] = T125 at hH125
 have H125 := zH hH125
 have K125 := zH ((uI K124).trans kK125)
 have lb125 : B ≤ w125.heap.size := Nat.le_trans lb124 kK125.size
 clear HD2 hH125 kK125 H124 K124
 have hT125 : T125.length = (T124).length + (insT [109, 111, 118] [[114, 49], [114, 54]]).length := by rw [← hE125]; exact List.length_append
 have HE125 := zH hE125
 clear hE125
 have HD := zH (label_any B b n T125 g125 [46, 102, 101, 119] w125 (uI H125) (by have : ([46, 102, 101, 119]).length ≤ 20 := (by decide); omega) lb125)
 have HD2 : Hid (Calls Tryz.prog 73 #[.pointer (some ⟨b, 0, none⟩), .string ⟨#[46, 102, 101, 119]⟩] w125 fun e w' => e = .returned (.tuple #[]) ∧ (∃ g', Wr w' B b n (T125 ++ labT [46, 102, 101, 119]) g') ∧ Below B w125 w') := HD
 have hl126 := labT_len (s := [46, 102, 101, 119]) (by decide)
 clear HD
 go_wp2_with fail
 refine (uI HD2).mono ?_
 rintro e w126 ⟨rfl, ⟨g126, hH126⟩, kK126⟩
 generalize hE126 : T125 ++ labT [46, 102, 101, 119] = T126 at hH126
 have H126 := zH hH126
 have K126 := zH ((uI K125).trans kK126)
 have lb126 : B ≤ w126.heap.size := Nat.le_trans lb125 kK126.size
 clear HD2 hH126 kK126 H125 K125
 have hT126 : T126.length = (T125).length + (labT [46, 102, 101, 119]).length := by rw [← hE126]; exact List.length_append
 have HE126 := zH hE126
 clear hE126
 have HD := zH (load_any B b n T126 g126  w126 (uI H126) hn1 hn (by omega) lb126 )
 have HD2 : Hid (Calls Tryz.prog 183 #[.pointer (some ⟨b, 0, none⟩)] w126 fun e w' => e = .returned (.tuple #[]) ∧ (∃ g', Wr w' B b n (T126 ++ loadT n) g') ∧ Below B w126 w') := HD
 have hl127 := (show ∀ n, n < 5 → (loadT n).length ≤ 20000 from by decide +kernel) n (by omega)
 clear HD
 go_wp2_with fail
 refine (uI HD2).mono ?_
 rintro e w127 ⟨rfl, ⟨g127, hH127⟩, kK127⟩
 generalize hE127 : T126 ++ loadT n = T127 at hH127
 have H127 := zH hH127
 have K127 := zH ((uI K126).trans kK127)
 have lb127 : B ≤ w127.heap.size := Nat.le_trans lb126 kK127.size
 clear HD2 hH127 kK127 H126 K126
 have hT127 : T127.length = (T126).length + (loadT n).length := by rw [← hE127]; exact List.length_append
 have HE127 := zH hE127
 clear hE127
 have HD := zH (do_at B b n T127 g127 [108, 100, 105] [[114, 54], [49]] w127 (uI H127) (by simp) (by simp) (fmc (by decide) (fmc (by decide) fmn)) (by omega) (by decide) lb127)
 have HD2 : Hid (Calls Tryz.prog 138 #[.pointer (some ⟨b, 0, none⟩), .string ⟨#[108, 100, 105]⟩, .slice (some ⟨w127.heap.size, 0, none⟩) 2 2] (w127.alloc (.cells #[.string ⟨#[114, 54]⟩, .string ⟨#[49]⟩] 9)) fun e w' => e = .returned (.tuple #[]) ∧ (∃ g', Wr w' B b n (T127 ++ insT [108, 100, 105] [[114, 54], [49]]) g') ∧ Below B w127 w') := HD
 have hl128 := insT_len (kd := [108, 100, 105]) (fs := [[114, 54], [49]]) (by decide) (by simp) (fmc (by decide) (fmc (by decide) fmn))
 clear HD
 go_wp2_with fail
 refine (uI HD2).mono ?_
 rintro e w128 ⟨rfl, ⟨g128, hH128⟩, kK128⟩
 generalize hE128 : T127 ++ insT [108, 100, 105] [[114, 54], [49]] = T128 at hH128
 have H128 := zH hH128
 have K128 := zH ((uI K127).trans kK128)
 have lb128 : B ≤ w128.heap.size := Nat.le_trans lb127 kK128.size
 clear HD2 hH128 kK128 H127 K127
 have hT128 : T128.length = (T127).length + (insT [108, 100, 105] [[114, 54], [49]]).length := by rw [← hE128]; exact List.length_append
 have HE128 := zH hE128
 clear hE128
 have HD := zH (label_any B b n T128 g128 [46, 112, 108, 97, 99, 101] w128 (uI H128) (by have : ([46, 112, 108, 97, 99, 101]).length ≤ 20 := (by decide); omega) lb128)
 have HD2 : Hid (Calls Tryz.prog 73 #[.pointer (some ⟨b, 0, none⟩), .string ⟨#[46, 112, 108, 97, 99, 101]⟩] w128 fun e w' => e = .returned (.tuple #[]) ∧ (∃ g', Wr w' B b n (T128 ++ labT [46, 112, 108, 97, 99, 101]) g') ∧ Below B w128 w') := HD
 have hl129 := labT_len (s := [46, 112, 108, 97, 99, 101]) (by decide)
 clear HD
 go_wp2_with fail
 refine (uI HD2).mono ?_
 rintro e w129 ⟨rfl, ⟨g129, hH129⟩, kK129⟩
 generalize hE129 : T128 ++ labT [46, 112, 108, 97, 99, 101] = T129 at hH129
 have H129 := zH hH129
 have K129 := zH ((uI K128).trans kK129)
 have lb129 : B ≤ w129.heap.size := Nat.le_trans lb128 kK129.size
 clear HD2 hH129 kK129 H128 K128
 have hT129 : T129.length = (T128).length + (labT [46, 112, 108, 97, 99, 101]).length := by rw [← hE129]; exact List.length_append
 have HE129 := zH hE129
 clear hE129
 have HD := zH (do_at B b n T129 g129 [115, 117, 98] [[114, 49], [114, 54]] w129 (uI H129) (by simp) (by simp) (fmc (by decide) (fmc (by decide) fmn)) (by omega) (by decide) lb129)
 have HD2 : Hid (Calls Tryz.prog 138 #[.pointer (some ⟨b, 0, none⟩), .string ⟨#[115, 117, 98]⟩, .slice (some ⟨w129.heap.size, 0, none⟩) 2 2] (w129.alloc (.cells #[.string ⟨#[114, 49]⟩, .string ⟨#[114, 54]⟩] 9)) fun e w' => e = .returned (.tuple #[]) ∧ (∃ g', Wr w' B b n (T129 ++ insT [115, 117, 98] [[114, 49], [114, 54]]) g') ∧ Below B w129 w') := HD
 have hl130 := insT_len (kd := [115, 117, 98]) (fs := [[114, 49], [114, 54]]) (by decide) (by simp) (fmc (by decide) (fmc (by decide) fmn))
 clear HD
 go_wp2_with fail
 refine (uI HD2).mono ?_
 rintro e w130 ⟨rfl, ⟨g130, hH130⟩, kK130⟩
 generalize hE130 : T129 ++ insT [115, 117, 98] [[114, 49], [114, 54]] = T130 at hH130
 have H130 := zH hH130
 have K130 := zH ((uI K129).trans kK130)
 have lb130 : B ≤ w130.heap.size := Nat.le_trans lb129 kK130.size
 clear HD2 hH130 kK130 H129 K129
 have hT130 : T130.length = (T129).length + (insT [115, 117, 98] [[114, 49], [114, 54]]).length := by rw [← hE130]; exact List.length_append
 have HE130 := zH hE130
 clear hE130
 have HD := zH (do_at B b n T130 g130 [106, 99] [[46, 101, 110, 100]] w130 (uI H130) (by simp) (by simp) (fmc (by decide) fmn) (by omega) (by decide) lb130)
 have HD2 : Hid (Calls Tryz.prog 138 #[.pointer (some ⟨b, 0, none⟩), .string ⟨#[106, 99]⟩, .slice (some ⟨w130.heap.size, 0, none⟩) 1 1] (w130.alloc (.cells #[.string ⟨#[46, 101, 110, 100]⟩] 9)) fun e w' => e = .returned (.tuple #[]) ∧ (∃ g', Wr w' B b n (T130 ++ insT [106, 99] [[46, 101, 110, 100]]) g') ∧ Below B w130 w') := HD
 have hl131 := insT_len (kd := [106, 99]) (fs := [[46, 101, 110, 100]]) (by decide) (by simp) (fmc (by decide) fmn)
 clear HD
 go_wp2_with fail
 refine (uI HD2).mono ?_
 rintro e w131 ⟨rfl, ⟨g131, hH131⟩, kK131⟩
 generalize hE131 : T130 ++ insT [106, 99] [[46, 101, 110, 100]] = T131 at hH131
 have H131 := zH hH131
 have K131 := zH ((uI K130).trans kK131)
 have lb131 : B ≤ w131.heap.size := Nat.le_trans lb130 kK131.size
 clear HD2 hH131 kK131 H130 K130
 have hT131 : T131.length = (T130).length + (insT [106, 99] [[46, 101, 110, 100]]).length := by rw [← hE131]; exact List.length_append
 have HE131 := zH hE131
 clear hE131
 have HD := zH (down_any B b n T131 g131 [115, 97, 114] w131 (uI H131) hn1 hn (by omega) lb131 (by decide))
 have HD2 : Hid (Calls Tryz.prog 143 #[.pointer (some ⟨b, 0, none⟩), .string ⟨#[115, 97, 114]⟩] w131 fun e w' => e = .returned (.tuple #[]) ∧ (∃ g', Wr w' B b n (T131 ++ downT [115, 97, 114] n) g') ∧ Below B w131 w') := HD
 have hl132 := (show ∀ n, n < 5 → (downT [115, 97, 114] n).length ≤ 20000 from by decide +kernel) n (by omega)
 clear HD
 go_wp2_with fail
 refine (uI HD2).mono ?_
 rintro e w132 ⟨rfl, ⟨g132, hH132⟩, kK132⟩
 generalize hE132 : T131 ++ downT [115, 97, 114] n = T132 at hH132
 have H132 := zH hH132
 have K132 := zH ((uI K131).trans kK132)
 have lb132 : B ≤ w132.heap.size := Nat.le_trans lb131 kK132.size
 clear HD2 hH132 kK132 H131 K131
 have hT132 : T132.length = (T131).length + (downT [115, 97, 114] n).length := by rw [← hE132]; exact List.length_append
 have HE132 := zH hE132
 clear hE132
 have HD := zH (do_at B b n T132 g132 [106, 109, 112] [[46, 112, 108, 97, 99, 101]] w132 (uI H132) (by simp) (by simp) (fmc (by decide) fmn) (by omega) (by decide) lb132)
 have HD2 : Hid (Calls Tryz.prog 138 #[.pointer (some ⟨b, 0, none⟩), .string ⟨#[106, 109, 112]⟩, .slice (some ⟨w132.heap.size, 0, none⟩) 1 1] (w132.alloc (.cells #[.string ⟨#[46, 112, 108, 97, 99, 101]⟩] 9)) fun e w' => e = .returned (.tuple #[]) ∧ (∃ g', Wr w' B b n (T132 ++ insT [106, 109, 112] [[46, 112, 108, 97, 99, 101]]) g') ∧ Below B w132 w') := HD
 have hl133 := insT_len (kd := [106, 109, 112]) (fs := [[46, 112, 108, 97, 99, 101]]) (by decide) (by simp) (fmc (by decide) fmn)
 clear HD
 go_wp2_with fail
 refine (uI HD2).mono ?_
 rintro e w133 ⟨rfl, ⟨g133, hH133⟩, kK133⟩
 generalize hE133 : T132 ++ insT [106, 109, 112] [[46, 112, 108, 97, 99, 101]] = T133 at hH133
 have H133 := zH hH133
 have K133 := zH ((uI K132).trans kK133)
 have lb133 : B ≤ w133.heap.size := Nat.le_trans lb132 kK133.size
 clear HD2 hH133 kK133 H132 K132
 have hT133 : T133.length = (T132).length + (insT [106, 109, 112] [[46, 112, 108, 97, 99, 101]]).length := by rw [← hE133]; exact List.length_append
 have HE133 := zH hE133
 clear hE133
 have HD := zH (label_any B b n T133 g133 [46, 101, 110, 100] w133 (uI H133) (by have : ([46, 101, 110, 100]).length ≤ 20 := (by decide); omega) lb133)
 have HD2 : Hid (Calls Tryz.prog 73 #[.pointer (some ⟨b, 0, none⟩), .string ⟨#[46, 101, 110, 100]⟩] w133 fun e w' => e = .returned (.tuple #[]) ∧ (∃ g', Wr w' B b n (T133 ++ labT [46, 101, 110, 100]) g') ∧ Below B w133 w') := HD
 have hl134 := labT_len (s := [46, 101, 110, 100]) (by decide)
 clear HD
 go_wp2_with fail
 refine (uI HD2).mono ?_
 rintro e w134 ⟨rfl, ⟨g134, hH134⟩, kK134⟩
 generalize hE134 : T133 ++ labT [46, 101, 110, 100] = T134 at hH134
 have H134 := zH hH134
 have K134 := zH ((uI K133).trans kK134)
 have lb134 : B ≤ w134.heap.size := Nat.le_trans lb133 kK134.size
 clear HD2 hH134 kK134 H133 K133
 have hT134 : T134.length = (T133).length + (labT [46, 101, 110, 100]).length := by rw [← hE134]; exact List.length_append
 have HE134 := zH hE134
 clear hE134
 have HD := zH (store_any B b n T134 g134  w134 (uI H134) hn1 hn (by omega) lb134 )
 have HD2 : Hid (Calls Tryz.prog 141 #[.pointer (some ⟨b, 0, none⟩)] w134 fun e w' => e = .returned (.tuple #[]) ∧ (∃ g', Wr w' B b n (T134 ++ storeT n) g') ∧ Below B w134 w') := HD
 have hl135 := (show ∀ n, n < 5 → (storeT n).length ≤ 20000 from by decide +kernel) n (by omega)
 clear HD
 go_wp2_with fail
 refine (uI HD2).mono ?_
 rintro e w135 ⟨rfl, ⟨g135, hH135⟩, kK135⟩
 generalize hE135 : T134 ++ storeT n = T135 at hH135
 have H135 := zH hH135
 have K135 := zH ((uI K134).trans kK135)
 have lb135 : B ≤ w135.heap.size := Nat.le_trans lb134 kK135.size
 clear HD2 hH135 kK135 H134 K134
 have hT135 : T135.length = (T134).length + (storeT n).length := by rw [← hE135]; exact List.length_append
 have HE135 := zH hE135
 clear hE135
 have HD := zH (do_none B b n T135 g135 [114, 101, 116] w135 (uI H135) (by first | omega | (simp; omega)) lb135)
 have HD2 : Hid (Calls Tryz.prog 138 #[.pointer (some ⟨b, 0, none⟩), .string ⟨#[114, 101, 116]⟩, .slice none 0 0] w135 fun e w' => e = .returned (.tuple #[]) ∧ (∃ g', Wr w' B b n (T135 ++ insT [114, 101, 116] []) g') ∧ Below B w135 w') := HD
 have hl136 := insT_len (kd := [114, 101, 116]) (fs := []) (by decide) (by simp) fmn
 clear HD
 go_wp2_with fail
 refine (uI HD2).mono ?_
 rintro e w136 ⟨rfl, ⟨g136, hH136⟩, kK136⟩
 generalize hE136 : T135 ++ insT [114, 101, 116] [] = T136 at hH136
 have H136 := zH hH136
 have K136 := zH ((uI K135).trans kK136)
 have lb136 : B ≤ w136.heap.size := Nat.le_trans lb135 kK136.size
 clear HD2 hH136 kK136 H135 K135
 have hT136 : T136.length = (T135).length + (insT [114, 101, 116] []).length := by rw [← hE136]; exact List.length_append
 have HE136 := zH hE136
 clear hE136
 go_wp2_with fail
 go_end0
 refine ⟨rfl, ⟨g136, ?_⟩, uI K136⟩
 have hz := uI H136
 rw [← uI HE136, ← uI HE135, ← uI HE134, ← uI HE133, ← uI HE132, ← uI HE131, ← uI HE130, ← uI HE129, ← uI HE128, ← uI HE127, ← uI HE126, ← uI HE125, ← uI HE124, ← uI HE123, ← uI HE122, ← uI HE121] at hz; 
 unfold sarT shiftT
 simpa only [List.append_assoc] using hz
theorem shl_any (B b n : Nat) (t : List UInt8) (g : Option Nat)  (w : World) (h : Wr w B b n t g) (hn1 : 1 ≤ n) (hn : n ≤ 4) (hl : t.length ≤ 400000) (hBw : B ≤ w.heap.size)  : Calls Tryz.prog 98 #[.pointer (some ⟨b, 0, none⟩)] w fun e w' => e = .returned (.tuple #[]) ∧ (∃ g', Wr w' B b n (t ++ shlT n) g') ∧ Below B w w' := by
 have H0 := zH h
 have K0 := zH (Below.refl B w)
 have hnI : (n : Int) ≤ 4 := by omega
 have hnI1 : (1 : Int) ≤ (n : Int) := by omega
 have c2 := h.words
 clear h
 go_enter Tryz.func98, Tryz.ntmps98
 have HD := zH (shiftL_any B b n t g   w (uI H0) hn1 hn (by omega) hBw )
 have HD2 : Hid (Calls Tryz.prog 142 #[.pointer (some ⟨b, 0, none⟩), .func (.func 136) #[] #[], .string ⟨#[115, 104, 108]⟩] w fun e w' => e = .returned (.tuple #[]) ∧ (∃ g', Wr w' B b n (t ++ shlT n) g') ∧ Below B w w') := HD
 have hl137 := (show ∀ n, n < 5 → (shlT n).length ≤ 20000 from by decide +kernel) n (by omega)
 clear HD
 go_wp2_with fail
 refine (uI HD2).mono ?_
 rintro e w137 ⟨rfl, ⟨g137, hH137⟩, kK137⟩
 generalize hE137 : t ++ shlT n = T137 at hH137
 have H137 := zH hH137
 have K137 := zH ((uI K0).trans kK137)
 have lb137 : B ≤ w137.heap.size := Nat.le_trans hBw kK137.size
 clear HD2 hH137 kK137 H0 K0
 have hT137 : T137.length = (t).length + (shlT n).length := by rw [← hE137]; exact List.length_append
 have HE137 := zH hE137
 clear hE137
 go_wp2_with fail
 go_end0
 refine ⟨rfl, ⟨g137, ?_⟩, uI K137⟩
 have hz := uI H137
 rw [← uI HE137] at hz; 
 exact hz
theorem shr_any (B b n : Nat) (t : List UInt8) (g : Option Nat)  (w : World) (h : Wr w B b n t g) (hn1 : 1 ≤ n) (hn : n ≤ 4) (hl : t.length ≤ 400000) (hBw : B ≤ w.heap.size)  : Calls Tryz.prog 99 #[.pointer (some ⟨b, 0, none⟩)] w fun e w' => e = .returned (.tuple #[]) ∧ (∃ g', Wr w' B b n (t ++ shrT n) g') ∧ Below B w w' := by
 have H0 := zH h
 have K0 := zH (Below.refl B w)
 have hnI : (n : Int) ≤ 4 := by omega
 have hnI1 : (1 : Int) ≤ (n : Int) := by omega
 have c2 := h.words
 clear h
 go_enter Tryz.func99, Tryz.ntmps99
 have HD := zH (shiftR_any B b n t g   w (uI H0) hn1 hn (by omega) hBw )
 have HD2 : Hid (Calls Tryz.prog 142 #[.pointer (some ⟨b, 0, none⟩), .func (.func 143) #[] #[], .string ⟨#[115, 104, 114]⟩] w fun e w' => e = .returned (.tuple #[]) ∧ (∃ g', Wr w' B b n (t ++ shrT n) g') ∧ Below B w w') := HD
 have hl138 := (show ∀ n, n < 5 → (shrT n).length ≤ 20000 from by decide +kernel) n (by omega)
 clear HD
 go_wp2_with fail
 refine (uI HD2).mono ?_
 rintro e w138 ⟨rfl, ⟨g138, hH138⟩, kK138⟩
 generalize hE138 : t ++ shrT n = T138 at hH138
 have H138 := zH hH138
 have K138 := zH ((uI K0).trans kK138)
 have lb138 : B ≤ w138.heap.size := Nat.le_trans hBw kK138.size
 clear HD2 hH138 kK138 H0 K0
 have hT138 : T138.length = (t).length + (shrT n).length := by rw [← hE138]; exact List.length_append
 have HE138 := zH hE138
 clear hE138
 go_wp2_with fail
 go_end0
 refine ⟨rfl, ⟨g138, ?_⟩, uI K138⟩
 have hz := uI H138
 rw [← uI HE138] at hz; 
 exact hz
theorem sar_any (B b n : Nat) (t : List UInt8) (g : Option Nat)  (w : World) (h : Wr w B b n t g) (hn1 : 1 ≤ n) (hn : n ≤ 4) (hl : t.length ≤ 400000) (hBw : B ≤ w.heap.size)  : Calls Tryz.prog 96 #[.pointer (some ⟨b, 0, none⟩)] w fun e w' => e = .returned (.tuple #[]) ∧ (∃ g', Wr w' B b n (t ++ sarT n) g') ∧ Below B w w' := by
 have H0 := zH h
 have K0 := zH (Below.refl B w)
 have hnI : (n : Int) ≤ 4 := by omega
 have hnI1 : (1 : Int) ≤ (n : Int) := by omega
 have c2 := h.words
 clear h
 go_enter Tryz.func96, Tryz.ntmps96
 have HD := zH (shiftA_any B b n t g   w (uI H0) hn1 hn (by omega) hBw )
 have HD2 : Hid (Calls Tryz.prog 142 #[.pointer (some ⟨b, 0, none⟩), .func (.func 143) #[] #[], .string ⟨#[115, 97, 114]⟩] w fun e w' => e = .returned (.tuple #[]) ∧ (∃ g', Wr w' B b n (t ++ sarT n) g') ∧ Below B w w') := HD
 have hl139 := (show ∀ n, n < 5 → (sarT n).length ≤ 20000 from by decide +kernel) n (by omega)
 clear HD
 go_wp2_with fail
 refine (uI HD2).mono ?_
 rintro e w139 ⟨rfl, ⟨g139, hH139⟩, kK139⟩
 generalize hE139 : t ++ sarT n = T139 at hH139
 have H139 := zH hH139
 have K139 := zH ((uI K0).trans kK139)
 have lb139 : B ≤ w139.heap.size := Nat.le_trans hBw kK139.size
 clear HD2 hH139 kK139 H0 K0
 have hT139 : T139.length = (t).length + (sarT n).length := by rw [← hE139]; exact List.length_append
 have HE139 := zH hE139
 clear hE139
 go_wp2_with fail
 go_end0
 refine ⟨rfl, ⟨g139, ?_⟩, uI K139⟩
 have hz := uI H139
 rw [← uI HE139] at hz; 
 exact hz
end Go.Proofs.YtlkoidkdeopgjaaGreatDoor
