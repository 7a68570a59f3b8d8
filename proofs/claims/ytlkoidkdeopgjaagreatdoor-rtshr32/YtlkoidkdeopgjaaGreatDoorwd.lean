/-
  RtF3.
-/
import Derived.Test.YtlkoidkdeopgjaaGreatDoorwc
set_option maxHeartbeats 4000000
set_option maxRecDepth 100000
namespace Go.Proofs.YtlkoidkdeopgjaaGreatDoor
open Go.RowKit
set_option linter.unusedSimpArgs false
set_option linter.unusedVariables false
theorem signed_any (B b n : Nat) (t : List UInt8) (g : Option Nat) (kd : List UInt8) (w : World) (h : Wr w B b n t g) (hn1 : 1 ≤ n) (hn : n ≤ 4) (hl : t.length ≤ 600000) (hBw : B ≤ w.heap.size) (hkd : kd.length ≤ 10) : Calls Tryz.prog 147 #[.pointer (some ⟨b, 0, none⟩), .string (sb kd)] w fun e w' => e = .returned (.tuple #[]) ∧ (∃ g', Wr w' B b n (t ++ signT kd n) g') ∧ Below B w w' := by
 have H0 := zH h
 have K0 := zH (Below.refl B w)
 have hnI : (n : Int) ≤ 4 := by omega
 have hnI1 : (1 : Int) ≤ (n : Int) := by omega
 have c2 := h.words
 clear h
 go_enter Tryz.func147, Tryz.ntmps147
 have HH := zH (fun W => held_any 0 (by omega) W)
 rw [show ((0 : Nat) : Int) = 0 by omega] at HH
 go_wp2_with fail
 refine (uI HH _).mono ?_
 rintro e wq ⟨rfl, hq⟩
 subst wq
 clear HH
 have HD := zH (do_at B b n t g [112, 117, 115, 104] [hld 0] w (uI H0) (by simp) (by simp) (fmc (hld_len _) fmn) (by omega) (by decide) hBw)
 have HD2 : Hid (Calls Tryz.prog 138 #[.pointer (some ⟨b, 0, none⟩), .string ⟨#[112, 117, 115, 104]⟩, .slice (some ⟨w.heap.size, 0, none⟩) 1 1] (w.alloc (.cells #[.string (sb (hld 0))] 9)) fun e w' => e = .returned (.tuple #[]) ∧ (∃ g', Wr w' B b n (t ++ insT [112, 117, 115, 104] [hld 0]) g') ∧ Below B w w') := HD
 have hl66 := insT_len (kd := [112, 117, 115, 104]) (fs := [hld 0]) (by decide) (by simp) (fmc (hld_len _) fmn)
 clear HD
 go_wp2_with fail
 refine (uI HD2).mono ?_
 rintro e w66 ⟨rfl, ⟨g66, hH66⟩, kK66⟩
 generalize hE66 : t ++ insT [112, 117, 115, 104] [hld 0] = T66 at hH66
 have H66 := zH hH66
 have K66 := zH ((uI K0).trans kK66)
 have lb66 : B ≤ w66.heap.size := Nat.le_trans hBw kK66.size
 clear HD2 hH66 kK66 H0 K0
 have hT66 : T66.length = (t).length + (insT [112, 117, 115, 104] [hld 0]).length := by rw [← hE66]; exact List.length_append
 have HE66 := zH hE66
 clear hE66
 have HD := zH (do_at B b n T66 g66 [112, 117, 115, 104] [[114, 48]] w66 (uI H66) (by simp) (by simp) (fmc (by decide) fmn) (by omega) (by decide) lb66)
 have HD2 : Hid (Calls Tryz.prog 138 #[.pointer (some ⟨b, 0, none⟩), .string ⟨#[112, 117, 115, 104]⟩, .slice (some ⟨w66.heap.size, 0, none⟩) 1 1] (w66.alloc (.cells #[.string ⟨#[114, 48]⟩] 9)) fun e w' => e = .returned (.tuple #[]) ∧ (∃ g', Wr w' B b n (T66 ++ insT [112, 117, 115, 104] [[114, 48]]) g') ∧ Below B w66 w') := HD
 have hl67 := insT_len (kd := [112, 117, 115, 104]) (fs := [[114, 48]]) (by decide) (by simp) (fmc (by decide) fmn)
 clear HD
 go_wp2_with fail
 refine (uI HD2).mono ?_
 rintro e w67 ⟨rfl, ⟨g67, hH67⟩, kK67⟩
 generalize hE67 : T66 ++ insT [112, 117, 115, 104] [[114, 48]] = T67 at hH67
 have H67 := zH hH67
 have K67 := zH ((uI K66).trans kK67)
 have lb67 : B ≤ w67.heap.size := Nat.le_trans lb66 kK67.size
 clear HD2 hH67 kK67 H66 K66
 have hT67 : T67.length = (T66).length + (insT [112, 117, 115, 104] [[114, 48]]).length := by rw [← hE67]; exact List.length_append
 have HE67 := zH hE67
 clear hE67
 have HD := zH (push_anyW B b n T67 g67  w67 (uI H67) hn1 hn (by omega) lb67 )
 have HD2 : Hid (Calls Tryz.prog 176 #[.pointer (some ⟨b, 0, none⟩)] w67 fun e w' => e = .returned (.tuple #[]) ∧ (∃ g', Wr w' B b n (T67 ++ pushT n) g') ∧ Below B w67 w') := HD
 have hl68 := (show ∀ n, n < 5 → (pushT n).length ≤ 20000 from by decide +kernel) n (by omega)
 clear HD
 go_wp2_with fail
 refine (uI HD2).mono ?_
 rintro e w68 ⟨rfl, ⟨g68, hH68⟩, kK68⟩
 generalize hE68 : T67 ++ pushT n = T68 at hH68
 have H68 := zH hH68
 have K68 := zH ((uI K67).trans kK68)
 have lb68 : B ≤ w68.heap.size := Nat.le_trans lb67 kK68.size
 clear HD2 hH68 kK68 H67 K67
 have hT68 : T68.length = (T67).length + (pushT n).length := by rw [← hE68]; exact List.length_append
 have HE68 := zH hE68
 clear hE68
 have HD := zH (uns_any B b n T68 g68 [114, 55] [46, 98] w68 (uI H68) hn1 hn (by omega) lb68 (by decide) (by decide))
 have HD2 : Hid (Calls Tryz.prog 184 #[.pointer (some ⟨b, 0, none⟩), .string ⟨#[114, 55]⟩, .string ⟨#[46, 98]⟩] w68 fun e w' => e = .returned (.tuple #[]) ∧ (∃ g', Wr w' B b n (T68 ++ unsT [114, 55] [46, 98] n) g') ∧ Below B w68 w') := HD
 have hl69 := (show ∀ n, n < 5 → (unsT [114, 55] [46, 98] n).length ≤ 20000 from by decide +kernel) n (by omega)
 clear HD
 go_wp2_with fail
 refine (uI HD2).mono ?_
 rintro e w69 ⟨rfl, ⟨g69, hH69⟩, kK69⟩
 generalize hE69 : T68 ++ unsT [114, 55] [46, 98] n = T69 at hH69
 have H69 := zH hH69
 have K69 := zH ((uI K68).trans kK69)
 have lb69 : B ≤ w69.heap.size := Nat.le_trans lb68 kK69.size
 clear HD2 hH69 kK69 H68 K68
 have hT69 : T69.length = (T68).length + (unsT [114, 55] [46, 98] n).length := by rw [← hE69]; exact List.length_append
 have HE69 := zH hE69
 clear hE69
 have HD := zH (uns_any B b n T69 g69 [114, 48] [46, 97] w69 (uI H69) hn1 hn (by omega) lb69 (by decide) (by decide))
 have HD2 : Hid (Calls Tryz.prog 184 #[.pointer (some ⟨b, 0, none⟩), .string ⟨#[114, 48]⟩, .string ⟨#[46, 97]⟩] w69 fun e w' => e = .returned (.tuple #[]) ∧ (∃ g', Wr w' B b n (T69 ++ unsT [114, 48] [46, 97] n) g') ∧ Below B w69 w') := HD
 have hl70 := (show ∀ n, n < 5 → (unsT [114, 48] [46, 97] n).length ≤ 20000 from by decide +kernel) n (by omega)
 clear HD
 go_wp2_with fail
 refine (uI HD2).mono ?_
 rintro e w70 ⟨rfl, ⟨g70, hH70⟩, kK70⟩
 generalize hE70 : T69 ++ unsT [114, 48] [46, 97] n = T70 at hH70
 have H70 := zH hH70
 have K70 := zH ((uI K69).trans kK70)
 have lb70 : B ≤ w70.heap.size := Nat.le_trans lb69 kK70.size
 clear HD2 hH70 kK70 H69 K69
 have hT70 : T70.length = (T69).length + (unsT [114, 48] [46, 97] n).length := by rw [← hE70]; exact List.length_append
 have HE70 := zH hE70
 clear hE70
 have HD := zH (do_at B b n T70 g70 [109, 111, 118] [[114, 49], [114, 55]] w70 (uI H70) (by simp) (by simp) (fmc (by decide) (fmc (by decide) fmn)) (by omega) (by decide) lb70)
 have HD2 : Hid (Calls Tryz.prog 138 #[.pointer (some ⟨b, 0, none⟩), .string ⟨#[109, 111, 118]⟩, .slice (some ⟨w70.heap.size, 0, none⟩) 2 2] (w70.alloc (.cells #[.string ⟨#[114, 49]⟩, .string ⟨#[114, 55]⟩] 9)) fun e w' => e = .returned (.tuple #[]) ∧ (∃ g', Wr w' B b n (T70 ++ insT [109, 111, 118] [[114, 49], [114, 55]]) g') ∧ Below B w70 w') := HD
 have hl71 := insT_len (kd := [109, 111, 118]) (fs := [[114, 49], [114, 55]]) (by decide) (by simp) (fmc (by decide) (fmc (by decide) fmn))
 clear HD
 go_wp2_with fail
 refine (uI HD2).mono ?_
 rintro e w71 ⟨rfl, ⟨g71, hH71⟩, kK71⟩
 generalize hE71 : T70 ++ insT [109, 111, 118] [[114, 49], [114, 55]] = T71 at hH71
 have H71 := zH hH71
 have K71 := zH ((uI K70).trans kK71)
 have lb71 : B ≤ w71.heap.size := Nat.le_trans lb70 kK71.size
 clear HD2 hH71 kK71 H70 K70
 have hT71 : T71.length = (T70).length + (insT [109, 111, 118] [[114, 49], [114, 55]]).length := by rw [← hE71]; exact List.length_append
 have HE71 := zH hE71
 clear hE71
 have c2 := (uI H71).words
 have HH := zH (fun W => rnamed_any kd n (by omega) (by omega) W)
 go_wp2_with fail
 refine (uI HH _).mono ?_
 rintro e wq ⟨rfl, hq⟩
 subst wq
 clear HH
 have HD := zH (do_at B b n T71 g71 [99, 97, 108, 108] [(kd ++ dgs n)] w71 (uI H71) (by simp) (by simp) (fmc (cat_len hkd _) fmn) (by omega) (by decide) lb71)
 have HD2 : Hid (Calls Tryz.prog 138 #[.pointer (some ⟨b, 0, none⟩), .string ⟨#[99, 97, 108, 108]⟩, .slice (some ⟨w71.heap.size, 0, none⟩) 1 1] (w71.alloc (.cells #[.string (sb ((kd ++ dgs n)))] 9)) fun e w' => e = .returned (.tuple #[]) ∧ (∃ g', Wr w' B b n (T71 ++ insT [99, 97, 108, 108] [(kd ++ dgs n)]) g') ∧ Below B w71 w') := HD
 have hl72 := insT_len (kd := [99, 97, 108, 108]) (fs := [(kd ++ dgs n)]) (by decide) (by simp) (fmc (cat_len hkd _) fmn)
 clear HD
 go_wp2_with fail
 refine (uI HD2).mono ?_
 rintro e w72 ⟨rfl, ⟨g72, hH72⟩, kK72⟩
 generalize hE72 : T71 ++ insT [99, 97, 108, 108] [(kd ++ dgs n)] = T72 at hH72
 have H72 := zH hH72
 have K72 := zH ((uI K71).trans kK72)
 have lb72 : B ≤ w72.heap.size := Nat.le_trans lb71 kK72.size
 clear HD2 hH72 kK72 H71 K71
 have hT72 : T72.length = (T71).length + (insT [99, 97, 108, 108] [(kd ++ dgs n)]).length := by rw [← hE72]; exact List.length_append
 have HE72 := zH hE72
 clear hE72
 have c2 := (uI H72).words
 have HD := zH (drop_any B b n T72 g72 n w72 (uI H72) hn1 hn (by omega) lb72 (by omega))
 have HD2 : Hid (Calls Tryz.prog 182 #[.pointer (some ⟨b, 0, none⟩), .int .i64 (n : Int)] w72 fun e w' => e = .returned (.tuple #[]) ∧ (∃ g', Wr w' B b n (T72 ++ dropT n) g') ∧ Below B w72 w') := HD
 have hl73 := (show ∀ n, n < 5 → (dropT n).length ≤ 20000 from by decide +kernel) n (by omega)
 clear HD
 go_wp2_with fail
 refine (uI HD2).mono ?_
 rintro e w73 ⟨rfl, ⟨g73, hH73⟩, kK73⟩
 generalize hE73 : T72 ++ dropT n = T73 at hH73
 have H73 := zH hH73
 have K73 := zH ((uI K72).trans kK73)
 have lb73 : B ≤ w73.heap.size := Nat.le_trans lb72 kK73.size
 clear HD2 hH73 kK73 H72 K72
 have hT73 : T73.length = (T72).length + (dropT n).length := by rw [← hE73]; exact List.length_append
 have HE73 := zH hE73
 clear hE73
 have HD := zH (do_at B b n T73 g73 [112, 111, 112] [[114, 48]] w73 (uI H73) (by simp) (by simp) (fmc (by decide) fmn) (by omega) (by decide) lb73)
 have HD2 : Hid (Calls Tryz.prog 138 #[.pointer (some ⟨b, 0, none⟩), .string ⟨#[112, 111, 112]⟩, .slice (some ⟨w73.heap.size, 0, none⟩) 1 1] (w73.alloc (.cells #[.string ⟨#[114, 48]⟩] 9)) fun e w' => e = .returned (.tuple #[]) ∧ (∃ g', Wr w' B b n (T73 ++ insT [112, 111, 112] [[114, 48]]) g') ∧ Below B w73 w') := HD
 have hl74 := insT_len (kd := [112, 111, 112]) (fs := [[114, 48]]) (by decide) (by simp) (fmc (by decide) fmn)
 clear HD
 go_wp2_with fail
 refine (uI HD2).mono ?_
 rintro e w74 ⟨rfl, ⟨g74, hH74⟩, kK74⟩
 generalize hE74 : T73 ++ insT [112, 111, 112] [[114, 48]] = T74 at hH74
 have H74 := zH hH74
 have K74 := zH ((uI K73).trans kK74)
 have lb74 : B ≤ w74.heap.size := Nat.le_trans lb73 kK74.size
 clear HD2 hH74 kK74 H73 K73
 have hT74 : T74.length = (T73).length + (insT [112, 111, 112] [[114, 48]]).length := by rw [← hE74]; exact List.length_append
 have HE74 := zH hE74
 clear hE74
 have HH := zH (fun W => held_any 0 (by omega) W)
 rw [show ((0 : Nat) : Int) = 0 by omega] at HH
 go_wp2_with fail
 refine (uI HH _).mono ?_
 rintro e wq ⟨rfl, hq⟩
 subst wq
 clear HH
 have HD := zH (do_at B b n T74 g74 [112, 111, 112] [hld 0] w74 (uI H74) (by simp) (by simp) (fmc (hld_len _) fmn) (by omega) (by decide) lb74)
 have HD2 : Hid (Calls Tryz.prog 138 #[.pointer (some ⟨b, 0, none⟩), .string ⟨#[112, 111, 112]⟩, .slice (some ⟨w74.heap.size, 0, none⟩) 1 1] (w74.alloc (.cells #[.string (sb (hld 0))] 9)) fun e w' => e = .returned (.tuple #[]) ∧ (∃ g', Wr w' B b n (T74 ++ insT [112, 111, 112] [hld 0]) g') ∧ Below B w74 w') := HD
 have hl75 := insT_len (kd := [112, 111, 112]) (fs := [hld 0]) (by decide) (by simp) (fmc (hld_len _) fmn)
 clear HD
 go_wp2_with fail
 refine (uI HD2).mono ?_
 rintro e w75 ⟨rfl, ⟨g75, hH75⟩, kK75⟩
 generalize hE75 : T74 ++ insT [112, 111, 112] [hld 0] = T75 at hH75
 have H75 := zH hH75
 have K75 := zH ((uI K74).trans kK75)
 have lb75 : B ≤ w75.heap.size := Nat.le_trans lb74 kK75.size
 clear HD2 hH75 kK75 H74 K74
 have hT75 : T75.length = (T74).length + (insT [112, 111, 112] [hld 0]).length := by rw [← hE75]; exact List.length_append
 have HE75 := zH hE75
 clear hE75
 have HH := zH (fun W => held_any 0 (by omega) W)
 rw [show ((0 : Nat) : Int) = 0 by omega] at HH
 go_wp2_with fail
 refine (uI HH _).mono ?_
 rintro e wq ⟨rfl, hq⟩
 subst wq
 clear HH
 have HH := zH (fun W => held_any 0 (by omega) W)
 rw [show ((0 : Nat) : Int) = 0 by omega] at HH
 go_wp2_with fail
 refine (uI HH _).mono ?_
 rintro e wq ⟨rfl, hq⟩
 subst wq
 clear HH
 have HD := zH (do_at B b n T75 g75 [111, 114] [hld 0, hld 0] w75 (uI H75) (by simp) (by simp) (fmc (hld_len _) (fmc (hld_len _) fmn)) (by omega) (by decide) lb75)
 have HD2 : Hid (Calls Tryz.prog 138 #[.pointer (some ⟨b, 0, none⟩), .string ⟨#[111, 114]⟩, .slice (some ⟨w75.heap.size, 0, none⟩) 2 2] (w75.alloc (.cells #[.string (sb (hld 0)), .string (sb (hld 0))] 9)) fun e w' => e = .returned (.tuple #[]) ∧ (∃ g', Wr w' B b n (T75 ++ insT [111, 114] [hld 0, hld 0]) g') ∧ Below B w75 w') := HD
 have hl76 := insT_len (kd := [111, 114]) (fs := [hld 0, hld 0]) (by decide) (by simp) (fmc (hld_len _) (fmc (hld_len _) fmn))
 clear HD
 go_wp2_with fail
 refine (uI HD2).mono ?_
 rintro e w76 ⟨rfl, ⟨g76, hH76⟩, kK76⟩
 generalize hE76 : T75 ++ insT [111, 114] [hld 0, hld 0] = T76 at hH76
 have H76 := zH hH76
 have K76 := zH ((uI K75).trans kK76)
 have lb76 : B ≤ w76.heap.size := Nat.le_trans lb75 kK76.size
 clear HD2 hH76 kK76 H75 K75
 have hT76 : T76.length = (T75).length + (insT [111, 114] [hld 0, hld 0]).length := by rw [← hE76]; exact List.length_append
 have HE76 := zH hE76
 clear hE76
 have HD := zH (do_at B b n T76 g76 [106, 103, 101] [[46, 101, 110, 100]] w76 (uI H76) (by simp) (by simp) (fmc (by decide) fmn) (by omega) (by decide) lb76)
 have HD2 : Hid (Calls Tryz.prog 138 #[.pointer (some ⟨b, 0, none⟩), .string ⟨#[106, 103, 101]⟩, .slice (some ⟨w76.heap.size, 0, none⟩) 1 1] (w76.alloc (.cells #[.string ⟨#[46, 101, 110, 100]⟩] 9)) fun e w' => e = .returned (.tuple #[]) ∧ (∃ g', Wr w' B b n (T76 ++ insT [106, 103, 101] [[46, 101, 110, 100]]) g') ∧ Below B w76 w') := HD
 have hl77 := insT_len (kd := [106, 103, 101]) (fs := [[46, 101, 110, 100]]) (by decide) (by simp) (fmc (by decide) fmn)
 clear HD
 go_wp2_with fail
 refine (uI HD2).mono ?_
 rintro e w77 ⟨rfl, ⟨g77, hH77⟩, kK77⟩
 generalize hE77 : T76 ++ insT [106, 103, 101] [[46, 101, 110, 100]] = T77 at hH77
 have H77 := zH hH77
 have K77 := zH ((uI K76).trans kK77)
 have lb77 : B ≤ w77.heap.size := Nat.le_trans lb76 kK77.size
 clear HD2 hH77 kK77 H76 K76
 have hT77 : T77.length = (T76).length + (insT [106, 103, 101] [[46, 101, 110, 100]]).length := by rw [← hE77]; exact List.length_append
 have HE77 := zH hE77
 clear hE77
 have HD := zH (neg_any B b n T77 g77 [114, 48] w77 (uI H77) hn1 hn (by omega) lb77 (by decide))
 have HD2 : Hid (Calls Tryz.prog 185 #[.pointer (some ⟨b, 0, none⟩), .string ⟨#[114, 48]⟩] w77 fun e w' => e = .returned (.tuple #[]) ∧ (∃ g', Wr w' B b n (T77 ++ negT [114, 48] n) g') ∧ Below B w77 w') := HD
 have hl78 := (show ∀ n, n < 5 → (negT [114, 48] n).length ≤ 20000 from by decide +kernel) n (by omega)
 clear HD
 go_wp2_with fail
 refine (uI HD2).mono ?_
 rintro e w78 ⟨rfl, ⟨g78, hH78⟩, kK78⟩
 generalize hE78 : T77 ++ negT [114, 48] n = T78 at hH78
 have H78 := zH hH78
 have K78 := zH ((uI K77).trans kK78)
 have lb78 : B ≤ w78.heap.size := Nat.le_trans lb77 kK78.size
 clear HD2 hH78 kK78 H77 K77
 have hT78 : T78.length = (T77).length + (negT [114, 48] n).length := by rw [← hE78]; exact List.length_append
 have HE78 := zH hE78
 clear hE78
 have HD := zH (label_any B b n T78 g78 [46, 101, 110, 100] w78 (uI H78) (by have : ([46, 101, 110, 100]).length ≤ 20 := (by decide); omega) lb78)
 have HD2 : Hid (Calls Tryz.prog 73 #[.pointer (some ⟨b, 0, none⟩), .string ⟨#[46, 101, 110, 100]⟩] w78 fun e w' => e = .returned (.tuple #[]) ∧ (∃ g', Wr w' B b n (T78 ++ labT [46, 101, 110, 100]) g') ∧ Below B w78 w') := HD
 have hl79 := labT_len (s := [46, 101, 110, 100]) (by decide)
 clear HD
 go_wp2_with fail
 refine (uI HD2).mono ?_
 rintro e w79 ⟨rfl, ⟨g79, hH79⟩, kK79⟩
 generalize hE79 : T78 ++ labT [46, 101, 110, 100] = T79 at hH79
 have H79 := zH hH79
 have K79 := zH ((uI K78).trans kK79)
 have lb79 : B ≤ w79.heap.size := Nat.le_trans lb78 kK79.size
 clear HD2 hH79 kK79 H78 K78
 have hT79 : T79.length = (T78).length + (labT [46, 101, 110, 100]).length := by rw [← hE79]; exact List.length_append
 have HE79 := zH hE79
 clear hE79
 have HD := zH (do_none B b n T79 g79 [114, 101, 116] w79 (uI H79) (by first | omega | (simp; omega)) lb79)
 have HD2 : Hid (Calls Tryz.prog 138 #[.pointer (some ⟨b, 0, none⟩), .string ⟨#[114, 101, 116]⟩, .slice none 0 0] w79 fun e w' => e = .returned (.tuple #[]) ∧ (∃ g', Wr w' B b n (T79 ++ insT [114, 101, 116] []) g') ∧ Below B w79 w') := HD
 have hl80 := insT_len (kd := [114, 101, 116]) (fs := []) (by decide) (by simp) fmn
 clear HD
 go_wp2_with fail
 refine (uI HD2).mono ?_
 rintro e w80 ⟨rfl, ⟨g80, hH80⟩, kK80⟩
 generalize hE80 : T79 ++ insT [114, 101, 116] [] = T80 at hH80
 have H80 := zH hH80
 have K80 := zH ((uI K79).trans kK80)
 have lb80 : B ≤ w80.heap.size := Nat.le_trans lb79 kK80.size
 clear HD2 hH80 kK80 H79 K79
 have hT80 : T80.length = (T79).length + (insT [114, 101, 116] []).length := by rw [← hE80]; exact List.length_append
 have HE80 := zH hE80
 clear hE80
 go_wp2_with fail
 go_end0
 refine ⟨rfl, ⟨g80, ?_⟩, uI K80⟩
 have hz := uI H80
 rw [← uI HE80, ← uI HE79, ← uI HE78, ← uI HE77, ← uI HE76, ← uI HE75, ← uI HE74, ← uI HE73, ← uI HE72, ← uI HE71, ← uI HE70, ← uI HE69, ← uI HE68, ← uI HE67, ← uI HE66] at hz; 
 unfold signT
 simpa only [List.append_assoc] using hz
theorem sdiv_any (B b n : Nat) (t : List UInt8) (g : Option Nat)  (w : World) (h : Wr w B b n t g) (hn1 : 1 ≤ n) (hn : n ≤ 4) (hl : t.length ≤ 400000) (hBw : B ≤ w.heap.size)  : Calls Tryz.prog 97 #[.pointer (some ⟨b, 0, none⟩)] w fun e w' => e = .returned (.tuple #[]) ∧ (∃ g', Wr w' B b n (t ++ sdivT n) g') ∧ Below B w w' := by
 have H0 := zH h
 have K0 := zH (Below.refl B w)
 have hnI : (n : Int) ≤ 4 := by omega
 have hnI1 : (1 : Int) ≤ (n : Int) := by omega
 have c2 := h.words
 clear h
 go_enter Tryz.func97, Tryz.ntmps97
 have HD := zH (trapZ_any B b n t g  w (uI H0) hn1 hn (by omega) hBw )
 have HD2 : Hid (Calls Tryz.prog 144 #[.pointer (some ⟨b, 0, none⟩)] w fun e w' => e = .returned (.tuple #[]) ∧ (∃ g', Wr w' B b n (t ++ trapT n) g') ∧ Below B w w') := HD
 have hl81 := (show ∀ n, n < 5 → (trapT n).length ≤ 20000 from by decide +kernel) n (by omega)
 clear HD
 go_wp2_with fail
 refine (uI HD2).mono ?_
 rintro e w81 ⟨rfl, ⟨g81, hH81⟩, kK81⟩
 generalize hE81 : t ++ trapT n = T81 at hH81
 have H81 := zH hH81
 have K81 := zH ((uI K0).trans kK81)
 have lb81 : B ≤ w81.heap.size := Nat.le_trans hBw kK81.size
 clear HD2 hH81 kK81 H0 K0
 have hT81 : T81.length = (t).length + (trapT n).length := by rw [← hE81]; exact List.length_append
 have HE81 := zH hE81
 clear hE81
 have c2 := (uI H81).words
 have kd : Below w81.heap.size w81 w81.drew := Below.drew (Below.refl _ _)
 have HV := zH ((uI H81).step kd)
 have KV := zH ((uI K81).trans (kd.mono lb81))
 have lv82 : B ≤ w81.drew.heap.size := lb81
 clear kd c2
 go_wp2_with fail
 refine reg_start (fun W => W.cell? ⟨b, 2, none⟩ = some (.int .i64 (n : Int))) (by kernel_rfl) ?_
 generalize w81.drew = v82 at *
 have C0 := zH (uI HV).words
 refine reg_seg 0 1 9 (by kernel_rfl) (by decide) (by kernel_rfl) (by kernel_rfl) (fun _ _ _ _ _ h => h) ?_
 simp only [List.take_succ_cons, List.take_zero, List.drop_succ_cons, List.drop_zero]
 repeat (refine wpSteady_step (fun K hK => ?_); go_simp; first | (refine steady_of ?_ (fun W hW => ?_) (hK _ ?_); rotate_left; (obtain hcW := hW; go_simp; first | done | rfl); clear hK K) | (refine hK _ ?_; clear hK K))
 refine wpSteady_nil ?_
 refine reg_seg 2 5 4 (by kernel_rfl) (by decide) (by kernel_rfl) (by kernel_rfl) (fun _ _ _ _ _ h => h) ?_
 simp only [List.take_succ_cons, List.take_zero, List.drop_succ_cons, List.drop_zero]
 repeat (refine wpSteady_step (fun K hK => ?_); go_simp; first | (refine steady_of ?_ (fun W hW => ?_) (hK _ ?_); rotate_left; (obtain hcW := hW; go_simp; first | done | rfl); clear hK K) | (refine hK _ ?_; clear hK K))
 refine wpSteady_nil ?_
 have HH := zH (fun W => held_any 0 (by omega) W)
 rw [show ((0 : Nat) : Int) = 0 by omega] at HH
 refine reg_one 1 3 (by kernel_rfl) (by kernel_rfl) (uI C0) ?_
 simp only [List.take_succ_cons, List.take_zero, List.drop_succ_cons, List.drop_zero]
 go_wp2_with fail
 refine (uI HH _).mono ?_
 rintro e wq ⟨rfl, hq⟩
 subst wq
 clear HH
 go_wp2_with fail
 first | refine next_nil ?_ | refine next_go ?_
 have HH := zH (fun W => digits_any (n - 1) (by omega) W)
 rw [show (((n - 1) : Nat) : Int) = (n : Int) - 1 by omega] at HH
 refine reg_one 7 2 (by kernel_rfl) (by kernel_rfl) (uI C0) ?_
 simp only [List.take_succ_cons, List.take_zero, List.drop_succ_cons, List.drop_zero]
 go_wp2_with fail
 refine (uI HH _).mono ?_
 rintro e wq ⟨rfl, hq⟩
 subst wq
 clear HH
 go_wp2_with fail
 first | refine next_nil ?_ | refine next_go ?_
 have HD := zH (do_at B b n T81 g81 [108, 100] [hld 0, [114, 48], dgs (n - 1)] v82 (uI HV) (by simp) (by simp) (fmc (hld_len _) (fmc (by decide) (fmc (dgs_len20 _) fmn))) (by omega) (by decide) lv82)
 have HD2 : Hid (Calls Tryz.prog 138 #[.pointer (some ⟨b, 0, none⟩), .string ⟨#[108, 100]⟩, .slice (some ⟨v82.heap.size, 0, none⟩) 3 3] (v82.alloc (.cells #[.string (sb (hld 0)), .string ⟨#[114, 48]⟩, .string (sb (dgs (n - 1)))] 9)) fun e w' => e = .returned (.tuple #[]) ∧ (∃ g', Wr w' B b n (T81 ++ insT [108, 100] [hld 0, [114, 48], dgs (n - 1)]) g') ∧ Below B v82 w') := HD
 have hl82 := insT_len (kd := [108, 100]) (fs := [hld 0, [114, 48], dgs (n - 1)]) (by decide) (by simp) (fmc (hld_len _) (fmc (by decide) (fmc (dgs_len20 _) fmn)))
 have C1 : Hid ((v82.alloc (.cells #[.string (sb (hld 0)), .string ⟨#[114, 48]⟩, .string (sb (dgs (n - 1)))] 9)).cell? ⟨b, 2, none⟩ = some (.int .i64 (n : Int))) := zH (cell_keep ((Below.refl _ _).alloc (Nat.le_refl _) _) (uI HV).lt (uI C0))
 clear HD
 refine reg_one 8 1 (by kernel_rfl) (by kernel_rfl) (uI C0) ?_
 simp only [List.take_succ_cons, List.take_zero, List.drop_succ_cons, List.drop_zero]
 go_wp2_with fail
 first | refine next_nil ?_ | refine next_go ?_
 refine reg_one 9 0 (by kernel_rfl) (by kernel_rfl) (uI C1) ?_
 simp only [List.take_succ_cons, List.take_zero, List.drop_succ_cons, List.drop_zero]
 go_wp2_with fail
 refine (uI HD2).mono ?_
 rintro e w82 ⟨rfl, ⟨g82, hH82⟩, kK82⟩
 generalize hE82 : T81 ++ insT [108, 100] [hld 0, [114, 48], dgs (n - 1)] = T82 at hH82
 have H82 := zH hH82
 have K82 := zH ((uI KV).trans kK82)
 have lb82 : B ≤ w82.heap.size := Nat.le_trans lv82 kK82.size
 clear HD2 hH82 kK82 H81 K81 HV KV C0 C1
 go_wp2_with fail
 first | refine next_nil ?_ | refine next_go ?_
 refine reg_end (by kernel_rfl) (uI H82).words ?_
 have hT82 : T82.length = (T81).length + (insT [108, 100] [hld 0, [114, 48], dgs (n - 1)]).length := by rw [← hE82]; exact List.length_append
 have HE82 := zH hE82
 clear hE82
 have c2 := (uI H82).words
 have HH := zH (fun W => digits_any (n - 1) (by omega) W)
 rw [show (((n - 1) : Nat) : Int) = (n : Int) - 1 by omega] at HH
 go_wp2_with fail
 refine (uI HH _).mono ?_
 rintro e wq ⟨rfl, hq⟩
 subst wq
 clear HH
 have HD := zH (do_at B b n T82 g82 [108, 100] [[114, 54], [114, 49], dgs (n - 1)] w82 (uI H82) (by simp) (by simp) (fmc (by decide) (fmc (by decide) (fmc (dgs_len20 _) fmn))) (by omega) (by decide) lb82)
 have HD2 : Hid (Calls Tryz.prog 138 #[.pointer (some ⟨b, 0, none⟩), .string ⟨#[108, 100]⟩, .slice (some ⟨w82.heap.size, 0, none⟩) 3 3] (w82.alloc (.cells #[.string ⟨#[114, 54]⟩, .string ⟨#[114, 49]⟩, .string (sb (dgs (n - 1)))] 9)) fun e w' => e = .returned (.tuple #[]) ∧ (∃ g', Wr w' B b n (T82 ++ insT [108, 100] [[114, 54], [114, 49], dgs (n - 1)]) g') ∧ Below B w82 w') := HD
 have hl83 := insT_len (kd := [108, 100]) (fs := [[114, 54], [114, 49], dgs (n - 1)]) (by decide) (by simp) (fmc (by decide) (fmc (by decide) (fmc (dgs_len20 _) fmn)))
 clear HD
 go_wp2_with fail
 refine (uI HD2).mono ?_
 rintro e w83 ⟨rfl, ⟨g83, hH83⟩, kK83⟩
 generalize hE83 : T82 ++ insT [108, 100] [[114, 54], [114, 49], dgs (n - 1)] = T83 at hH83
 have H83 := zH hH83
 have K83 := zH ((uI K82).trans kK83)
 have lb83 : B ≤ w83.heap.size := Nat.le_trans lb82 kK83.size
 clear HD2 hH83 kK83 H82 K82
 have hT83 : T83.length = (T82).length + (insT [108, 100] [[114, 54], [114, 49], dgs (n - 1)]).length := by rw [← hE83]; exact List.length_append
 have HE83 := zH hE83
 clear hE83
 have HH := zH (fun W => held_any 0 (by omega) W)
 rw [show ((0 : Nat) : Int) = 0 by omega] at HH
 go_wp2_with fail
 refine (uI HH _).mono ?_
 rintro e wq ⟨rfl, hq⟩
 subst wq
 clear HH
 have HD := zH (do_at B b n T83 g83 [120, 111, 114] [hld 0, [114, 54]] w83 (uI H83) (by simp) (by simp) (fmc (hld_len _) (fmc (by decide) fmn)) (by omega) (by decide) lb83)
 have HD2 : Hid (Calls Tryz.prog 138 #[.pointer (some ⟨b, 0, none⟩), .string ⟨#[120, 111, 114]⟩, .slice (some ⟨w83.heap.size, 0, none⟩) 2 2] (w83.alloc (.cells #[.string (sb (hld 0)), .string ⟨#[114, 54]⟩] 9)) fun e w' => e = .returned (.tuple #[]) ∧ (∃ g', Wr w' B b n (T83 ++ insT [120, 111, 114] [hld 0, [114, 54]]) g') ∧ Below B w83 w') := HD
 have hl84 := insT_len (kd := [120, 111, 114]) (fs := [hld 0, [114, 54]]) (by decide) (by simp) (fmc (hld_len _) (fmc (by decide) fmn))
 clear HD
 go_wp2_with fail
 refine (uI HD2).mono ?_
 rintro e w84 ⟨rfl, ⟨g84, hH84⟩, kK84⟩
 generalize hE84 : T83 ++ insT [120, 111, 114] [hld 0, [114, 54]] = T84 at hH84
 have H84 := zH hH84
 have K84 := zH ((uI K83).trans kK84)
 have lb84 : B ≤ w84.heap.size := Nat.le_trans lb83 kK84.size
 clear HD2 hH84 kK84 H83 K83
 have hT84 : T84.length = (T83).length + (insT [120, 111, 114] [hld 0, [114, 54]]).length := by rw [← hE84]; exact List.length_append
 have HE84 := zH hE84
 clear hE84
 have HD := zH (signed_any B b n T84 g84 [117, 100, 105, 118] w84 (uI H84) hn1 hn (by omega) lb84 (by decide))
 have HD2 : Hid (Calls Tryz.prog 147 #[.pointer (some ⟨b, 0, none⟩), .string ⟨#[117, 100, 105, 118]⟩] w84 fun e w' => e = .returned (.tuple #[]) ∧ (∃ g', Wr w' B b n (T84 ++ signT [117, 100, 105, 118] n) g') ∧ Below B w84 w') := HD
 have hl85 := (show ∀ n, n < 5 → (signT [117, 100, 105, 118] n).length ≤ 20000 from by decide +kernel) n (by omega)
 clear HD
 go_wp2_with fail
 refine (uI HD2).mono ?_
 rintro e w85 ⟨rfl, ⟨g85, hH85⟩, kK85⟩
 generalize hE85 : T84 ++ signT [117, 100, 105, 118] n = T85 at hH85
 have H85 := zH hH85
 have K85 := zH ((uI K84).trans kK85)
 have lb85 : B ≤ w85.heap.size := Nat.le_trans lb84 kK85.size
 clear HD2 hH85 kK85 H84 K84
 have hT85 : T85.length = (T84).length + (signT [117, 100, 105, 118] n).length := by rw [← hE85]; exact List.length_append
 have HE85 := zH hE85
 clear hE85
 go_wp2_with fail
 go_end0
 refine ⟨rfl, ⟨g85, ?_⟩, uI K85⟩
 have hz := uI H85
 rw [← uI HE85, ← uI HE84, ← uI HE83, ← uI HE82, ← uI HE81] at hz; 
 unfold sdivT
 simpa only [List.append_assoc] using hz
theorem srem_any (B b n : Nat) (t : List UInt8) (g : Option Nat)  (w : World) (h : Wr w B b n t g) (hn1 : 1 ≤ n) (hn : n ≤ 4) (hl : t.length ≤ 400000) (hBw : B ≤ w.heap.size)  : Calls Tryz.prog 100 #[.pointer (some ⟨b, 0, none⟩)] w fun e w' => e = .returned (.tuple #[]) ∧ (∃ g', Wr w' B b n (t ++ sremT n) g') ∧ Below B w w' := by
 have H0 := zH h
 have K0 := zH (Below.refl B w)
 have hnI : (n : Int) ≤ 4 := by omega
 have hnI1 : (1 : Int) ≤ (n : Int) := by omega
 have c2 := h.words
 clear h
 go_enter Tryz.func100, Tryz.ntmps100
 have HD := zH (trapZ_any B b n t g  w (uI H0) hn1 hn (by omega) hBw )
 have HD2 : Hid (Calls Tryz.prog 144 #[.pointer (some ⟨b, 0, none⟩)] w fun e w' => e = .returned (.tuple #[]) ∧ (∃ g', Wr w' B b n (t ++ trapT n) g') ∧ Below B w w') := HD
 have hl86 := (show ∀ n, n < 5 → (trapT n).length ≤ 20000 from by decide +kernel) n (by omega)
 clear HD
 go_wp2_with fail
 refine (uI HD2).mono ?_
 rintro e w86 ⟨rfl, ⟨g86, hH86⟩, kK86⟩
 generalize hE86 : t ++ trapT n = T86 at hH86
 have H86 := zH hH86
 have K86 := zH ((uI K0).trans kK86)
 have lb86 : B ≤ w86.heap.size := Nat.le_trans hBw kK86.size
 clear HD2 hH86 kK86 H0 K0
 have hT86 : T86.length = (t).length + (trapT n).length := by rw [← hE86]; exact List.length_append
 have HE86 := zH hE86
 clear hE86
 have c2 := (uI H86).words
 have kd : Below w86.heap.size w86 w86.drew := Below.drew (Below.refl _ _)
 have HV := zH ((uI H86).step kd)
 have KV := zH ((uI K86).trans (kd.mono lb86))
 have lv87 : B ≤ w86.drew.heap.size := lb86
 clear kd c2
 go_wp2_with fail
 refine reg_start (fun W => W.cell? ⟨b, 2, none⟩ = some (.int .i64 (n : Int))) (by kernel_rfl) ?_
 generalize w86.drew = v87 at *
 have C0 := zH (uI HV).words
 refine reg_seg 0 1 9 (by kernel_rfl) (by decide) (by kernel_rfl) (by kernel_rfl) (fun _ _ _ _ _ h => h) ?_
 simp only [List.take_succ_cons, List.take_zero, List.drop_succ_cons, List.drop_zero]
 repeat (refine wpSteady_step (fun K hK => ?_); go_simp; first | (refine steady_of ?_ (fun W hW => ?_) (hK _ ?_); rotate_left; (obtain hcW := hW; go_simp; first | done | rfl); clear hK K) | (refine hK _ ?_; clear hK K))
 refine wpSteady_nil ?_
 refine reg_seg 2 5 4 (by kernel_rfl) (by decide) (by kernel_rfl) (by kernel_rfl) (fun _ _ _ _ _ h => h) ?_
 simp only [List.take_succ_cons, List.take_zero, List.drop_succ_cons, List.drop_zero]
 repeat (refine wpSteady_step (fun K hK => ?_); go_simp; first | (refine steady_of ?_ (fun W hW => ?_) (hK _ ?_); rotate_left; (obtain hcW := hW; go_simp; first | done | rfl); clear hK K) | (refine hK _ ?_; clear hK K))
 refine wpSteady_nil ?_
 have HH := zH (fun W => held_any 0 (by omega) W)
 rw [show ((0 : Nat) : Int) = 0 by omega] at HH
 refine reg_one 1 3 (by kernel_rfl) (by kernel_rfl) (uI C0) ?_
 simp only [List.take_succ_cons, List.take_zero, List.drop_succ_cons, List.drop_zero]
 go_wp2_with fail
 refine (uI HH _).mono ?_
 rintro e wq ⟨rfl, hq⟩
 subst wq
 clear HH
 go_wp2_with fail
 first | refine next_nil ?_ | refine next_go ?_
 have HH := zH (fun W => digits_any (n - 1) (by omega) W)
 rw [show (((n - 1) : Nat) : Int) = (n : Int) - 1 by omega] at HH
 refine reg_one 7 2 (by kernel_rfl) (by kernel_rfl) (uI C0) ?_
 simp only [List.take_succ_cons, List.take_zero, List.drop_succ_cons, List.drop_zero]
 go_wp2_with fail
 refine (uI HH _).mono ?_
 rintro e wq ⟨rfl, hq⟩
 subst wq
 clear HH
 go_wp2_with fail
 first | refine next_nil ?_ | refine next_go ?_
 have HD := zH (do_at B b n T86 g86 [108, 100] [hld 0, [114, 48], dgs (n - 1)] v87 (uI HV) (by simp) (by simp) (fmc (hld_len _) (fmc (by decide) (fmc (dgs_len20 _) fmn))) (by omega) (by decide) lv87)
 have HD2 : Hid (Calls Tryz.prog 138 #[.pointer (some ⟨b, 0, none⟩), .string ⟨#[108, 100]⟩, .slice (some ⟨v87.heap.size, 0, none⟩) 3 3] (v87.alloc (.cells #[.string (sb (hld 0)), .string ⟨#[114, 48]⟩, .string (sb (dgs (n - 1)))] 9)) fun e w' => e = .returned (.tuple #[]) ∧ (∃ g', Wr w' B b n (T86 ++ insT [108, 100] [hld 0, [114, 48], dgs (n - 1)]) g') ∧ Below B v87 w') := HD
 have hl87 := insT_len (kd := [108, 100]) (fs := [hld 0, [114, 48], dgs (n - 1)]) (by decide) (by simp) (fmc (hld_len _) (fmc (by decide) (fmc (dgs_len20 _) fmn)))
 have C1 : Hid ((v87.alloc (.cells #[.string (sb (hld 0)), .string ⟨#[114, 48]⟩, .string (sb (dgs (n - 1)))] 9)).cell? ⟨b, 2, none⟩ = some (.int .i64 (n : Int))) := zH (cell_keep ((Below.refl _ _).alloc (Nat.le_refl _) _) (uI HV).lt (uI C0))
 clear HD
 refine reg_one 8 1 (by kernel_rfl) (by kernel_rfl) (uI C0) ?_
 simp only [List.take_succ_cons, List.take_zero, List.drop_succ_cons, List.drop_zero]
 go_wp2_with fail
 first | refine next_nil ?_ | refine next_go ?_
 refine reg_one 9 0 (by kernel_rfl) (by kernel_rfl) (uI C1) ?_
 simp only [List.take_succ_cons, List.take_zero, List.drop_succ_cons, List.drop_zero]
 go_wp2_with fail
 refine (uI HD2).mono ?_
 rintro e w87 ⟨rfl, ⟨g87, hH87⟩, kK87⟩
 generalize hE87 : T86 ++ insT [108, 100] [hld 0, [114, 48], dgs (n - 1)] = T87 at hH87
 have H87 := zH hH87
 have K87 := zH ((uI KV).trans kK87)
 have lb87 : B ≤ w87.heap.size := Nat.le_trans lv87 kK87.size
 clear HD2 hH87 kK87 H86 K86 HV KV C0 C1
 go_wp2_with fail
 first | refine next_nil ?_ | refine next_go ?_
 refine reg_end (by kernel_rfl) (uI H87).words ?_
 have hT87 : T87.length = (T86).length + (insT [108, 100] [hld 0, [114, 48], dgs (n - 1)]).length := by rw [← hE87]; exact List.length_append
 have HE87 := zH hE87
 clear hE87
 have HD := zH (signed_any B b n T87 g87 [117, 114, 101, 109] w87 (uI H87) hn1 hn (by omega) lb87 (by decide))
 have HD2 : Hid (Calls Tryz.prog 147 #[.pointer (some ⟨b, 0, none⟩), .string ⟨#[117, 114, 101, 109]⟩] w87 fun e w' => e = .returned (.tuple #[]) ∧ (∃ g', Wr w' B b n (T87 ++ signT [117, 114, 101, 109] n) g') ∧ Below B w87 w') := HD
 have hl88 := (show ∀ n, n < 5 → (signT [117, 114, 101, 109] n).length ≤ 20000 from by decide +kernel) n (by omega)
 clear HD
 go_wp2_with fail
 refine (uI HD2).mono ?_
 rintro e w88 ⟨rfl, ⟨g88, hH88⟩, kK88⟩
 generalize hE88 : T87 ++ signT [117, 114, 101, 109] n = T88 at hH88
 have H88 := zH hH88
 have K88 := zH ((uI K87).trans kK88)
 have lb88 : B ≤ w88.heap.size := Nat.le_trans lb87 kK88.size
 clear HD2 hH88 kK88 H87 K87
 have hT88 : T88.length = (T87).length + (signT [117, 114, 101, 109] n).length := by rw [← hE88]; exact List.length_append
 have HE88 := zH hE88
 clear hE88
 go_wp2_with fail
 go_end0
 refine ⟨rfl, ⟨g88, ?_⟩, uI K88⟩
 have hz := uI H88
 rw [← uI HE88, ← uI HE87, ← uI HE86] at hz; 
 unfold sremT
 simpa only [List.append_assoc] using hz
end Go.Proofs.YtlkoidkdeopgjaaGreatDoor
