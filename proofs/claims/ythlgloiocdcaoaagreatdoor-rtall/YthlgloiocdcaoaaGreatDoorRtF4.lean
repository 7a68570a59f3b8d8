/-
  Routines: what the writer's functions write.
-/
import Derived.Test.YthlgloiocdcaoaaGreatDoorRtF2
namespace Go.Proofs.YthlgloiocdcaoaaGreatDoor
open Go.RowKit
set_option linter.unusedSimpArgs false
set_option linter.unusedVariables false

set_option maxRecDepth 100000 in
set_option maxHeartbeats 4000000 in
theorem shiftL_any (B b n : Nat) (t : List UInt8) (g : Option Nat)  (w : World) (h : Wr w B b n t g) (hn1 : 1 ≤ n) (hn : n ≤ 4) (hl : t.length ≤ 600000) (hBw : B ≤ w.heap.size)  : Calls Tryz.prog 91 #[.pointer (some ⟨b, 0, none⟩), .func (.func 85) #[] #[], .string ⟨#[115, 104, 108]⟩] w fun e w' => e = .returned (.tuple #[]) ∧ (∃ g', Wr w' B b n (t ++ shlT n) g') ∧ Below B w w' := by
  have H0 := hideI h
  have K0 := hideI (Below.refl B w)
  have hnI : (n : Int) ≤ 4 := by omega
  have hnI1 : (1 : Int) ≤ (n : Int) := by omega
  have c2 := h.words
  clear h
  go_enter Tryz.func91, Tryz.ntmps91
  have HD := hideI (do_at B b n t g [108, 100] [[114, 49], [114, 49], [48]] w (unhideI H0) (by simp) (by simp) (List.forall_mem_cons.2 ⟨(by decide), (List.forall_mem_cons.2 ⟨(by decide), (List.forall_mem_cons.2 ⟨(by decide), (fun _ h => absurd h List.not_mem_nil)⟩)⟩)⟩) (by omega) (by decide) hBw)
  have HD2 : Hid (Calls Tryz.prog 87 #[.pointer (some ⟨b, 0, none⟩), .string ⟨#[108, 100]⟩, .slice (some ⟨w.heap.size, 0, none⟩) 3 3] (w.alloc (.cells #[.string ⟨#[114, 49]⟩, .string ⟨#[114, 49]⟩, .string ⟨#[48]⟩] 9)) fun e w' => e = .returned (.tuple #[]) ∧ (∃ g', Wr w' B b n (t ++ insT [108, 100] [[114, 49], [114, 49], [48]]) g') ∧ Below B w w') := HD
  have hl89 := insT_len (kd := [108, 100]) (fs := [[114, 49], [114, 49], [48]]) (by decide) (by simp) (List.forall_mem_cons.2 ⟨(by decide), (List.forall_mem_cons.2 ⟨(by decide), (List.forall_mem_cons.2 ⟨(by decide), (fun _ h => absurd h List.not_mem_nil)⟩)⟩)⟩)
  clear HD
  go_wp2_with fail
  refine (unhideI HD2).mono ?_
  rintro e w89 ⟨rfl, ⟨g89, hH89⟩, kK89⟩
  have H89 := hideI hH89
  have K89 := hideI ((unhideI K0).trans kK89)
  have lb89 : B ≤ w89.heap.size := Nat.le_trans hBw kK89.size
  clear HD2 hH89 kK89 H0 K0
  have hT89 : (t ++ insT [108, 100] [[114, 49], [114, 49], [48]]).length = (t).length + (insT [108, 100] [[114, 49], [114, 49], [48]]).length := List.length_append
  have c2 := (unhideI H89).words
  have HB := hideI (bits_any B b n (t ++ insT [108, 100] [[114, 49], [114, 49], [48]]) g89 w89 (unhideI H89) hn)
  go_wp2_with fail
  refine (unhideI HB).mono ?_
  rintro e wq ⟨rfl, hq⟩
  subst wq
  clear HB
  have HH := hideI (fun W => digits_any (16 * n) (by omega) W)
  rw [show (((16 * n) : Nat) : Int) = 16 * (n : Int) by omega] at HH
  go_wp2_with fail
  refine (unhideI HH _).mono ?_
  rintro e wq ⟨rfl, hq⟩
  subst wq
  clear HH
  have HD := hideI (do_at B b n (t ++ insT [108, 100] [[114, 49], [114, 49], [48]]) g89 [108, 100, 105] [[114, 54], dgs (16 * n)] w89 (unhideI H89) (by simp) (by simp) (List.forall_mem_cons.2 ⟨(by decide), (List.forall_mem_cons.2 ⟨(dgs_len20 _), (fun _ h => absurd h List.not_mem_nil)⟩)⟩) (by omega) (by decide) lb89)
  have HD2 : Hid (Calls Tryz.prog 87 #[.pointer (some ⟨b, 0, none⟩), .string ⟨#[108, 100, 105]⟩, .slice (some ⟨w89.heap.size, 0, none⟩) 2 2] (w89.alloc (.cells #[.string ⟨#[114, 54]⟩, .string (sb (dgs (16 * n)))] 9)) fun e w' => e = .returned (.tuple #[]) ∧ (∃ g', Wr w' B b n ((t ++ insT [108, 100] [[114, 49], [114, 49], [48]]) ++ insT [108, 100, 105] [[114, 54], dgs (16 * n)]) g') ∧ Below B w89 w') := HD
  have hl90 := insT_len (kd := [108, 100, 105]) (fs := [[114, 54], dgs (16 * n)]) (by decide) (by simp) (List.forall_mem_cons.2 ⟨(by decide), (List.forall_mem_cons.2 ⟨(dgs_len20 _), (fun _ h => absurd h List.not_mem_nil)⟩)⟩)
  clear HD
  go_wp2_with fail
  refine (unhideI HD2).mono ?_
  rintro e w90 ⟨rfl, ⟨g90, hH90⟩, kK90⟩
  have H90 := hideI hH90
  have K90 := hideI ((unhideI K89).trans kK90)
  have lb90 : B ≤ w90.heap.size := Nat.le_trans lb89 kK90.size
  clear HD2 hH90 kK90 H89 K89
  have hT90 : ((t ++ insT [108, 100] [[114, 49], [114, 49], [48]]) ++ insT [108, 100, 105] [[114, 54], dgs (16 * n)]).length = ((t ++ insT [108, 100] [[114, 49], [114, 49], [48]])).length + (insT [108, 100, 105] [[114, 54], dgs (16 * n)]).length := List.length_append
  have HD := hideI (do_at B b n ((t ++ insT [108, 100] [[114, 49], [114, 49], [48]]) ++ insT [108, 100, 105] [[114, 54], dgs (16 * n)]) g90 [99, 109, 112] [[114, 49], [114, 54]] w90 (unhideI H90) (by simp) (by simp) (List.forall_mem_cons.2 ⟨(by decide), (List.forall_mem_cons.2 ⟨(by decide), (fun _ h => absurd h List.not_mem_nil)⟩)⟩) (by omega) (by decide) lb90)
  have HD2 : Hid (Calls Tryz.prog 87 #[.pointer (some ⟨b, 0, none⟩), .string ⟨#[99, 109, 112]⟩, .slice (some ⟨w90.heap.size, 0, none⟩) 2 2] (w90.alloc (.cells #[.string ⟨#[114, 49]⟩, .string ⟨#[114, 54]⟩] 9)) fun e w' => e = .returned (.tuple #[]) ∧ (∃ g', Wr w' B b n (((t ++ insT [108, 100] [[114, 49], [114, 49], [48]]) ++ insT [108, 100, 105] [[114, 54], dgs (16 * n)]) ++ insT [99, 109, 112] [[114, 49], [114, 54]]) g') ∧ Below B w90 w') := HD
  have hl91 := insT_len (kd := [99, 109, 112]) (fs := [[114, 49], [114, 54]]) (by decide) (by simp) (List.forall_mem_cons.2 ⟨(by decide), (List.forall_mem_cons.2 ⟨(by decide), (fun _ h => absurd h List.not_mem_nil)⟩)⟩)
  clear HD
  go_wp2_with fail
  refine (unhideI HD2).mono ?_
  rintro e w91 ⟨rfl, ⟨g91, hH91⟩, kK91⟩
  have H91 := hideI hH91
  have K91 := hideI ((unhideI K90).trans kK91)
  have lb91 : B ≤ w91.heap.size := Nat.le_trans lb90 kK91.size
  clear HD2 hH91 kK91 H90 K90
  have hT91 : (((t ++ insT [108, 100] [[114, 49], [114, 49], [48]]) ++ insT [108, 100, 105] [[114, 54], dgs (16 * n)]) ++ insT [99, 109, 112] [[114, 49], [114, 54]]).length = (((t ++ insT [108, 100] [[114, 49], [114, 49], [48]]) ++ insT [108, 100, 105] [[114, 54], dgs (16 * n)])).length + (insT [99, 109, 112] [[114, 49], [114, 54]]).length := List.length_append
  have HD := hideI (do_at B b n (((t ++ insT [108, 100] [[114, 49], [114, 49], [48]]) ++ insT [108, 100, 105] [[114, 54], dgs (16 * n)]) ++ insT [99, 109, 112] [[114, 49], [114, 54]]) g91 [106, 99] [[46, 102, 101, 119]] w91 (unhideI H91) (by simp) (by simp) (List.forall_mem_cons.2 ⟨(by decide), (fun _ h => absurd h List.not_mem_nil)⟩) (by omega) (by decide) lb91)
  have HD2 : Hid (Calls Tryz.prog 87 #[.pointer (some ⟨b, 0, none⟩), .string ⟨#[106, 99]⟩, .slice (some ⟨w91.heap.size, 0, none⟩) 1 1] (w91.alloc (.cells #[.string ⟨#[46, 102, 101, 119]⟩] 9)) fun e w' => e = .returned (.tuple #[]) ∧ (∃ g', Wr w' B b n ((((t ++ insT [108, 100] [[114, 49], [114, 49], [48]]) ++ insT [108, 100, 105] [[114, 54], dgs (16 * n)]) ++ insT [99, 109, 112] [[114, 49], [114, 54]]) ++ insT [106, 99] [[46, 102, 101, 119]]) g') ∧ Below B w91 w') := HD
  have hl92 := insT_len (kd := [106, 99]) (fs := [[46, 102, 101, 119]]) (by decide) (by simp) (List.forall_mem_cons.2 ⟨(by decide), (fun _ h => absurd h List.not_mem_nil)⟩)
  clear HD
  go_wp2_with fail
  refine (unhideI HD2).mono ?_
  rintro e w92 ⟨rfl, ⟨g92, hH92⟩, kK92⟩
  have H92 := hideI hH92
  have K92 := hideI ((unhideI K91).trans kK92)
  have lb92 : B ≤ w92.heap.size := Nat.le_trans lb91 kK92.size
  clear HD2 hH92 kK92 H91 K91
  have hT92 : ((((t ++ insT [108, 100] [[114, 49], [114, 49], [48]]) ++ insT [108, 100, 105] [[114, 54], dgs (16 * n)]) ++ insT [99, 109, 112] [[114, 49], [114, 54]]) ++ insT [106, 99] [[46, 102, 101, 119]]).length = ((((t ++ insT [108, 100] [[114, 49], [114, 49], [48]]) ++ insT [108, 100, 105] [[114, 54], dgs (16 * n)]) ++ insT [99, 109, 112] [[114, 49], [114, 54]])).length + (insT [106, 99] [[46, 102, 101, 119]]).length := List.length_append
  have HD := hideI (do_at B b n ((((t ++ insT [108, 100] [[114, 49], [114, 49], [48]]) ++ insT [108, 100, 105] [[114, 54], dgs (16 * n)]) ++ insT [99, 109, 112] [[114, 49], [114, 54]]) ++ insT [106, 99] [[46, 102, 101, 119]]) g92 [109, 111, 118] [[114, 49], [114, 54]] w92 (unhideI H92) (by simp) (by simp) (List.forall_mem_cons.2 ⟨(by decide), (List.forall_mem_cons.2 ⟨(by decide), (fun _ h => absurd h List.not_mem_nil)⟩)⟩) (by omega) (by decide) lb92)
  have HD2 : Hid (Calls Tryz.prog 87 #[.pointer (some ⟨b, 0, none⟩), .string ⟨#[109, 111, 118]⟩, .slice (some ⟨w92.heap.size, 0, none⟩) 2 2] (w92.alloc (.cells #[.string ⟨#[114, 49]⟩, .string ⟨#[114, 54]⟩] 9)) fun e w' => e = .returned (.tuple #[]) ∧ (∃ g', Wr w' B b n (((((t ++ insT [108, 100] [[114, 49], [114, 49], [48]]) ++ insT [108, 100, 105] [[114, 54], dgs (16 * n)]) ++ insT [99, 109, 112] [[114, 49], [114, 54]]) ++ insT [106, 99] [[46, 102, 101, 119]]) ++ insT [109, 111, 118] [[114, 49], [114, 54]]) g') ∧ Below B w92 w') := HD
  have hl93 := insT_len (kd := [109, 111, 118]) (fs := [[114, 49], [114, 54]]) (by decide) (by simp) (List.forall_mem_cons.2 ⟨(by decide), (List.forall_mem_cons.2 ⟨(by decide), (fun _ h => absurd h List.not_mem_nil)⟩)⟩)
  clear HD
  go_wp2_with fail
  refine (unhideI HD2).mono ?_
  rintro e w93 ⟨rfl, ⟨g93, hH93⟩, kK93⟩
  have H93 := hideI hH93
  have K93 := hideI ((unhideI K92).trans kK93)
  have lb93 : B ≤ w93.heap.size := Nat.le_trans lb92 kK93.size
  clear HD2 hH93 kK93 H92 K92
  have hT93 : (((((t ++ insT [108, 100] [[114, 49], [114, 49], [48]]) ++ insT [108, 100, 105] [[114, 54], dgs (16 * n)]) ++ insT [99, 109, 112] [[114, 49], [114, 54]]) ++ insT [106, 99] [[46, 102, 101, 119]]) ++ insT [109, 111, 118] [[114, 49], [114, 54]]).length = (((((t ++ insT [108, 100] [[114, 49], [114, 49], [48]]) ++ insT [108, 100, 105] [[114, 54], dgs (16 * n)]) ++ insT [99, 109, 112] [[114, 49], [114, 54]]) ++ insT [106, 99] [[46, 102, 101, 119]])).length + (insT [109, 111, 118] [[114, 49], [114, 54]]).length := List.length_append
  have HD := hideI (label_any B b n (((((t ++ insT [108, 100] [[114, 49], [114, 49], [48]]) ++ insT [108, 100, 105] [[114, 54], dgs (16 * n)]) ++ insT [99, 109, 112] [[114, 49], [114, 54]]) ++ insT [106, 99] [[46, 102, 101, 119]]) ++ insT [109, 111, 118] [[114, 49], [114, 54]]) g93 [46, 102, 101, 119] w93 (unhideI H93) (by have : ([46, 102, 101, 119]).length ≤ 20 := (by decide); omega) lb93)
  have HD2 : Hid (Calls Tryz.prog 19 #[.pointer (some ⟨b, 0, none⟩), .string ⟨#[46, 102, 101, 119]⟩] w93 fun e w' => e = .returned (.tuple #[]) ∧ (∃ g', Wr w' B b n ((((((t ++ insT [108, 100] [[114, 49], [114, 49], [48]]) ++ insT [108, 100, 105] [[114, 54], dgs (16 * n)]) ++ insT [99, 109, 112] [[114, 49], [114, 54]]) ++ insT [106, 99] [[46, 102, 101, 119]]) ++ insT [109, 111, 118] [[114, 49], [114, 54]]) ++ labT [46, 102, 101, 119]) g') ∧ Below B w93 w') := HD
  have hl94 := labT_len (s := [46, 102, 101, 119]) (by decide)
  clear HD
  go_wp2_with fail
  refine (unhideI HD2).mono ?_
  rintro e w94 ⟨rfl, ⟨g94, hH94⟩, kK94⟩
  have H94 := hideI hH94
  have K94 := hideI ((unhideI K93).trans kK94)
  have lb94 : B ≤ w94.heap.size := Nat.le_trans lb93 kK94.size
  clear HD2 hH94 kK94 H93 K93
  have hT94 : ((((((t ++ insT [108, 100] [[114, 49], [114, 49], [48]]) ++ insT [108, 100, 105] [[114, 54], dgs (16 * n)]) ++ insT [99, 109, 112] [[114, 49], [114, 54]]) ++ insT [106, 99] [[46, 102, 101, 119]]) ++ insT [109, 111, 118] [[114, 49], [114, 54]]) ++ labT [46, 102, 101, 119]).length = ((((((t ++ insT [108, 100] [[114, 49], [114, 49], [48]]) ++ insT [108, 100, 105] [[114, 54], dgs (16 * n)]) ++ insT [99, 109, 112] [[114, 49], [114, 54]]) ++ insT [106, 99] [[46, 102, 101, 119]]) ++ insT [109, 111, 118] [[114, 49], [114, 54]])).length + (labT [46, 102, 101, 119]).length := List.length_append
  have HD := hideI (load_any B b n ((((((t ++ insT [108, 100] [[114, 49], [114, 49], [48]]) ++ insT [108, 100, 105] [[114, 54], dgs (16 * n)]) ++ insT [99, 109, 112] [[114, 49], [114, 54]]) ++ insT [106, 99] [[46, 102, 101, 119]]) ++ insT [109, 111, 118] [[114, 49], [114, 54]]) ++ labT [46, 102, 101, 119]) g94  w94 (unhideI H94) hn1 hn (by omega) lb94 )
  have HD2 : Hid (Calls Tryz.prog 151 #[.pointer (some ⟨b, 0, none⟩)] w94 fun e w' => e = .returned (.tuple #[]) ∧ (∃ g', Wr w' B b n (((((((t ++ insT [108, 100] [[114, 49], [114, 49], [48]]) ++ insT [108, 100, 105] [[114, 54], dgs (16 * n)]) ++ insT [99, 109, 112] [[114, 49], [114, 54]]) ++ insT [106, 99] [[46, 102, 101, 119]]) ++ insT [109, 111, 118] [[114, 49], [114, 54]]) ++ labT [46, 102, 101, 119]) ++ loadT n) g') ∧ Below B w94 w') := HD
  have hl95 := (show ∀ n, n < 5 → (loadT n).length ≤ 20000 from by decide +kernel) n (by omega)
  clear HD
  go_wp2_with fail
  refine (unhideI HD2).mono ?_
  rintro e w95 ⟨rfl, ⟨g95, hH95⟩, kK95⟩
  have H95 := hideI hH95
  have K95 := hideI ((unhideI K94).trans kK95)
  have lb95 : B ≤ w95.heap.size := Nat.le_trans lb94 kK95.size
  clear HD2 hH95 kK95 H94 K94
  have hT95 : (((((((t ++ insT [108, 100] [[114, 49], [114, 49], [48]]) ++ insT [108, 100, 105] [[114, 54], dgs (16 * n)]) ++ insT [99, 109, 112] [[114, 49], [114, 54]]) ++ insT [106, 99] [[46, 102, 101, 119]]) ++ insT [109, 111, 118] [[114, 49], [114, 54]]) ++ labT [46, 102, 101, 119]) ++ loadT n).length = (((((((t ++ insT [108, 100] [[114, 49], [114, 49], [48]]) ++ insT [108, 100, 105] [[114, 54], dgs (16 * n)]) ++ insT [99, 109, 112] [[114, 49], [114, 54]]) ++ insT [106, 99] [[46, 102, 101, 119]]) ++ insT [109, 111, 118] [[114, 49], [114, 54]]) ++ labT [46, 102, 101, 119])).length + (loadT n).length := List.length_append
  have HD := hideI (do_at B b n (((((((t ++ insT [108, 100] [[114, 49], [114, 49], [48]]) ++ insT [108, 100, 105] [[114, 54], dgs (16 * n)]) ++ insT [99, 109, 112] [[114, 49], [114, 54]]) ++ insT [106, 99] [[46, 102, 101, 119]]) ++ insT [109, 111, 118] [[114, 49], [114, 54]]) ++ labT [46, 102, 101, 119]) ++ loadT n) g95 [108, 100, 105] [[114, 54], [49]] w95 (unhideI H95) (by simp) (by simp) (List.forall_mem_cons.2 ⟨(by decide), (List.forall_mem_cons.2 ⟨(by decide), (fun _ h => absurd h List.not_mem_nil)⟩)⟩) (by omega) (by decide) lb95)
  have HD2 : Hid (Calls Tryz.prog 87 #[.pointer (some ⟨b, 0, none⟩), .string ⟨#[108, 100, 105]⟩, .slice (some ⟨w95.heap.size, 0, none⟩) 2 2] (w95.alloc (.cells #[.string ⟨#[114, 54]⟩, .string ⟨#[49]⟩] 9)) fun e w' => e = .returned (.tuple #[]) ∧ (∃ g', Wr w' B b n ((((((((t ++ insT [108, 100] [[114, 49], [114, 49], [48]]) ++ insT [108, 100, 105] [[114, 54], dgs (16 * n)]) ++ insT [99, 109, 112] [[114, 49], [114, 54]]) ++ insT [106, 99] [[46, 102, 101, 119]]) ++ insT [109, 111, 118] [[114, 49], [114, 54]]) ++ labT [46, 102, 101, 119]) ++ loadT n) ++ insT [108, 100, 105] [[114, 54], [49]]) g') ∧ Below B w95 w') := HD
  have hl96 := insT_len (kd := [108, 100, 105]) (fs := [[114, 54], [49]]) (by decide) (by simp) (List.forall_mem_cons.2 ⟨(by decide), (List.forall_mem_cons.2 ⟨(by decide), (fun _ h => absurd h List.not_mem_nil)⟩)⟩)
  clear HD
  go_wp2_with fail
  refine (unhideI HD2).mono ?_
  rintro e w96 ⟨rfl, ⟨g96, hH96⟩, kK96⟩
  have H96 := hideI hH96
  have K96 := hideI ((unhideI K95).trans kK96)
  have lb96 : B ≤ w96.heap.size := Nat.le_trans lb95 kK96.size
  clear HD2 hH96 kK96 H95 K95
  have hT96 : ((((((((t ++ insT [108, 100] [[114, 49], [114, 49], [48]]) ++ insT [108, 100, 105] [[114, 54], dgs (16 * n)]) ++ insT [99, 109, 112] [[114, 49], [114, 54]]) ++ insT [106, 99] [[46, 102, 101, 119]]) ++ insT [109, 111, 118] [[114, 49], [114, 54]]) ++ labT [46, 102, 101, 119]) ++ loadT n) ++ insT [108, 100, 105] [[114, 54], [49]]).length = ((((((((t ++ insT [108, 100] [[114, 49], [114, 49], [48]]) ++ insT [108, 100, 105] [[114, 54], dgs (16 * n)]) ++ insT [99, 109, 112] [[114, 49], [114, 54]]) ++ insT [106, 99] [[46, 102, 101, 119]]) ++ insT [109, 111, 118] [[114, 49], [114, 54]]) ++ labT [46, 102, 101, 119]) ++ loadT n)).length + (insT [108, 100, 105] [[114, 54], [49]]).length := List.length_append
  have HD := hideI (label_any B b n ((((((((t ++ insT [108, 100] [[114, 49], [114, 49], [48]]) ++ insT [108, 100, 105] [[114, 54], dgs (16 * n)]) ++ insT [99, 109, 112] [[114, 49], [114, 54]]) ++ insT [106, 99] [[46, 102, 101, 119]]) ++ insT [109, 111, 118] [[114, 49], [114, 54]]) ++ labT [46, 102, 101, 119]) ++ loadT n) ++ insT [108, 100, 105] [[114, 54], [49]]) g96 [46, 112, 108, 97, 99, 101] w96 (unhideI H96) (by have : ([46, 112, 108, 97, 99, 101]).length ≤ 20 := (by decide); omega) lb96)
  have HD2 : Hid (Calls Tryz.prog 19 #[.pointer (some ⟨b, 0, none⟩), .string ⟨#[46, 112, 108, 97, 99, 101]⟩] w96 fun e w' => e = .returned (.tuple #[]) ∧ (∃ g', Wr w' B b n (((((((((t ++ insT [108, 100] [[114, 49], [114, 49], [48]]) ++ insT [108, 100, 105] [[114, 54], dgs (16 * n)]) ++ insT [99, 109, 112] [[114, 49], [114, 54]]) ++ insT [106, 99] [[46, 102, 101, 119]]) ++ insT [109, 111, 118] [[114, 49], [114, 54]]) ++ labT [46, 102, 101, 119]) ++ loadT n) ++ insT [108, 100, 105] [[114, 54], [49]]) ++ labT [46, 112, 108, 97, 99, 101]) g') ∧ Below B w96 w') := HD
  have hl97 := labT_len (s := [46, 112, 108, 97, 99, 101]) (by decide)
  clear HD
  go_wp2_with fail
  refine (unhideI HD2).mono ?_
  rintro e w97 ⟨rfl, ⟨g97, hH97⟩, kK97⟩
  have H97 := hideI hH97
  have K97 := hideI ((unhideI K96).trans kK97)
  have lb97 : B ≤ w97.heap.size := Nat.le_trans lb96 kK97.size
  clear HD2 hH97 kK97 H96 K96
  have hT97 : (((((((((t ++ insT [108, 100] [[114, 49], [114, 49], [48]]) ++ insT [108, 100, 105] [[114, 54], dgs (16 * n)]) ++ insT [99, 109, 112] [[114, 49], [114, 54]]) ++ insT [106, 99] [[46, 102, 101, 119]]) ++ insT [109, 111, 118] [[114, 49], [114, 54]]) ++ labT [46, 102, 101, 119]) ++ loadT n) ++ insT [108, 100, 105] [[114, 54], [49]]) ++ labT [46, 112, 108, 97, 99, 101]).length = (((((((((t ++ insT [108, 100] [[114, 49], [114, 49], [48]]) ++ insT [108, 100, 105] [[114, 54], dgs (16 * n)]) ++ insT [99, 109, 112] [[114, 49], [114, 54]]) ++ insT [106, 99] [[46, 102, 101, 119]]) ++ insT [109, 111, 118] [[114, 49], [114, 54]]) ++ labT [46, 102, 101, 119]) ++ loadT n) ++ insT [108, 100, 105] [[114, 54], [49]])).length + (labT [46, 112, 108, 97, 99, 101]).length := List.length_append
  have HD := hideI (do_at B b n (((((((((t ++ insT [108, 100] [[114, 49], [114, 49], [48]]) ++ insT [108, 100, 105] [[114, 54], dgs (16 * n)]) ++ insT [99, 109, 112] [[114, 49], [114, 54]]) ++ insT [106, 99] [[46, 102, 101, 119]]) ++ insT [109, 111, 118] [[114, 49], [114, 54]]) ++ labT [46, 102, 101, 119]) ++ loadT n) ++ insT [108, 100, 105] [[114, 54], [49]]) ++ labT [46, 112, 108, 97, 99, 101]) g97 [115, 117, 98] [[114, 49], [114, 54]] w97 (unhideI H97) (by simp) (by simp) (List.forall_mem_cons.2 ⟨(by decide), (List.forall_mem_cons.2 ⟨(by decide), (fun _ h => absurd h List.not_mem_nil)⟩)⟩) (by omega) (by decide) lb97)
  have HD2 : Hid (Calls Tryz.prog 87 #[.pointer (some ⟨b, 0, none⟩), .string ⟨#[115, 117, 98]⟩, .slice (some ⟨w97.heap.size, 0, none⟩) 2 2] (w97.alloc (.cells #[.string ⟨#[114, 49]⟩, .string ⟨#[114, 54]⟩] 9)) fun e w' => e = .returned (.tuple #[]) ∧ (∃ g', Wr w' B b n ((((((((((t ++ insT [108, 100] [[114, 49], [114, 49], [48]]) ++ insT [108, 100, 105] [[114, 54], dgs (16 * n)]) ++ insT [99, 109, 112] [[114, 49], [114, 54]]) ++ insT [106, 99] [[46, 102, 101, 119]]) ++ insT [109, 111, 118] [[114, 49], [114, 54]]) ++ labT [46, 102, 101, 119]) ++ loadT n) ++ insT [108, 100, 105] [[114, 54], [49]]) ++ labT [46, 112, 108, 97, 99, 101]) ++ insT [115, 117, 98] [[114, 49], [114, 54]]) g') ∧ Below B w97 w') := HD
  have hl98 := insT_len (kd := [115, 117, 98]) (fs := [[114, 49], [114, 54]]) (by decide) (by simp) (List.forall_mem_cons.2 ⟨(by decide), (List.forall_mem_cons.2 ⟨(by decide), (fun _ h => absurd h List.not_mem_nil)⟩)⟩)
  clear HD
  go_wp2_with fail
  refine (unhideI HD2).mono ?_
  rintro e w98 ⟨rfl, ⟨g98, hH98⟩, kK98⟩
  have H98 := hideI hH98
  have K98 := hideI ((unhideI K97).trans kK98)
  have lb98 : B ≤ w98.heap.size := Nat.le_trans lb97 kK98.size
  clear HD2 hH98 kK98 H97 K97
  have hT98 : ((((((((((t ++ insT [108, 100] [[114, 49], [114, 49], [48]]) ++ insT [108, 100, 105] [[114, 54], dgs (16 * n)]) ++ insT [99, 109, 112] [[114, 49], [114, 54]]) ++ insT [106, 99] [[46, 102, 101, 119]]) ++ insT [109, 111, 118] [[114, 49], [114, 54]]) ++ labT [46, 102, 101, 119]) ++ loadT n) ++ insT [108, 100, 105] [[114, 54], [49]]) ++ labT [46, 112, 108, 97, 99, 101]) ++ insT [115, 117, 98] [[114, 49], [114, 54]]).length = ((((((((((t ++ insT [108, 100] [[114, 49], [114, 49], [48]]) ++ insT [108, 100, 105] [[114, 54], dgs (16 * n)]) ++ insT [99, 109, 112] [[114, 49], [114, 54]]) ++ insT [106, 99] [[46, 102, 101, 119]]) ++ insT [109, 111, 118] [[114, 49], [114, 54]]) ++ labT [46, 102, 101, 119]) ++ loadT n) ++ insT [108, 100, 105] [[114, 54], [49]]) ++ labT [46, 112, 108, 97, 99, 101])).length + (insT [115, 117, 98] [[114, 49], [114, 54]]).length := List.length_append
  have HD := hideI (do_at B b n ((((((((((t ++ insT [108, 100] [[114, 49], [114, 49], [48]]) ++ insT [108, 100, 105] [[114, 54], dgs (16 * n)]) ++ insT [99, 109, 112] [[114, 49], [114, 54]]) ++ insT [106, 99] [[46, 102, 101, 119]]) ++ insT [109, 111, 118] [[114, 49], [114, 54]]) ++ labT [46, 102, 101, 119]) ++ loadT n) ++ insT [108, 100, 105] [[114, 54], [49]]) ++ labT [46, 112, 108, 97, 99, 101]) ++ insT [115, 117, 98] [[114, 49], [114, 54]]) g98 [106, 99] [[46, 101, 110, 100]] w98 (unhideI H98) (by simp) (by simp) (List.forall_mem_cons.2 ⟨(by decide), (fun _ h => absurd h List.not_mem_nil)⟩) (by omega) (by decide) lb98)
  have HD2 : Hid (Calls Tryz.prog 87 #[.pointer (some ⟨b, 0, none⟩), .string ⟨#[106, 99]⟩, .slice (some ⟨w98.heap.size, 0, none⟩) 1 1] (w98.alloc (.cells #[.string ⟨#[46, 101, 110, 100]⟩] 9)) fun e w' => e = .returned (.tuple #[]) ∧ (∃ g', Wr w' B b n (((((((((((t ++ insT [108, 100] [[114, 49], [114, 49], [48]]) ++ insT [108, 100, 105] [[114, 54], dgs (16 * n)]) ++ insT [99, 109, 112] [[114, 49], [114, 54]]) ++ insT [106, 99] [[46, 102, 101, 119]]) ++ insT [109, 111, 118] [[114, 49], [114, 54]]) ++ labT [46, 102, 101, 119]) ++ loadT n) ++ insT [108, 100, 105] [[114, 54], [49]]) ++ labT [46, 112, 108, 97, 99, 101]) ++ insT [115, 117, 98] [[114, 49], [114, 54]]) ++ insT [106, 99] [[46, 101, 110, 100]]) g') ∧ Below B w98 w') := HD
  have hl99 := insT_len (kd := [106, 99]) (fs := [[46, 101, 110, 100]]) (by decide) (by simp) (List.forall_mem_cons.2 ⟨(by decide), (fun _ h => absurd h List.not_mem_nil)⟩)
  clear HD
  go_wp2_with fail
  refine (unhideI HD2).mono ?_
  rintro e w99 ⟨rfl, ⟨g99, hH99⟩, kK99⟩
  have H99 := hideI hH99
  have K99 := hideI ((unhideI K98).trans kK99)
  have lb99 : B ≤ w99.heap.size := Nat.le_trans lb98 kK99.size
  clear HD2 hH99 kK99 H98 K98
  have hT99 : (((((((((((t ++ insT [108, 100] [[114, 49], [114, 49], [48]]) ++ insT [108, 100, 105] [[114, 54], dgs (16 * n)]) ++ insT [99, 109, 112] [[114, 49], [114, 54]]) ++ insT [106, 99] [[46, 102, 101, 119]]) ++ insT [109, 111, 118] [[114, 49], [114, 54]]) ++ labT [46, 102, 101, 119]) ++ loadT n) ++ insT [108, 100, 105] [[114, 54], [49]]) ++ labT [46, 112, 108, 97, 99, 101]) ++ insT [115, 117, 98] [[114, 49], [114, 54]]) ++ insT [106, 99] [[46, 101, 110, 100]]).length = (((((((((((t ++ insT [108, 100] [[114, 49], [114, 49], [48]]) ++ insT [108, 100, 105] [[114, 54], dgs (16 * n)]) ++ insT [99, 109, 112] [[114, 49], [114, 54]]) ++ insT [106, 99] [[46, 102, 101, 119]]) ++ insT [109, 111, 118] [[114, 49], [114, 54]]) ++ labT [46, 102, 101, 119]) ++ loadT n) ++ insT [108, 100, 105] [[114, 54], [49]]) ++ labT [46, 112, 108, 97, 99, 101]) ++ insT [115, 117, 98] [[114, 49], [114, 54]])).length + (insT [106, 99] [[46, 101, 110, 100]]).length := List.length_append
  have HD := hideI (up_any B b n (((((((((((t ++ insT [108, 100] [[114, 49], [114, 49], [48]]) ++ insT [108, 100, 105] [[114, 54], dgs (16 * n)]) ++ insT [99, 109, 112] [[114, 49], [114, 54]]) ++ insT [106, 99] [[46, 102, 101, 119]]) ++ insT [109, 111, 118] [[114, 49], [114, 54]]) ++ labT [46, 102, 101, 119]) ++ loadT n) ++ insT [108, 100, 105] [[114, 54], [49]]) ++ labT [46, 112, 108, 97, 99, 101]) ++ insT [115, 117, 98] [[114, 49], [114, 54]]) ++ insT [106, 99] [[46, 101, 110, 100]]) g99 [115, 104, 108] w99 (unhideI H99) hn1 hn (by omega) lb99 (by decide))
  have HD2 : Hid (Calls Tryz.prog 85 #[.pointer (some ⟨b, 0, none⟩), .string ⟨#[115, 104, 108]⟩] w99 fun e w' => e = .returned (.tuple #[]) ∧ (∃ g', Wr w' B b n ((((((((((((t ++ insT [108, 100] [[114, 49], [114, 49], [48]]) ++ insT [108, 100, 105] [[114, 54], dgs (16 * n)]) ++ insT [99, 109, 112] [[114, 49], [114, 54]]) ++ insT [106, 99] [[46, 102, 101, 119]]) ++ insT [109, 111, 118] [[114, 49], [114, 54]]) ++ labT [46, 102, 101, 119]) ++ loadT n) ++ insT [108, 100, 105] [[114, 54], [49]]) ++ labT [46, 112, 108, 97, 99, 101]) ++ insT [115, 117, 98] [[114, 49], [114, 54]]) ++ insT [106, 99] [[46, 101, 110, 100]]) ++ upT [115, 104, 108] n) g') ∧ Below B w99 w') := HD
  have hl100 := (show ∀ n, n < 5 → (upT [115, 104, 108] n).length ≤ 20000 from by decide +kernel) n (by omega)
  clear HD
  go_wp2_with fail
  refine (unhideI HD2).mono ?_
  rintro e w100 ⟨rfl, ⟨g100, hH100⟩, kK100⟩
  have H100 := hideI hH100
  have K100 := hideI ((unhideI K99).trans kK100)
  have lb100 : B ≤ w100.heap.size := Nat.le_trans lb99 kK100.size
  clear HD2 hH100 kK100 H99 K99
  have hT100 : ((((((((((((t ++ insT [108, 100] [[114, 49], [114, 49], [48]]) ++ insT [108, 100, 105] [[114, 54], dgs (16 * n)]) ++ insT [99, 109, 112] [[114, 49], [114, 54]]) ++ insT [106, 99] [[46, 102, 101, 119]]) ++ insT [109, 111, 118] [[114, 49], [114, 54]]) ++ labT [46, 102, 101, 119]) ++ loadT n) ++ insT [108, 100, 105] [[114, 54], [49]]) ++ labT [46, 112, 108, 97, 99, 101]) ++ insT [115, 117, 98] [[114, 49], [114, 54]]) ++ insT [106, 99] [[46, 101, 110, 100]]) ++ upT [115, 104, 108] n).length = ((((((((((((t ++ insT [108, 100] [[114, 49], [114, 49], [48]]) ++ insT [108, 100, 105] [[114, 54], dgs (16 * n)]) ++ insT [99, 109, 112] [[114, 49], [114, 54]]) ++ insT [106, 99] [[46, 102, 101, 119]]) ++ insT [109, 111, 118] [[114, 49], [114, 54]]) ++ labT [46, 102, 101, 119]) ++ loadT n) ++ insT [108, 100, 105] [[114, 54], [49]]) ++ labT [46, 112, 108, 97, 99, 101]) ++ insT [115, 117, 98] [[114, 49], [114, 54]]) ++ insT [106, 99] [[46, 101, 110, 100]])).length + (upT [115, 104, 108] n).length := List.length_append
  have HD := hideI (do_at B b n ((((((((((((t ++ insT [108, 100] [[114, 49], [114, 49], [48]]) ++ insT [108, 100, 105] [[114, 54], dgs (16 * n)]) ++ insT [99, 109, 112] [[114, 49], [114, 54]]) ++ insT [106, 99] [[46, 102, 101, 119]]) ++ insT [109, 111, 118] [[114, 49], [114, 54]]) ++ labT [46, 102, 101, 119]) ++ loadT n) ++ insT [108, 100, 105] [[114, 54], [49]]) ++ labT [46, 112, 108, 97, 99, 101]) ++ insT [115, 117, 98] [[114, 49], [114, 54]]) ++ insT [106, 99] [[46, 101, 110, 100]]) ++ upT [115, 104, 108] n) g100 [106, 109, 112] [[46, 112, 108, 97, 99, 101]] w100 (unhideI H100) (by simp) (by simp) (List.forall_mem_cons.2 ⟨(by decide), (fun _ h => absurd h List.not_mem_nil)⟩) (by omega) (by decide) lb100)
  have HD2 : Hid (Calls Tryz.prog 87 #[.pointer (some ⟨b, 0, none⟩), .string ⟨#[106, 109, 112]⟩, .slice (some ⟨w100.heap.size, 0, none⟩) 1 1] (w100.alloc (.cells #[.string ⟨#[46, 112, 108, 97, 99, 101]⟩] 9)) fun e w' => e = .returned (.tuple #[]) ∧ (∃ g', Wr w' B b n (((((((((((((t ++ insT [108, 100] [[114, 49], [114, 49], [48]]) ++ insT [108, 100, 105] [[114, 54], dgs (16 * n)]) ++ insT [99, 109, 112] [[114, 49], [114, 54]]) ++ insT [106, 99] [[46, 102, 101, 119]]) ++ insT [109, 111, 118] [[114, 49], [114, 54]]) ++ labT [46, 102, 101, 119]) ++ loadT n) ++ insT [108, 100, 105] [[114, 54], [49]]) ++ labT [46, 112, 108, 97, 99, 101]) ++ insT [115, 117, 98] [[114, 49], [114, 54]]) ++ insT [106, 99] [[46, 101, 110, 100]]) ++ upT [115, 104, 108] n) ++ insT [106, 109, 112] [[46, 112, 108, 97, 99, 101]]) g') ∧ Below B w100 w') := HD
  have hl101 := insT_len (kd := [106, 109, 112]) (fs := [[46, 112, 108, 97, 99, 101]]) (by decide) (by simp) (List.forall_mem_cons.2 ⟨(by decide), (fun _ h => absurd h List.not_mem_nil)⟩)
  clear HD
  go_wp2_with fail
  refine (unhideI HD2).mono ?_
  rintro e w101 ⟨rfl, ⟨g101, hH101⟩, kK101⟩
  have H101 := hideI hH101
  have K101 := hideI ((unhideI K100).trans kK101)
  have lb101 : B ≤ w101.heap.size := Nat.le_trans lb100 kK101.size
  clear HD2 hH101 kK101 H100 K100
  have hT101 : (((((((((((((t ++ insT [108, 100] [[114, 49], [114, 49], [48]]) ++ insT [108, 100, 105] [[114, 54], dgs (16 * n)]) ++ insT [99, 109, 112] [[114, 49], [114, 54]]) ++ insT [106, 99] [[46, 102, 101, 119]]) ++ insT [109, 111, 118] [[114, 49], [114, 54]]) ++ labT [46, 102, 101, 119]) ++ loadT n) ++ insT [108, 100, 105] [[114, 54], [49]]) ++ labT [46, 112, 108, 97, 99, 101]) ++ insT [115, 117, 98] [[114, 49], [114, 54]]) ++ insT [106, 99] [[46, 101, 110, 100]]) ++ upT [115, 104, 108] n) ++ insT [106, 109, 112] [[46, 112, 108, 97, 99, 101]]).length = (((((((((((((t ++ insT [108, 100] [[114, 49], [114, 49], [48]]) ++ insT [108, 100, 105] [[114, 54], dgs (16 * n)]) ++ insT [99, 109, 112] [[114, 49], [114, 54]]) ++ insT [106, 99] [[46, 102, 101, 119]]) ++ insT [109, 111, 118] [[114, 49], [114, 54]]) ++ labT [46, 102, 101, 119]) ++ loadT n) ++ insT [108, 100, 105] [[114, 54], [49]]) ++ labT [46, 112, 108, 97, 99, 101]) ++ insT [115, 117, 98] [[114, 49], [114, 54]]) ++ insT [106, 99] [[46, 101, 110, 100]]) ++ upT [115, 104, 108] n)).length + (insT [106, 109, 112] [[46, 112, 108, 97, 99, 101]]).length := List.length_append
  have HD := hideI (label_any B b n (((((((((((((t ++ insT [108, 100] [[114, 49], [114, 49], [48]]) ++ insT [108, 100, 105] [[114, 54], dgs (16 * n)]) ++ insT [99, 109, 112] [[114, 49], [114, 54]]) ++ insT [106, 99] [[46, 102, 101, 119]]) ++ insT [109, 111, 118] [[114, 49], [114, 54]]) ++ labT [46, 102, 101, 119]) ++ loadT n) ++ insT [108, 100, 105] [[114, 54], [49]]) ++ labT [46, 112, 108, 97, 99, 101]) ++ insT [115, 117, 98] [[114, 49], [114, 54]]) ++ insT [106, 99] [[46, 101, 110, 100]]) ++ upT [115, 104, 108] n) ++ insT [106, 109, 112] [[46, 112, 108, 97, 99, 101]]) g101 [46, 101, 110, 100] w101 (unhideI H101) (by have : ([46, 101, 110, 100]).length ≤ 20 := (by decide); omega) lb101)
  have HD2 : Hid (Calls Tryz.prog 19 #[.pointer (some ⟨b, 0, none⟩), .string ⟨#[46, 101, 110, 100]⟩] w101 fun e w' => e = .returned (.tuple #[]) ∧ (∃ g', Wr w' B b n ((((((((((((((t ++ insT [108, 100] [[114, 49], [114, 49], [48]]) ++ insT [108, 100, 105] [[114, 54], dgs (16 * n)]) ++ insT [99, 109, 112] [[114, 49], [114, 54]]) ++ insT [106, 99] [[46, 102, 101, 119]]) ++ insT [109, 111, 118] [[114, 49], [114, 54]]) ++ labT [46, 102, 101, 119]) ++ loadT n) ++ insT [108, 100, 105] [[114, 54], [49]]) ++ labT [46, 112, 108, 97, 99, 101]) ++ insT [115, 117, 98] [[114, 49], [114, 54]]) ++ insT [106, 99] [[46, 101, 110, 100]]) ++ upT [115, 104, 108] n) ++ insT [106, 109, 112] [[46, 112, 108, 97, 99, 101]]) ++ labT [46, 101, 110, 100]) g') ∧ Below B w101 w') := HD
  have hl102 := labT_len (s := [46, 101, 110, 100]) (by decide)
  clear HD
  go_wp2_with fail
  refine (unhideI HD2).mono ?_
  rintro e w102 ⟨rfl, ⟨g102, hH102⟩, kK102⟩
  have H102 := hideI hH102
  have K102 := hideI ((unhideI K101).trans kK102)
  have lb102 : B ≤ w102.heap.size := Nat.le_trans lb101 kK102.size
  clear HD2 hH102 kK102 H101 K101
  have hT102 : ((((((((((((((t ++ insT [108, 100] [[114, 49], [114, 49], [48]]) ++ insT [108, 100, 105] [[114, 54], dgs (16 * n)]) ++ insT [99, 109, 112] [[114, 49], [114, 54]]) ++ insT [106, 99] [[46, 102, 101, 119]]) ++ insT [109, 111, 118] [[114, 49], [114, 54]]) ++ labT [46, 102, 101, 119]) ++ loadT n) ++ insT [108, 100, 105] [[114, 54], [49]]) ++ labT [46, 112, 108, 97, 99, 101]) ++ insT [115, 117, 98] [[114, 49], [114, 54]]) ++ insT [106, 99] [[46, 101, 110, 100]]) ++ upT [115, 104, 108] n) ++ insT [106, 109, 112] [[46, 112, 108, 97, 99, 101]]) ++ labT [46, 101, 110, 100]).length = ((((((((((((((t ++ insT [108, 100] [[114, 49], [114, 49], [48]]) ++ insT [108, 100, 105] [[114, 54], dgs (16 * n)]) ++ insT [99, 109, 112] [[114, 49], [114, 54]]) ++ insT [106, 99] [[46, 102, 101, 119]]) ++ insT [109, 111, 118] [[114, 49], [114, 54]]) ++ labT [46, 102, 101, 119]) ++ loadT n) ++ insT [108, 100, 105] [[114, 54], [49]]) ++ labT [46, 112, 108, 97, 99, 101]) ++ insT [115, 117, 98] [[114, 49], [114, 54]]) ++ insT [106, 99] [[46, 101, 110, 100]]) ++ upT [115, 104, 108] n) ++ insT [106, 109, 112] [[46, 112, 108, 97, 99, 101]])).length + (labT [46, 101, 110, 100]).length := List.length_append
  have HD := hideI (store_any B b n ((((((((((((((t ++ insT [108, 100] [[114, 49], [114, 49], [48]]) ++ insT [108, 100, 105] [[114, 54], dgs (16 * n)]) ++ insT [99, 109, 112] [[114, 49], [114, 54]]) ++ insT [106, 99] [[46, 102, 101, 119]]) ++ insT [109, 111, 118] [[114, 49], [114, 54]]) ++ labT [46, 102, 101, 119]) ++ loadT n) ++ insT [108, 100, 105] [[114, 54], [49]]) ++ labT [46, 112, 108, 97, 99, 101]) ++ insT [115, 117, 98] [[114, 49], [114, 54]]) ++ insT [106, 99] [[46, 101, 110, 100]]) ++ upT [115, 104, 108] n) ++ insT [106, 109, 112] [[46, 112, 108, 97, 99, 101]]) ++ labT [46, 101, 110, 100]) g102  w102 (unhideI H102) hn1 hn (by omega) lb102 )
  have HD2 : Hid (Calls Tryz.prog 90 #[.pointer (some ⟨b, 0, none⟩)] w102 fun e w' => e = .returned (.tuple #[]) ∧ (∃ g', Wr w' B b n (((((((((((((((t ++ insT [108, 100] [[114, 49], [114, 49], [48]]) ++ insT [108, 100, 105] [[114, 54], dgs (16 * n)]) ++ insT [99, 109, 112] [[114, 49], [114, 54]]) ++ insT [106, 99] [[46, 102, 101, 119]]) ++ insT [109, 111, 118] [[114, 49], [114, 54]]) ++ labT [46, 102, 101, 119]) ++ loadT n) ++ insT [108, 100, 105] [[114, 54], [49]]) ++ labT [46, 112, 108, 97, 99, 101]) ++ insT [115, 117, 98] [[114, 49], [114, 54]]) ++ insT [106, 99] [[46, 101, 110, 100]]) ++ upT [115, 104, 108] n) ++ insT [106, 109, 112] [[46, 112, 108, 97, 99, 101]]) ++ labT [46, 101, 110, 100]) ++ storeT n) g') ∧ Below B w102 w') := HD
  have hl103 := (show ∀ n, n < 5 → (storeT n).length ≤ 20000 from by decide +kernel) n (by omega)
  clear HD
  go_wp2_with fail
  refine (unhideI HD2).mono ?_
  rintro e w103 ⟨rfl, ⟨g103, hH103⟩, kK103⟩
  have H103 := hideI hH103
  have K103 := hideI ((unhideI K102).trans kK103)
  have lb103 : B ≤ w103.heap.size := Nat.le_trans lb102 kK103.size
  clear HD2 hH103 kK103 H102 K102
  have hT103 : (((((((((((((((t ++ insT [108, 100] [[114, 49], [114, 49], [48]]) ++ insT [108, 100, 105] [[114, 54], dgs (16 * n)]) ++ insT [99, 109, 112] [[114, 49], [114, 54]]) ++ insT [106, 99] [[46, 102, 101, 119]]) ++ insT [109, 111, 118] [[114, 49], [114, 54]]) ++ labT [46, 102, 101, 119]) ++ loadT n) ++ insT [108, 100, 105] [[114, 54], [49]]) ++ labT [46, 112, 108, 97, 99, 101]) ++ insT [115, 117, 98] [[114, 49], [114, 54]]) ++ insT [106, 99] [[46, 101, 110, 100]]) ++ upT [115, 104, 108] n) ++ insT [106, 109, 112] [[46, 112, 108, 97, 99, 101]]) ++ labT [46, 101, 110, 100]) ++ storeT n).length = (((((((((((((((t ++ insT [108, 100] [[114, 49], [114, 49], [48]]) ++ insT [108, 100, 105] [[114, 54], dgs (16 * n)]) ++ insT [99, 109, 112] [[114, 49], [114, 54]]) ++ insT [106, 99] [[46, 102, 101, 119]]) ++ insT [109, 111, 118] [[114, 49], [114, 54]]) ++ labT [46, 102, 101, 119]) ++ loadT n) ++ insT [108, 100, 105] [[114, 54], [49]]) ++ labT [46, 112, 108, 97, 99, 101]) ++ insT [115, 117, 98] [[114, 49], [114, 54]]) ++ insT [106, 99] [[46, 101, 110, 100]]) ++ upT [115, 104, 108] n) ++ insT [106, 109, 112] [[46, 112, 108, 97, 99, 101]]) ++ labT [46, 101, 110, 100])).length + (storeT n).length := List.length_append
  have HD := hideI (do_none B b n (((((((((((((((t ++ insT [108, 100] [[114, 49], [114, 49], [48]]) ++ insT [108, 100, 105] [[114, 54], dgs (16 * n)]) ++ insT [99, 109, 112] [[114, 49], [114, 54]]) ++ insT [106, 99] [[46, 102, 101, 119]]) ++ insT [109, 111, 118] [[114, 49], [114, 54]]) ++ labT [46, 102, 101, 119]) ++ loadT n) ++ insT [108, 100, 105] [[114, 54], [49]]) ++ labT [46, 112, 108, 97, 99, 101]) ++ insT [115, 117, 98] [[114, 49], [114, 54]]) ++ insT [106, 99] [[46, 101, 110, 100]]) ++ upT [115, 104, 108] n) ++ insT [106, 109, 112] [[46, 112, 108, 97, 99, 101]]) ++ labT [46, 101, 110, 100]) ++ storeT n) g103 [114, 101, 116] w103 (unhideI H103) (by first | omega | (simp; omega)) lb103)
  have HD2 : Hid (Calls Tryz.prog 87 #[.pointer (some ⟨b, 0, none⟩), .string ⟨#[114, 101, 116]⟩, .slice none 0 0] w103 fun e w' => e = .returned (.tuple #[]) ∧ (∃ g', Wr w' B b n ((((((((((((((((t ++ insT [108, 100] [[114, 49], [114, 49], [48]]) ++ insT [108, 100, 105] [[114, 54], dgs (16 * n)]) ++ insT [99, 109, 112] [[114, 49], [114, 54]]) ++ insT [106, 99] [[46, 102, 101, 119]]) ++ insT [109, 111, 118] [[114, 49], [114, 54]]) ++ labT [46, 102, 101, 119]) ++ loadT n) ++ insT [108, 100, 105] [[114, 54], [49]]) ++ labT [46, 112, 108, 97, 99, 101]) ++ insT [115, 117, 98] [[114, 49], [114, 54]]) ++ insT [106, 99] [[46, 101, 110, 100]]) ++ upT [115, 104, 108] n) ++ insT [106, 109, 112] [[46, 112, 108, 97, 99, 101]]) ++ labT [46, 101, 110, 100]) ++ storeT n) ++ insT [114, 101, 116] []) g') ∧ Below B w103 w') := HD
  have hl104 := insT_len (kd := [114, 101, 116]) (fs := []) (by decide) (by simp) (fun _ h => absurd h List.not_mem_nil)
  clear HD
  go_wp2_with fail
  refine (unhideI HD2).mono ?_
  rintro e w104 ⟨rfl, ⟨g104, hH104⟩, kK104⟩
  have H104 := hideI hH104
  have K104 := hideI ((unhideI K103).trans kK104)
  have lb104 : B ≤ w104.heap.size := Nat.le_trans lb103 kK104.size
  clear HD2 hH104 kK104 H103 K103
  have hT104 : ((((((((((((((((t ++ insT [108, 100] [[114, 49], [114, 49], [48]]) ++ insT [108, 100, 105] [[114, 54], dgs (16 * n)]) ++ insT [99, 109, 112] [[114, 49], [114, 54]]) ++ insT [106, 99] [[46, 102, 101, 119]]) ++ insT [109, 111, 118] [[114, 49], [114, 54]]) ++ labT [46, 102, 101, 119]) ++ loadT n) ++ insT [108, 100, 105] [[114, 54], [49]]) ++ labT [46, 112, 108, 97, 99, 101]) ++ insT [115, 117, 98] [[114, 49], [114, 54]]) ++ insT [106, 99] [[46, 101, 110, 100]]) ++ upT [115, 104, 108] n) ++ insT [106, 109, 112] [[46, 112, 108, 97, 99, 101]]) ++ labT [46, 101, 110, 100]) ++ storeT n) ++ insT [114, 101, 116] []).length = ((((((((((((((((t ++ insT [108, 100] [[114, 49], [114, 49], [48]]) ++ insT [108, 100, 105] [[114, 54], dgs (16 * n)]) ++ insT [99, 109, 112] [[114, 49], [114, 54]]) ++ insT [106, 99] [[46, 102, 101, 119]]) ++ insT [109, 111, 118] [[114, 49], [114, 54]]) ++ labT [46, 102, 101, 119]) ++ loadT n) ++ insT [108, 100, 105] [[114, 54], [49]]) ++ labT [46, 112, 108, 97, 99, 101]) ++ insT [115, 117, 98] [[114, 49], [114, 54]]) ++ insT [106, 99] [[46, 101, 110, 100]]) ++ upT [115, 104, 108] n) ++ insT [106, 109, 112] [[46, 112, 108, 97, 99, 101]]) ++ labT [46, 101, 110, 100]) ++ storeT n)).length + (insT [114, 101, 116] []).length := List.length_append
  go_wp2_with fail
  go_end0
  refine ⟨rfl, ⟨g104, ?_⟩, unhideI K104⟩
  have hz := unhideI H104
  unfold shlT shiftT
  simpa only [List.append_assoc] using hz
set_option maxRecDepth 100000 in
set_option maxHeartbeats 4000000 in
theorem shiftR_any (B b n : Nat) (t : List UInt8) (g : Option Nat)  (w : World) (h : Wr w B b n t g) (hn1 : 1 ≤ n) (hn : n ≤ 4) (hl : t.length ≤ 600000) (hBw : B ≤ w.heap.size)  : Calls Tryz.prog 91 #[.pointer (some ⟨b, 0, none⟩), .func (.func 92) #[] #[], .string ⟨#[115, 104, 114]⟩] w fun e w' => e = .returned (.tuple #[]) ∧ (∃ g', Wr w' B b n (t ++ shrT n) g') ∧ Below B w w' := by
  have H0 := hideI h
  have K0 := hideI (Below.refl B w)
  have hnI : (n : Int) ≤ 4 := by omega
  have hnI1 : (1 : Int) ≤ (n : Int) := by omega
  have c2 := h.words
  clear h
  go_enter Tryz.func91, Tryz.ntmps91
  have HD := hideI (do_at B b n t g [108, 100] [[114, 49], [114, 49], [48]] w (unhideI H0) (by simp) (by simp) (List.forall_mem_cons.2 ⟨(by decide), (List.forall_mem_cons.2 ⟨(by decide), (List.forall_mem_cons.2 ⟨(by decide), (fun _ h => absurd h List.not_mem_nil)⟩)⟩)⟩) (by omega) (by decide) hBw)
  have HD2 : Hid (Calls Tryz.prog 87 #[.pointer (some ⟨b, 0, none⟩), .string ⟨#[108, 100]⟩, .slice (some ⟨w.heap.size, 0, none⟩) 3 3] (w.alloc (.cells #[.string ⟨#[114, 49]⟩, .string ⟨#[114, 49]⟩, .string ⟨#[48]⟩] 9)) fun e w' => e = .returned (.tuple #[]) ∧ (∃ g', Wr w' B b n (t ++ insT [108, 100] [[114, 49], [114, 49], [48]]) g') ∧ Below B w w') := HD
  have hl105 := insT_len (kd := [108, 100]) (fs := [[114, 49], [114, 49], [48]]) (by decide) (by simp) (List.forall_mem_cons.2 ⟨(by decide), (List.forall_mem_cons.2 ⟨(by decide), (List.forall_mem_cons.2 ⟨(by decide), (fun _ h => absurd h List.not_mem_nil)⟩)⟩)⟩)
  clear HD
  go_wp2_with fail
  refine (unhideI HD2).mono ?_
  rintro e w105 ⟨rfl, ⟨g105, hH105⟩, kK105⟩
  have H105 := hideI hH105
  have K105 := hideI ((unhideI K0).trans kK105)
  have lb105 : B ≤ w105.heap.size := Nat.le_trans hBw kK105.size
  clear HD2 hH105 kK105 H0 K0
  have hT105 : (t ++ insT [108, 100] [[114, 49], [114, 49], [48]]).length = (t).length + (insT [108, 100] [[114, 49], [114, 49], [48]]).length := List.length_append
  have c2 := (unhideI H105).words
  have HB := hideI (bits_any B b n (t ++ insT [108, 100] [[114, 49], [114, 49], [48]]) g105 w105 (unhideI H105) hn)
  go_wp2_with fail
  refine (unhideI HB).mono ?_
  rintro e wq ⟨rfl, hq⟩
  subst wq
  clear HB
  have HH := hideI (fun W => digits_any (16 * n) (by omega) W)
  rw [show (((16 * n) : Nat) : Int) = 16 * (n : Int) by omega] at HH
  go_wp2_with fail
  refine (unhideI HH _).mono ?_
  rintro e wq ⟨rfl, hq⟩
  subst wq
  clear HH
  have HD := hideI (do_at B b n (t ++ insT [108, 100] [[114, 49], [114, 49], [48]]) g105 [108, 100, 105] [[114, 54], dgs (16 * n)] w105 (unhideI H105) (by simp) (by simp) (List.forall_mem_cons.2 ⟨(by decide), (List.forall_mem_cons.2 ⟨(dgs_len20 _), (fun _ h => absurd h List.not_mem_nil)⟩)⟩) (by omega) (by decide) lb105)
  have HD2 : Hid (Calls Tryz.prog 87 #[.pointer (some ⟨b, 0, none⟩), .string ⟨#[108, 100, 105]⟩, .slice (some ⟨w105.heap.size, 0, none⟩) 2 2] (w105.alloc (.cells #[.string ⟨#[114, 54]⟩, .string (sb (dgs (16 * n)))] 9)) fun e w' => e = .returned (.tuple #[]) ∧ (∃ g', Wr w' B b n ((t ++ insT [108, 100] [[114, 49], [114, 49], [48]]) ++ insT [108, 100, 105] [[114, 54], dgs (16 * n)]) g') ∧ Below B w105 w') := HD
  have hl106 := insT_len (kd := [108, 100, 105]) (fs := [[114, 54], dgs (16 * n)]) (by decide) (by simp) (List.forall_mem_cons.2 ⟨(by decide), (List.forall_mem_cons.2 ⟨(dgs_len20 _), (fun _ h => absurd h List.not_mem_nil)⟩)⟩)
  clear HD
  go_wp2_with fail
  refine (unhideI HD2).mono ?_
  rintro e w106 ⟨rfl, ⟨g106, hH106⟩, kK106⟩
  have H106 := hideI hH106
  have K106 := hideI ((unhideI K105).trans kK106)
  have lb106 : B ≤ w106.heap.size := Nat.le_trans lb105 kK106.size
  clear HD2 hH106 kK106 H105 K105
  have hT106 : ((t ++ insT [108, 100] [[114, 49], [114, 49], [48]]) ++ insT [108, 100, 105] [[114, 54], dgs (16 * n)]).length = ((t ++ insT [108, 100] [[114, 49], [114, 49], [48]])).length + (insT [108, 100, 105] [[114, 54], dgs (16 * n)]).length := List.length_append
  have HD := hideI (do_at B b n ((t ++ insT [108, 100] [[114, 49], [114, 49], [48]]) ++ insT [108, 100, 105] [[114, 54], dgs (16 * n)]) g106 [99, 109, 112] [[114, 49], [114, 54]] w106 (unhideI H106) (by simp) (by simp) (List.forall_mem_cons.2 ⟨(by decide), (List.forall_mem_cons.2 ⟨(by decide), (fun _ h => absurd h List.not_mem_nil)⟩)⟩) (by omega) (by decide) lb106)
  have HD2 : Hid (Calls Tryz.prog 87 #[.pointer (some ⟨b, 0, none⟩), .string ⟨#[99, 109, 112]⟩, .slice (some ⟨w106.heap.size, 0, none⟩) 2 2] (w106.alloc (.cells #[.string ⟨#[114, 49]⟩, .string ⟨#[114, 54]⟩] 9)) fun e w' => e = .returned (.tuple #[]) ∧ (∃ g', Wr w' B b n (((t ++ insT [108, 100] [[114, 49], [114, 49], [48]]) ++ insT [108, 100, 105] [[114, 54], dgs (16 * n)]) ++ insT [99, 109, 112] [[114, 49], [114, 54]]) g') ∧ Below B w106 w') := HD
  have hl107 := insT_len (kd := [99, 109, 112]) (fs := [[114, 49], [114, 54]]) (by decide) (by simp) (List.forall_mem_cons.2 ⟨(by decide), (List.forall_mem_cons.2 ⟨(by decide), (fun _ h => absurd h List.not_mem_nil)⟩)⟩)
  clear HD
  go_wp2_with fail
  refine (unhideI HD2).mono ?_
  rintro e w107 ⟨rfl, ⟨g107, hH107⟩, kK107⟩
  have H107 := hideI hH107
  have K107 := hideI ((unhideI K106).trans kK107)
  have lb107 : B ≤ w107.heap.size := Nat.le_trans lb106 kK107.size
  clear HD2 hH107 kK107 H106 K106
  have hT107 : (((t ++ insT [108, 100] [[114, 49], [114, 49], [48]]) ++ insT [108, 100, 105] [[114, 54], dgs (16 * n)]) ++ insT [99, 109, 112] [[114, 49], [114, 54]]).length = (((t ++ insT [108, 100] [[114, 49], [114, 49], [48]]) ++ insT [108, 100, 105] [[114, 54], dgs (16 * n)])).length + (insT [99, 109, 112] [[114, 49], [114, 54]]).length := List.length_append
  have HD := hideI (do_at B b n (((t ++ insT [108, 100] [[114, 49], [114, 49], [48]]) ++ insT [108, 100, 105] [[114, 54], dgs (16 * n)]) ++ insT [99, 109, 112] [[114, 49], [114, 54]]) g107 [106, 99] [[46, 102, 101, 119]] w107 (unhideI H107) (by simp) (by simp) (List.forall_mem_cons.2 ⟨(by decide), (fun _ h => absurd h List.not_mem_nil)⟩) (by omega) (by decide) lb107)
  have HD2 : Hid (Calls Tryz.prog 87 #[.pointer (some ⟨b, 0, none⟩), .string ⟨#[106, 99]⟩, .slice (some ⟨w107.heap.size, 0, none⟩) 1 1] (w107.alloc (.cells #[.string ⟨#[46, 102, 101, 119]⟩] 9)) fun e w' => e = .returned (.tuple #[]) ∧ (∃ g', Wr w' B b n ((((t ++ insT [108, 100] [[114, 49], [114, 49], [48]]) ++ insT [108, 100, 105] [[114, 54], dgs (16 * n)]) ++ insT [99, 109, 112] [[114, 49], [114, 54]]) ++ insT [106, 99] [[46, 102, 101, 119]]) g') ∧ Below B w107 w') := HD
  have hl108 := insT_len (kd := [106, 99]) (fs := [[46, 102, 101, 119]]) (by decide) (by simp) (List.forall_mem_cons.2 ⟨(by decide), (fun _ h => absurd h List.not_mem_nil)⟩)
  clear HD
  go_wp2_with fail
  refine (unhideI HD2).mono ?_
  rintro e w108 ⟨rfl, ⟨g108, hH108⟩, kK108⟩
  have H108 := hideI hH108
  have K108 := hideI ((unhideI K107).trans kK108)
  have lb108 : B ≤ w108.heap.size := Nat.le_trans lb107 kK108.size
  clear HD2 hH108 kK108 H107 K107
  have hT108 : ((((t ++ insT [108, 100] [[114, 49], [114, 49], [48]]) ++ insT [108, 100, 105] [[114, 54], dgs (16 * n)]) ++ insT [99, 109, 112] [[114, 49], [114, 54]]) ++ insT [106, 99] [[46, 102, 101, 119]]).length = ((((t ++ insT [108, 100] [[114, 49], [114, 49], [48]]) ++ insT [108, 100, 105] [[114, 54], dgs (16 * n)]) ++ insT [99, 109, 112] [[114, 49], [114, 54]])).length + (insT [106, 99] [[46, 102, 101, 119]]).length := List.length_append
  have HD := hideI (do_at B b n ((((t ++ insT [108, 100] [[114, 49], [114, 49], [48]]) ++ insT [108, 100, 105] [[114, 54], dgs (16 * n)]) ++ insT [99, 109, 112] [[114, 49], [114, 54]]) ++ insT [106, 99] [[46, 102, 101, 119]]) g108 [109, 111, 118] [[114, 49], [114, 54]] w108 (unhideI H108) (by simp) (by simp) (List.forall_mem_cons.2 ⟨(by decide), (List.forall_mem_cons.2 ⟨(by decide), (fun _ h => absurd h List.not_mem_nil)⟩)⟩) (by omega) (by decide) lb108)
  have HD2 : Hid (Calls Tryz.prog 87 #[.pointer (some ⟨b, 0, none⟩), .string ⟨#[109, 111, 118]⟩, .slice (some ⟨w108.heap.size, 0, none⟩) 2 2] (w108.alloc (.cells #[.string ⟨#[114, 49]⟩, .string ⟨#[114, 54]⟩] 9)) fun e w' => e = .returned (.tuple #[]) ∧ (∃ g', Wr w' B b n (((((t ++ insT [108, 100] [[114, 49], [114, 49], [48]]) ++ insT [108, 100, 105] [[114, 54], dgs (16 * n)]) ++ insT [99, 109, 112] [[114, 49], [114, 54]]) ++ insT [106, 99] [[46, 102, 101, 119]]) ++ insT [109, 111, 118] [[114, 49], [114, 54]]) g') ∧ Below B w108 w') := HD
  have hl109 := insT_len (kd := [109, 111, 118]) (fs := [[114, 49], [114, 54]]) (by decide) (by simp) (List.forall_mem_cons.2 ⟨(by decide), (List.forall_mem_cons.2 ⟨(by decide), (fun _ h => absurd h List.not_mem_nil)⟩)⟩)
  clear HD
  go_wp2_with fail
  refine (unhideI HD2).mono ?_
  rintro e w109 ⟨rfl, ⟨g109, hH109⟩, kK109⟩
  have H109 := hideI hH109
  have K109 := hideI ((unhideI K108).trans kK109)
  have lb109 : B ≤ w109.heap.size := Nat.le_trans lb108 kK109.size
  clear HD2 hH109 kK109 H108 K108
  have hT109 : (((((t ++ insT [108, 100] [[114, 49], [114, 49], [48]]) ++ insT [108, 100, 105] [[114, 54], dgs (16 * n)]) ++ insT [99, 109, 112] [[114, 49], [114, 54]]) ++ insT [106, 99] [[46, 102, 101, 119]]) ++ insT [109, 111, 118] [[114, 49], [114, 54]]).length = (((((t ++ insT [108, 100] [[114, 49], [114, 49], [48]]) ++ insT [108, 100, 105] [[114, 54], dgs (16 * n)]) ++ insT [99, 109, 112] [[114, 49], [114, 54]]) ++ insT [106, 99] [[46, 102, 101, 119]])).length + (insT [109, 111, 118] [[114, 49], [114, 54]]).length := List.length_append
  have HD := hideI (label_any B b n (((((t ++ insT [108, 100] [[114, 49], [114, 49], [48]]) ++ insT [108, 100, 105] [[114, 54], dgs (16 * n)]) ++ insT [99, 109, 112] [[114, 49], [114, 54]]) ++ insT [106, 99] [[46, 102, 101, 119]]) ++ insT [109, 111, 118] [[114, 49], [114, 54]]) g109 [46, 102, 101, 119] w109 (unhideI H109) (by have : ([46, 102, 101, 119]).length ≤ 20 := (by decide); omega) lb109)
  have HD2 : Hid (Calls Tryz.prog 19 #[.pointer (some ⟨b, 0, none⟩), .string ⟨#[46, 102, 101, 119]⟩] w109 fun e w' => e = .returned (.tuple #[]) ∧ (∃ g', Wr w' B b n ((((((t ++ insT [108, 100] [[114, 49], [114, 49], [48]]) ++ insT [108, 100, 105] [[114, 54], dgs (16 * n)]) ++ insT [99, 109, 112] [[114, 49], [114, 54]]) ++ insT [106, 99] [[46, 102, 101, 119]]) ++ insT [109, 111, 118] [[114, 49], [114, 54]]) ++ labT [46, 102, 101, 119]) g') ∧ Below B w109 w') := HD
  have hl110 := labT_len (s := [46, 102, 101, 119]) (by decide)
  clear HD
  go_wp2_with fail
  refine (unhideI HD2).mono ?_
  rintro e w110 ⟨rfl, ⟨g110, hH110⟩, kK110⟩
  have H110 := hideI hH110
  have K110 := hideI ((unhideI K109).trans kK110)
  have lb110 : B ≤ w110.heap.size := Nat.le_trans lb109 kK110.size
  clear HD2 hH110 kK110 H109 K109
  have hT110 : ((((((t ++ insT [108, 100] [[114, 49], [114, 49], [48]]) ++ insT [108, 100, 105] [[114, 54], dgs (16 * n)]) ++ insT [99, 109, 112] [[114, 49], [114, 54]]) ++ insT [106, 99] [[46, 102, 101, 119]]) ++ insT [109, 111, 118] [[114, 49], [114, 54]]) ++ labT [46, 102, 101, 119]).length = ((((((t ++ insT [108, 100] [[114, 49], [114, 49], [48]]) ++ insT [108, 100, 105] [[114, 54], dgs (16 * n)]) ++ insT [99, 109, 112] [[114, 49], [114, 54]]) ++ insT [106, 99] [[46, 102, 101, 119]]) ++ insT [109, 111, 118] [[114, 49], [114, 54]])).length + (labT [46, 102, 101, 119]).length := List.length_append
  have HD := hideI (load_any B b n ((((((t ++ insT [108, 100] [[114, 49], [114, 49], [48]]) ++ insT [108, 100, 105] [[114, 54], dgs (16 * n)]) ++ insT [99, 109, 112] [[114, 49], [114, 54]]) ++ insT [106, 99] [[46, 102, 101, 119]]) ++ insT [109, 111, 118] [[114, 49], [114, 54]]) ++ labT [46, 102, 101, 119]) g110  w110 (unhideI H110) hn1 hn (by omega) lb110 )
  have HD2 : Hid (Calls Tryz.prog 151 #[.pointer (some ⟨b, 0, none⟩)] w110 fun e w' => e = .returned (.tuple #[]) ∧ (∃ g', Wr w' B b n (((((((t ++ insT [108, 100] [[114, 49], [114, 49], [48]]) ++ insT [108, 100, 105] [[114, 54], dgs (16 * n)]) ++ insT [99, 109, 112] [[114, 49], [114, 54]]) ++ insT [106, 99] [[46, 102, 101, 119]]) ++ insT [109, 111, 118] [[114, 49], [114, 54]]) ++ labT [46, 102, 101, 119]) ++ loadT n) g') ∧ Below B w110 w') := HD
  have hl111 := (show ∀ n, n < 5 → (loadT n).length ≤ 20000 from by decide +kernel) n (by omega)
  clear HD
  go_wp2_with fail
  refine (unhideI HD2).mono ?_
  rintro e w111 ⟨rfl, ⟨g111, hH111⟩, kK111⟩
  have H111 := hideI hH111
  have K111 := hideI ((unhideI K110).trans kK111)
  have lb111 : B ≤ w111.heap.size := Nat.le_trans lb110 kK111.size
  clear HD2 hH111 kK111 H110 K110
  have hT111 : (((((((t ++ insT [108, 100] [[114, 49], [114, 49], [48]]) ++ insT [108, 100, 105] [[114, 54], dgs (16 * n)]) ++ insT [99, 109, 112] [[114, 49], [114, 54]]) ++ insT [106, 99] [[46, 102, 101, 119]]) ++ insT [109, 111, 118] [[114, 49], [114, 54]]) ++ labT [46, 102, 101, 119]) ++ loadT n).length = (((((((t ++ insT [108, 100] [[114, 49], [114, 49], [48]]) ++ insT [108, 100, 105] [[114, 54], dgs (16 * n)]) ++ insT [99, 109, 112] [[114, 49], [114, 54]]) ++ insT [106, 99] [[46, 102, 101, 119]]) ++ insT [109, 111, 118] [[114, 49], [114, 54]]) ++ labT [46, 102, 101, 119])).length + (loadT n).length := List.length_append
  have HD := hideI (do_at B b n (((((((t ++ insT [108, 100] [[114, 49], [114, 49], [48]]) ++ insT [108, 100, 105] [[114, 54], dgs (16 * n)]) ++ insT [99, 109, 112] [[114, 49], [114, 54]]) ++ insT [106, 99] [[46, 102, 101, 119]]) ++ insT [109, 111, 118] [[114, 49], [114, 54]]) ++ labT [46, 102, 101, 119]) ++ loadT n) g111 [108, 100, 105] [[114, 54], [49]] w111 (unhideI H111) (by simp) (by simp) (List.forall_mem_cons.2 ⟨(by decide), (List.forall_mem_cons.2 ⟨(by decide), (fun _ h => absurd h List.not_mem_nil)⟩)⟩) (by omega) (by decide) lb111)
  have HD2 : Hid (Calls Tryz.prog 87 #[.pointer (some ⟨b, 0, none⟩), .string ⟨#[108, 100, 105]⟩, .slice (some ⟨w111.heap.size, 0, none⟩) 2 2] (w111.alloc (.cells #[.string ⟨#[114, 54]⟩, .string ⟨#[49]⟩] 9)) fun e w' => e = .returned (.tuple #[]) ∧ (∃ g', Wr w' B b n ((((((((t ++ insT [108, 100] [[114, 49], [114, 49], [48]]) ++ insT [108, 100, 105] [[114, 54], dgs (16 * n)]) ++ insT [99, 109, 112] [[114, 49], [114, 54]]) ++ insT [106, 99] [[46, 102, 101, 119]]) ++ insT [109, 111, 118] [[114, 49], [114, 54]]) ++ labT [46, 102, 101, 119]) ++ loadT n) ++ insT [108, 100, 105] [[114, 54], [49]]) g') ∧ Below B w111 w') := HD
  have hl112 := insT_len (kd := [108, 100, 105]) (fs := [[114, 54], [49]]) (by decide) (by simp) (List.forall_mem_cons.2 ⟨(by decide), (List.forall_mem_cons.2 ⟨(by decide), (fun _ h => absurd h List.not_mem_nil)⟩)⟩)
  clear HD
  go_wp2_with fail
  refine (unhideI HD2).mono ?_
  rintro e w112 ⟨rfl, ⟨g112, hH112⟩, kK112⟩
  have H112 := hideI hH112
  have K112 := hideI ((unhideI K111).trans kK112)
  have lb112 : B ≤ w112.heap.size := Nat.le_trans lb111 kK112.size
  clear HD2 hH112 kK112 H111 K111
  have hT112 : ((((((((t ++ insT [108, 100] [[114, 49], [114, 49], [48]]) ++ insT [108, 100, 105] [[114, 54], dgs (16 * n)]) ++ insT [99, 109, 112] [[114, 49], [114, 54]]) ++ insT [106, 99] [[46, 102, 101, 119]]) ++ insT [109, 111, 118] [[114, 49], [114, 54]]) ++ labT [46, 102, 101, 119]) ++ loadT n) ++ insT [108, 100, 105] [[114, 54], [49]]).length = ((((((((t ++ insT [108, 100] [[114, 49], [114, 49], [48]]) ++ insT [108, 100, 105] [[114, 54], dgs (16 * n)]) ++ insT [99, 109, 112] [[114, 49], [114, 54]]) ++ insT [106, 99] [[46, 102, 101, 119]]) ++ insT [109, 111, 118] [[114, 49], [114, 54]]) ++ labT [46, 102, 101, 119]) ++ loadT n)).length + (insT [108, 100, 105] [[114, 54], [49]]).length := List.length_append
  have HD := hideI (label_any B b n ((((((((t ++ insT [108, 100] [[114, 49], [114, 49], [48]]) ++ insT [108, 100, 105] [[114, 54], dgs (16 * n)]) ++ insT [99, 109, 112] [[114, 49], [114, 54]]) ++ insT [106, 99] [[46, 102, 101, 119]]) ++ insT [109, 111, 118] [[114, 49], [114, 54]]) ++ labT [46, 102, 101, 119]) ++ loadT n) ++ insT [108, 100, 105] [[114, 54], [49]]) g112 [46, 112, 108, 97, 99, 101] w112 (unhideI H112) (by have : ([46, 112, 108, 97, 99, 101]).length ≤ 20 := (by decide); omega) lb112)
  have HD2 : Hid (Calls Tryz.prog 19 #[.pointer (some ⟨b, 0, none⟩), .string ⟨#[46, 112, 108, 97, 99, 101]⟩] w112 fun e w' => e = .returned (.tuple #[]) ∧ (∃ g', Wr w' B b n (((((((((t ++ insT [108, 100] [[114, 49], [114, 49], [48]]) ++ insT [108, 100, 105] [[114, 54], dgs (16 * n)]) ++ insT [99, 109, 112] [[114, 49], [114, 54]]) ++ insT [106, 99] [[46, 102, 101, 119]]) ++ insT [109, 111, 118] [[114, 49], [114, 54]]) ++ labT [46, 102, 101, 119]) ++ loadT n) ++ insT [108, 100, 105] [[114, 54], [49]]) ++ labT [46, 112, 108, 97, 99, 101]) g') ∧ Below B w112 w') := HD
  have hl113 := labT_len (s := [46, 112, 108, 97, 99, 101]) (by decide)
  clear HD
  go_wp2_with fail
  refine (unhideI HD2).mono ?_
  rintro e w113 ⟨rfl, ⟨g113, hH113⟩, kK113⟩
  have H113 := hideI hH113
  have K113 := hideI ((unhideI K112).trans kK113)
  have lb113 : B ≤ w113.heap.size := Nat.le_trans lb112 kK113.size
  clear HD2 hH113 kK113 H112 K112
  have hT113 : (((((((((t ++ insT [108, 100] [[114, 49], [114, 49], [48]]) ++ insT [108, 100, 105] [[114, 54], dgs (16 * n)]) ++ insT [99, 109, 112] [[114, 49], [114, 54]]) ++ insT [106, 99] [[46, 102, 101, 119]]) ++ insT [109, 111, 118] [[114, 49], [114, 54]]) ++ labT [46, 102, 101, 119]) ++ loadT n) ++ insT [108, 100, 105] [[114, 54], [49]]) ++ labT [46, 112, 108, 97, 99, 101]).length = (((((((((t ++ insT [108, 100] [[114, 49], [114, 49], [48]]) ++ insT [108, 100, 105] [[114, 54], dgs (16 * n)]) ++ insT [99, 109, 112] [[114, 49], [114, 54]]) ++ insT [106, 99] [[46, 102, 101, 119]]) ++ insT [109, 111, 118] [[114, 49], [114, 54]]) ++ labT [46, 102, 101, 119]) ++ loadT n) ++ insT [108, 100, 105] [[114, 54], [49]])).length + (labT [46, 112, 108, 97, 99, 101]).length := List.length_append
  have HD := hideI (do_at B b n (((((((((t ++ insT [108, 100] [[114, 49], [114, 49], [48]]) ++ insT [108, 100, 105] [[114, 54], dgs (16 * n)]) ++ insT [99, 109, 112] [[114, 49], [114, 54]]) ++ insT [106, 99] [[46, 102, 101, 119]]) ++ insT [109, 111, 118] [[114, 49], [114, 54]]) ++ labT [46, 102, 101, 119]) ++ loadT n) ++ insT [108, 100, 105] [[114, 54], [49]]) ++ labT [46, 112, 108, 97, 99, 101]) g113 [115, 117, 98] [[114, 49], [114, 54]] w113 (unhideI H113) (by simp) (by simp) (List.forall_mem_cons.2 ⟨(by decide), (List.forall_mem_cons.2 ⟨(by decide), (fun _ h => absurd h List.not_mem_nil)⟩)⟩) (by omega) (by decide) lb113)
  have HD2 : Hid (Calls Tryz.prog 87 #[.pointer (some ⟨b, 0, none⟩), .string ⟨#[115, 117, 98]⟩, .slice (some ⟨w113.heap.size, 0, none⟩) 2 2] (w113.alloc (.cells #[.string ⟨#[114, 49]⟩, .string ⟨#[114, 54]⟩] 9)) fun e w' => e = .returned (.tuple #[]) ∧ (∃ g', Wr w' B b n ((((((((((t ++ insT [108, 100] [[114, 49], [114, 49], [48]]) ++ insT [108, 100, 105] [[114, 54], dgs (16 * n)]) ++ insT [99, 109, 112] [[114, 49], [114, 54]]) ++ insT [106, 99] [[46, 102, 101, 119]]) ++ insT [109, 111, 118] [[114, 49], [114, 54]]) ++ labT [46, 102, 101, 119]) ++ loadT n) ++ insT [108, 100, 105] [[114, 54], [49]]) ++ labT [46, 112, 108, 97, 99, 101]) ++ insT [115, 117, 98] [[114, 49], [114, 54]]) g') ∧ Below B w113 w') := HD
  have hl114 := insT_len (kd := [115, 117, 98]) (fs := [[114, 49], [114, 54]]) (by decide) (by simp) (List.forall_mem_cons.2 ⟨(by decide), (List.forall_mem_cons.2 ⟨(by decide), (fun _ h => absurd h List.not_mem_nil)⟩)⟩)
  clear HD
  go_wp2_with fail
  refine (unhideI HD2).mono ?_
  rintro e w114 ⟨rfl, ⟨g114, hH114⟩, kK114⟩
  have H114 := hideI hH114
  have K114 := hideI ((unhideI K113).trans kK114)
  have lb114 : B ≤ w114.heap.size := Nat.le_trans lb113 kK114.size
  clear HD2 hH114 kK114 H113 K113
  have hT114 : ((((((((((t ++ insT [108, 100] [[114, 49], [114, 49], [48]]) ++ insT [108, 100, 105] [[114, 54], dgs (16 * n)]) ++ insT [99, 109, 112] [[114, 49], [114, 54]]) ++ insT [106, 99] [[46, 102, 101, 119]]) ++ insT [109, 111, 118] [[114, 49], [114, 54]]) ++ labT [46, 102, 101, 119]) ++ loadT n) ++ insT [108, 100, 105] [[114, 54], [49]]) ++ labT [46, 112, 108, 97, 99, 101]) ++ insT [115, 117, 98] [[114, 49], [114, 54]]).length = ((((((((((t ++ insT [108, 100] [[114, 49], [114, 49], [48]]) ++ insT [108, 100, 105] [[114, 54], dgs (16 * n)]) ++ insT [99, 109, 112] [[114, 49], [114, 54]]) ++ insT [106, 99] [[46, 102, 101, 119]]) ++ insT [109, 111, 118] [[114, 49], [114, 54]]) ++ labT [46, 102, 101, 119]) ++ loadT n) ++ insT [108, 100, 105] [[114, 54], [49]]) ++ labT [46, 112, 108, 97, 99, 101])).length + (insT [115, 117, 98] [[114, 49], [114, 54]]).length := List.length_append
  have HD := hideI (do_at B b n ((((((((((t ++ insT [108, 100] [[114, 49], [114, 49], [48]]) ++ insT [108, 100, 105] [[114, 54], dgs (16 * n)]) ++ insT [99, 109, 112] [[114, 49], [114, 54]]) ++ insT [106, 99] [[46, 102, 101, 119]]) ++ insT [109, 111, 118] [[114, 49], [114, 54]]) ++ labT [46, 102, 101, 119]) ++ loadT n) ++ insT [108, 100, 105] [[114, 54], [49]]) ++ labT [46, 112, 108, 97, 99, 101]) ++ insT [115, 117, 98] [[114, 49], [114, 54]]) g114 [106, 99] [[46, 101, 110, 100]] w114 (unhideI H114) (by simp) (by simp) (List.forall_mem_cons.2 ⟨(by decide), (fun _ h => absurd h List.not_mem_nil)⟩) (by omega) (by decide) lb114)
  have HD2 : Hid (Calls Tryz.prog 87 #[.pointer (some ⟨b, 0, none⟩), .string ⟨#[106, 99]⟩, .slice (some ⟨w114.heap.size, 0, none⟩) 1 1] (w114.alloc (.cells #[.string ⟨#[46, 101, 110, 100]⟩] 9)) fun e w' => e = .returned (.tuple #[]) ∧ (∃ g', Wr w' B b n (((((((((((t ++ insT [108, 100] [[114, 49], [114, 49], [48]]) ++ insT [108, 100, 105] [[114, 54], dgs (16 * n)]) ++ insT [99, 109, 112] [[114, 49], [114, 54]]) ++ insT [106, 99] [[46, 102, 101, 119]]) ++ insT [109, 111, 118] [[114, 49], [114, 54]]) ++ labT [46, 102, 101, 119]) ++ loadT n) ++ insT [108, 100, 105] [[114, 54], [49]]) ++ labT [46, 112, 108, 97, 99, 101]) ++ insT [115, 117, 98] [[114, 49], [114, 54]]) ++ insT [106, 99] [[46, 101, 110, 100]]) g') ∧ Below B w114 w') := HD
  have hl115 := insT_len (kd := [106, 99]) (fs := [[46, 101, 110, 100]]) (by decide) (by simp) (List.forall_mem_cons.2 ⟨(by decide), (fun _ h => absurd h List.not_mem_nil)⟩)
  clear HD
  go_wp2_with fail
  refine (unhideI HD2).mono ?_
  rintro e w115 ⟨rfl, ⟨g115, hH115⟩, kK115⟩
  have H115 := hideI hH115
  have K115 := hideI ((unhideI K114).trans kK115)
  have lb115 : B ≤ w115.heap.size := Nat.le_trans lb114 kK115.size
  clear HD2 hH115 kK115 H114 K114
  have hT115 : (((((((((((t ++ insT [108, 100] [[114, 49], [114, 49], [48]]) ++ insT [108, 100, 105] [[114, 54], dgs (16 * n)]) ++ insT [99, 109, 112] [[114, 49], [114, 54]]) ++ insT [106, 99] [[46, 102, 101, 119]]) ++ insT [109, 111, 118] [[114, 49], [114, 54]]) ++ labT [46, 102, 101, 119]) ++ loadT n) ++ insT [108, 100, 105] [[114, 54], [49]]) ++ labT [46, 112, 108, 97, 99, 101]) ++ insT [115, 117, 98] [[114, 49], [114, 54]]) ++ insT [106, 99] [[46, 101, 110, 100]]).length = (((((((((((t ++ insT [108, 100] [[114, 49], [114, 49], [48]]) ++ insT [108, 100, 105] [[114, 54], dgs (16 * n)]) ++ insT [99, 109, 112] [[114, 49], [114, 54]]) ++ insT [106, 99] [[46, 102, 101, 119]]) ++ insT [109, 111, 118] [[114, 49], [114, 54]]) ++ labT [46, 102, 101, 119]) ++ loadT n) ++ insT [108, 100, 105] [[114, 54], [49]]) ++ labT [46, 112, 108, 97, 99, 101]) ++ insT [115, 117, 98] [[114, 49], [114, 54]])).length + (insT [106, 99] [[46, 101, 110, 100]]).length := List.length_append
  have HD := hideI (down_any B b n (((((((((((t ++ insT [108, 100] [[114, 49], [114, 49], [48]]) ++ insT [108, 100, 105] [[114, 54], dgs (16 * n)]) ++ insT [99, 109, 112] [[114, 49], [114, 54]]) ++ insT [106, 99] [[46, 102, 101, 119]]) ++ insT [109, 111, 118] [[114, 49], [114, 54]]) ++ labT [46, 102, 101, 119]) ++ loadT n) ++ insT [108, 100, 105] [[114, 54], [49]]) ++ labT [46, 112, 108, 97, 99, 101]) ++ insT [115, 117, 98] [[114, 49], [114, 54]]) ++ insT [106, 99] [[46, 101, 110, 100]]) g115 [115, 104, 114] w115 (unhideI H115) hn1 hn (by omega) lb115 (by decide))
  have HD2 : Hid (Calls Tryz.prog 92 #[.pointer (some ⟨b, 0, none⟩), .string ⟨#[115, 104, 114]⟩] w115 fun e w' => e = .returned (.tuple #[]) ∧ (∃ g', Wr w' B b n ((((((((((((t ++ insT [108, 100] [[114, 49], [114, 49], [48]]) ++ insT [108, 100, 105] [[114, 54], dgs (16 * n)]) ++ insT [99, 109, 112] [[114, 49], [114, 54]]) ++ insT [106, 99] [[46, 102, 101, 119]]) ++ insT [109, 111, 118] [[114, 49], [114, 54]]) ++ labT [46, 102, 101, 119]) ++ loadT n) ++ insT [108, 100, 105] [[114, 54], [49]]) ++ labT [46, 112, 108, 97, 99, 101]) ++ insT [115, 117, 98] [[114, 49], [114, 54]]) ++ insT [106, 99] [[46, 101, 110, 100]]) ++ downT [115, 104, 114] n) g') ∧ Below B w115 w') := HD
  have hl116 := (show ∀ n, n < 5 → (downT [115, 104, 114] n).length ≤ 20000 from by decide +kernel) n (by omega)
  clear HD
  go_wp2_with fail
  refine (unhideI HD2).mono ?_
  rintro e w116 ⟨rfl, ⟨g116, hH116⟩, kK116⟩
  have H116 := hideI hH116
  have K116 := hideI ((unhideI K115).trans kK116)
  have lb116 : B ≤ w116.heap.size := Nat.le_trans lb115 kK116.size
  clear HD2 hH116 kK116 H115 K115
  have hT116 : ((((((((((((t ++ insT [108, 100] [[114, 49], [114, 49], [48]]) ++ insT [108, 100, 105] [[114, 54], dgs (16 * n)]) ++ insT [99, 109, 112] [[114, 49], [114, 54]]) ++ insT [106, 99] [[46, 102, 101, 119]]) ++ insT [109, 111, 118] [[114, 49], [114, 54]]) ++ labT [46, 102, 101, 119]) ++ loadT n) ++ insT [108, 100, 105] [[114, 54], [49]]) ++ labT [46, 112, 108, 97, 99, 101]) ++ insT [115, 117, 98] [[114, 49], [114, 54]]) ++ insT [106, 99] [[46, 101, 110, 100]]) ++ downT [115, 104, 114] n).length = ((((((((((((t ++ insT [108, 100] [[114, 49], [114, 49], [48]]) ++ insT [108, 100, 105] [[114, 54], dgs (16 * n)]) ++ insT [99, 109, 112] [[114, 49], [114, 54]]) ++ insT [106, 99] [[46, 102, 101, 119]]) ++ insT [109, 111, 118] [[114, 49], [114, 54]]) ++ labT [46, 102, 101, 119]) ++ loadT n) ++ insT [108, 100, 105] [[114, 54], [49]]) ++ labT [46, 112, 108, 97, 99, 101]) ++ insT [115, 117, 98] [[114, 49], [114, 54]]) ++ insT [106, 99] [[46, 101, 110, 100]])).length + (downT [115, 104, 114] n).length := List.length_append
  have HD := hideI (do_at B b n ((((((((((((t ++ insT [108, 100] [[114, 49], [114, 49], [48]]) ++ insT [108, 100, 105] [[114, 54], dgs (16 * n)]) ++ insT [99, 109, 112] [[114, 49], [114, 54]]) ++ insT [106, 99] [[46, 102, 101, 119]]) ++ insT [109, 111, 118] [[114, 49], [114, 54]]) ++ labT [46, 102, 101, 119]) ++ loadT n) ++ insT [108, 100, 105] [[114, 54], [49]]) ++ labT [46, 112, 108, 97, 99, 101]) ++ insT [115, 117, 98] [[114, 49], [114, 54]]) ++ insT [106, 99] [[46, 101, 110, 100]]) ++ downT [115, 104, 114] n) g116 [106, 109, 112] [[46, 112, 108, 97, 99, 101]] w116 (unhideI H116) (by simp) (by simp) (List.forall_mem_cons.2 ⟨(by decide), (fun _ h => absurd h List.not_mem_nil)⟩) (by omega) (by decide) lb116)
  have HD2 : Hid (Calls Tryz.prog 87 #[.pointer (some ⟨b, 0, none⟩), .string ⟨#[106, 109, 112]⟩, .slice (some ⟨w116.heap.size, 0, none⟩) 1 1] (w116.alloc (.cells #[.string ⟨#[46, 112, 108, 97, 99, 101]⟩] 9)) fun e w' => e = .returned (.tuple #[]) ∧ (∃ g', Wr w' B b n (((((((((((((t ++ insT [108, 100] [[114, 49], [114, 49], [48]]) ++ insT [108, 100, 105] [[114, 54], dgs (16 * n)]) ++ insT [99, 109, 112] [[114, 49], [114, 54]]) ++ insT [106, 99] [[46, 102, 101, 119]]) ++ insT [109, 111, 118] [[114, 49], [114, 54]]) ++ labT [46, 102, 101, 119]) ++ loadT n) ++ insT [108, 100, 105] [[114, 54], [49]]) ++ labT [46, 112, 108, 97, 99, 101]) ++ insT [115, 117, 98] [[114, 49], [114, 54]]) ++ insT [106, 99] [[46, 101, 110, 100]]) ++ downT [115, 104, 114] n) ++ insT [106, 109, 112] [[46, 112, 108, 97, 99, 101]]) g') ∧ Below B w116 w') := HD
  have hl117 := insT_len (kd := [106, 109, 112]) (fs := [[46, 112, 108, 97, 99, 101]]) (by decide) (by simp) (List.forall_mem_cons.2 ⟨(by decide), (fun _ h => absurd h List.not_mem_nil)⟩)
  clear HD
  go_wp2_with fail
  refine (unhideI HD2).mono ?_
  rintro e w117 ⟨rfl, ⟨g117, hH117⟩, kK117⟩
  have H117 := hideI hH117
  have K117 := hideI ((unhideI K116).trans kK117)
  have lb117 : B ≤ w117.heap.size := Nat.le_trans lb116 kK117.size
  clear HD2 hH117 kK117 H116 K116
  have hT117 : (((((((((((((t ++ insT [108, 100] [[114, 49], [114, 49], [48]]) ++ insT [108, 100, 105] [[114, 54], dgs (16 * n)]) ++ insT [99, 109, 112] [[114, 49], [114, 54]]) ++ insT [106, 99] [[46, 102, 101, 119]]) ++ insT [109, 111, 118] [[114, 49], [114, 54]]) ++ labT [46, 102, 101, 119]) ++ loadT n) ++ insT [108, 100, 105] [[114, 54], [49]]) ++ labT [46, 112, 108, 97, 99, 101]) ++ insT [115, 117, 98] [[114, 49], [114, 54]]) ++ insT [106, 99] [[46, 101, 110, 100]]) ++ downT [115, 104, 114] n) ++ insT [106, 109, 112] [[46, 112, 108, 97, 99, 101]]).length = (((((((((((((t ++ insT [108, 100] [[114, 49], [114, 49], [48]]) ++ insT [108, 100, 105] [[114, 54], dgs (16 * n)]) ++ insT [99, 109, 112] [[114, 49], [114, 54]]) ++ insT [106, 99] [[46, 102, 101, 119]]) ++ insT [109, 111, 118] [[114, 49], [114, 54]]) ++ labT [46, 102, 101, 119]) ++ loadT n) ++ insT [108, 100, 105] [[114, 54], [49]]) ++ labT [46, 112, 108, 97, 99, 101]) ++ insT [115, 117, 98] [[114, 49], [114, 54]]) ++ insT [106, 99] [[46, 101, 110, 100]]) ++ downT [115, 104, 114] n)).length + (insT [106, 109, 112] [[46, 112, 108, 97, 99, 101]]).length := List.length_append
  have HD := hideI (label_any B b n (((((((((((((t ++ insT [108, 100] [[114, 49], [114, 49], [48]]) ++ insT [108, 100, 105] [[114, 54], dgs (16 * n)]) ++ insT [99, 109, 112] [[114, 49], [114, 54]]) ++ insT [106, 99] [[46, 102, 101, 119]]) ++ insT [109, 111, 118] [[114, 49], [114, 54]]) ++ labT [46, 102, 101, 119]) ++ loadT n) ++ insT [108, 100, 105] [[114, 54], [49]]) ++ labT [46, 112, 108, 97, 99, 101]) ++ insT [115, 117, 98] [[114, 49], [114, 54]]) ++ insT [106, 99] [[46, 101, 110, 100]]) ++ downT [115, 104, 114] n) ++ insT [106, 109, 112] [[46, 112, 108, 97, 99, 101]]) g117 [46, 101, 110, 100] w117 (unhideI H117) (by have : ([46, 101, 110, 100]).length ≤ 20 := (by decide); omega) lb117)
  have HD2 : Hid (Calls Tryz.prog 19 #[.pointer (some ⟨b, 0, none⟩), .string ⟨#[46, 101, 110, 100]⟩] w117 fun e w' => e = .returned (.tuple #[]) ∧ (∃ g', Wr w' B b n ((((((((((((((t ++ insT [108, 100] [[114, 49], [114, 49], [48]]) ++ insT [108, 100, 105] [[114, 54], dgs (16 * n)]) ++ insT [99, 109, 112] [[114, 49], [114, 54]]) ++ insT [106, 99] [[46, 102, 101, 119]]) ++ insT [109, 111, 118] [[114, 49], [114, 54]]) ++ labT [46, 102, 101, 119]) ++ loadT n) ++ insT [108, 100, 105] [[114, 54], [49]]) ++ labT [46, 112, 108, 97, 99, 101]) ++ insT [115, 117, 98] [[114, 49], [114, 54]]) ++ insT [106, 99] [[46, 101, 110, 100]]) ++ downT [115, 104, 114] n) ++ insT [106, 109, 112] [[46, 112, 108, 97, 99, 101]]) ++ labT [46, 101, 110, 100]) g') ∧ Below B w117 w') := HD
  have hl118 := labT_len (s := [46, 101, 110, 100]) (by decide)
  clear HD
  go_wp2_with fail
  refine (unhideI HD2).mono ?_
  rintro e w118 ⟨rfl, ⟨g118, hH118⟩, kK118⟩
  have H118 := hideI hH118
  have K118 := hideI ((unhideI K117).trans kK118)
  have lb118 : B ≤ w118.heap.size := Nat.le_trans lb117 kK118.size
  clear HD2 hH118 kK118 H117 K117
  have hT118 : ((((((((((((((t ++ insT [108, 100] [[114, 49], [114, 49], [48]]) ++ insT [108, 100, 105] [[114, 54], dgs (16 * n)]) ++ insT [99, 109, 112] [[114, 49], [114, 54]]) ++ insT [106, 99] [[46, 102, 101, 119]]) ++ insT [109, 111, 118] [[114, 49], [114, 54]]) ++ labT [46, 102, 101, 119]) ++ loadT n) ++ insT [108, 100, 105] [[114, 54], [49]]) ++ labT [46, 112, 108, 97, 99, 101]) ++ insT [115, 117, 98] [[114, 49], [114, 54]]) ++ insT [106, 99] [[46, 101, 110, 100]]) ++ downT [115, 104, 114] n) ++ insT [106, 109, 112] [[46, 112, 108, 97, 99, 101]]) ++ labT [46, 101, 110, 100]).length = ((((((((((((((t ++ insT [108, 100] [[114, 49], [114, 49], [48]]) ++ insT [108, 100, 105] [[114, 54], dgs (16 * n)]) ++ insT [99, 109, 112] [[114, 49], [114, 54]]) ++ insT [106, 99] [[46, 102, 101, 119]]) ++ insT [109, 111, 118] [[114, 49], [114, 54]]) ++ labT [46, 102, 101, 119]) ++ loadT n) ++ insT [108, 100, 105] [[114, 54], [49]]) ++ labT [46, 112, 108, 97, 99, 101]) ++ insT [115, 117, 98] [[114, 49], [114, 54]]) ++ insT [106, 99] [[46, 101, 110, 100]]) ++ downT [115, 104, 114] n) ++ insT [106, 109, 112] [[46, 112, 108, 97, 99, 101]])).length + (labT [46, 101, 110, 100]).length := List.length_append
  have HD := hideI (store_any B b n ((((((((((((((t ++ insT [108, 100] [[114, 49], [114, 49], [48]]) ++ insT [108, 100, 105] [[114, 54], dgs (16 * n)]) ++ insT [99, 109, 112] [[114, 49], [114, 54]]) ++ insT [106, 99] [[46, 102, 101, 119]]) ++ insT [109, 111, 118] [[114, 49], [114, 54]]) ++ labT [46, 102, 101, 119]) ++ loadT n) ++ insT [108, 100, 105] [[114, 54], [49]]) ++ labT [46, 112, 108, 97, 99, 101]) ++ insT [115, 117, 98] [[114, 49], [114, 54]]) ++ insT [106, 99] [[46, 101, 110, 100]]) ++ downT [115, 104, 114] n) ++ insT [106, 109, 112] [[46, 112, 108, 97, 99, 101]]) ++ labT [46, 101, 110, 100]) g118  w118 (unhideI H118) hn1 hn (by omega) lb118 )
  have HD2 : Hid (Calls Tryz.prog 90 #[.pointer (some ⟨b, 0, none⟩)] w118 fun e w' => e = .returned (.tuple #[]) ∧ (∃ g', Wr w' B b n (((((((((((((((t ++ insT [108, 100] [[114, 49], [114, 49], [48]]) ++ insT [108, 100, 105] [[114, 54], dgs (16 * n)]) ++ insT [99, 109, 112] [[114, 49], [114, 54]]) ++ insT [106, 99] [[46, 102, 101, 119]]) ++ insT [109, 111, 118] [[114, 49], [114, 54]]) ++ labT [46, 102, 101, 119]) ++ loadT n) ++ insT [108, 100, 105] [[114, 54], [49]]) ++ labT [46, 112, 108, 97, 99, 101]) ++ insT [115, 117, 98] [[114, 49], [114, 54]]) ++ insT [106, 99] [[46, 101, 110, 100]]) ++ downT [115, 104, 114] n) ++ insT [106, 109, 112] [[46, 112, 108, 97, 99, 101]]) ++ labT [46, 101, 110, 100]) ++ storeT n) g') ∧ Below B w118 w') := HD
  have hl119 := (show ∀ n, n < 5 → (storeT n).length ≤ 20000 from by decide +kernel) n (by omega)
  clear HD
  go_wp2_with fail
  refine (unhideI HD2).mono ?_
  rintro e w119 ⟨rfl, ⟨g119, hH119⟩, kK119⟩
  have H119 := hideI hH119
  have K119 := hideI ((unhideI K118).trans kK119)
  have lb119 : B ≤ w119.heap.size := Nat.le_trans lb118 kK119.size
  clear HD2 hH119 kK119 H118 K118
  have hT119 : (((((((((((((((t ++ insT [108, 100] [[114, 49], [114, 49], [48]]) ++ insT [108, 100, 105] [[114, 54], dgs (16 * n)]) ++ insT [99, 109, 112] [[114, 49], [114, 54]]) ++ insT [106, 99] [[46, 102, 101, 119]]) ++ insT [109, 111, 118] [[114, 49], [114, 54]]) ++ labT [46, 102, 101, 119]) ++ loadT n) ++ insT [108, 100, 105] [[114, 54], [49]]) ++ labT [46, 112, 108, 97, 99, 101]) ++ insT [115, 117, 98] [[114, 49], [114, 54]]) ++ insT [106, 99] [[46, 101, 110, 100]]) ++ downT [115, 104, 114] n) ++ insT [106, 109, 112] [[46, 112, 108, 97, 99, 101]]) ++ labT [46, 101, 110, 100]) ++ storeT n).length = (((((((((((((((t ++ insT [108, 100] [[114, 49], [114, 49], [48]]) ++ insT [108, 100, 105] [[114, 54], dgs (16 * n)]) ++ insT [99, 109, 112] [[114, 49], [114, 54]]) ++ insT [106, 99] [[46, 102, 101, 119]]) ++ insT [109, 111, 118] [[114, 49], [114, 54]]) ++ labT [46, 102, 101, 119]) ++ loadT n) ++ insT [108, 100, 105] [[114, 54], [49]]) ++ labT [46, 112, 108, 97, 99, 101]) ++ insT [115, 117, 98] [[114, 49], [114, 54]]) ++ insT [106, 99] [[46, 101, 110, 100]]) ++ downT [115, 104, 114] n) ++ insT [106, 109, 112] [[46, 112, 108, 97, 99, 101]]) ++ labT [46, 101, 110, 100])).length + (storeT n).length := List.length_append
  have HD := hideI (do_none B b n (((((((((((((((t ++ insT [108, 100] [[114, 49], [114, 49], [48]]) ++ insT [108, 100, 105] [[114, 54], dgs (16 * n)]) ++ insT [99, 109, 112] [[114, 49], [114, 54]]) ++ insT [106, 99] [[46, 102, 101, 119]]) ++ insT [109, 111, 118] [[114, 49], [114, 54]]) ++ labT [46, 102, 101, 119]) ++ loadT n) ++ insT [108, 100, 105] [[114, 54], [49]]) ++ labT [46, 112, 108, 97, 99, 101]) ++ insT [115, 117, 98] [[114, 49], [114, 54]]) ++ insT [106, 99] [[46, 101, 110, 100]]) ++ downT [115, 104, 114] n) ++ insT [106, 109, 112] [[46, 112, 108, 97, 99, 101]]) ++ labT [46, 101, 110, 100]) ++ storeT n) g119 [114, 101, 116] w119 (unhideI H119) (by first | omega | (simp; omega)) lb119)
  have HD2 : Hid (Calls Tryz.prog 87 #[.pointer (some ⟨b, 0, none⟩), .string ⟨#[114, 101, 116]⟩, .slice none 0 0] w119 fun e w' => e = .returned (.tuple #[]) ∧ (∃ g', Wr w' B b n ((((((((((((((((t ++ insT [108, 100] [[114, 49], [114, 49], [48]]) ++ insT [108, 100, 105] [[114, 54], dgs (16 * n)]) ++ insT [99, 109, 112] [[114, 49], [114, 54]]) ++ insT [106, 99] [[46, 102, 101, 119]]) ++ insT [109, 111, 118] [[114, 49], [114, 54]]) ++ labT [46, 102, 101, 119]) ++ loadT n) ++ insT [108, 100, 105] [[114, 54], [49]]) ++ labT [46, 112, 108, 97, 99, 101]) ++ insT [115, 117, 98] [[114, 49], [114, 54]]) ++ insT [106, 99] [[46, 101, 110, 100]]) ++ downT [115, 104, 114] n) ++ insT [106, 109, 112] [[46, 112, 108, 97, 99, 101]]) ++ labT [46, 101, 110, 100]) ++ storeT n) ++ insT [114, 101, 116] []) g') ∧ Below B w119 w') := HD
  have hl120 := insT_len (kd := [114, 101, 116]) (fs := []) (by decide) (by simp) (fun _ h => absurd h List.not_mem_nil)
  clear HD
  go_wp2_with fail
  refine (unhideI HD2).mono ?_
  rintro e w120 ⟨rfl, ⟨g120, hH120⟩, kK120⟩
  have H120 := hideI hH120
  have K120 := hideI ((unhideI K119).trans kK120)
  have lb120 : B ≤ w120.heap.size := Nat.le_trans lb119 kK120.size
  clear HD2 hH120 kK120 H119 K119
  have hT120 : ((((((((((((((((t ++ insT [108, 100] [[114, 49], [114, 49], [48]]) ++ insT [108, 100, 105] [[114, 54], dgs (16 * n)]) ++ insT [99, 109, 112] [[114, 49], [114, 54]]) ++ insT [106, 99] [[46, 102, 101, 119]]) ++ insT [109, 111, 118] [[114, 49], [114, 54]]) ++ labT [46, 102, 101, 119]) ++ loadT n) ++ insT [108, 100, 105] [[114, 54], [49]]) ++ labT [46, 112, 108, 97, 99, 101]) ++ insT [115, 117, 98] [[114, 49], [114, 54]]) ++ insT [106, 99] [[46, 101, 110, 100]]) ++ downT [115, 104, 114] n) ++ insT [106, 109, 112] [[46, 112, 108, 97, 99, 101]]) ++ labT [46, 101, 110, 100]) ++ storeT n) ++ insT [114, 101, 116] []).length = ((((((((((((((((t ++ insT [108, 100] [[114, 49], [114, 49], [48]]) ++ insT [108, 100, 105] [[114, 54], dgs (16 * n)]) ++ insT [99, 109, 112] [[114, 49], [114, 54]]) ++ insT [106, 99] [[46, 102, 101, 119]]) ++ insT [109, 111, 118] [[114, 49], [114, 54]]) ++ labT [46, 102, 101, 119]) ++ loadT n) ++ insT [108, 100, 105] [[114, 54], [49]]) ++ labT [46, 112, 108, 97, 99, 101]) ++ insT [115, 117, 98] [[114, 49], [114, 54]]) ++ insT [106, 99] [[46, 101, 110, 100]]) ++ downT [115, 104, 114] n) ++ insT [106, 109, 112] [[46, 112, 108, 97, 99, 101]]) ++ labT [46, 101, 110, 100]) ++ storeT n)).length + (insT [114, 101, 116] []).length := List.length_append
  go_wp2_with fail
  go_end0
  refine ⟨rfl, ⟨g120, ?_⟩, unhideI K120⟩
  have hz := unhideI H120
  unfold shrT shiftT
  simpa only [List.append_assoc] using hz
set_option maxRecDepth 100000 in
set_option maxHeartbeats 4000000 in
theorem shiftA_any (B b n : Nat) (t : List UInt8) (g : Option Nat)  (w : World) (h : Wr w B b n t g) (hn1 : 1 ≤ n) (hn : n ≤ 4) (hl : t.length ≤ 600000) (hBw : B ≤ w.heap.size)  : Calls Tryz.prog 91 #[.pointer (some ⟨b, 0, none⟩), .func (.func 92) #[] #[], .string ⟨#[115, 97, 114]⟩] w fun e w' => e = .returned (.tuple #[]) ∧ (∃ g', Wr w' B b n (t ++ sarT n) g') ∧ Below B w w' := by
  have H0 := hideI h
  have K0 := hideI (Below.refl B w)
  have hnI : (n : Int) ≤ 4 := by omega
  have hnI1 : (1 : Int) ≤ (n : Int) := by omega
  have c2 := h.words
  clear h
  go_enter Tryz.func91, Tryz.ntmps91
  have HD := hideI (do_at B b n t g [108, 100] [[114, 49], [114, 49], [48]] w (unhideI H0) (by simp) (by simp) (List.forall_mem_cons.2 ⟨(by decide), (List.forall_mem_cons.2 ⟨(by decide), (List.forall_mem_cons.2 ⟨(by decide), (fun _ h => absurd h List.not_mem_nil)⟩)⟩)⟩) (by omega) (by decide) hBw)
  have HD2 : Hid (Calls Tryz.prog 87 #[.pointer (some ⟨b, 0, none⟩), .string ⟨#[108, 100]⟩, .slice (some ⟨w.heap.size, 0, none⟩) 3 3] (w.alloc (.cells #[.string ⟨#[114, 49]⟩, .string ⟨#[114, 49]⟩, .string ⟨#[48]⟩] 9)) fun e w' => e = .returned (.tuple #[]) ∧ (∃ g', Wr w' B b n (t ++ insT [108, 100] [[114, 49], [114, 49], [48]]) g') ∧ Below B w w') := HD
  have hl121 := insT_len (kd := [108, 100]) (fs := [[114, 49], [114, 49], [48]]) (by decide) (by simp) (List.forall_mem_cons.2 ⟨(by decide), (List.forall_mem_cons.2 ⟨(by decide), (List.forall_mem_cons.2 ⟨(by decide), (fun _ h => absurd h List.not_mem_nil)⟩)⟩)⟩)
  clear HD
  go_wp2_with fail
  refine (unhideI HD2).mono ?_
  rintro e w121 ⟨rfl, ⟨g121, hH121⟩, kK121⟩
  have H121 := hideI hH121
  have K121 := hideI ((unhideI K0).trans kK121)
  have lb121 : B ≤ w121.heap.size := Nat.le_trans hBw kK121.size
  clear HD2 hH121 kK121 H0 K0
  have hT121 : (t ++ insT [108, 100] [[114, 49], [114, 49], [48]]).length = (t).length + (insT [108, 100] [[114, 49], [114, 49], [48]]).length := List.length_append
  have c2 := (unhideI H121).words
  have HB := hideI (bits_any B b n (t ++ insT [108, 100] [[114, 49], [114, 49], [48]]) g121 w121 (unhideI H121) hn)
  go_wp2_with fail
  refine (unhideI HB).mono ?_
  rintro e wq ⟨rfl, hq⟩
  subst wq
  clear HB
  have HH := hideI (fun W => digits_any (16 * n) (by omega) W)
  rw [show (((16 * n) : Nat) : Int) = 16 * (n : Int) by omega] at HH
  go_wp2_with fail
  refine (unhideI HH _).mono ?_
  rintro e wq ⟨rfl, hq⟩
  subst wq
  clear HH
  have HD := hideI (do_at B b n (t ++ insT [108, 100] [[114, 49], [114, 49], [48]]) g121 [108, 100, 105] [[114, 54], dgs (16 * n)] w121 (unhideI H121) (by simp) (by simp) (List.forall_mem_cons.2 ⟨(by decide), (List.forall_mem_cons.2 ⟨(dgs_len20 _), (fun _ h => absurd h List.not_mem_nil)⟩)⟩) (by omega) (by decide) lb121)
  have HD2 : Hid (Calls Tryz.prog 87 #[.pointer (some ⟨b, 0, none⟩), .string ⟨#[108, 100, 105]⟩, .slice (some ⟨w121.heap.size, 0, none⟩) 2 2] (w121.alloc (.cells #[.string ⟨#[114, 54]⟩, .string (sb (dgs (16 * n)))] 9)) fun e w' => e = .returned (.tuple #[]) ∧ (∃ g', Wr w' B b n ((t ++ insT [108, 100] [[114, 49], [114, 49], [48]]) ++ insT [108, 100, 105] [[114, 54], dgs (16 * n)]) g') ∧ Below B w121 w') := HD
  have hl122 := insT_len (kd := [108, 100, 105]) (fs := [[114, 54], dgs (16 * n)]) (by decide) (by simp) (List.forall_mem_cons.2 ⟨(by decide), (List.forall_mem_cons.2 ⟨(dgs_len20 _), (fun _ h => absurd h List.not_mem_nil)⟩)⟩)
  clear HD
  go_wp2_with fail
  refine (unhideI HD2).mono ?_
  rintro e w122 ⟨rfl, ⟨g122, hH122⟩, kK122⟩
  have H122 := hideI hH122
  have K122 := hideI ((unhideI K121).trans kK122)
  have lb122 : B ≤ w122.heap.size := Nat.le_trans lb121 kK122.size
  clear HD2 hH122 kK122 H121 K121
  have hT122 : ((t ++ insT [108, 100] [[114, 49], [114, 49], [48]]) ++ insT [108, 100, 105] [[114, 54], dgs (16 * n)]).length = ((t ++ insT [108, 100] [[114, 49], [114, 49], [48]])).length + (insT [108, 100, 105] [[114, 54], dgs (16 * n)]).length := List.length_append
  have HD := hideI (do_at B b n ((t ++ insT [108, 100] [[114, 49], [114, 49], [48]]) ++ insT [108, 100, 105] [[114, 54], dgs (16 * n)]) g122 [99, 109, 112] [[114, 49], [114, 54]] w122 (unhideI H122) (by simp) (by simp) (List.forall_mem_cons.2 ⟨(by decide), (List.forall_mem_cons.2 ⟨(by decide), (fun _ h => absurd h List.not_mem_nil)⟩)⟩) (by omega) (by decide) lb122)
  have HD2 : Hid (Calls Tryz.prog 87 #[.pointer (some ⟨b, 0, none⟩), .string ⟨#[99, 109, 112]⟩, .slice (some ⟨w122.heap.size, 0, none⟩) 2 2] (w122.alloc (.cells #[.string ⟨#[114, 49]⟩, .string ⟨#[114, 54]⟩] 9)) fun e w' => e = .returned (.tuple #[]) ∧ (∃ g', Wr w' B b n (((t ++ insT [108, 100] [[114, 49], [114, 49], [48]]) ++ insT [108, 100, 105] [[114, 54], dgs (16 * n)]) ++ insT [99, 109, 112] [[114, 49], [114, 54]]) g') ∧ Below B w122 w') := HD
  have hl123 := insT_len (kd := [99, 109, 112]) (fs := [[114, 49], [114, 54]]) (by decide) (by simp) (List.forall_mem_cons.2 ⟨(by decide), (List.forall_mem_cons.2 ⟨(by decide), (fun _ h => absurd h List.not_mem_nil)⟩)⟩)
  clear HD
  go_wp2_with fail
  refine (unhideI HD2).mono ?_
  rintro e w123 ⟨rfl, ⟨g123, hH123⟩, kK123⟩
  have H123 := hideI hH123
  have K123 := hideI ((unhideI K122).trans kK123)
  have lb123 : B ≤ w123.heap.size := Nat.le_trans lb122 kK123.size
  clear HD2 hH123 kK123 H122 K122
  have hT123 : (((t ++ insT [108, 100] [[114, 49], [114, 49], [48]]) ++ insT [108, 100, 105] [[114, 54], dgs (16 * n)]) ++ insT [99, 109, 112] [[114, 49], [114, 54]]).length = (((t ++ insT [108, 100] [[114, 49], [114, 49], [48]]) ++ insT [108, 100, 105] [[114, 54], dgs (16 * n)])).length + (insT [99, 109, 112] [[114, 49], [114, 54]]).length := List.length_append
  have HD := hideI (do_at B b n (((t ++ insT [108, 100] [[114, 49], [114, 49], [48]]) ++ insT [108, 100, 105] [[114, 54], dgs (16 * n)]) ++ insT [99, 109, 112] [[114, 49], [114, 54]]) g123 [106, 99] [[46, 102, 101, 119]] w123 (unhideI H123) (by simp) (by simp) (List.forall_mem_cons.2 ⟨(by decide), (fun _ h => absurd h List.not_mem_nil)⟩) (by omega) (by decide) lb123)
  have HD2 : Hid (Calls Tryz.prog 87 #[.pointer (some ⟨b, 0, none⟩), .string ⟨#[106, 99]⟩, .slice (some ⟨w123.heap.size, 0, none⟩) 1 1] (w123.alloc (.cells #[.string ⟨#[46, 102, 101, 119]⟩] 9)) fun e w' => e = .returned (.tuple #[]) ∧ (∃ g', Wr w' B b n ((((t ++ insT [108, 100] [[114, 49], [114, 49], [48]]) ++ insT [108, 100, 105] [[114, 54], dgs (16 * n)]) ++ insT [99, 109, 112] [[114, 49], [114, 54]]) ++ insT [106, 99] [[46, 102, 101, 119]]) g') ∧ Below B w123 w') := HD
  have hl124 := insT_len (kd := [106, 99]) (fs := [[46, 102, 101, 119]]) (by decide) (by simp) (List.forall_mem_cons.2 ⟨(by decide), (fun _ h => absurd h List.not_mem_nil)⟩)
  clear HD
  go_wp2_with fail
  refine (unhideI HD2).mono ?_
  rintro e w124 ⟨rfl, ⟨g124, hH124⟩, kK124⟩
  have H124 := hideI hH124
  have K124 := hideI ((unhideI K123).trans kK124)
  have lb124 : B ≤ w124.heap.size := Nat.le_trans lb123 kK124.size
  clear HD2 hH124 kK124 H123 K123
  have hT124 : ((((t ++ insT [108, 100] [[114, 49], [114, 49], [48]]) ++ insT [108, 100, 105] [[114, 54], dgs (16 * n)]) ++ insT [99, 109, 112] [[114, 49], [114, 54]]) ++ insT [106, 99] [[46, 102, 101, 119]]).length = ((((t ++ insT [108, 100] [[114, 49], [114, 49], [48]]) ++ insT [108, 100, 105] [[114, 54], dgs (16 * n)]) ++ insT [99, 109, 112] [[114, 49], [114, 54]])).length + (insT [106, 99] [[46, 102, 101, 119]]).length := List.length_append
  have HD := hideI (do_at B b n ((((t ++ insT [108, 100] [[114, 49], [114, 49], [48]]) ++ insT [108, 100, 105] [[114, 54], dgs (16 * n)]) ++ insT [99, 109, 112] [[114, 49], [114, 54]]) ++ insT [106, 99] [[46, 102, 101, 119]]) g124 [109, 111, 118] [[114, 49], [114, 54]] w124 (unhideI H124) (by simp) (by simp) (List.forall_mem_cons.2 ⟨(by decide), (List.forall_mem_cons.2 ⟨(by decide), (fun _ h => absurd h List.not_mem_nil)⟩)⟩) (by omega) (by decide) lb124)
  have HD2 : Hid (Calls Tryz.prog 87 #[.pointer (some ⟨b, 0, none⟩), .string ⟨#[109, 111, 118]⟩, .slice (some ⟨w124.heap.size, 0, none⟩) 2 2] (w124.alloc (.cells #[.string ⟨#[114, 49]⟩, .string ⟨#[114, 54]⟩] 9)) fun e w' => e = .returned (.tuple #[]) ∧ (∃ g', Wr w' B b n (((((t ++ insT [108, 100] [[114, 49], [114, 49], [48]]) ++ insT [108, 100, 105] [[114, 54], dgs (16 * n)]) ++ insT [99, 109, 112] [[114, 49], [114, 54]]) ++ insT [106, 99] [[46, 102, 101, 119]]) ++ insT [109, 111, 118] [[114, 49], [114, 54]]) g') ∧ Below B w124 w') := HD
  have hl125 := insT_len (kd := [109, 111, 118]) (fs := [[114, 49], [114, 54]]) (by decide) (by simp) (List.forall_mem_cons.2 ⟨(by decide), (List.forall_mem_cons.2 ⟨(by decide), (fun _ h => absurd h List.not_mem_nil)⟩)⟩)
  clear HD
  go_wp2_with fail
  refine (unhideI HD2).mono ?_
  rintro e w125 ⟨rfl, ⟨g125, hH125⟩, kK125⟩
  have H125 := hideI hH125
  have K125 := hideI ((unhideI K124).trans kK125)
  have lb125 : B ≤ w125.heap.size := Nat.le_trans lb124 kK125.size
  clear HD2 hH125 kK125 H124 K124
  have hT125 : (((((t ++ insT [108, 100] [[114, 49], [114, 49], [48]]) ++ insT [108, 100, 105] [[114, 54], dgs (16 * n)]) ++ insT [99, 109, 112] [[114, 49], [114, 54]]) ++ insT [106, 99] [[46, 102, 101, 119]]) ++ insT [109, 111, 118] [[114, 49], [114, 54]]).length = (((((t ++ insT [108, 100] [[114, 49], [114, 49], [48]]) ++ insT [108, 100, 105] [[114, 54], dgs (16 * n)]) ++ insT [99, 109, 112] [[114, 49], [114, 54]]) ++ insT [106, 99] [[46, 102, 101, 119]])).length + (insT [109, 111, 118] [[114, 49], [114, 54]]).length := List.length_append
  have HD := hideI (label_any B b n (((((t ++ insT [108, 100] [[114, 49], [114, 49], [48]]) ++ insT [108, 100, 105] [[114, 54], dgs (16 * n)]) ++ insT [99, 109, 112] [[114, 49], [114, 54]]) ++ insT [106, 99] [[46, 102, 101, 119]]) ++ insT [109, 111, 118] [[114, 49], [114, 54]]) g125 [46, 102, 101, 119] w125 (unhideI H125) (by have : ([46, 102, 101, 119]).length ≤ 20 := (by decide); omega) lb125)
  have HD2 : Hid (Calls Tryz.prog 19 #[.pointer (some ⟨b, 0, none⟩), .string ⟨#[46, 102, 101, 119]⟩] w125 fun e w' => e = .returned (.tuple #[]) ∧ (∃ g', Wr w' B b n ((((((t ++ insT [108, 100] [[114, 49], [114, 49], [48]]) ++ insT [108, 100, 105] [[114, 54], dgs (16 * n)]) ++ insT [99, 109, 112] [[114, 49], [114, 54]]) ++ insT [106, 99] [[46, 102, 101, 119]]) ++ insT [109, 111, 118] [[114, 49], [114, 54]]) ++ labT [46, 102, 101, 119]) g') ∧ Below B w125 w') := HD
  have hl126 := labT_len (s := [46, 102, 101, 119]) (by decide)
  clear HD
  go_wp2_with fail
  refine (unhideI HD2).mono ?_
  rintro e w126 ⟨rfl, ⟨g126, hH126⟩, kK126⟩
  have H126 := hideI hH126
  have K126 := hideI ((unhideI K125).trans kK126)
  have lb126 : B ≤ w126.heap.size := Nat.le_trans lb125 kK126.size
  clear HD2 hH126 kK126 H125 K125
  have hT126 : ((((((t ++ insT [108, 100] [[114, 49], [114, 49], [48]]) ++ insT [108, 100, 105] [[114, 54], dgs (16 * n)]) ++ insT [99, 109, 112] [[114, 49], [114, 54]]) ++ insT [106, 99] [[46, 102, 101, 119]]) ++ insT [109, 111, 118] [[114, 49], [114, 54]]) ++ labT [46, 102, 101, 119]).length = ((((((t ++ insT [108, 100] [[114, 49], [114, 49], [48]]) ++ insT [108, 100, 105] [[114, 54], dgs (16 * n)]) ++ insT [99, 109, 112] [[114, 49], [114, 54]]) ++ insT [106, 99] [[46, 102, 101, 119]]) ++ insT [109, 111, 118] [[114, 49], [114, 54]])).length + (labT [46, 102, 101, 119]).length := List.length_append
  have HD := hideI (load_any B b n ((((((t ++ insT [108, 100] [[114, 49], [114, 49], [48]]) ++ insT [108, 100, 105] [[114, 54], dgs (16 * n)]) ++ insT [99, 109, 112] [[114, 49], [114, 54]]) ++ insT [106, 99] [[46, 102, 101, 119]]) ++ insT [109, 111, 118] [[114, 49], [114, 54]]) ++ labT [46, 102, 101, 119]) g126  w126 (unhideI H126) hn1 hn (by omega) lb126 )
  have HD2 : Hid (Calls Tryz.prog 151 #[.pointer (some ⟨b, 0, none⟩)] w126 fun e w' => e = .returned (.tuple #[]) ∧ (∃ g', Wr w' B b n (((((((t ++ insT [108, 100] [[114, 49], [114, 49], [48]]) ++ insT [108, 100, 105] [[114, 54], dgs (16 * n)]) ++ insT [99, 109, 112] [[114, 49], [114, 54]]) ++ insT [106, 99] [[46, 102, 101, 119]]) ++ insT [109, 111, 118] [[114, 49], [114, 54]]) ++ labT [46, 102, 101, 119]) ++ loadT n) g') ∧ Below B w126 w') := HD
  have hl127 := (show ∀ n, n < 5 → (loadT n).length ≤ 20000 from by decide +kernel) n (by omega)
  clear HD
  go_wp2_with fail
  refine (unhideI HD2).mono ?_
  rintro e w127 ⟨rfl, ⟨g127, hH127⟩, kK127⟩
  have H127 := hideI hH127
  have K127 := hideI ((unhideI K126).trans kK127)
  have lb127 : B ≤ w127.heap.size := Nat.le_trans lb126 kK127.size
  clear HD2 hH127 kK127 H126 K126
  have hT127 : (((((((t ++ insT [108, 100] [[114, 49], [114, 49], [48]]) ++ insT [108, 100, 105] [[114, 54], dgs (16 * n)]) ++ insT [99, 109, 112] [[114, 49], [114, 54]]) ++ insT [106, 99] [[46, 102, 101, 119]]) ++ insT [109, 111, 118] [[114, 49], [114, 54]]) ++ labT [46, 102, 101, 119]) ++ loadT n).length = (((((((t ++ insT [108, 100] [[114, 49], [114, 49], [48]]) ++ insT [108, 100, 105] [[114, 54], dgs (16 * n)]) ++ insT [99, 109, 112] [[114, 49], [114, 54]]) ++ insT [106, 99] [[46, 102, 101, 119]]) ++ insT [109, 111, 118] [[114, 49], [114, 54]]) ++ labT [46, 102, 101, 119])).length + (loadT n).length := List.length_append
  have HD := hideI (do_at B b n (((((((t ++ insT [108, 100] [[114, 49], [114, 49], [48]]) ++ insT [108, 100, 105] [[114, 54], dgs (16 * n)]) ++ insT [99, 109, 112] [[114, 49], [114, 54]]) ++ insT [106, 99] [[46, 102, 101, 119]]) ++ insT [109, 111, 118] [[114, 49], [114, 54]]) ++ labT [46, 102, 101, 119]) ++ loadT n) g127 [108, 100, 105] [[114, 54], [49]] w127 (unhideI H127) (by simp) (by simp) (List.forall_mem_cons.2 ⟨(by decide), (List.forall_mem_cons.2 ⟨(by decide), (fun _ h => absurd h List.not_mem_nil)⟩)⟩) (by omega) (by decide) lb127)
  have HD2 : Hid (Calls Tryz.prog 87 #[.pointer (some ⟨b, 0, none⟩), .string ⟨#[108, 100, 105]⟩, .slice (some ⟨w127.heap.size, 0, none⟩) 2 2] (w127.alloc (.cells #[.string ⟨#[114, 54]⟩, .string ⟨#[49]⟩] 9)) fun e w' => e = .returned (.tuple #[]) ∧ (∃ g', Wr w' B b n ((((((((t ++ insT [108, 100] [[114, 49], [114, 49], [48]]) ++ insT [108, 100, 105] [[114, 54], dgs (16 * n)]) ++ insT [99, 109, 112] [[114, 49], [114, 54]]) ++ insT [106, 99] [[46, 102, 101, 119]]) ++ insT [109, 111, 118] [[114, 49], [114, 54]]) ++ labT [46, 102, 101, 119]) ++ loadT n) ++ insT [108, 100, 105] [[114, 54], [49]]) g') ∧ Below B w127 w') := HD
  have hl128 := insT_len (kd := [108, 100, 105]) (fs := [[114, 54], [49]]) (by decide) (by simp) (List.forall_mem_cons.2 ⟨(by decide), (List.forall_mem_cons.2 ⟨(by decide), (fun _ h => absurd h List.not_mem_nil)⟩)⟩)
  clear HD
  go_wp2_with fail
  refine (unhideI HD2).mono ?_
  rintro e w128 ⟨rfl, ⟨g128, hH128⟩, kK128⟩
  have H128 := hideI hH128
  have K128 := hideI ((unhideI K127).trans kK128)
  have lb128 : B ≤ w128.heap.size := Nat.le_trans lb127 kK128.size
  clear HD2 hH128 kK128 H127 K127
  have hT128 : ((((((((t ++ insT [108, 100] [[114, 49], [114, 49], [48]]) ++ insT [108, 100, 105] [[114, 54], dgs (16 * n)]) ++ insT [99, 109, 112] [[114, 49], [114, 54]]) ++ insT [106, 99] [[46, 102, 101, 119]]) ++ insT [109, 111, 118] [[114, 49], [114, 54]]) ++ labT [46, 102, 101, 119]) ++ loadT n) ++ insT [108, 100, 105] [[114, 54], [49]]).length = ((((((((t ++ insT [108, 100] [[114, 49], [114, 49], [48]]) ++ insT [108, 100, 105] [[114, 54], dgs (16 * n)]) ++ insT [99, 109, 112] [[114, 49], [114, 54]]) ++ insT [106, 99] [[46, 102, 101, 119]]) ++ insT [109, 111, 118] [[114, 49], [114, 54]]) ++ labT [46, 102, 101, 119]) ++ loadT n)).length + (insT [108, 100, 105] [[114, 54], [49]]).length := List.length_append
  have HD := hideI (label_any B b n ((((((((t ++ insT [108, 100] [[114, 49], [114, 49], [48]]) ++ insT [108, 100, 105] [[114, 54], dgs (16 * n)]) ++ insT [99, 109, 112] [[114, 49], [114, 54]]) ++ insT [106, 99] [[46, 102, 101, 119]]) ++ insT [109, 111, 118] [[114, 49], [114, 54]]) ++ labT [46, 102, 101, 119]) ++ loadT n) ++ insT [108, 100, 105] [[114, 54], [49]]) g128 [46, 112, 108, 97, 99, 101] w128 (unhideI H128) (by have : ([46, 112, 108, 97, 99, 101]).length ≤ 20 := (by decide); omega) lb128)
  have HD2 : Hid (Calls Tryz.prog 19 #[.pointer (some ⟨b, 0, none⟩), .string ⟨#[46, 112, 108, 97, 99, 101]⟩] w128 fun e w' => e = .returned (.tuple #[]) ∧ (∃ g', Wr w' B b n (((((((((t ++ insT [108, 100] [[114, 49], [114, 49], [48]]) ++ insT [108, 100, 105] [[114, 54], dgs (16 * n)]) ++ insT [99, 109, 112] [[114, 49], [114, 54]]) ++ insT [106, 99] [[46, 102, 101, 119]]) ++ insT [109, 111, 118] [[114, 49], [114, 54]]) ++ labT [46, 102, 101, 119]) ++ loadT n) ++ insT [108, 100, 105] [[114, 54], [49]]) ++ labT [46, 112, 108, 97, 99, 101]) g') ∧ Below B w128 w') := HD
  have hl129 := labT_len (s := [46, 112, 108, 97, 99, 101]) (by decide)
  clear HD
  go_wp2_with fail
  refine (unhideI HD2).mono ?_
  rintro e w129 ⟨rfl, ⟨g129, hH129⟩, kK129⟩
  have H129 := hideI hH129
  have K129 := hideI ((unhideI K128).trans kK129)
  have lb129 : B ≤ w129.heap.size := Nat.le_trans lb128 kK129.size
  clear HD2 hH129 kK129 H128 K128
  have hT129 : (((((((((t ++ insT [108, 100] [[114, 49], [114, 49], [48]]) ++ insT [108, 100, 105] [[114, 54], dgs (16 * n)]) ++ insT [99, 109, 112] [[114, 49], [114, 54]]) ++ insT [106, 99] [[46, 102, 101, 119]]) ++ insT [109, 111, 118] [[114, 49], [114, 54]]) ++ labT [46, 102, 101, 119]) ++ loadT n) ++ insT [108, 100, 105] [[114, 54], [49]]) ++ labT [46, 112, 108, 97, 99, 101]).length = (((((((((t ++ insT [108, 100] [[114, 49], [114, 49], [48]]) ++ insT [108, 100, 105] [[114, 54], dgs (16 * n)]) ++ insT [99, 109, 112] [[114, 49], [114, 54]]) ++ insT [106, 99] [[46, 102, 101, 119]]) ++ insT [109, 111, 118] [[114, 49], [114, 54]]) ++ labT [46, 102, 101, 119]) ++ loadT n) ++ insT [108, 100, 105] [[114, 54], [49]])).length + (labT [46, 112, 108, 97, 99, 101]).length := List.length_append
  have HD := hideI (do_at B b n (((((((((t ++ insT [108, 100] [[114, 49], [114, 49], [48]]) ++ insT [108, 100, 105] [[114, 54], dgs (16 * n)]) ++ insT [99, 109, 112] [[114, 49], [114, 54]]) ++ insT [106, 99] [[46, 102, 101, 119]]) ++ insT [109, 111, 118] [[114, 49], [114, 54]]) ++ labT [46, 102, 101, 119]) ++ loadT n) ++ insT [108, 100, 105] [[114, 54], [49]]) ++ labT [46, 112, 108, 97, 99, 101]) g129 [115, 117, 98] [[114, 49], [114, 54]] w129 (unhideI H129) (by simp) (by simp) (List.forall_mem_cons.2 ⟨(by decide), (List.forall_mem_cons.2 ⟨(by decide), (fun _ h => absurd h List.not_mem_nil)⟩)⟩) (by omega) (by decide) lb129)
  have HD2 : Hid (Calls Tryz.prog 87 #[.pointer (some ⟨b, 0, none⟩), .string ⟨#[115, 117, 98]⟩, .slice (some ⟨w129.heap.size, 0, none⟩) 2 2] (w129.alloc (.cells #[.string ⟨#[114, 49]⟩, .string ⟨#[114, 54]⟩] 9)) fun e w' => e = .returned (.tuple #[]) ∧ (∃ g', Wr w' B b n ((((((((((t ++ insT [108, 100] [[114, 49], [114, 49], [48]]) ++ insT [108, 100, 105] [[114, 54], dgs (16 * n)]) ++ insT [99, 109, 112] [[114, 49], [114, 54]]) ++ insT [106, 99] [[46, 102, 101, 119]]) ++ insT [109, 111, 118] [[114, 49], [114, 54]]) ++ labT [46, 102, 101, 119]) ++ loadT n) ++ insT [108, 100, 105] [[114, 54], [49]]) ++ labT [46, 112, 108, 97, 99, 101]) ++ insT [115, 117, 98] [[114, 49], [114, 54]]) g') ∧ Below B w129 w') := HD
  have hl130 := insT_len (kd := [115, 117, 98]) (fs := [[114, 49], [114, 54]]) (by decide) (by simp) (List.forall_mem_cons.2 ⟨(by decide), (List.forall_mem_cons.2 ⟨(by decide), (fun _ h => absurd h List.not_mem_nil)⟩)⟩)
  clear HD
  go_wp2_with fail
  refine (unhideI HD2).mono ?_
  rintro e w130 ⟨rfl, ⟨g130, hH130⟩, kK130⟩
  have H130 := hideI hH130
  have K130 := hideI ((unhideI K129).trans kK130)
  have lb130 : B ≤ w130.heap.size := Nat.le_trans lb129 kK130.size
  clear HD2 hH130 kK130 H129 K129
  have hT130 : ((((((((((t ++ insT [108, 100] [[114, 49], [114, 49], [48]]) ++ insT [108, 100, 105] [[114, 54], dgs (16 * n)]) ++ insT [99, 109, 112] [[114, 49], [114, 54]]) ++ insT [106, 99] [[46, 102, 101, 119]]) ++ insT [109, 111, 118] [[114, 49], [114, 54]]) ++ labT [46, 102, 101, 119]) ++ loadT n) ++ insT [108, 100, 105] [[114, 54], [49]]) ++ labT [46, 112, 108, 97, 99, 101]) ++ insT [115, 117, 98] [[114, 49], [114, 54]]).length = ((((((((((t ++ insT [108, 100] [[114, 49], [114, 49], [48]]) ++ insT [108, 100, 105] [[114, 54], dgs (16 * n)]) ++ insT [99, 109, 112] [[114, 49], [114, 54]]) ++ insT [106, 99] [[46, 102, 101, 119]]) ++ insT [109, 111, 118] [[114, 49], [114, 54]]) ++ labT [46, 102, 101, 119]) ++ loadT n) ++ insT [108, 100, 105] [[114, 54], [49]]) ++ labT [46, 112, 108, 97, 99, 101])).length + (insT [115, 117, 98] [[114, 49], [114, 54]]).length := List.length_append
  have HD := hideI (do_at B b n ((((((((((t ++ insT [108, 100] [[114, 49], [114, 49], [48]]) ++ insT [108, 100, 105] [[114, 54], dgs (16 * n)]) ++ insT [99, 109, 112] [[114, 49], [114, 54]]) ++ insT [106, 99] [[46, 102, 101, 119]]) ++ insT [109, 111, 118] [[114, 49], [114, 54]]) ++ labT [46, 102, 101, 119]) ++ loadT n) ++ insT [108, 100, 105] [[114, 54], [49]]) ++ labT [46, 112, 108, 97, 99, 101]) ++ insT [115, 117, 98] [[114, 49], [114, 54]]) g130 [106, 99] [[46, 101, 110, 100]] w130 (unhideI H130) (by simp) (by simp) (List.forall_mem_cons.2 ⟨(by decide), (fun _ h => absurd h List.not_mem_nil)⟩) (by omega) (by decide) lb130)
  have HD2 : Hid (Calls Tryz.prog 87 #[.pointer (some ⟨b, 0, none⟩), .string ⟨#[106, 99]⟩, .slice (some ⟨w130.heap.size, 0, none⟩) 1 1] (w130.alloc (.cells #[.string ⟨#[46, 101, 110, 100]⟩] 9)) fun e w' => e = .returned (.tuple #[]) ∧ (∃ g', Wr w' B b n (((((((((((t ++ insT [108, 100] [[114, 49], [114, 49], [48]]) ++ insT [108, 100, 105] [[114, 54], dgs (16 * n)]) ++ insT [99, 109, 112] [[114, 49], [114, 54]]) ++ insT [106, 99] [[46, 102, 101, 119]]) ++ insT [109, 111, 118] [[114, 49], [114, 54]]) ++ labT [46, 102, 101, 119]) ++ loadT n) ++ insT [108, 100, 105] [[114, 54], [49]]) ++ labT [46, 112, 108, 97, 99, 101]) ++ insT [115, 117, 98] [[114, 49], [114, 54]]) ++ insT [106, 99] [[46, 101, 110, 100]]) g') ∧ Below B w130 w') := HD
  have hl131 := insT_len (kd := [106, 99]) (fs := [[46, 101, 110, 100]]) (by decide) (by simp) (List.forall_mem_cons.2 ⟨(by decide), (fun _ h => absurd h List.not_mem_nil)⟩)
  clear HD
  go_wp2_with fail
  refine (unhideI HD2).mono ?_
  rintro e w131 ⟨rfl, ⟨g131, hH131⟩, kK131⟩
  have H131 := hideI hH131
  have K131 := hideI ((unhideI K130).trans kK131)
  have lb131 : B ≤ w131.heap.size := Nat.le_trans lb130 kK131.size
  clear HD2 hH131 kK131 H130 K130
  have hT131 : (((((((((((t ++ insT [108, 100] [[114, 49], [114, 49], [48]]) ++ insT [108, 100, 105] [[114, 54], dgs (16 * n)]) ++ insT [99, 109, 112] [[114, 49], [114, 54]]) ++ insT [106, 99] [[46, 102, 101, 119]]) ++ insT [109, 111, 118] [[114, 49], [114, 54]]) ++ labT [46, 102, 101, 119]) ++ loadT n) ++ insT [108, 100, 105] [[114, 54], [49]]) ++ labT [46, 112, 108, 97, 99, 101]) ++ insT [115, 117, 98] [[114, 49], [114, 54]]) ++ insT [106, 99] [[46, 101, 110, 100]]).length = (((((((((((t ++ insT [108, 100] [[114, 49], [114, 49], [48]]) ++ insT [108, 100, 105] [[114, 54], dgs (16 * n)]) ++ insT [99, 109, 112] [[114, 49], [114, 54]]) ++ insT [106, 99] [[46, 102, 101, 119]]) ++ insT [109, 111, 118] [[114, 49], [114, 54]]) ++ labT [46, 102, 101, 119]) ++ loadT n) ++ insT [108, 100, 105] [[114, 54], [49]]) ++ labT [46, 112, 108, 97, 99, 101]) ++ insT [115, 117, 98] [[114, 49], [114, 54]])).length + (insT [106, 99] [[46, 101, 110, 100]]).length := List.length_append
  have HD := hideI (down_any B b n (((((((((((t ++ insT [108, 100] [[114, 49], [114, 49], [48]]) ++ insT [108, 100, 105] [[114, 54], dgs (16 * n)]) ++ insT [99, 109, 112] [[114, 49], [114, 54]]) ++ insT [106, 99] [[46, 102, 101, 119]]) ++ insT [109, 111, 118] [[114, 49], [114, 54]]) ++ labT [46, 102, 101, 119]) ++ loadT n) ++ insT [108, 100, 105] [[114, 54], [49]]) ++ labT [46, 112, 108, 97, 99, 101]) ++ insT [115, 117, 98] [[114, 49], [114, 54]]) ++ insT [106, 99] [[46, 101, 110, 100]]) g131 [115, 97, 114] w131 (unhideI H131) hn1 hn (by omega) lb131 (by decide))
  have HD2 : Hid (Calls Tryz.prog 92 #[.pointer (some ⟨b, 0, none⟩), .string ⟨#[115, 97, 114]⟩] w131 fun e w' => e = .returned (.tuple #[]) ∧ (∃ g', Wr w' B b n ((((((((((((t ++ insT [108, 100] [[114, 49], [114, 49], [48]]) ++ insT [108, 100, 105] [[114, 54], dgs (16 * n)]) ++ insT [99, 109, 112] [[114, 49], [114, 54]]) ++ insT [106, 99] [[46, 102, 101, 119]]) ++ insT [109, 111, 118] [[114, 49], [114, 54]]) ++ labT [46, 102, 101, 119]) ++ loadT n) ++ insT [108, 100, 105] [[114, 54], [49]]) ++ labT [46, 112, 108, 97, 99, 101]) ++ insT [115, 117, 98] [[114, 49], [114, 54]]) ++ insT [106, 99] [[46, 101, 110, 100]]) ++ downT [115, 97, 114] n) g') ∧ Below B w131 w') := HD
  have hl132 := (show ∀ n, n < 5 → (downT [115, 97, 114] n).length ≤ 20000 from by decide +kernel) n (by omega)
  clear HD
  go_wp2_with fail
  refine (unhideI HD2).mono ?_
  rintro e w132 ⟨rfl, ⟨g132, hH132⟩, kK132⟩
  have H132 := hideI hH132
  have K132 := hideI ((unhideI K131).trans kK132)
  have lb132 : B ≤ w132.heap.size := Nat.le_trans lb131 kK132.size
  clear HD2 hH132 kK132 H131 K131
  have hT132 : ((((((((((((t ++ insT [108, 100] [[114, 49], [114, 49], [48]]) ++ insT [108, 100, 105] [[114, 54], dgs (16 * n)]) ++ insT [99, 109, 112] [[114, 49], [114, 54]]) ++ insT [106, 99] [[46, 102, 101, 119]]) ++ insT [109, 111, 118] [[114, 49], [114, 54]]) ++ labT [46, 102, 101, 119]) ++ loadT n) ++ insT [108, 100, 105] [[114, 54], [49]]) ++ labT [46, 112, 108, 97, 99, 101]) ++ insT [115, 117, 98] [[114, 49], [114, 54]]) ++ insT [106, 99] [[46, 101, 110, 100]]) ++ downT [115, 97, 114] n).length = ((((((((((((t ++ insT [108, 100] [[114, 49], [114, 49], [48]]) ++ insT [108, 100, 105] [[114, 54], dgs (16 * n)]) ++ insT [99, 109, 112] [[114, 49], [114, 54]]) ++ insT [106, 99] [[46, 102, 101, 119]]) ++ insT [109, 111, 118] [[114, 49], [114, 54]]) ++ labT [46, 102, 101, 119]) ++ loadT n) ++ insT [108, 100, 105] [[114, 54], [49]]) ++ labT [46, 112, 108, 97, 99, 101]) ++ insT [115, 117, 98] [[114, 49], [114, 54]]) ++ insT [106, 99] [[46, 101, 110, 100]])).length + (downT [115, 97, 114] n).length := List.length_append
  have HD := hideI (do_at B b n ((((((((((((t ++ insT [108, 100] [[114, 49], [114, 49], [48]]) ++ insT [108, 100, 105] [[114, 54], dgs (16 * n)]) ++ insT [99, 109, 112] [[114, 49], [114, 54]]) ++ insT [106, 99] [[46, 102, 101, 119]]) ++ insT [109, 111, 118] [[114, 49], [114, 54]]) ++ labT [46, 102, 101, 119]) ++ loadT n) ++ insT [108, 100, 105] [[114, 54], [49]]) ++ labT [46, 112, 108, 97, 99, 101]) ++ insT [115, 117, 98] [[114, 49], [114, 54]]) ++ insT [106, 99] [[46, 101, 110, 100]]) ++ downT [115, 97, 114] n) g132 [106, 109, 112] [[46, 112, 108, 97, 99, 101]] w132 (unhideI H132) (by simp) (by simp) (List.forall_mem_cons.2 ⟨(by decide), (fun _ h => absurd h List.not_mem_nil)⟩) (by omega) (by decide) lb132)
  have HD2 : Hid (Calls Tryz.prog 87 #[.pointer (some ⟨b, 0, none⟩), .string ⟨#[106, 109, 112]⟩, .slice (some ⟨w132.heap.size, 0, none⟩) 1 1] (w132.alloc (.cells #[.string ⟨#[46, 112, 108, 97, 99, 101]⟩] 9)) fun e w' => e = .returned (.tuple #[]) ∧ (∃ g', Wr w' B b n (((((((((((((t ++ insT [108, 100] [[114, 49], [114, 49], [48]]) ++ insT [108, 100, 105] [[114, 54], dgs (16 * n)]) ++ insT [99, 109, 112] [[114, 49], [114, 54]]) ++ insT [106, 99] [[46, 102, 101, 119]]) ++ insT [109, 111, 118] [[114, 49], [114, 54]]) ++ labT [46, 102, 101, 119]) ++ loadT n) ++ insT [108, 100, 105] [[114, 54], [49]]) ++ labT [46, 112, 108, 97, 99, 101]) ++ insT [115, 117, 98] [[114, 49], [114, 54]]) ++ insT [106, 99] [[46, 101, 110, 100]]) ++ downT [115, 97, 114] n) ++ insT [106, 109, 112] [[46, 112, 108, 97, 99, 101]]) g') ∧ Below B w132 w') := HD
  have hl133 := insT_len (kd := [106, 109, 112]) (fs := [[46, 112, 108, 97, 99, 101]]) (by decide) (by simp) (List.forall_mem_cons.2 ⟨(by decide), (fun _ h => absurd h List.not_mem_nil)⟩)
  clear HD
  go_wp2_with fail
  refine (unhideI HD2).mono ?_
  rintro e w133 ⟨rfl, ⟨g133, hH133⟩, kK133⟩
  have H133 := hideI hH133
  have K133 := hideI ((unhideI K132).trans kK133)
  have lb133 : B ≤ w133.heap.size := Nat.le_trans lb132 kK133.size
  clear HD2 hH133 kK133 H132 K132
  have hT133 : (((((((((((((t ++ insT [108, 100] [[114, 49], [114, 49], [48]]) ++ insT [108, 100, 105] [[114, 54], dgs (16 * n)]) ++ insT [99, 109, 112] [[114, 49], [114, 54]]) ++ insT [106, 99] [[46, 102, 101, 119]]) ++ insT [109, 111, 118] [[114, 49], [114, 54]]) ++ labT [46, 102, 101, 119]) ++ loadT n) ++ insT [108, 100, 105] [[114, 54], [49]]) ++ labT [46, 112, 108, 97, 99, 101]) ++ insT [115, 117, 98] [[114, 49], [114, 54]]) ++ insT [106, 99] [[46, 101, 110, 100]]) ++ downT [115, 97, 114] n) ++ insT [106, 109, 112] [[46, 112, 108, 97, 99, 101]]).length = (((((((((((((t ++ insT [108, 100] [[114, 49], [114, 49], [48]]) ++ insT [108, 100, 105] [[114, 54], dgs (16 * n)]) ++ insT [99, 109, 112] [[114, 49], [114, 54]]) ++ insT [106, 99] [[46, 102, 101, 119]]) ++ insT [109, 111, 118] [[114, 49], [114, 54]]) ++ labT [46, 102, 101, 119]) ++ loadT n) ++ insT [108, 100, 105] [[114, 54], [49]]) ++ labT [46, 112, 108, 97, 99, 101]) ++ insT [115, 117, 98] [[114, 49], [114, 54]]) ++ insT [106, 99] [[46, 101, 110, 100]]) ++ downT [115, 97, 114] n)).length + (insT [106, 109, 112] [[46, 112, 108, 97, 99, 101]]).length := List.length_append
  have HD := hideI (label_any B b n (((((((((((((t ++ insT [108, 100] [[114, 49], [114, 49], [48]]) ++ insT [108, 100, 105] [[114, 54], dgs (16 * n)]) ++ insT [99, 109, 112] [[114, 49], [114, 54]]) ++ insT [106, 99] [[46, 102, 101, 119]]) ++ insT [109, 111, 118] [[114, 49], [114, 54]]) ++ labT [46, 102, 101, 119]) ++ loadT n) ++ insT [108, 100, 105] [[114, 54], [49]]) ++ labT [46, 112, 108, 97, 99, 101]) ++ insT [115, 117, 98] [[114, 49], [114, 54]]) ++ insT [106, 99] [[46, 101, 110, 100]]) ++ downT [115, 97, 114] n) ++ insT [106, 109, 112] [[46, 112, 108, 97, 99, 101]]) g133 [46, 101, 110, 100] w133 (unhideI H133) (by have : ([46, 101, 110, 100]).length ≤ 20 := (by decide); omega) lb133)
  have HD2 : Hid (Calls Tryz.prog 19 #[.pointer (some ⟨b, 0, none⟩), .string ⟨#[46, 101, 110, 100]⟩] w133 fun e w' => e = .returned (.tuple #[]) ∧ (∃ g', Wr w' B b n ((((((((((((((t ++ insT [108, 100] [[114, 49], [114, 49], [48]]) ++ insT [108, 100, 105] [[114, 54], dgs (16 * n)]) ++ insT [99, 109, 112] [[114, 49], [114, 54]]) ++ insT [106, 99] [[46, 102, 101, 119]]) ++ insT [109, 111, 118] [[114, 49], [114, 54]]) ++ labT [46, 102, 101, 119]) ++ loadT n) ++ insT [108, 100, 105] [[114, 54], [49]]) ++ labT [46, 112, 108, 97, 99, 101]) ++ insT [115, 117, 98] [[114, 49], [114, 54]]) ++ insT [106, 99] [[46, 101, 110, 100]]) ++ downT [115, 97, 114] n) ++ insT [106, 109, 112] [[46, 112, 108, 97, 99, 101]]) ++ labT [46, 101, 110, 100]) g') ∧ Below B w133 w') := HD
  have hl134 := labT_len (s := [46, 101, 110, 100]) (by decide)
  clear HD
  go_wp2_with fail
  refine (unhideI HD2).mono ?_
  rintro e w134 ⟨rfl, ⟨g134, hH134⟩, kK134⟩
  have H134 := hideI hH134
  have K134 := hideI ((unhideI K133).trans kK134)
  have lb134 : B ≤ w134.heap.size := Nat.le_trans lb133 kK134.size
  clear HD2 hH134 kK134 H133 K133
  have hT134 : ((((((((((((((t ++ insT [108, 100] [[114, 49], [114, 49], [48]]) ++ insT [108, 100, 105] [[114, 54], dgs (16 * n)]) ++ insT [99, 109, 112] [[114, 49], [114, 54]]) ++ insT [106, 99] [[46, 102, 101, 119]]) ++ insT [109, 111, 118] [[114, 49], [114, 54]]) ++ labT [46, 102, 101, 119]) ++ loadT n) ++ insT [108, 100, 105] [[114, 54], [49]]) ++ labT [46, 112, 108, 97, 99, 101]) ++ insT [115, 117, 98] [[114, 49], [114, 54]]) ++ insT [106, 99] [[46, 101, 110, 100]]) ++ downT [115, 97, 114] n) ++ insT [106, 109, 112] [[46, 112, 108, 97, 99, 101]]) ++ labT [46, 101, 110, 100]).length = ((((((((((((((t ++ insT [108, 100] [[114, 49], [114, 49], [48]]) ++ insT [108, 100, 105] [[114, 54], dgs (16 * n)]) ++ insT [99, 109, 112] [[114, 49], [114, 54]]) ++ insT [106, 99] [[46, 102, 101, 119]]) ++ insT [109, 111, 118] [[114, 49], [114, 54]]) ++ labT [46, 102, 101, 119]) ++ loadT n) ++ insT [108, 100, 105] [[114, 54], [49]]) ++ labT [46, 112, 108, 97, 99, 101]) ++ insT [115, 117, 98] [[114, 49], [114, 54]]) ++ insT [106, 99] [[46, 101, 110, 100]]) ++ downT [115, 97, 114] n) ++ insT [106, 109, 112] [[46, 112, 108, 97, 99, 101]])).length + (labT [46, 101, 110, 100]).length := List.length_append
  have HD := hideI (store_any B b n ((((((((((((((t ++ insT [108, 100] [[114, 49], [114, 49], [48]]) ++ insT [108, 100, 105] [[114, 54], dgs (16 * n)]) ++ insT [99, 109, 112] [[114, 49], [114, 54]]) ++ insT [106, 99] [[46, 102, 101, 119]]) ++ insT [109, 111, 118] [[114, 49], [114, 54]]) ++ labT [46, 102, 101, 119]) ++ loadT n) ++ insT [108, 100, 105] [[114, 54], [49]]) ++ labT [46, 112, 108, 97, 99, 101]) ++ insT [115, 117, 98] [[114, 49], [114, 54]]) ++ insT [106, 99] [[46, 101, 110, 100]]) ++ downT [115, 97, 114] n) ++ insT [106, 109, 112] [[46, 112, 108, 97, 99, 101]]) ++ labT [46, 101, 110, 100]) g134  w134 (unhideI H134) hn1 hn (by omega) lb134 )
  have HD2 : Hid (Calls Tryz.prog 90 #[.pointer (some ⟨b, 0, none⟩)] w134 fun e w' => e = .returned (.tuple #[]) ∧ (∃ g', Wr w' B b n (((((((((((((((t ++ insT [108, 100] [[114, 49], [114, 49], [48]]) ++ insT [108, 100, 105] [[114, 54], dgs (16 * n)]) ++ insT [99, 109, 112] [[114, 49], [114, 54]]) ++ insT [106, 99] [[46, 102, 101, 119]]) ++ insT [109, 111, 118] [[114, 49], [114, 54]]) ++ labT [46, 102, 101, 119]) ++ loadT n) ++ insT [108, 100, 105] [[114, 54], [49]]) ++ labT [46, 112, 108, 97, 99, 101]) ++ insT [115, 117, 98] [[114, 49], [114, 54]]) ++ insT [106, 99] [[46, 101, 110, 100]]) ++ downT [115, 97, 114] n) ++ insT [106, 109, 112] [[46, 112, 108, 97, 99, 101]]) ++ labT [46, 101, 110, 100]) ++ storeT n) g') ∧ Below B w134 w') := HD
  have hl135 := (show ∀ n, n < 5 → (storeT n).length ≤ 20000 from by decide +kernel) n (by omega)
  clear HD
  go_wp2_with fail
  refine (unhideI HD2).mono ?_
  rintro e w135 ⟨rfl, ⟨g135, hH135⟩, kK135⟩
  have H135 := hideI hH135
  have K135 := hideI ((unhideI K134).trans kK135)
  have lb135 : B ≤ w135.heap.size := Nat.le_trans lb134 kK135.size
  clear HD2 hH135 kK135 H134 K134
  have hT135 : (((((((((((((((t ++ insT [108, 100] [[114, 49], [114, 49], [48]]) ++ insT [108, 100, 105] [[114, 54], dgs (16 * n)]) ++ insT [99, 109, 112] [[114, 49], [114, 54]]) ++ insT [106, 99] [[46, 102, 101, 119]]) ++ insT [109, 111, 118] [[114, 49], [114, 54]]) ++ labT [46, 102, 101, 119]) ++ loadT n) ++ insT [108, 100, 105] [[114, 54], [49]]) ++ labT [46, 112, 108, 97, 99, 101]) ++ insT [115, 117, 98] [[114, 49], [114, 54]]) ++ insT [106, 99] [[46, 101, 110, 100]]) ++ downT [115, 97, 114] n) ++ insT [106, 109, 112] [[46, 112, 108, 97, 99, 101]]) ++ labT [46, 101, 110, 100]) ++ storeT n).length = (((((((((((((((t ++ insT [108, 100] [[114, 49], [114, 49], [48]]) ++ insT [108, 100, 105] [[114, 54], dgs (16 * n)]) ++ insT [99, 109, 112] [[114, 49], [114, 54]]) ++ insT [106, 99] [[46, 102, 101, 119]]) ++ insT [109, 111, 118] [[114, 49], [114, 54]]) ++ labT [46, 102, 101, 119]) ++ loadT n) ++ insT [108, 100, 105] [[114, 54], [49]]) ++ labT [46, 112, 108, 97, 99, 101]) ++ insT [115, 117, 98] [[114, 49], [114, 54]]) ++ insT [106, 99] [[46, 101, 110, 100]]) ++ downT [115, 97, 114] n) ++ insT [106, 109, 112] [[46, 112, 108, 97, 99, 101]]) ++ labT [46, 101, 110, 100])).length + (storeT n).length := List.length_append
  have HD := hideI (do_none B b n (((((((((((((((t ++ insT [108, 100] [[114, 49], [114, 49], [48]]) ++ insT [108, 100, 105] [[114, 54], dgs (16 * n)]) ++ insT [99, 109, 112] [[114, 49], [114, 54]]) ++ insT [106, 99] [[46, 102, 101, 119]]) ++ insT [109, 111, 118] [[114, 49], [114, 54]]) ++ labT [46, 102, 101, 119]) ++ loadT n) ++ insT [108, 100, 105] [[114, 54], [49]]) ++ labT [46, 112, 108, 97, 99, 101]) ++ insT [115, 117, 98] [[114, 49], [114, 54]]) ++ insT [106, 99] [[46, 101, 110, 100]]) ++ downT [115, 97, 114] n) ++ insT [106, 109, 112] [[46, 112, 108, 97, 99, 101]]) ++ labT [46, 101, 110, 100]) ++ storeT n) g135 [114, 101, 116] w135 (unhideI H135) (by first | omega | (simp; omega)) lb135)
  have HD2 : Hid (Calls Tryz.prog 87 #[.pointer (some ⟨b, 0, none⟩), .string ⟨#[114, 101, 116]⟩, .slice none 0 0] w135 fun e w' => e = .returned (.tuple #[]) ∧ (∃ g', Wr w' B b n ((((((((((((((((t ++ insT [108, 100] [[114, 49], [114, 49], [48]]) ++ insT [108, 100, 105] [[114, 54], dgs (16 * n)]) ++ insT [99, 109, 112] [[114, 49], [114, 54]]) ++ insT [106, 99] [[46, 102, 101, 119]]) ++ insT [109, 111, 118] [[114, 49], [114, 54]]) ++ labT [46, 102, 101, 119]) ++ loadT n) ++ insT [108, 100, 105] [[114, 54], [49]]) ++ labT [46, 112, 108, 97, 99, 101]) ++ insT [115, 117, 98] [[114, 49], [114, 54]]) ++ insT [106, 99] [[46, 101, 110, 100]]) ++ downT [115, 97, 114] n) ++ insT [106, 109, 112] [[46, 112, 108, 97, 99, 101]]) ++ labT [46, 101, 110, 100]) ++ storeT n) ++ insT [114, 101, 116] []) g') ∧ Below B w135 w') := HD
  have hl136 := insT_len (kd := [114, 101, 116]) (fs := []) (by decide) (by simp) (fun _ h => absurd h List.not_mem_nil)
  clear HD
  go_wp2_with fail
  refine (unhideI HD2).mono ?_
  rintro e w136 ⟨rfl, ⟨g136, hH136⟩, kK136⟩
  have H136 := hideI hH136
  have K136 := hideI ((unhideI K135).trans kK136)
  have lb136 : B ≤ w136.heap.size := Nat.le_trans lb135 kK136.size
  clear HD2 hH136 kK136 H135 K135
  have hT136 : ((((((((((((((((t ++ insT [108, 100] [[114, 49], [114, 49], [48]]) ++ insT [108, 100, 105] [[114, 54], dgs (16 * n)]) ++ insT [99, 109, 112] [[114, 49], [114, 54]]) ++ insT [106, 99] [[46, 102, 101, 119]]) ++ insT [109, 111, 118] [[114, 49], [114, 54]]) ++ labT [46, 102, 101, 119]) ++ loadT n) ++ insT [108, 100, 105] [[114, 54], [49]]) ++ labT [46, 112, 108, 97, 99, 101]) ++ insT [115, 117, 98] [[114, 49], [114, 54]]) ++ insT [106, 99] [[46, 101, 110, 100]]) ++ downT [115, 97, 114] n) ++ insT [106, 109, 112] [[46, 112, 108, 97, 99, 101]]) ++ labT [46, 101, 110, 100]) ++ storeT n) ++ insT [114, 101, 116] []).length = ((((((((((((((((t ++ insT [108, 100] [[114, 49], [114, 49], [48]]) ++ insT [108, 100, 105] [[114, 54], dgs (16 * n)]) ++ insT [99, 109, 112] [[114, 49], [114, 54]]) ++ insT [106, 99] [[46, 102, 101, 119]]) ++ insT [109, 111, 118] [[114, 49], [114, 54]]) ++ labT [46, 102, 101, 119]) ++ loadT n) ++ insT [108, 100, 105] [[114, 54], [49]]) ++ labT [46, 112, 108, 97, 99, 101]) ++ insT [115, 117, 98] [[114, 49], [114, 54]]) ++ insT [106, 99] [[46, 101, 110, 100]]) ++ downT [115, 97, 114] n) ++ insT [106, 109, 112] [[46, 112, 108, 97, 99, 101]]) ++ labT [46, 101, 110, 100]) ++ storeT n)).length + (insT [114, 101, 116] []).length := List.length_append
  go_wp2_with fail
  go_end0
  refine ⟨rfl, ⟨g136, ?_⟩, unhideI K136⟩
  have hz := unhideI H136
  unfold sarT shiftT
  simpa only [List.append_assoc] using hz
set_option maxRecDepth 100000 in
set_option maxHeartbeats 4000000 in
theorem shl_any (B b n : Nat) (t : List UInt8) (g : Option Nat)  (w : World) (h : Wr w B b n t g) (hn1 : 1 ≤ n) (hn : n ≤ 4) (hl : t.length ≤ 400000) (hBw : B ≤ w.heap.size)  : Calls Tryz.prog 45 #[.pointer (some ⟨b, 0, none⟩)] w fun e w' => e = .returned (.tuple #[]) ∧ (∃ g', Wr w' B b n (t ++ shlT n) g') ∧ Below B w w' := by
  have H0 := hideI h
  have K0 := hideI (Below.refl B w)
  have hnI : (n : Int) ≤ 4 := by omega
  have hnI1 : (1 : Int) ≤ (n : Int) := by omega
  have c2 := h.words
  clear h
  go_enter Tryz.func45, Tryz.ntmps45
  have HD := hideI (shiftL_any B b n t g   w (unhideI H0) hn1 hn (by omega) hBw )
  have HD2 : Hid (Calls Tryz.prog 91 #[.pointer (some ⟨b, 0, none⟩), .func (.func 85) #[] #[], .string ⟨#[115, 104, 108]⟩] w fun e w' => e = .returned (.tuple #[]) ∧ (∃ g', Wr w' B b n (t ++ shlT n) g') ∧ Below B w w') := HD
  have hl137 := (show ∀ n, n < 5 → (shlT n).length ≤ 20000 from by decide +kernel) n (by omega)
  clear HD
  go_wp2_with fail
  refine (unhideI HD2).mono ?_
  rintro e w137 ⟨rfl, ⟨g137, hH137⟩, kK137⟩
  have H137 := hideI hH137
  have K137 := hideI ((unhideI K0).trans kK137)
  have lb137 : B ≤ w137.heap.size := Nat.le_trans hBw kK137.size
  clear HD2 hH137 kK137 H0 K0
  have hT137 : (t ++ shlT n).length = (t).length + (shlT n).length := List.length_append
  go_wp2_with fail
  go_end0
  refine ⟨rfl, ⟨g137, ?_⟩, unhideI K137⟩
  have hz := unhideI H137
  exact hz
set_option maxRecDepth 100000 in
set_option maxHeartbeats 4000000 in
theorem shr_any (B b n : Nat) (t : List UInt8) (g : Option Nat)  (w : World) (h : Wr w B b n t g) (hn1 : 1 ≤ n) (hn : n ≤ 4) (hl : t.length ≤ 400000) (hBw : B ≤ w.heap.size)  : Calls Tryz.prog 46 #[.pointer (some ⟨b, 0, none⟩)] w fun e w' => e = .returned (.tuple #[]) ∧ (∃ g', Wr w' B b n (t ++ shrT n) g') ∧ Below B w w' := by
  have H0 := hideI h
  have K0 := hideI (Below.refl B w)
  have hnI : (n : Int) ≤ 4 := by omega
  have hnI1 : (1 : Int) ≤ (n : Int) := by omega
  have c2 := h.words
  clear h
  go_enter Tryz.func46, Tryz.ntmps46
  have HD := hideI (shiftR_any B b n t g   w (unhideI H0) hn1 hn (by omega) hBw )
  have HD2 : Hid (Calls Tryz.prog 91 #[.pointer (some ⟨b, 0, none⟩), .func (.func 92) #[] #[], .string ⟨#[115, 104, 114]⟩] w fun e w' => e = .returned (.tuple #[]) ∧ (∃ g', Wr w' B b n (t ++ shrT n) g') ∧ Below B w w') := HD
  have hl138 := (show ∀ n, n < 5 → (shrT n).length ≤ 20000 from by decide +kernel) n (by omega)
  clear HD
  go_wp2_with fail
  refine (unhideI HD2).mono ?_
  rintro e w138 ⟨rfl, ⟨g138, hH138⟩, kK138⟩
  have H138 := hideI hH138
  have K138 := hideI ((unhideI K0).trans kK138)
  have lb138 : B ≤ w138.heap.size := Nat.le_trans hBw kK138.size
  clear HD2 hH138 kK138 H0 K0
  have hT138 : (t ++ shrT n).length = (t).length + (shrT n).length := List.length_append
  go_wp2_with fail
  go_end0
  refine ⟨rfl, ⟨g138, ?_⟩, unhideI K138⟩
  have hz := unhideI H138
  exact hz
set_option maxRecDepth 100000 in
set_option maxHeartbeats 4000000 in
theorem sar_any (B b n : Nat) (t : List UInt8) (g : Option Nat)  (w : World) (h : Wr w B b n t g) (hn1 : 1 ≤ n) (hn : n ≤ 4) (hl : t.length ≤ 400000) (hBw : B ≤ w.heap.size)  : Calls Tryz.prog 43 #[.pointer (some ⟨b, 0, none⟩)] w fun e w' => e = .returned (.tuple #[]) ∧ (∃ g', Wr w' B b n (t ++ sarT n) g') ∧ Below B w w' := by
  have H0 := hideI h
  have K0 := hideI (Below.refl B w)
  have hnI : (n : Int) ≤ 4 := by omega
  have hnI1 : (1 : Int) ≤ (n : Int) := by omega
  have c2 := h.words
  clear h
  go_enter Tryz.func43, Tryz.ntmps43
  have HD := hideI (shiftA_any B b n t g   w (unhideI H0) hn1 hn (by omega) hBw )
  have HD2 : Hid (Calls Tryz.prog 91 #[.pointer (some ⟨b, 0, none⟩), .func (.func 92) #[] #[], .string ⟨#[115, 97, 114]⟩] w fun e w' => e = .returned (.tuple #[]) ∧ (∃ g', Wr w' B b n (t ++ sarT n) g') ∧ Below B w w') := HD
  have hl139 := (show ∀ n, n < 5 → (sarT n).length ≤ 20000 from by decide +kernel) n (by omega)
  clear HD
  go_wp2_with fail
  refine (unhideI HD2).mono ?_
  rintro e w139 ⟨rfl, ⟨g139, hH139⟩, kK139⟩
  have H139 := hideI hH139
  have K139 := hideI ((unhideI K0).trans kK139)
  have lb139 : B ≤ w139.heap.size := Nat.le_trans hBw kK139.size
  clear HD2 hH139 kK139 H0 K0
  have hT139 : (t ++ sarT n).length = (t).length + (sarT n).length := List.length_append
  go_wp2_with fail
  go_end0
  refine ⟨rfl, ⟨g139, ?_⟩, unhideI K139⟩
  have hz := unhideI H139
  exact hz
end Go.Proofs.YthlgloiocdcaoaaGreatDoor
