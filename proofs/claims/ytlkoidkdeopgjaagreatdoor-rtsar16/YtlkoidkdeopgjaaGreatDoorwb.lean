/-
  RtF1.
-/
import Derived.Test.YtlkoidkdeopgjaaGreatDoorwa
set_option maxHeartbeats 4000000
set_option maxRecDepth 100000
namespace Go.Proofs.YtlkoidkdeopgjaaGreatDoor
open Go.RowKit
set_option linter.unusedSimpArgs false
set_option linter.unusedVariables false
theorem hld_len (k : Nat) : (hld k).length ≤ 20 := by have := dgs_len (2 + k); unfold hld; simp; omega
theorem dgs_len20 (k : Nat) : (dgs k).length ≤ 20 := by have := dgs_len k; omega
theorem cat_len {s : List UInt8} (h : s.length ≤ 10) (k : Nat) : (s ++ dgs k).length ≤ 20 := by have := dgs_len k; simp; omega
theorem chd_len {a c : List UInt8} (k : Nat) (ha : a.length ≤ 10) (hc : c.length ≤ 10) : (chd k a c).length ≤ 10 := by unfold chd; split <;> assumption
theorem insT_len {kd : List UInt8} {fs : List (List UInt8)} (h1 : kd.length ≤ 10) (h2 : fs.length ≤ 4) (h3 : ∀ f ∈ fs, f.length ≤ 20) : (insT kd fs).length ≤ 150 := by
 have := join_len h2 h3
 unfold insT
 split <;> simp <;> omega
theorem labT_len {s : List UInt8} (h : s.length ≤ 20) : (labT s).length ≤ 50 := by unfold labT; simp; omega
theorem each_len {n c : Nat} {f : Nat → List UInt8} (h : ∀ k, (f k).length ≤ c) : (each n f).length ≤ n * c := by
 induction n with
 | zero => simp [each]
 | succ n ih => rw [each_succ, List.length_append, Nat.add_mul]; have := h n; omega
theorem do_at (B b n : Nat) (t : List UInt8) (g : Option Nat) (kd : List UInt8) (fs : List (List UInt8)) (u : World) (h : Wr u B b n t g) (hne : fs ≠ []) (hf4 : fs.length ≤ 4) (hfl : ∀ f ∈ fs, f.length ≤ 20) (hl : t.length ≤ 1000000) (hk : kd.length ≤ 10) (hBw : B ≤ u.heap.size) : Calls Tryz.prog 138 #[.pointer (some ⟨b, 0, none⟩), .string (sb kd), .slice (some ⟨u.heap.size, 0, none⟩) fs.length fs.length] (u.alloc (.cells (fs.map fun f => Value.string (sb f)).toArray 9)) fun e w' => e = .returned (.tuple #[]) ∧ (∃ g', Wr w' B b n (t ++ insT kd fs) g') ∧ Below B u w' := by
 have ka : Below u.heap.size u (u.alloc (.cells (fs.map fun f => Value.string (sb f)).toArray 9)) := (Below.refl _ _).alloc (Nat.le_refl _) _
 have hb := h.lt
 have hg := h.glt
 refine (do_some B b n t g kd fs u.heap.size fs.length _ (h.step ka) hne hf4 hfl (Nat.le_refl _) (by simp) (fun j x hx => ?_) (by omega) (fun e => by have := hg _ e; omega) (by omega) (by simp; omega)).mono ?_
 · refine (Box.new u _ _).2.1 j _ ?_
   simp [hx]
 · rintro e w' ⟨h1, h2, h3⟩
   exact ⟨h1, h2, (ka.mono hBw).trans h3⟩
theorem bits_any (B b n : Nat) (t : List UInt8) (g : Option Nat) (w : World) (h : Wr w B b n t g) (hn : n ≤ 4) : Calls Tryz.prog 177 #[.pointer (some ⟨b, 0, none⟩)] w fun e w' => e = .returned (.int .i64 (16 * (n : Int))) ∧ w' = w := by
 have c2 := h.words
 have hnI : (n : Int) ≤ 4 := by omega
 go_enter Tryz.func177, Tryz.ntmps177
 go_wp2_with fail
 go_ret
 exact ⟨rfl, rfl⟩
theorem clear_any (B b n : Nat) (t : List UInt8) (g : Option Nat)  (w : World) (h : Wr w B b n t g) (hn1 : 1 ≤ n) (hn : n ≤ 4) (hl : t.length ≤ 900000) (hBw : B ≤ w.heap.size)  : Calls Tryz.prog 178 #[.pointer (some ⟨b, 0, none⟩)] w fun e w' => e = .returned (.tuple #[]) ∧ (∃ g', Wr w' B b n (t ++ clearT n) g') ∧ Below B w w' := by
 have H0 := zH h
 have K0 := zH (Below.refl B w)
 have hnI : (n : Int) ≤ 4 := by omega
 have hnI1 : (1 : Int) ≤ (n : Int) := by omega
 have c2 := h.words
 clear h
 go_enter Tryz.func178, Tryz.ntmps178
 go_wp2_with fail
 have HE := zH (fun k => each_len (n := k) (f := (fun k => insT [108, 100, 105] [hld k, [48]])) (c := 150) (fun k => by (try simp only [List.length_append]); have e0 := insT_len (kd := [108, 100, 105]) (fs := [hld k, [48]]) (by decide) (by simp) (fmc (hld_len _) (fmc (by decide) fmn)); omega))
 go_loopg [7] n (fun gm tt wr => ∃ (k : Nat) (gg : Option Nat), k ≤ n ∧ gm = n - k ∧ tt = .int .i64 (k : Int) ∧ Hid (Wr wr B b n (t ++ each k (fun k => insT [108, 100, 105] [hld k, [48]])) gg) ∧ Hid (Below B w wr))
 case atStart => exact ⟨0, g, Nat.zero_le _, rfl, rfl, by simpa [each] using H0, K0⟩
 case round =>
   obtain ⟨k, gg, hk, hgm, rfl, HW, HK⟩ := hrel
   generalize wr = W0 at *
   have lbw : B ≤ W0.heap.size := Nat.le_trans hBw (show _ from (uI HK).size)
   have hEk := uI HE k
   have hT0 : (t ++ each k (fun k => insT [108, 100, 105] [hld k, [48]])).length = (t).length + (each k (fun k => insT [108, 100, 105] [hld k, [48]])).length := List.length_append
   clear H0 K0 c2
   have hkn : k * 150 ≤ 600 := by omega
   by_cases hlt : k < n
   · have hkI : (k : Int) < (n : Int) := by omega
     have hk0 : (0 : Int) ≤ (k : Int) := by omega
     have HH := zH (fun W => held_any k (by omega) W)
     go_wp2_with fail
     refine (uI HH _).mono ?_
     rintro e wq ⟨rfl, hq⟩
     subst wq
     clear HH
     have HD := zH (do_at B b n (t ++ each k (fun k => insT [108, 100, 105] [hld k, [48]])) gg [108, 100, 105] [hld k, [48]] W0 (uI HW) (by simp) (by simp) (fmc (hld_len _) (fmc (by decide) fmn)) (by omega) (by decide) lbw)
     have HD2 : Hid (Calls Tryz.prog 138 #[.pointer (some ⟨b, 0, none⟩), .string ⟨#[108, 100, 105]⟩, .slice (some ⟨W0.heap.size, 0, none⟩) 2 2] (W0.alloc (.cells #[.string (sb (hld k)), .string ⟨#[48]⟩] 9)) fun e w' => e = .returned (.tuple #[]) ∧ (∃ g', Wr w' B b n ((t ++ each k (fun k => insT [108, 100, 105] [hld k, [48]])) ++ insT [108, 100, 105] [hld k, [48]]) g') ∧ Below B W0 w') := HD
     have hl1 := insT_len (kd := [108, 100, 105]) (fs := [hld k, [48]]) (by decide) (by simp) (fmc (hld_len _) (fmc (by decide) fmn))
     clear HD
     go_wp2_with fail
     refine (uI HD2).mono ?_
     rintro e w1 ⟨rfl, ⟨g1, hH1⟩, kK1⟩
     generalize hE1 : (t ++ each k (fun k => insT [108, 100, 105] [hld k, [48]])) ++ insT [108, 100, 105] [hld k, [48]] = T1 at hH1
     have H1 := zH hH1
     have K1 := zH ((uI HK).trans kK1)
     have lb1 : B ≤ w1.heap.size := Nat.le_trans lbw kK1.size
     clear HD2 hH1 kK1 HW HK
     have hT1 : T1.length = ((t ++ each k (fun k => insT [108, 100, 105] [hld k, [48]]))).length + (insT [108, 100, 105] [hld k, [48]]).length := by rw [← hE1]; exact List.length_append
     have HE1 := zH hE1
     clear hE1
     go_wp2_with fail
     go_roundg (n - (k + 1))
     case measure => omega
     case rel => exact ⟨k + 1, _, by omega, rfl, by go_num, by have hz := H1; rw [← uI HE1] at hz; rw [each_succ]; simpa only [List.append_assoc] using hz, K1⟩
   · have hkI : ¬ (k : Int) < (n : Int) := by omega
     have HKE := zH (show k = n by omega)
     have c2 := (uI HW).words
     go_wp2_with fail
     go_end0
     refine ⟨rfl, ⟨gg, ?_⟩, uI HK⟩
     have hz := uI HW
     skip
     rw [uI HKE] at hz
     unfold clearT
     simpa only [List.append_assoc] using hz
theorem load_any (B b n : Nat) (t : List UInt8) (g : Option Nat)  (w : World) (h : Wr w B b n t g) (hn1 : 1 ≤ n) (hn : n ≤ 4) (hl : t.length ≤ 900000) (hBw : B ≤ w.heap.size)  : Calls Tryz.prog 183 #[.pointer (some ⟨b, 0, none⟩)] w fun e w' => e = .returned (.tuple #[]) ∧ (∃ g', Wr w' B b n (t ++ loadT n) g') ∧ Below B w w' := by
 have H0 := zH h
 have K0 := zH (Below.refl B w)
 have hnI : (n : Int) ≤ 4 := by omega
 have hnI1 : (1 : Int) ≤ (n : Int) := by omega
 have c2 := h.words
 clear h
 go_enter Tryz.func183, Tryz.ntmps183
 go_wp2_with fail
 have HE := zH (fun k => each_len (n := k) (f := (fun k => insT [108, 100] [hld k, [114, 48], dgs k])) (c := 150) (fun k => by (try simp only [List.length_append]); have e0 := insT_len (kd := [108, 100]) (fs := [hld k, [114, 48], dgs k]) (by decide) (by simp) (fmc (hld_len _) (fmc (by decide) (fmc (dgs_len20 _) fmn))); omega))
 go_loopg [7] n (fun gm tt wr => ∃ (k : Nat) (gg : Option Nat), k ≤ n ∧ gm = n - k ∧ tt = .int .i64 (k : Int) ∧ Hid (Wr wr B b n (t ++ each k (fun k => insT [108, 100] [hld k, [114, 48], dgs k])) gg) ∧ Hid (Below B w wr))
 case atStart => exact ⟨0, g, Nat.zero_le _, rfl, rfl, by simpa [each] using H0, K0⟩
 case round =>
   obtain ⟨k, gg, hk, hgm, rfl, HW, HK⟩ := hrel
   generalize wr = W0 at *
   have lbw : B ≤ W0.heap.size := Nat.le_trans hBw (show _ from (uI HK).size)
   have hEk := uI HE k
   have hT0 : (t ++ each k (fun k => insT [108, 100] [hld k, [114, 48], dgs k])).length = (t).length + (each k (fun k => insT [108, 100] [hld k, [114, 48], dgs k])).length := List.length_append
   clear H0 K0 c2
   have hkn : k * 150 ≤ 600 := by omega
   by_cases hlt : k < n
   · have hkI : (k : Int) < (n : Int) := by omega
     have hk0 : (0 : Int) ≤ (k : Int) := by omega
     have HH := zH (fun W => held_any k (by omega) W)
     go_wp2_with fail
     refine (uI HH _).mono ?_
     rintro e wq ⟨rfl, hq⟩
     subst wq
     clear HH
     have HH := zH (fun W => digits_any k (by omega) W)
     go_wp2_with fail
     refine (uI HH _).mono ?_
     rintro e wq ⟨rfl, hq⟩
     subst wq
     clear HH
     have HD := zH (do_at B b n (t ++ each k (fun k => insT [108, 100] [hld k, [114, 48], dgs k])) gg [108, 100] [hld k, [114, 48], dgs k] W0 (uI HW) (by simp) (by simp) (fmc (hld_len _) (fmc (by decide) (fmc (dgs_len20 _) fmn))) (by omega) (by decide) lbw)
     have HD2 : Hid (Calls Tryz.prog 138 #[.pointer (some ⟨b, 0, none⟩), .string ⟨#[108, 100]⟩, .slice (some ⟨W0.heap.size, 0, none⟩) 3 3] (W0.alloc (.cells #[.string (sb (hld k)), .string ⟨#[114, 48]⟩, .string (sb (dgs k))] 9)) fun e w' => e = .returned (.tuple #[]) ∧ (∃ g', Wr w' B b n ((t ++ each k (fun k => insT [108, 100] [hld k, [114, 48], dgs k])) ++ insT [108, 100] [hld k, [114, 48], dgs k]) g') ∧ Below B W0 w') := HD
     have hl2 := insT_len (kd := [108, 100]) (fs := [hld k, [114, 48], dgs k]) (by decide) (by simp) (fmc (hld_len _) (fmc (by decide) (fmc (dgs_len20 _) fmn)))
     clear HD
     go_wp2_with fail
     refine (uI HD2).mono ?_
     rintro e w2 ⟨rfl, ⟨g2, hH2⟩, kK2⟩
     generalize hE2 : (t ++ each k (fun k => insT [108, 100] [hld k, [114, 48], dgs k])) ++ insT [108, 100] [hld k, [114, 48], dgs k] = T2 at hH2
     have H2 := zH hH2
     have K2 := zH ((uI HK).trans kK2)
     have lb2 : B ≤ w2.heap.size := Nat.le_trans lbw kK2.size
     clear HD2 hH2 kK2 HW HK
     have hT2 : T2.length = ((t ++ each k (fun k => insT [108, 100] [hld k, [114, 48], dgs k]))).length + (insT [108, 100] [hld k, [114, 48], dgs k]).length := by rw [← hE2]; exact List.length_append
     have HE2 := zH hE2
     clear hE2
     go_wp2_with fail
     go_roundg (n - (k + 1))
     case measure => omega
     case rel => exact ⟨k + 1, _, by omega, rfl, by go_num, by have hz := H2; rw [← uI HE2] at hz; rw [each_succ]; simpa only [List.append_assoc] using hz, K2⟩
   · have hkI : ¬ (k : Int) < (n : Int) := by omega
     have HKE := zH (show k = n by omega)
     have c2 := (uI HW).words
     go_wp2_with fail
     go_end0
     refine ⟨rfl, ⟨gg, ?_⟩, uI HK⟩
     have hz := uI HW
     skip
     rw [uI HKE] at hz
     unfold loadT
     simpa only [List.append_assoc] using hz
theorem store_any (B b n : Nat) (t : List UInt8) (g : Option Nat)  (w : World) (h : Wr w B b n t g) (hn1 : 1 ≤ n) (hn : n ≤ 4) (hl : t.length ≤ 900000) (hBw : B ≤ w.heap.size)  : Calls Tryz.prog 141 #[.pointer (some ⟨b, 0, none⟩)] w fun e w' => e = .returned (.tuple #[]) ∧ (∃ g', Wr w' B b n (t ++ storeT n) g') ∧ Below B w w' := by
 have H0 := zH h
 have K0 := zH (Below.refl B w)
 have hnI : (n : Int) ≤ 4 := by omega
 have hnI1 : (1 : Int) ≤ (n : Int) := by omega
 have c2 := h.words
 clear h
 go_enter Tryz.func141, Tryz.ntmps141
 go_wp2_with fail
 have HE := zH (fun k => each_len (n := k) (f := (fun k => insT [115, 116] [[114, 48], hld k, dgs k])) (c := 150) (fun k => by (try simp only [List.length_append]); have e0 := insT_len (kd := [115, 116]) (fs := [[114, 48], hld k, dgs k]) (by decide) (by simp) (fmc (by decide) (fmc (hld_len _) (fmc (dgs_len20 _) fmn))); omega))
 go_loopg [7] n (fun gm tt wr => ∃ (k : Nat) (gg : Option Nat), k ≤ n ∧ gm = n - k ∧ tt = .int .i64 (k : Int) ∧ Hid (Wr wr B b n (t ++ each k (fun k => insT [115, 116] [[114, 48], hld k, dgs k])) gg) ∧ Hid (Below B w wr))
 case atStart => exact ⟨0, g, Nat.zero_le _, rfl, rfl, by simpa [each] using H0, K0⟩
 case round =>
   obtain ⟨k, gg, hk, hgm, rfl, HW, HK⟩ := hrel
   generalize wr = W0 at *
   have lbw : B ≤ W0.heap.size := Nat.le_trans hBw (show _ from (uI HK).size)
   have hEk := uI HE k
   have hT0 : (t ++ each k (fun k => insT [115, 116] [[114, 48], hld k, dgs k])).length = (t).length + (each k (fun k => insT [115, 116] [[114, 48], hld k, dgs k])).length := List.length_append
   clear H0 K0 c2
   have hkn : k * 150 ≤ 600 := by omega
   by_cases hlt : k < n
   · have hkI : (k : Int) < (n : Int) := by omega
     have hk0 : (0 : Int) ≤ (k : Int) := by omega
     have HH := zH (fun W => held_any k (by omega) W)
     go_wp2_with fail
     refine (uI HH _).mono ?_
     rintro e wq ⟨rfl, hq⟩
     subst wq
     clear HH
     have HH := zH (fun W => digits_any k (by omega) W)
     go_wp2_with fail
     refine (uI HH _).mono ?_
     rintro e wq ⟨rfl, hq⟩
     subst wq
     clear HH
     have HD := zH (do_at B b n (t ++ each k (fun k => insT [115, 116] [[114, 48], hld k, dgs k])) gg [115, 116] [[114, 48], hld k, dgs k] W0 (uI HW) (by simp) (by simp) (fmc (by decide) (fmc (hld_len _) (fmc (dgs_len20 _) fmn))) (by omega) (by decide) lbw)
     have HD2 : Hid (Calls Tryz.prog 138 #[.pointer (some ⟨b, 0, none⟩), .string ⟨#[115, 116]⟩, .slice (some ⟨W0.heap.size, 0, none⟩) 3 3] (W0.alloc (.cells #[.string ⟨#[114, 48]⟩, .string (sb (hld k)), .string (sb (dgs k))] 9)) fun e w' => e = .returned (.tuple #[]) ∧ (∃ g', Wr w' B b n ((t ++ each k (fun k => insT [115, 116] [[114, 48], hld k, dgs k])) ++ insT [115, 116] [[114, 48], hld k, dgs k]) g') ∧ Below B W0 w') := HD
     have hl3 := insT_len (kd := [115, 116]) (fs := [[114, 48], hld k, dgs k]) (by decide) (by simp) (fmc (by decide) (fmc (hld_len _) (fmc (dgs_len20 _) fmn)))
     clear HD
     go_wp2_with fail
     refine (uI HD2).mono ?_
     rintro e w3 ⟨rfl, ⟨g3, hH3⟩, kK3⟩
     generalize hE3 : (t ++ each k (fun k => insT [115, 116] [[114, 48], hld k, dgs k])) ++ insT [115, 116] [[114, 48], hld k, dgs k] = T3 at hH3
     have H3 := zH hH3
     have K3 := zH ((uI HK).trans kK3)
     have lb3 : B ≤ w3.heap.size := Nat.le_trans lbw kK3.size
     clear HD2 hH3 kK3 HW HK
     have hT3 : T3.length = ((t ++ each k (fun k => insT [115, 116] [[114, 48], hld k, dgs k]))).length + (insT [115, 116] [[114, 48], hld k, dgs k]).length := by rw [← hE3]; exact List.length_append
     have HE3 := zH hE3
     clear hE3
     go_wp2_with fail
     go_roundg (n - (k + 1))
     case measure => omega
     case rel => exact ⟨k + 1, _, by omega, rfl, by go_num, by have hz := H3; rw [← uI HE3] at hz; rw [each_succ]; simpa only [List.append_assoc] using hz, K3⟩
   · have hkI : ¬ (k : Int) < (n : Int) := by omega
     have HKE := zH (show k = n by omega)
     have c2 := (uI HW).words
     go_wp2_with fail
     go_end0
     refine ⟨rfl, ⟨gg, ?_⟩, uI HK⟩
     have hz := uI HW
     skip
     rw [uI HKE] at hz
     unfold storeT
     simpa only [List.append_assoc] using hz
theorem up_any (B b n : Nat) (t : List UInt8) (g : Option Nat) (f : List UInt8) (w : World) (h : Wr w B b n t g) (hn1 : 1 ≤ n) (hn : n ≤ 4) (hl : t.length ≤ 900000) (hBw : B ≤ w.heap.size) (hf : f.length ≤ 10) : Calls Tryz.prog 136 #[.pointer (some ⟨b, 0, none⟩), .string (sb f)] w fun e w' => e = .returned (.tuple #[]) ∧ (∃ g', Wr w' B b n (t ++ upT f n) g') ∧ Below B w w' := by
 have H0 := zH h
 have K0 := zH (Below.refl B w)
 have hnI : (n : Int) ≤ 4 := by omega
 have hnI1 : (1 : Int) ≤ (n : Int) := by omega
 have c2 := h.words
 clear h
 go_enter Tryz.func136, Tryz.ntmps136
 go_wp2_with fail
 have HE := zH (fun k => each_len (n := k) (f := (fun k => insT (chd k f [114, 111, 108]) [hld k])) (c := 150) (fun k => by (try simp only [List.length_append]); have e0 := insT_len (kd := (chd k f [114, 111, 108])) (fs := [hld k]) (chd_len _ hf (by decide)) (by simp) (fmc (hld_len _) fmn); omega))
 go_loopg [9] n (fun gm tt wr => ∃ (k : Nat) (gg : Option Nat), k ≤ n ∧ gm = n - k ∧ tt = .int .i64 (k : Int) ∧ Hid (Wr wr B b n (t ++ each k (fun k => insT (chd k f [114, 111, 108]) [hld k])) gg) ∧ Hid (Below B w wr))
 case atStart => exact ⟨0, g, Nat.zero_le _, rfl, rfl, by simpa [each] using H0, K0⟩
 case round =>
   obtain ⟨k, gg, hk, hgm, rfl, HW, HK⟩ := hrel
   generalize wr = W0 at *
   have lbw : B ≤ W0.heap.size := Nat.le_trans hBw (show _ from (uI HK).size)
   have hEk := uI HE k
   have hT0 : (t ++ each k (fun k => insT (chd k f [114, 111, 108]) [hld k])).length = (t).length + (each k (fun k => insT (chd k f [114, 111, 108]) [hld k])).length := List.length_append
   clear H0 K0 c2
   have hkn : k * 150 ≤ 600 := by omega
   by_cases hlt : k < n
   · have hkI : (k : Int) < (n : Int) := by omega
     have hk0 : (0 : Int) ≤ (k : Int) := by omega
     have HH := zH (fun W => chained_any k f [114, 111, 108] W)
     go_wp2_with fail
     refine (uI HH _).mono ?_
     rintro e wq ⟨rfl, hq⟩
     subst wq
     clear HH
     have HH := zH (fun W => held_any k (by omega) W)
     go_wp2_with fail
     refine (uI HH _).mono ?_
     rintro e wq ⟨rfl, hq⟩
     subst wq
     clear HH
     have HD := zH (do_at B b n (t ++ each k (fun k => insT (chd k f [114, 111, 108]) [hld k])) gg (chd k f [114, 111, 108]) [hld k] W0 (uI HW) (by simp) (by simp) (fmc (hld_len _) fmn) (by omega) (chd_len _ hf (by decide)) lbw)
     have HD2 : Hid (Calls Tryz.prog 138 #[.pointer (some ⟨b, 0, none⟩), .string (sb ((chd k f [114, 111, 108]))), .slice (some ⟨W0.heap.size, 0, none⟩) 1 1] (W0.alloc (.cells #[.string (sb (hld k))] 9)) fun e w' => e = .returned (.tuple #[]) ∧ (∃ g', Wr w' B b n ((t ++ each k (fun k => insT (chd k f [114, 111, 108]) [hld k])) ++ insT (chd k f [114, 111, 108]) [hld k]) g') ∧ Below B W0 w') := HD
     have hl4 := insT_len (kd := (chd k f [114, 111, 108])) (fs := [hld k]) (chd_len _ hf (by decide)) (by simp) (fmc (hld_len _) fmn)
     clear HD
     go_wp2_with fail
     refine (uI HD2).mono ?_
     rintro e w4 ⟨rfl, ⟨g4, hH4⟩, kK4⟩
     generalize hE4 : (t ++ each k (fun k => insT (chd k f [114, 111, 108]) [hld k])) ++ insT (chd k f [114, 111, 108]) [hld k] = T4 at hH4
     have H4 := zH hH4
     have K4 := zH ((uI HK).trans kK4)
     have lb4 : B ≤ w4.heap.size := Nat.le_trans lbw kK4.size
     clear HD2 hH4 kK4 HW HK
     have hT4 : T4.length = ((t ++ each k (fun k => insT (chd k f [114, 111, 108]) [hld k]))).length + (insT (chd k f [114, 111, 108]) [hld k]).length := by rw [← hE4]; exact List.length_append
     have HE4 := zH hE4
     clear hE4
     go_wp2_with fail
     go_roundg (n - (k + 1))
     case measure => omega
     case rel => exact ⟨k + 1, _, by omega, rfl, by go_num, by have hz := H4; rw [← uI HE4] at hz; rw [each_succ]; simpa only [List.append_assoc] using hz, K4⟩
   · have hkI : ¬ (k : Int) < (n : Int) := by omega
     have HKE := zH (show k = n by omega)
     have c2 := (uI HW).words
     go_wp2_with fail
     go_end0
     refine ⟨rfl, ⟨gg, ?_⟩, uI HK⟩
     have hz := uI HW
     skip
     rw [uI HKE] at hz
     unfold upT
     simpa only [List.append_assoc] using hz
theorem upAt_any (B b n : Nat) (t : List UInt8) (g : Option Nat) (pl : List UInt8) (bh : Nat) (w : World) (h : Wr w B b n t g) (hn1 : 1 ≤ n) (hn : n ≤ 4) (hl : t.length ≤ 900000) (hBw : B ≤ w.heap.size) (hpl10 : pl.length ≤ 10) (hbh : bh ≤ 9) : Calls Tryz.prog 137 #[.pointer (some ⟨b, 0, none⟩), .string (sb pl), .int .i64 (bh : Int)] w fun e w' => e = .returned (.tuple #[]) ∧ (∃ g', Wr w' B b n (t ++ upAtT pl bh n) g') ∧ Below B w w' := by
 have hpl20 : pl.length ≤ 20 := by omega
 have H0 := zH h
 have K0 := zH (Below.refl B w)
 have hnI : (n : Int) ≤ 4 := by omega
 have hnI1 : (1 : Int) ≤ (n : Int) := by omega
 have c2 := h.words
 clear h
 go_enter Tryz.func137, Tryz.ntmps137
 go_wp2_with fail
 have HE := zH (fun k => each_len (n := k) (f := (fun k => insT [108, 100] [[114, 54], pl, dgs (bh + k)] ++ insT (chd k [115, 104, 108] [114, 111, 108]) [[114, 54]] ++ insT [115, 116] [pl, [114, 54], dgs (bh + k)])) (c := 450) (fun k => by (try simp only [List.length_append]); have e0 := insT_len (kd := [108, 100]) (fs := [[114, 54], pl, dgs (bh + k)]) (by decide) (by simp) (fmc (by decide) (fmc hpl20 (fmc (dgs_len20 _) fmn))); have e1 := insT_len (kd := (chd k [115, 104, 108] [114, 111, 108])) (fs := [[114, 54]]) (chd_len _ (by decide) (by decide)) (by simp) (fmc (by decide) fmn); have e2 := insT_len (kd := [115, 116]) (fs := [pl, [114, 54], dgs (bh + k)]) (by decide) (by simp) (fmc hpl20 (fmc (by decide) (fmc (dgs_len20 _) fmn))); omega))
 go_loopg [11] n (fun gm tt wr => ∃ (k : Nat) (gg : Option Nat), k ≤ n ∧ gm = n - k ∧ tt = .int .i64 (k : Int) ∧ Hid (Wr wr B b n (t ++ each k (fun k => insT [108, 100] [[114, 54], pl, dgs (bh + k)] ++ insT (chd k [115, 104, 108] [114, 111, 108]) [[114, 54]] ++ insT [115, 116] [pl, [114, 54], dgs (bh + k)])) gg) ∧ Hid (Below B w wr))
 case atStart => exact ⟨0, g, Nat.zero_le _, rfl, rfl, by simpa [each] using H0, K0⟩
 case round =>
   obtain ⟨k, gg, hk, hgm, rfl, HW, HK⟩ := hrel
   generalize wr = W0 at *
   have lbw : B ≤ W0.heap.size := Nat.le_trans hBw (show _ from (uI HK).size)
   have hEk := uI HE k
   have hT0 : (t ++ each k (fun k => insT [108, 100] [[114, 54], pl, dgs (bh + k)] ++ insT (chd k [115, 104, 108] [114, 111, 108]) [[114, 54]] ++ insT [115, 116] [pl, [114, 54], dgs (bh + k)])).length = (t).length + (each k (fun k => insT [108, 100] [[114, 54], pl, dgs (bh + k)] ++ insT (chd k [115, 104, 108] [114, 111, 108]) [[114, 54]] ++ insT [115, 116] [pl, [114, 54], dgs (bh + k)])).length := List.length_append
   clear H0 K0 c2
   have hkn : k * 450 ≤ 1800 := by omega
   by_cases hlt : k < n
   · have hkI : (k : Int) < (n : Int) := by omega
     have hk0 : (0 : Int) ≤ (k : Int) := by omega
     have HH := zH (fun W => digits_any (bh + k) (by omega) W)
     rw [show (((bh + k) : Nat) : Int) = (bh : Int) + (k : Int) by omega] at HH
     go_wp2_with fail
     refine (uI HH _).mono ?_
     rintro e wq ⟨rfl, hq⟩
     subst wq
     clear HH
     have HD := zH (do_at B b n (t ++ each k (fun k => insT [108, 100] [[114, 54], pl, dgs (bh + k)] ++ insT (chd k [115, 104, 108] [114, 111, 108]) [[114, 54]] ++ insT [115, 116] [pl, [114, 54], dgs (bh + k)])) gg [108, 100] [[114, 54], pl, dgs (bh + k)] W0 (uI HW) (by simp) (by simp) (fmc (by decide) (fmc hpl20 (fmc (dgs_len20 _) fmn))) (by omega) (by decide) lbw)
     have HD2 : Hid (Calls Tryz.prog 138 #[.pointer (some ⟨b, 0, none⟩), .string ⟨#[108, 100]⟩, .slice (some ⟨W0.heap.size, 0, none⟩) 3 3] (W0.alloc (.cells #[.string ⟨#[114, 54]⟩, .string (sb (pl)), .string (sb (dgs (bh + k)))] 9)) fun e w' => e = .returned (.tuple #[]) ∧ (∃ g', Wr w' B b n ((t ++ each k (fun k => insT [108, 100] [[114, 54], pl, dgs (bh + k)] ++ insT (chd k [115, 104, 108] [114, 111, 108]) [[114, 54]] ++ insT [115, 116] [pl, [114, 54], dgs (bh + k)])) ++ insT [108, 100] [[114, 54], pl, dgs (bh + k)]) g') ∧ Below B W0 w') := HD
     have hl5 := insT_len (kd := [108, 100]) (fs := [[114, 54], pl, dgs (bh + k)]) (by decide) (by simp) (fmc (by decide) (fmc hpl20 (fmc (dgs_len20 _) fmn)))
     clear HD
     go_wp2_with fail
     refine (uI HD2).mono ?_
     rintro e w5 ⟨rfl, ⟨g5, hH5⟩, kK5⟩
     generalize hE5 : (t ++ each k (fun k => insT [108, 100] [[114, 54], pl, dgs (bh + k)] ++ insT (chd k [115, 104, 108] [114, 111, 108]) [[114, 54]] ++ insT [115, 116] [pl, [114, 54], dgs (bh + k)])) ++ insT [108, 100] [[114, 54], pl, dgs (bh + k)] = T5 at hH5
     have H5 := zH hH5
     have K5 := zH ((uI HK).trans kK5)
     have lb5 : B ≤ w5.heap.size := Nat.le_trans lbw kK5.size
     clear HD2 hH5 kK5 HW HK
     have hT5 : T5.length = ((t ++ each k (fun k => insT [108, 100] [[114, 54], pl, dgs (bh + k)] ++ insT (chd k [115, 104, 108] [114, 111, 108]) [[114, 54]] ++ insT [115, 116] [pl, [114, 54], dgs (bh + k)]))).length + (insT [108, 100] [[114, 54], pl, dgs (bh + k)]).length := by rw [← hE5]; exact List.length_append
     have HE5 := zH hE5
     clear hE5
     have HH := zH (fun W => chained_any k [115, 104, 108] [114, 111, 108] W)
     go_wp2_with fail
     refine (uI HH _).mono ?_
     rintro e wq ⟨rfl, hq⟩
     subst wq
     clear HH
     have HD := zH (do_at B b n T5 g5 (chd k [115, 104, 108] [114, 111, 108]) [[114, 54]] w5 (uI H5) (by simp) (by simp) (fmc (by decide) fmn) (by omega) (chd_len _ (by decide) (by decide)) lb5)
     have HD2 : Hid (Calls Tryz.prog 138 #[.pointer (some ⟨b, 0, none⟩), .string (sb ((chd k [115, 104, 108] [114, 111, 108]))), .slice (some ⟨w5.heap.size, 0, none⟩) 1 1] (w5.alloc (.cells #[.string ⟨#[114, 54]⟩] 9)) fun e w' => e = .returned (.tuple #[]) ∧ (∃ g', Wr w' B b n (T5 ++ insT (chd k [115, 104, 108] [114, 111, 108]) [[114, 54]]) g') ∧ Below B w5 w') := HD
     have hl6 := insT_len (kd := (chd k [115, 104, 108] [114, 111, 108])) (fs := [[114, 54]]) (chd_len _ (by decide) (by decide)) (by simp) (fmc (by decide) fmn)
     clear HD
     go_wp2_with fail
     refine (uI HD2).mono ?_
     rintro e w6 ⟨rfl, ⟨g6, hH6⟩, kK6⟩
     generalize hE6 : T5 ++ insT (chd k [115, 104, 108] [114, 111, 108]) [[114, 54]] = T6 at hH6
     have H6 := zH hH6
     have K6 := zH ((uI K5).trans kK6)
     have lb6 : B ≤ w6.heap.size := Nat.le_trans lb5 kK6.size
     clear HD2 hH6 kK6 H5 K5
     have hT6 : T6.length = (T5).length + (insT (chd k [115, 104, 108] [114, 111, 108]) [[114, 54]]).length := by rw [← hE6]; exact List.length_append
     have HE6 := zH hE6
     clear hE6
     have HH := zH (fun W => digits_any (bh + k) (by omega) W)
     rw [show (((bh + k) : Nat) : Int) = (bh : Int) + (k : Int) by omega] at HH
     go_wp2_with fail
     refine (uI HH _).mono ?_
     rintro e wq ⟨rfl, hq⟩
     subst wq
     clear HH
     have HD := zH (do_at B b n T6 g6 [115, 116] [pl, [114, 54], dgs (bh + k)] w6 (uI H6) (by simp) (by simp) (fmc hpl20 (fmc (by decide) (fmc (dgs_len20 _) fmn))) (by omega) (by decide) lb6)
     have HD2 : Hid (Calls Tryz.prog 138 #[.pointer (some ⟨b, 0, none⟩), .string ⟨#[115, 116]⟩, .slice (some ⟨w6.heap.size, 0, none⟩) 3 3] (w6.alloc (.cells #[.string (sb (pl)), .string ⟨#[114, 54]⟩, .string (sb (dgs (bh + k)))] 9)) fun e w' => e = .returned (.tuple #[]) ∧ (∃ g', Wr w' B b n (T6 ++ insT [115, 116] [pl, [114, 54], dgs (bh + k)]) g') ∧ Below B w6 w') := HD
     have hl7 := insT_len (kd := [115, 116]) (fs := [pl, [114, 54], dgs (bh + k)]) (by decide) (by simp) (fmc hpl20 (fmc (by decide) (fmc (dgs_len20 _) fmn)))
     clear HD
     go_wp2_with fail
     refine (uI HD2).mono ?_
     rintro e w7 ⟨rfl, ⟨g7, hH7⟩, kK7⟩
     generalize hE7 : T6 ++ insT [115, 116] [pl, [114, 54], dgs (bh + k)] = T7 at hH7
     have H7 := zH hH7
     have K7 := zH ((uI K6).trans kK7)
     have lb7 : B ≤ w7.heap.size := Nat.le_trans lb6 kK7.size
     clear HD2 hH7 kK7 H6 K6
     have hT7 : T7.length = (T6).length + (insT [115, 116] [pl, [114, 54], dgs (bh + k)]).length := by rw [← hE7]; exact List.length_append
     have HE7 := zH hE7
     clear hE7
     go_wp2_with fail
     go_roundg (n - (k + 1))
     case measure => omega
     case rel => exact ⟨k + 1, _, by omega, rfl, by go_num, by have hz := H7; rw [← uI HE7, ← uI HE6, ← uI HE5] at hz; rw [each_succ]; simpa only [List.append_assoc] using hz, K7⟩
   · have hkI : ¬ (k : Int) < (n : Int) := by omega
     have HKE := zH (show k = n by omega)
     have c2 := (uI HW).words
     go_wp2_with fail
     go_end0
     refine ⟨rfl, ⟨gg, ?_⟩, uI HK⟩
     have hz := uI HW
     skip
     rw [uI HKE] at hz
     unfold upAtT
     simpa only [List.append_assoc] using hz
theorem with_any (B b n : Nat) (t : List UInt8) (g : Option Nat) (a c pl : List UInt8) (bh : Nat) (w : World) (h : Wr w B b n t g) (hn1 : 1 ≤ n) (hn : n ≤ 4) (hl : t.length ≤ 900000) (hBw : B ≤ w.heap.size) (ha : a.length ≤ 10) (hc : c.length ≤ 10) (hpl10 : pl.length ≤ 10) (hbh : bh ≤ 9) : Calls Tryz.prog 139 #[.pointer (some ⟨b, 0, none⟩), .string (sb a), .string (sb c), .string (sb pl), .int .i64 (bh : Int)] w fun e w' => e = .returned (.tuple #[]) ∧ (∃ g', Wr w' B b n (t ++ withT a c pl bh n) g') ∧ Below B w w' := by
 have hpl20 : pl.length ≤ 20 := by omega
 have H0 := zH h
 have K0 := zH (Below.refl B w)
 have hnI : (n : Int) ≤ 4 := by omega
 have hnI1 : (1 : Int) ≤ (n : Int) := by omega
 have c2 := h.words
 clear h
 go_enter Tryz.func139, Tryz.ntmps139
 go_wp2_with fail
 have HE := zH (fun k => each_len (n := k) (f := (fun k => insT [108, 100] [[114, 54], pl, dgs (bh + k)] ++ insT (chd k a c) [hld k, [114, 54]])) (c := 300) (fun k => by (try simp only [List.length_append]); have e0 := insT_len (kd := [108, 100]) (fs := [[114, 54], pl, dgs (bh + k)]) (by decide) (by simp) (fmc (by decide) (fmc hpl20 (fmc (dgs_len20 _) fmn))); have e1 := insT_len (kd := (chd k a c)) (fs := [hld k, [114, 54]]) (chd_len _ ha hc) (by simp) (fmc (hld_len _) (fmc (by decide) fmn)); omega))
 go_loopg [15] n (fun gm tt wr => ∃ (k : Nat) (gg : Option Nat), k ≤ n ∧ gm = n - k ∧ tt = .int .i64 (k : Int) ∧ Hid (Wr wr B b n (t ++ each k (fun k => insT [108, 100] [[114, 54], pl, dgs (bh + k)] ++ insT (chd k a c) [hld k, [114, 54]])) gg) ∧ Hid (Below B w wr))
 case atStart => exact ⟨0, g, Nat.zero_le _, rfl, rfl, by simpa [each] using H0, K0⟩
 case round =>
   obtain ⟨k, gg, hk, hgm, rfl, HW, HK⟩ := hrel
   generalize wr = W0 at *
   have lbw : B ≤ W0.heap.size := Nat.le_trans hBw (show _ from (uI HK).size)
   have hEk := uI HE k
   have hT0 : (t ++ each k (fun k => insT [108, 100] [[114, 54], pl, dgs (bh + k)] ++ insT (chd k a c) [hld k, [114, 54]])).length = (t).length + (each k (fun k => insT [108, 100] [[114, 54], pl, dgs (bh + k)] ++ insT (chd k a c) [hld k, [114, 54]])).length := List.length_append
   clear H0 K0 c2
   have hkn : k * 300 ≤ 1200 := by omega
   by_cases hlt : k < n
   · have hkI : (k : Int) < (n : Int) := by omega
     have hk0 : (0 : Int) ≤ (k : Int) := by omega
     have HH := zH (fun W => digits_any (bh + k) (by omega) W)
     rw [show (((bh + k) : Nat) : Int) = (bh : Int) + (k : Int) by omega] at HH
     go_wp2_with fail
     refine (uI HH _).mono ?_
     rintro e wq ⟨rfl, hq⟩
     subst wq
     clear HH
     have HD := zH (do_at B b n (t ++ each k (fun k => insT [108, 100] [[114, 54], pl, dgs (bh + k)] ++ insT (chd k a c) [hld k, [114, 54]])) gg [108, 100] [[114, 54], pl, dgs (bh + k)] W0 (uI HW) (by simp) (by simp) (fmc (by decide) (fmc hpl20 (fmc (dgs_len20 _) fmn))) (by omega) (by decide) lbw)
     have HD2 : Hid (Calls Tryz.prog 138 #[.pointer (some ⟨b, 0, none⟩), .string ⟨#[108, 100]⟩, .slice (some ⟨W0.heap.size, 0, none⟩) 3 3] (W0.alloc (.cells #[.string ⟨#[114, 54]⟩, .string (sb (pl)), .string (sb (dgs (bh + k)))] 9)) fun e w' => e = .returned (.tuple #[]) ∧ (∃ g', Wr w' B b n ((t ++ each k (fun k => insT [108, 100] [[114, 54], pl, dgs (bh + k)] ++ insT (chd k a c) [hld k, [114, 54]])) ++ insT [108, 100] [[114, 54], pl, dgs (bh + k)]) g') ∧ Below B W0 w') := HD
     have hl8 := insT_len (kd := [108, 100]) (fs := [[114, 54], pl, dgs (bh + k)]) (by decide) (by simp) (fmc (by decide) (fmc hpl20 (fmc (dgs_len20 _) fmn)))
     clear HD
     go_wp2_with fail
     refine (uI HD2).mono ?_
     rintro e w8 ⟨rfl, ⟨g8, hH8⟩, kK8⟩
     generalize hE8 : (t ++ each k (fun k => insT [108, 100] [[114, 54], pl, dgs (bh + k)] ++ insT (chd k a c) [hld k, [114, 54]])) ++ insT [108, 100] [[114, 54], pl, dgs (bh + k)] = T8 at hH8
     have H8 := zH hH8
     have K8 := zH ((uI HK).trans kK8)
     have lb8 : B ≤ w8.heap.size := Nat.le_trans lbw kK8.size
     clear HD2 hH8 kK8 HW HK
     have hT8 : T8.length = ((t ++ each k (fun k => insT [108, 100] [[114, 54], pl, dgs (bh + k)] ++ insT (chd k a c) [hld k, [114, 54]]))).length + (insT [108, 100] [[114, 54], pl, dgs (bh + k)]).length := by rw [← hE8]; exact List.length_append
     have HE8 := zH hE8
     clear hE8
     have HH := zH (fun W => chained_any k a c W)
     go_wp2_with fail
     refine (uI HH _).mono ?_
     rintro e wq ⟨rfl, hq⟩
     subst wq
     clear HH
     have HH := zH (fun W => held_any k (by omega) W)
     go_wp2_with fail
     refine (uI HH _).mono ?_
     rintro e wq ⟨rfl, hq⟩
     subst wq
     clear HH
     have HD := zH (do_at B b n T8 g8 (chd k a c) [hld k, [114, 54]] w8 (uI H8) (by simp) (by simp) (fmc (hld_len _) (fmc (by decide) fmn)) (by omega) (chd_len _ ha hc) lb8)
     have HD2 : Hid (Calls Tryz.prog 138 #[.pointer (some ⟨b, 0, none⟩), .string (sb ((chd k a c))), .slice (some ⟨w8.heap.size, 0, none⟩) 2 2] (w8.alloc (.cells #[.string (sb (hld k)), .string ⟨#[114, 54]⟩] 9)) fun e w' => e = .returned (.tuple #[]) ∧ (∃ g', Wr w' B b n (T8 ++ insT (chd k a c) [hld k, [114, 54]]) g') ∧ Below B w8 w') := HD
     have hl9 := insT_len (kd := (chd k a c)) (fs := [hld k, [114, 54]]) (chd_len _ ha hc) (by simp) (fmc (hld_len _) (fmc (by decide) fmn))
     clear HD
     go_wp2_with fail
     refine (uI HD2).mono ?_
     rintro e w9 ⟨rfl, ⟨g9, hH9⟩, kK9⟩
     generalize hE9 : T8 ++ insT (chd k a c) [hld k, [114, 54]] = T9 at hH9
     have H9 := zH hH9
     have K9 := zH ((uI K8).trans kK9)
     have lb9 : B ≤ w9.heap.size := Nat.le_trans lb8 kK9.size
     clear HD2 hH9 kK9 H8 K8
     have hT9 : T9.length = (T8).length + (insT (chd k a c) [hld k, [114, 54]]).length := by rw [← hE9]; exact List.length_append
     have HE9 := zH hE9
     clear hE9
     go_wp2_with fail
     go_roundg (n - (k + 1))
     case measure => omega
     case rel => exact ⟨k + 1, _, by omega, rfl, by go_num, by have hz := H9; rw [← uI HE9, ← uI HE8] at hz; rw [each_succ]; simpa only [List.append_assoc] using hz, K9⟩
   · have hkI : ¬ (k : Int) < (n : Int) := by omega
     have HKE := zH (show k = n by omega)
     have c2 := (uI HW).words
     go_wp2_with fail
     go_end0
     refine ⟨rfl, ⟨gg, ?_⟩, uI HK⟩
     have hz := uI HW
     skip
     rw [uI HKE] at hz
     unfold withT
     simpa only [List.append_assoc] using hz
theorem neg_any (B b n : Nat) (t : List UInt8) (g : Option Nat) (pl : List UInt8) (w : World) (h : Wr w B b n t g) (hn1 : 1 ≤ n) (hn : n ≤ 4) (hl : t.length ≤ 900000) (hBw : B ≤ w.heap.size) (hpl10 : pl.length ≤ 10) : Calls Tryz.prog 185 #[.pointer (some ⟨b, 0, none⟩), .string (sb pl)] w fun e w' => e = .returned (.tuple #[]) ∧ (∃ g', Wr w' B b n (t ++ negT pl n) g') ∧ Below B w w' := by
 have hpl20 : pl.length ≤ 20 := by omega
 have H0 := zH h
 have K0 := zH (Below.refl B w)
 have hnI : (n : Int) ≤ 4 := by omega
 have hnI1 : (1 : Int) ≤ (n : Int) := by omega
 have c2 := h.words
 clear h
 go_enter Tryz.func185, Tryz.ntmps185
 go_wp2_with fail
 have HE := zH (fun k => each_len (n := k) (f := (fun k => insT [108, 100, 105] [[114, 54], [48]] ++ insT [108, 100] [hld 0, pl, dgs k] ++ insT (chd k [115, 117, 98] [115, 98, 99]) [[114, 54], hld 0] ++ insT [115, 116] [pl, [114, 54], dgs k])) (c := 600) (fun k => by (try simp only [List.length_append]); have e0 := insT_len (kd := [108, 100, 105]) (fs := [[114, 54], [48]]) (by decide) (by simp) (fmc (by decide) (fmc (by decide) fmn)); have e1 := insT_len (kd := [108, 100]) (fs := [hld 0, pl, dgs k]) (by decide) (by simp) (fmc (hld_len _) (fmc hpl20 (fmc (dgs_len20 _) fmn))); have e2 := insT_len (kd := (chd k [115, 117, 98] [115, 98, 99])) (fs := [[114, 54], hld 0]) (chd_len _ (by decide) (by decide)) (by simp) (fmc (by decide) (fmc (hld_len _) fmn)); have e3 := insT_len (kd := [115, 116]) (fs := [pl, [114, 54], dgs k]) (by decide) (by simp) (fmc hpl20 (fmc (by decide) (fmc (dgs_len20 _) fmn))); omega))
 go_loopg [9] n (fun gm tt wr => ∃ (k : Nat) (gg : Option Nat), k ≤ n ∧ gm = n - k ∧ tt = .int .i64 (k : Int) ∧ Hid (Wr wr B b n (t ++ each k (fun k => insT [108, 100, 105] [[114, 54], [48]] ++ insT [108, 100] [hld 0, pl, dgs k] ++ insT (chd k [115, 117, 98] [115, 98, 99]) [[114, 54], hld 0] ++ insT [115, 116] [pl, [114, 54], dgs k])) gg) ∧ Hid (Below B w wr))
 case atStart => exact ⟨0, g, Nat.zero_le _, rfl, rfl, by simpa [each] using H0, K0⟩
 case round =>
   obtain ⟨k, gg, hk, hgm, rfl, HW, HK⟩ := hrel
   generalize wr = W0 at *
   have lbw : B ≤ W0.heap.size := Nat.le_trans hBw (show _ from (uI HK).size)
   have hEk := uI HE k
   have hT0 : (t ++ each k (fun k => insT [108, 100, 105] [[114, 54], [48]] ++ insT [108, 100] [hld 0, pl, dgs k] ++ insT (chd k [115, 117, 98] [115, 98, 99]) [[114, 54], hld 0] ++ insT [115, 116] [pl, [114, 54], dgs k])).length = (t).length + (each k (fun k => insT [108, 100, 105] [[114, 54], [48]] ++ insT [108, 100] [hld 0, pl, dgs k] ++ insT (chd k [115, 117, 98] [115, 98, 99]) [[114, 54], hld 0] ++ insT [115, 116] [pl, [114, 54], dgs k])).length := List.length_append
   clear H0 K0 c2
   have hkn : k * 600 ≤ 2400 := by omega
   by_cases hlt : k < n
   · have hkI : (k : Int) < (n : Int) := by omega
     have hk0 : (0 : Int) ≤ (k : Int) := by omega
     have HD := zH (do_at B b n (t ++ each k (fun k => insT [108, 100, 105] [[114, 54], [48]] ++ insT [108, 100] [hld 0, pl, dgs k] ++ insT (chd k [115, 117, 98] [115, 98, 99]) [[114, 54], hld 0] ++ insT [115, 116] [pl, [114, 54], dgs k])) gg [108, 100, 105] [[114, 54], [48]] W0 (uI HW) (by simp) (by simp) (fmc (by decide) (fmc (by decide) fmn)) (by omega) (by decide) lbw)
     have HD2 : Hid (Calls Tryz.prog 138 #[.pointer (some ⟨b, 0, none⟩), .string ⟨#[108, 100, 105]⟩, .slice (some ⟨W0.heap.size, 0, none⟩) 2 2] (W0.alloc (.cells #[.string ⟨#[114, 54]⟩, .string ⟨#[48]⟩] 9)) fun e w' => e = .returned (.tuple #[]) ∧ (∃ g', Wr w' B b n ((t ++ each k (fun k => insT [108, 100, 105] [[114, 54], [48]] ++ insT [108, 100] [hld 0, pl, dgs k] ++ insT (chd k [115, 117, 98] [115, 98, 99]) [[114, 54], hld 0] ++ insT [115, 116] [pl, [114, 54], dgs k])) ++ insT [108, 100, 105] [[114, 54], [48]]) g') ∧ Below B W0 w') := HD
     have hl10 := insT_len (kd := [108, 100, 105]) (fs := [[114, 54], [48]]) (by decide) (by simp) (fmc (by decide) (fmc (by decide) fmn))
     clear HD
     go_wp2_with fail
     refine (uI HD2).mono ?_
     rintro e w10 ⟨rfl, ⟨g10, hH10⟩, kK10⟩
     generalize hE10 : (t ++ each k (fun k => insT [108, 100, 105] [[114, 54], [48]] ++ insT [108, 100] [hld 0, pl, dgs k] ++ insT (chd k [115, 117, 98] [115, 98, 99]) [[114, 54], hld 0] ++ insT [115, 116] [pl, [114, 54], dgs k])) ++ insT [108, 100, 105] [[114, 54], [48]] = T10 at hH10
     have H10 := zH hH10
     have K10 := zH ((uI HK).trans kK10)
     have lb10 : B ≤ w10.heap.size := Nat.le_trans lbw kK10.size
     clear HD2 hH10 kK10 HW HK
     have hT10 : T10.length = ((t ++ each k (fun k => insT [108, 100, 105] [[114, 54], [48]] ++ insT [108, 100] [hld 0, pl, dgs k] ++ insT (chd k [115, 117, 98] [115, 98, 99]) [[114, 54], hld 0] ++ insT [115, 116] [pl, [114, 54], dgs k]))).length + (insT [108, 100, 105] [[114, 54], [48]]).length := by rw [← hE10]; exact List.length_append
     have HE10 := zH hE10
     clear hE10
     have HH := zH (fun W => held_any 0 (by omega) W)
     rw [show ((0 : Nat) : Int) = 0 by omega] at HH
     go_wp2_with fail
     refine (uI HH _).mono ?_
     rintro e wq ⟨rfl, hq⟩
     subst wq
     clear HH
     have HH := zH (fun W => digits_any k (by omega) W)
     go_wp2_with fail
     refine (uI HH _).mono ?_
     rintro e wq ⟨rfl, hq⟩
     subst wq
     clear HH
     have HD := zH (do_at B b n T10 g10 [108, 100] [hld 0, pl, dgs k] w10 (uI H10) (by simp) (by simp) (fmc (hld_len _) (fmc hpl20 (fmc (dgs_len20 _) fmn))) (by omega) (by decide) lb10)
     have HD2 : Hid (Calls Tryz.prog 138 #[.pointer (some ⟨b, 0, none⟩), .string ⟨#[108, 100]⟩, .slice (some ⟨w10.heap.size, 0, none⟩) 3 3] (w10.alloc (.cells #[.string (sb (hld 0)), .string (sb (pl)), .string (sb (dgs k))] 9)) fun e w' => e = .returned (.tuple #[]) ∧ (∃ g', Wr w' B b n (T10 ++ insT [108, 100] [hld 0, pl, dgs k]) g') ∧ Below B w10 w') := HD
     have hl11 := insT_len (kd := [108, 100]) (fs := [hld 0, pl, dgs k]) (by decide) (by simp) (fmc (hld_len _) (fmc hpl20 (fmc (dgs_len20 _) fmn)))
     clear HD
     go_wp2_with fail
     refine (uI HD2).mono ?_
     rintro e w11 ⟨rfl, ⟨g11, hH11⟩, kK11⟩
     generalize hE11 : T10 ++ insT [108, 100] [hld 0, pl, dgs k] = T11 at hH11
     have H11 := zH hH11
     have K11 := zH ((uI K10).trans kK11)
     have lb11 : B ≤ w11.heap.size := Nat.le_trans lb10 kK11.size
     clear HD2 hH11 kK11 H10 K10
     have hT11 : T11.length = (T10).length + (insT [108, 100] [hld 0, pl, dgs k]).length := by rw [← hE11]; exact List.length_append
     have HE11 := zH hE11
     clear hE11
     have HH := zH (fun W => chained_any k [115, 117, 98] [115, 98, 99] W)
     go_wp2_with fail
     refine (uI HH _).mono ?_
     rintro e wq ⟨rfl, hq⟩
     subst wq
     clear HH
     have HH := zH (fun W => held_any 0 (by omega) W)
     rw [show ((0 : Nat) : Int) = 0 by omega] at HH
     go_wp2_with fail
     refine (uI HH _).mono ?_
     rintro e wq ⟨rfl, hq⟩
     subst wq
     clear HH
     have HD := zH (do_at B b n T11 g11 (chd k [115, 117, 98] [115, 98, 99]) [[114, 54], hld 0] w11 (uI H11) (by simp) (by simp) (fmc (by decide) (fmc (hld_len _) fmn)) (by omega) (chd_len _ (by decide) (by decide)) lb11)
     have HD2 : Hid (Calls Tryz.prog 138 #[.pointer (some ⟨b, 0, none⟩), .string (sb ((chd k [115, 117, 98] [115, 98, 99]))), .slice (some ⟨w11.heap.size, 0, none⟩) 2 2] (w11.alloc (.cells #[.string ⟨#[114, 54]⟩, .string (sb (hld 0))] 9)) fun e w' => e = .returned (.tuple #[]) ∧ (∃ g', Wr w' B b n (T11 ++ insT (chd k [115, 117, 98] [115, 98, 99]) [[114, 54], hld 0]) g') ∧ Below B w11 w') := HD
     have hl12 := insT_len (kd := (chd k [115, 117, 98] [115, 98, 99])) (fs := [[114, 54], hld 0]) (chd_len _ (by decide) (by decide)) (by simp) (fmc (by decide) (fmc (hld_len _) fmn))
     clear HD
     go_wp2_with fail
     refine (uI HD2).mono ?_
     rintro e w12 ⟨rfl, ⟨g12, hH12⟩, kK12⟩
     generalize hE12 : T11 ++ insT (chd k [115, 117, 98] [115, 98, 99]) [[114, 54], hld 0] = T12 at hH12
     have H12 := zH hH12
     have K12 := zH ((uI K11).trans kK12)
     have lb12 : B ≤ w12.heap.size := Nat.le_trans lb11 kK12.size
     clear HD2 hH12 kK12 H11 K11
     have hT12 : T12.length = (T11).length + (insT (chd k [115, 117, 98] [115, 98, 99]) [[114, 54], hld 0]).length := by rw [← hE12]; exact List.length_append
     have HE12 := zH hE12
     clear hE12
     have HH := zH (fun W => digits_any k (by omega) W)
     go_wp2_with fail
     refine (uI HH _).mono ?_
     rintro e wq ⟨rfl, hq⟩
     subst wq
     clear HH
     have HD := zH (do_at B b n T12 g12 [115, 116] [pl, [114, 54], dgs k] w12 (uI H12) (by simp) (by simp) (fmc hpl20 (fmc (by decide) (fmc (dgs_len20 _) fmn))) (by omega) (by decide) lb12)
     have HD2 : Hid (Calls Tryz.prog 138 #[.pointer (some ⟨b, 0, none⟩), .string ⟨#[115, 116]⟩, .slice (some ⟨w12.heap.size, 0, none⟩) 3 3] (w12.alloc (.cells #[.string (sb (pl)), .string ⟨#[114, 54]⟩, .string (sb (dgs k))] 9)) fun e w' => e = .returned (.tuple #[]) ∧ (∃ g', Wr w' B b n (T12 ++ insT [115, 116] [pl, [114, 54], dgs k]) g') ∧ Below B w12 w') := HD
     have hl13 := insT_len (kd := [115, 116]) (fs := [pl, [114, 54], dgs k]) (by decide) (by simp) (fmc hpl20 (fmc (by decide) (fmc (dgs_len20 _) fmn)))
     clear HD
     go_wp2_with fail
     refine (uI HD2).mono ?_
     rintro e w13 ⟨rfl, ⟨g13, hH13⟩, kK13⟩
     generalize hE13 : T12 ++ insT [115, 116] [pl, [114, 54], dgs k] = T13 at hH13
     have H13 := zH hH13
     have K13 := zH ((uI K12).trans kK13)
     have lb13 : B ≤ w13.heap.size := Nat.le_trans lb12 kK13.size
     clear HD2 hH13 kK13 H12 K12
     have hT13 : T13.length = (T12).length + (insT [115, 116] [pl, [114, 54], dgs k]).length := by rw [← hE13]; exact List.length_append
     have HE13 := zH hE13
     clear hE13
     go_wp2_with fail
     go_roundg (n - (k + 1))
     case measure => omega
     case rel => exact ⟨k + 1, _, by omega, rfl, by go_num, by have hz := H13; rw [← uI HE13, ← uI HE12, ← uI HE11, ← uI HE10] at hz; rw [each_succ]; simpa only [List.append_assoc] using hz, K13⟩
   · have hkI : ¬ (k : Int) < (n : Int) := by omega
     have HKE := zH (show k = n by omega)
     have c2 := (uI HW).words
     go_wp2_with fail
     go_end0
     refine ⟨rfl, ⟨gg, ?_⟩, uI HK⟩
     have hz := uI HW
     skip
     rw [uI HKE] at hz
     unfold negT
     simpa only [List.append_assoc] using hz
theorem push_anyW (B b n : Nat) (t : List UInt8) (g : Option Nat)  (w : World) (h : Wr w B b n t g) (hn1 : 1 ≤ n) (hn : n ≤ 4) (hl : t.length ≤ 900000) (hBw : B ≤ w.heap.size)  : Calls Tryz.prog 176 #[.pointer (some ⟨b, 0, none⟩)] w fun e w' => e = .returned (.tuple #[]) ∧ (∃ g', Wr w' B b n (t ++ pushT n) g') ∧ Below B w w' := by
 have H0 := zH h
 have K0 := zH (Below.refl B w)
 have hnI : (n : Int) ≤ 4 := by omega
 have hnI1 : (1 : Int) ≤ (n : Int) := by omega
 have c2 := h.words
 clear h
 go_enter Tryz.func176, Tryz.ntmps176
 go_wp2_with fail
 have HE := zH (fun k => each_len (n := k) (f := (fun k => insT [108, 100] [[114, 54], [114, 49], dgs (n - 1 - k)] ++ insT [112, 117, 115, 104] [[114, 54]])) (c := 300) (fun k => by (try simp only [List.length_append]); have e0 := insT_len (kd := [108, 100]) (fs := [[114, 54], [114, 49], dgs (n - 1 - k)]) (by decide) (by simp) (fmc (by decide) (fmc (by decide) (fmc (dgs_len20 _) fmn))); have e1 := insT_len (kd := [112, 117, 115, 104]) (fs := [[114, 54]]) (by decide) (by simp) (fmc (by decide) fmn); omega))
 go_loopg [7] n (fun gm tt wr => ∃ (k : Nat) (gg : Option Nat), k ≤ n ∧ gm = n - k ∧ tt = .int .i64 (k : Int) ∧ Hid (Wr wr B b n (t ++ each k (fun k => insT [108, 100] [[114, 54], [114, 49], dgs (n - 1 - k)] ++ insT [112, 117, 115, 104] [[114, 54]])) gg) ∧ Hid (Below B w wr))
 case atStart => exact ⟨0, g, Nat.zero_le _, rfl, rfl, by simpa [each] using H0, K0⟩
 case round =>
   obtain ⟨k, gg, hk, hgm, rfl, HW, HK⟩ := hrel
   generalize wr = W0 at *
   have lbw : B ≤ W0.heap.size := Nat.le_trans hBw (show _ from (uI HK).size)
   have hEk := uI HE k
   have hT0 : (t ++ each k (fun k => insT [108, 100] [[114, 54], [114, 49], dgs (n - 1 - k)] ++ insT [112, 117, 115, 104] [[114, 54]])).length = (t).length + (each k (fun k => insT [108, 100] [[114, 54], [114, 49], dgs (n - 1 - k)] ++ insT [112, 117, 115, 104] [[114, 54]])).length := List.length_append
   clear H0 K0 c2
   have hkn : k * 300 ≤ 1200 := by omega
   by_cases hlt : k < n
   · have hkI : (k : Int) < (n : Int) := by omega
     have hk0 : (0 : Int) ≤ (k : Int) := by omega
     have c2 := (uI HW).words
     have HH := zH (fun W => digits_any (n - 1 - k) (by omega) W)
     rw [show (((n - 1 - k) : Nat) : Int) = (n : Int) - 1 - (k : Int) by omega] at HH
     go_wp2_with fail
     refine (uI HH _).mono ?_
     rintro e wq ⟨rfl, hq⟩
     subst wq
     clear HH
     have HD := zH (do_at B b n (t ++ each k (fun k => insT [108, 100] [[114, 54], [114, 49], dgs (n - 1 - k)] ++ insT [112, 117, 115, 104] [[114, 54]])) gg [108, 100] [[114, 54], [114, 49], dgs (n - 1 - k)] W0 (uI HW) (by simp) (by simp) (fmc (by decide) (fmc (by decide) (fmc (dgs_len20 _) fmn))) (by omega) (by decide) lbw)
     have HD2 : Hid (Calls Tryz.prog 138 #[.pointer (some ⟨b, 0, none⟩), .string ⟨#[108, 100]⟩, .slice (some ⟨W0.heap.size, 0, none⟩) 3 3] (W0.alloc (.cells #[.string ⟨#[114, 54]⟩, .string ⟨#[114, 49]⟩, .string (sb (dgs (n - 1 - k)))] 9)) fun e w' => e = .returned (.tuple #[]) ∧ (∃ g', Wr w' B b n ((t ++ each k (fun k => insT [108, 100] [[114, 54], [114, 49], dgs (n - 1 - k)] ++ insT [112, 117, 115, 104] [[114, 54]])) ++ insT [108, 100] [[114, 54], [114, 49], dgs (n - 1 - k)]) g') ∧ Below B W0 w') := HD
     have hl14 := insT_len (kd := [108, 100]) (fs := [[114, 54], [114, 49], dgs (n - 1 - k)]) (by decide) (by simp) (fmc (by decide) (fmc (by decide) (fmc (dgs_len20 _) fmn)))
     clear HD
     go_wp2_with fail
     refine (uI HD2).mono ?_
     rintro e w14 ⟨rfl, ⟨g14, hH14⟩, kK14⟩
     generalize hE14 : (t ++ each k (fun k => insT [108, 100] [[114, 54], [114, 49], dgs (n - 1 - k)] ++ insT [112, 117, 115, 104] [[114, 54]])) ++ insT [108, 100] [[114, 54], [114, 49], dgs (n - 1 - k)] = T14 at hH14
     have H14 := zH hH14
     have K14 := zH ((uI HK).trans kK14)
     have lb14 : B ≤ w14.heap.size := Nat.le_trans lbw kK14.size
     clear HD2 hH14 kK14 HW HK
     have hT14 : T14.length = ((t ++ each k (fun k => insT [108, 100] [[114, 54], [114, 49], dgs (n - 1 - k)] ++ insT [112, 117, 115, 104] [[114, 54]]))).length + (insT [108, 100] [[114, 54], [114, 49], dgs (n - 1 - k)]).length := by rw [← hE14]; exact List.length_append
     have HE14 := zH hE14
     clear hE14
     have HD := zH (do_at B b n T14 g14 [112, 117, 115, 104] [[114, 54]] w14 (uI H14) (by simp) (by simp) (fmc (by decide) fmn) (by omega) (by decide) lb14)
     have HD2 : Hid (Calls Tryz.prog 138 #[.pointer (some ⟨b, 0, none⟩), .string ⟨#[112, 117, 115, 104]⟩, .slice (some ⟨w14.heap.size, 0, none⟩) 1 1] (w14.alloc (.cells #[.string ⟨#[114, 54]⟩] 9)) fun e w' => e = .returned (.tuple #[]) ∧ (∃ g', Wr w' B b n (T14 ++ insT [112, 117, 115, 104] [[114, 54]]) g') ∧ Below B w14 w') := HD
     have hl15 := insT_len (kd := [112, 117, 115, 104]) (fs := [[114, 54]]) (by decide) (by simp) (fmc (by decide) fmn)
     clear HD
     go_wp2_with fail
     refine (uI HD2).mono ?_
     rintro e w15 ⟨rfl, ⟨g15, hH15⟩, kK15⟩
     generalize hE15 : T14 ++ insT [112, 117, 115, 104] [[114, 54]] = T15 at hH15
     have H15 := zH hH15
     have K15 := zH ((uI K14).trans kK15)
     have lb15 : B ≤ w15.heap.size := Nat.le_trans lb14 kK15.size
     clear HD2 hH15 kK15 H14 K14
     have hT15 : T15.length = (T14).length + (insT [112, 117, 115, 104] [[114, 54]]).length := by rw [← hE15]; exact List.length_append
     have HE15 := zH hE15
     clear hE15
     go_wp2_with fail
     go_roundg (n - (k + 1))
     case measure => omega
     case rel => exact ⟨k + 1, _, by omega, rfl, by go_num, by have hz := H15; rw [← uI HE15, ← uI HE14] at hz; rw [each_succ]; simpa only [List.append_assoc] using hz, K15⟩
   · have hkI : ¬ (k : Int) < (n : Int) := by omega
     have HKE := zH (show k = n by omega)
     have c2 := (uI HW).words
     go_wp2_with fail
     go_end0
     refine ⟨rfl, ⟨gg, ?_⟩, uI HK⟩
     have hz := uI HW
     skip
     rw [uI HKE] at hz
     unfold pushT
     simpa only [List.append_assoc] using hz
theorem trapZ_any (B b n : Nat) (t : List UInt8) (g : Option Nat)  (w : World) (h : Wr w B b n t g) (hn1 : 1 ≤ n) (hn : n ≤ 4) (hl : t.length ≤ 900000) (hBw : B ≤ w.heap.size)  : Calls Tryz.prog 144 #[.pointer (some ⟨b, 0, none⟩)] w fun e w' => e = .returned (.tuple #[]) ∧ (∃ g', Wr w' B b n (t ++ trapT n) g') ∧ Below B w w' := by
 have H0 := zH h
 have K0 := zH (Below.refl B w)
 have hnI : (n : Int) ≤ 4 := by omega
 have hnI1 : (1 : Int) ≤ (n : Int) := by omega
 have c2 := h.words
 clear h
 go_enter Tryz.func144, Tryz.ntmps144
 have HD := zH (do_at B b n t g [108, 100, 105] [[114, 54], [48]] w (uI H0) (by simp) (by simp) (fmc (by decide) (fmc (by decide) fmn)) (by omega) (by decide) hBw)
 have HD2 : Hid (Calls Tryz.prog 138 #[.pointer (some ⟨b, 0, none⟩), .string ⟨#[108, 100, 105]⟩, .slice (some ⟨w.heap.size, 0, none⟩) 2 2] (w.alloc (.cells #[.string ⟨#[114, 54]⟩, .string ⟨#[48]⟩] 9)) fun e w' => e = .returned (.tuple #[]) ∧ (∃ g', Wr w' B b n (t ++ insT [108, 100, 105] [[114, 54], [48]]) g') ∧ Below B w w') := HD
 have hl16 := insT_len (kd := [108, 100, 105]) (fs := [[114, 54], [48]]) (by decide) (by simp) (fmc (by decide) (fmc (by decide) fmn))
 clear HD
 go_wp2_with fail
 refine (uI HD2).mono ?_
 rintro e w16 ⟨rfl, ⟨g16, hH16⟩, kK16⟩
 generalize hE16 : t ++ insT [108, 100, 105] [[114, 54], [48]] = T16 at hH16
 have H16 := zH hH16
 have K16 := zH ((uI K0).trans kK16)
 have lb16 : B ≤ w16.heap.size := Nat.le_trans hBw kK16.size
 clear HD2 hH16 kK16 H0 K0
 have hT16 : T16.length = (t).length + (insT [108, 100, 105] [[114, 54], [48]]).length := by rw [← hE16]; exact List.length_append
 have HE16 := zH hE16
 clear hE16
 have c2 := (uI H16).words
 go_wp2_with fail
 have HE := zH (fun k => each_len (n := k) (f := (fun k => insT [108, 100] [hld 0, [114, 49], dgs k] ++ insT [111, 114] [[114, 54], hld 0])) (c := 300) (fun k => by (try simp only [List.length_append]); have e0 := insT_len (kd := [108, 100]) (fs := [hld 0, [114, 49], dgs k]) (by decide) (by simp) (fmc (hld_len _) (fmc (by decide) (fmc (dgs_len20 _) fmn))); have e1 := insT_len (kd := [111, 114]) (fs := [[114, 54], hld 0]) (by decide) (by simp) (fmc (by decide) (fmc (hld_len _) fmn)); omega))
 go_loopg [10] n (fun gm tt wr => ∃ (k : Nat) (gg : Option Nat), k ≤ n ∧ gm = n - k ∧ tt = .int .i64 (k : Int) ∧ Hid (Wr wr B b n (T16 ++ each k (fun k => insT [108, 100] [hld 0, [114, 49], dgs k] ++ insT [111, 114] [[114, 54], hld 0])) gg) ∧ Hid (Below B w wr))
 case atStart => exact ⟨0, g16, Nat.zero_le _, rfl, rfl, by simpa [each] using H16, K16⟩
 case round =>
   obtain ⟨k, gg, hk, hgm, rfl, HW, HK⟩ := hrel
   generalize wr = W0 at *
   have lbw : B ≤ W0.heap.size := Nat.le_trans hBw (show _ from (uI HK).size)
   have hEk := uI HE k
   have hT0 : (T16 ++ each k (fun k => insT [108, 100] [hld 0, [114, 49], dgs k] ++ insT [111, 114] [[114, 54], hld 0])).length = (T16).length + (each k (fun k => insT [108, 100] [hld 0, [114, 49], dgs k] ++ insT [111, 114] [[114, 54], hld 0])).length := List.length_append
   clear H16 K16 c2
   have hkn : k * 300 ≤ 1200 := by omega
   by_cases hlt : k < n
   · have hkI : (k : Int) < (n : Int) := by omega
     have hk0 : (0 : Int) ≤ (k : Int) := by omega
     have HH := zH (fun W => held_any 0 (by omega) W)
     rw [show ((0 : Nat) : Int) = 0 by omega] at HH
     go_wp2_with fail
     refine (uI HH _).mono ?_
     rintro e wq ⟨rfl, hq⟩
     subst wq
     clear HH
     have HH := zH (fun W => digits_any k (by omega) W)
     go_wp2_with fail
     refine (uI HH _).mono ?_
     rintro e wq ⟨rfl, hq⟩
     subst wq
     clear HH
     have HD := zH (do_at B b n (T16 ++ each k (fun k => insT [108, 100] [hld 0, [114, 49], dgs k] ++ insT [111, 114] [[114, 54], hld 0])) gg [108, 100] [hld 0, [114, 49], dgs k] W0 (uI HW) (by simp) (by simp) (fmc (hld_len _) (fmc (by decide) (fmc (dgs_len20 _) fmn))) (by omega) (by decide) lbw)
     have HD2 : Hid (Calls Tryz.prog 138 #[.pointer (some ⟨b, 0, none⟩), .string ⟨#[108, 100]⟩, .slice (some ⟨W0.heap.size, 0, none⟩) 3 3] (W0.alloc (.cells #[.string (sb (hld 0)), .string ⟨#[114, 49]⟩, .string (sb (dgs k))] 9)) fun e w' => e = .returned (.tuple #[]) ∧ (∃ g', Wr w' B b n ((T16 ++ each k (fun k => insT [108, 100] [hld 0, [114, 49], dgs k] ++ insT [111, 114] [[114, 54], hld 0])) ++ insT [108, 100] [hld 0, [114, 49], dgs k]) g') ∧ Below B W0 w') := HD
     have hl17 := insT_len (kd := [108, 100]) (fs := [hld 0, [114, 49], dgs k]) (by decide) (by simp) (fmc (hld_len _) (fmc (by decide) (fmc (dgs_len20 _) fmn)))
     clear HD
     go_wp2_with fail
     refine (uI HD2).mono ?_
     rintro e w17 ⟨rfl, ⟨g17, hH17⟩, kK17⟩
     generalize hE17 : (T16 ++ each k (fun k => insT [108, 100] [hld 0, [114, 49], dgs k] ++ insT [111, 114] [[114, 54], hld 0])) ++ insT [108, 100] [hld 0, [114, 49], dgs k] = T17 at hH17
     have H17 := zH hH17
     have K17 := zH ((uI HK).trans kK17)
     have lb17 : B ≤ w17.heap.size := Nat.le_trans lbw kK17.size
     clear HD2 hH17 kK17 HW HK
     have hT17 : T17.length = ((T16 ++ each k (fun k => insT [108, 100] [hld 0, [114, 49], dgs k] ++ insT [111, 114] [[114, 54], hld 0]))).length + (insT [108, 100] [hld 0, [114, 49], dgs k]).length := by rw [← hE17]; exact List.length_append
     have HE17 := zH hE17
     clear hE17
     have HH := zH (fun W => held_any 0 (by omega) W)
     rw [show ((0 : Nat) : Int) = 0 by omega] at HH
     go_wp2_with fail
     refine (uI HH _).mono ?_
     rintro e wq ⟨rfl, hq⟩
     subst wq
     clear HH
     have HD := zH (do_at B b n T17 g17 [111, 114] [[114, 54], hld 0] w17 (uI H17) (by simp) (by simp) (fmc (by decide) (fmc (hld_len _) fmn)) (by omega) (by decide) lb17)
     have HD2 : Hid (Calls Tryz.prog 138 #[.pointer (some ⟨b, 0, none⟩), .string ⟨#[111, 114]⟩, .slice (some ⟨w17.heap.size, 0, none⟩) 2 2] (w17.alloc (.cells #[.string ⟨#[114, 54]⟩, .string (sb (hld 0))] 9)) fun e w' => e = .returned (.tuple #[]) ∧ (∃ g', Wr w' B b n (T17 ++ insT [111, 114] [[114, 54], hld 0]) g') ∧ Below B w17 w') := HD
     have hl18 := insT_len (kd := [111, 114]) (fs := [[114, 54], hld 0]) (by decide) (by simp) (fmc (by decide) (fmc (hld_len _) fmn))
     clear HD
     go_wp2_with fail
     refine (uI HD2).mono ?_
     rintro e w18 ⟨rfl, ⟨g18, hH18⟩, kK18⟩
     generalize hE18 : T17 ++ insT [111, 114] [[114, 54], hld 0] = T18 at hH18
     have H18 := zH hH18
     have K18 := zH ((uI K17).trans kK18)
     have lb18 : B ≤ w18.heap.size := Nat.le_trans lb17 kK18.size
     clear HD2 hH18 kK18 H17 K17
     have hT18 : T18.length = (T17).length + (insT [111, 114] [[114, 54], hld 0]).length := by rw [← hE18]; exact List.length_append
     have HE18 := zH hE18
     clear hE18
     go_wp2_with fail
     go_roundg (n - (k + 1))
     case measure => omega
     case rel => exact ⟨k + 1, _, by omega, rfl, by go_num, by have hz := H18; rw [← uI HE18, ← uI HE17] at hz; rw [each_succ]; simpa only [List.append_assoc] using hz, K18⟩
   · have hkI : ¬ (k : Int) < (n : Int) := by omega
     have HKE := zH (show k = n by omega)
     have c2 := (uI HW).words
     have HD := zH (do_at B b n (T16 ++ each k (fun k => insT [108, 100] [hld 0, [114, 49], dgs k] ++ insT [111, 114] [[114, 54], hld 0])) gg [106, 110, 122] [[46, 102, 105, 110, 101]] W0 (uI HW) (by simp) (by simp) (fmc (by decide) fmn) (by omega) (by decide) lbw)
     have HD2 : Hid (Calls Tryz.prog 138 #[.pointer (some ⟨b, 0, none⟩), .string ⟨#[106, 110, 122]⟩, .slice (some ⟨W0.heap.size, 0, none⟩) 1 1] (W0.alloc (.cells #[.string ⟨#[46, 102, 105, 110, 101]⟩] 9)) fun e w' => e = .returned (.tuple #[]) ∧ (∃ g', Wr w' B b n ((T16 ++ each k (fun k => insT [108, 100] [hld 0, [114, 49], dgs k] ++ insT [111, 114] [[114, 54], hld 0])) ++ insT [106, 110, 122] [[46, 102, 105, 110, 101]]) g') ∧ Below B W0 w') := HD
     have hl19 := insT_len (kd := [106, 110, 122]) (fs := [[46, 102, 105, 110, 101]]) (by decide) (by simp) (fmc (by decide) fmn)
     clear HD
     go_wp2_with fail
     refine (uI HD2).mono ?_
     rintro e w19 ⟨rfl, ⟨g19, hH19⟩, kK19⟩
     generalize hE19 : (T16 ++ each k (fun k => insT [108, 100] [hld 0, [114, 49], dgs k] ++ insT [111, 114] [[114, 54], hld 0])) ++ insT [106, 110, 122] [[46, 102, 105, 110, 101]] = T19 at hH19
     have H19 := zH hH19
     have K19 := zH ((uI HK).trans kK19)
     have lb19 : B ≤ w19.heap.size := Nat.le_trans lbw kK19.size
     clear HD2 hH19 kK19 HW HK
     have hT19 : T19.length = ((T16 ++ each k (fun k => insT [108, 100] [hld 0, [114, 49], dgs k] ++ insT [111, 114] [[114, 54], hld 0]))).length + (insT [106, 110, 122] [[46, 102, 105, 110, 101]]).length := by rw [← hE19]; exact List.length_append
     have HE19 := zH hE19
     clear hE19
     have HD := zH (do_at B b n T19 g19 [116, 114, 97, 112] [[49]] w19 (uI H19) (by simp) (by simp) (fmc (by decide) fmn) (by omega) (by decide) lb19)
     have HD2 : Hid (Calls Tryz.prog 138 #[.pointer (some ⟨b, 0, none⟩), .string ⟨#[116, 114, 97, 112]⟩, .slice (some ⟨w19.heap.size, 0, none⟩) 1 1] (w19.alloc (.cells #[.string ⟨#[49]⟩] 9)) fun e w' => e = .returned (.tuple #[]) ∧ (∃ g', Wr w' B b n (T19 ++ insT [116, 114, 97, 112] [[49]]) g') ∧ Below B w19 w') := HD
     have hl20 := insT_len (kd := [116, 114, 97, 112]) (fs := [[49]]) (by decide) (by simp) (fmc (by decide) fmn)
     clear HD
     go_wp2_with fail
     refine (uI HD2).mono ?_
     rintro e w20 ⟨rfl, ⟨g20, hH20⟩, kK20⟩
     generalize hE20 : T19 ++ insT [116, 114, 97, 112] [[49]] = T20 at hH20
     have H20 := zH hH20
     have K20 := zH ((uI K19).trans kK20)
     have lb20 : B ≤ w20.heap.size := Nat.le_trans lb19 kK20.size
     clear HD2 hH20 kK20 H19 K19
     have hT20 : T20.length = (T19).length + (insT [116, 114, 97, 112] [[49]]).length := by rw [← hE20]; exact List.length_append
     have HE20 := zH hE20
     clear hE20
     have HD := zH (label_any B b n T20 g20 [46, 102, 105, 110, 101] w20 (uI H20) (by have : ([46, 102, 105, 110, 101]).length ≤ 20 := (by decide); omega) lb20)
     have HD2 : Hid (Calls Tryz.prog 73 #[.pointer (some ⟨b, 0, none⟩), .string ⟨#[46, 102, 105, 110, 101]⟩] w20 fun e w' => e = .returned (.tuple #[]) ∧ (∃ g', Wr w' B b n (T20 ++ labT [46, 102, 105, 110, 101]) g') ∧ Below B w20 w') := HD
     have hl21 := labT_len (s := [46, 102, 105, 110, 101]) (by decide)
     clear HD
     go_wp2_with fail
     refine (uI HD2).mono ?_
     rintro e w21 ⟨rfl, ⟨g21, hH21⟩, kK21⟩
     generalize hE21 : T20 ++ labT [46, 102, 105, 110, 101] = T21 at hH21
     have H21 := zH hH21
     have K21 := zH ((uI K20).trans kK21)
     have lb21 : B ≤ w21.heap.size := Nat.le_trans lb20 kK21.size
     clear HD2 hH21 kK21 H20 K20
     have hT21 : T21.length = (T20).length + (labT [46, 102, 105, 110, 101]).length := by rw [← hE21]; exact List.length_append
     have HE21 := zH hE21
     clear hE21
     go_wp2_with fail
     go_end0
     refine ⟨rfl, ⟨g21, ?_⟩, uI K21⟩
     have hz := uI H21
     rw [← uI HE21, ← uI HE20, ← uI HE19, ← uI HE16] at hz; 
     rw [uI HKE] at hz
     unfold trapT
     simpa only [List.append_assoc] using hz
end Go.Proofs.YtlkoidkdeopgjaaGreatDoor
