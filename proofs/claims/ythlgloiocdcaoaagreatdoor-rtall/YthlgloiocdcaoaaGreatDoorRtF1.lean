/-
  Routines: what the writer's functions write.
-/
import Derived.Test.YthlgloiocdcaoaaGreatDoorRtV
namespace Go.Proofs.YthlgloiocdcaoaaGreatDoor
open Go.RowKit
set_option linter.unusedSimpArgs false
set_option linter.unusedVariables false

theorem hld_len (k : Nat) : (hld k).length ≤ 20 := by have := dgs_len (2 + k); unfold hld; simp; omega
theorem dgs_len20 (k : Nat) : (dgs k).length ≤ 20 := by have := dgs_len k; omega
theorem cat_len {s : List UInt8} (h : s.length ≤ 10) (k : Nat) : (s ++ dgs k).length ≤ 20 := by have := dgs_len k; simp; omega
theorem chd_len {a c : List UInt8} (k : Nat) (ha : a.length ≤ 10) (hc : c.length ≤ 10) : (chd k a c).length ≤ 10 := by unfold chd; split <;> assumption
theorem insT_len {kd : List UInt8} {fs : List (List UInt8)} (h1 : kd.length ≤ 10) (h2 : fs.length ≤ 4) (h3 : ∀ f ∈ fs, f.length ≤ 20) : (insT kd fs).length ≤ 150 := by
  have := join_len h2 h3
  unfold insT
  split <;> simp <;> omega
theorem labT_len {s : List UInt8} (h : s.length ≤ 20) : (labT s).length ≤ 50 := by unfold labT; simp; omega
theorem each_len {n c : Nat} {f : Nat → List UInt8} (h : ∀ k, (f k).length ≤ c) : (each n f).length ≤ n * c := by
  induction n with
  | zero => simp [each]
  | succ n ih => rw [each_succ, List.length_append, Nat.add_mul]; have := h n; omega
theorem do_at (B b n : Nat) (t : List UInt8) (g : Option Nat) (kd : List UInt8) (fs : List (List UInt8)) (u : World) (h : Wr u B b n t g) (hne : fs ≠ []) (hf4 : fs.length ≤ 4) (hfl : ∀ f ∈ fs, f.length ≤ 20) (hl : t.length ≤ 1000000) (hk : kd.length ≤ 10) (hBw : B ≤ u.heap.size) : Calls Tryz.prog 87 #[.pointer (some ⟨b, 0, none⟩), .string (sb kd), .slice (some ⟨u.heap.size, 0, none⟩) fs.length fs.length] (u.alloc (.cells (fs.map fun f => Value.string (sb f)).toArray 9)) fun e w' => e = .returned (.tuple #[]) ∧ (∃ g', Wr w' B b n (t ++ insT kd fs) g') ∧ Below B u w' := by
  have ka : Below u.heap.size u (u.alloc (.cells (fs.map fun f => Value.string (sb f)).toArray 9)) := (Below.refl _ _).alloc (Nat.le_refl _) _
  have hb := h.lt
  have hg := h.glt
  refine (do_some B b n t g kd fs u.heap.size fs.length _ (h.step ka) hne hf4 hfl (Nat.le_refl _) (by simp) (fun j x hx => ?_) (by omega) (fun e => by have := hg _ e; omega) (by omega) (by simp; omega)).mono ?_
  · refine (Box.new u _ _).2.1 j _ ?_
    simp [hx]
  · rintro e w' ⟨h1, h2, h3⟩
    exact ⟨h1, h2, (ka.mono hBw).trans h3⟩
set_option maxRecDepth 100000 in
theorem bits_any (B b n : Nat) (t : List UInt8) (g : Option Nat) (w : World) (h : Wr w B b n t g) (hn : n ≤ 4) : Calls Tryz.prog 145 #[.pointer (some ⟨b, 0, none⟩)] w fun e w' => e = .returned (.int .i64 (16 * (n : Int))) ∧ w' = w := by
  have c2 := h.words
  have hnI : (n : Int) ≤ 4 := by omega
  go_enter Tryz.func145, Tryz.ntmps145
  go_wp2_with fail
  go_ret
  exact ⟨rfl, rfl⟩
set_option maxRecDepth 100000 in
set_option maxHeartbeats 4000000 in
theorem clear_any (B b n : Nat) (t : List UInt8) (g : Option Nat)  (w : World) (h : Wr w B b n t g) (hn1 : 1 ≤ n) (hn : n ≤ 4) (hl : t.length ≤ 900000) (hBw : B ≤ w.heap.size)  : Calls Tryz.prog 146 #[.pointer (some ⟨b, 0, none⟩)] w fun e w' => e = .returned (.tuple #[]) ∧ (∃ g', Wr w' B b n (t ++ clearT n) g') ∧ Below B w w' := by
  have H0 := hideI h
  have K0 := hideI (Below.refl B w)
  have hnI : (n : Int) ≤ 4 := by omega
  have hnI1 : (1 : Int) ≤ (n : Int) := by omega
  have c2 := h.words
  clear h
  go_enter Tryz.func146, Tryz.ntmps146
  go_wp2_with fail
  have HE := hideI (fun k => each_len (n := k) (f := (fun k => insT [108, 100, 105] [hld k, [48]])) (c := 150) (fun k => by (try simp only [List.length_append]); have e0 := insT_len (kd := [108, 100, 105]) (fs := [hld k, [48]]) (by decide) (by simp) (List.forall_mem_cons.2 ⟨(hld_len _), (List.forall_mem_cons.2 ⟨(by decide), (fun _ h => absurd h List.not_mem_nil)⟩)⟩); omega))
  go_loopg [7] n (fun gm tt wr => ∃ (k : Nat) (gg : Option Nat), k ≤ n ∧ gm = n - k ∧ tt = .int .i64 (k : Int) ∧ Hid (Wr wr B b n (t ++ each k (fun k => insT [108, 100, 105] [hld k, [48]])) gg) ∧ Hid (Below B w wr))
  case atStart => exact ⟨0, g, Nat.zero_le _, rfl, rfl, by simpa [each] using H0, K0⟩
  case round =>
    obtain ⟨k, gg, hk, hgm, rfl, HW, HK⟩ := hrel
    generalize wr = W0 at *
    have lbw : B ≤ W0.heap.size := Nat.le_trans hBw (show _ from (unhideI HK).size)
    have hEk := unhideI HE k
    have hT0 : (t ++ each k (fun k => insT [108, 100, 105] [hld k, [48]])).length = (t).length + (each k (fun k => insT [108, 100, 105] [hld k, [48]])).length := List.length_append
    clear H0 K0 c2
    have hkn : k * 150 ≤ 600 := by omega
    by_cases hlt : k < n
    · have hkI : (k : Int) < (n : Int) := by omega
      have hk0 : (0 : Int) ≤ (k : Int) := by omega
      have HH := hideI (fun W => held_any k (by omega) W)
      go_wp2_with fail
      refine (unhideI HH _).mono ?_
      rintro e wq ⟨rfl, hq⟩
      subst wq
      clear HH
      have HD := hideI (do_at B b n (t ++ each k (fun k => insT [108, 100, 105] [hld k, [48]])) gg [108, 100, 105] [hld k, [48]] W0 (unhideI HW) (by simp) (by simp) (List.forall_mem_cons.2 ⟨(hld_len _), (List.forall_mem_cons.2 ⟨(by decide), (fun _ h => absurd h List.not_mem_nil)⟩)⟩) (by omega) (by decide) lbw)
      have HD2 : Hid (Calls Tryz.prog 87 #[.pointer (some ⟨b, 0, none⟩), .string ⟨#[108, 100, 105]⟩, .slice (some ⟨W0.heap.size, 0, none⟩) 2 2] (W0.alloc (.cells #[.string (sb (hld k)), .string ⟨#[48]⟩] 9)) fun e w' => e = .returned (.tuple #[]) ∧ (∃ g', Wr w' B b n ((t ++ each k (fun k => insT [108, 100, 105] [hld k, [48]])) ++ insT [108, 100, 105] [hld k, [48]]) g') ∧ Below B W0 w') := HD
      have hl1 := insT_len (kd := [108, 100, 105]) (fs := [hld k, [48]]) (by decide) (by simp) (List.forall_mem_cons.2 ⟨(hld_len _), (List.forall_mem_cons.2 ⟨(by decide), (fun _ h => absurd h List.not_mem_nil)⟩)⟩)
      clear HD
      go_wp2_with fail
      refine (unhideI HD2).mono ?_
      rintro e w1 ⟨rfl, ⟨g1, hH1⟩, kK1⟩
      have H1 := hideI hH1
      have K1 := hideI ((unhideI HK).trans kK1)
      have lb1 : B ≤ w1.heap.size := Nat.le_trans lbw kK1.size
      clear HD2 hH1 kK1 HW HK
      have hT1 : ((t ++ each k (fun k => insT [108, 100, 105] [hld k, [48]])) ++ insT [108, 100, 105] [hld k, [48]]).length = ((t ++ each k (fun k => insT [108, 100, 105] [hld k, [48]]))).length + (insT [108, 100, 105] [hld k, [48]]).length := List.length_append
      go_wp2_with fail
      go_roundg (n - (k + 1))
      case measure => omega
      case rel => exact ⟨k + 1, _, by omega, rfl, by go_num, by rw [each_succ]; simpa only [List.append_assoc] using H1, K1⟩
    · have hkI : ¬ (k : Int) < (n : Int) := by omega
      have HKE := hideI (show k = n by omega)
      have c2 := (unhideI HW).words
      go_wp2_with fail
      go_end0
      refine ⟨rfl, ⟨gg, ?_⟩, unhideI HK⟩
      have hz := unhideI HW
      rw [unhideI HKE] at hz
      unfold clearT
      simpa only [List.append_assoc] using hz
set_option maxRecDepth 100000 in
set_option maxHeartbeats 4000000 in
theorem load_any (B b n : Nat) (t : List UInt8) (g : Option Nat)  (w : World) (h : Wr w B b n t g) (hn1 : 1 ≤ n) (hn : n ≤ 4) (hl : t.length ≤ 900000) (hBw : B ≤ w.heap.size)  : Calls Tryz.prog 151 #[.pointer (some ⟨b, 0, none⟩)] w fun e w' => e = .returned (.tuple #[]) ∧ (∃ g', Wr w' B b n (t ++ loadT n) g') ∧ Below B w w' := by
  have H0 := hideI h
  have K0 := hideI (Below.refl B w)
  have hnI : (n : Int) ≤ 4 := by omega
  have hnI1 : (1 : Int) ≤ (n : Int) := by omega
  have c2 := h.words
  clear h
  go_enter Tryz.func151, Tryz.ntmps151
  go_wp2_with fail
  have HE := hideI (fun k => each_len (n := k) (f := (fun k => insT [108, 100] [hld k, [114, 48], dgs k])) (c := 150) (fun k => by (try simp only [List.length_append]); have e0 := insT_len (kd := [108, 100]) (fs := [hld k, [114, 48], dgs k]) (by decide) (by simp) (List.forall_mem_cons.2 ⟨(hld_len _), (List.forall_mem_cons.2 ⟨(by decide), (List.forall_mem_cons.2 ⟨(dgs_len20 _), (fun _ h => absurd h List.not_mem_nil)⟩)⟩)⟩); omega))
  go_loopg [7] n (fun gm tt wr => ∃ (k : Nat) (gg : Option Nat), k ≤ n ∧ gm = n - k ∧ tt = .int .i64 (k : Int) ∧ Hid (Wr wr B b n (t ++ each k (fun k => insT [108, 100] [hld k, [114, 48], dgs k])) gg) ∧ Hid (Below B w wr))
  case atStart => exact ⟨0, g, Nat.zero_le _, rfl, rfl, by simpa [each] using H0, K0⟩
  case round =>
    obtain ⟨k, gg, hk, hgm, rfl, HW, HK⟩ := hrel
    generalize wr = W0 at *
    have lbw : B ≤ W0.heap.size := Nat.le_trans hBw (show _ from (unhideI HK).size)
    have hEk := unhideI HE k
    have hT0 : (t ++ each k (fun k => insT [108, 100] [hld k, [114, 48], dgs k])).length = (t).length + (each k (fun k => insT [108, 100] [hld k, [114, 48], dgs k])).length := List.length_append
    clear H0 K0 c2
    have hkn : k * 150 ≤ 600 := by omega
    by_cases hlt : k < n
    · have hkI : (k : Int) < (n : Int) := by omega
      have hk0 : (0 : Int) ≤ (k : Int) := by omega
      have HH := hideI (fun W => held_any k (by omega) W)
      go_wp2_with fail
      refine (unhideI HH _).mono ?_
      rintro e wq ⟨rfl, hq⟩
      subst wq
      clear HH
      have HH := hideI (fun W => digits_any k (by omega) W)
      go_wp2_with fail
      refine (unhideI HH _).mono ?_
      rintro e wq ⟨rfl, hq⟩
      subst wq
      clear HH
      have HD := hideI (do_at B b n (t ++ each k (fun k => insT [108, 100] [hld k, [114, 48], dgs k])) gg [108, 100] [hld k, [114, 48], dgs k] W0 (unhideI HW) (by simp) (by simp) (List.forall_mem_cons.2 ⟨(hld_len _), (List.forall_mem_cons.2 ⟨(by decide), (List.forall_mem_cons.2 ⟨(dgs_len20 _), (fun _ h => absurd h List.not_mem_nil)⟩)⟩)⟩) (by omega) (by decide) lbw)
      have HD2 : Hid (Calls Tryz.prog 87 #[.pointer (some ⟨b, 0, none⟩), .string ⟨#[108, 100]⟩, .slice (some ⟨W0.heap.size, 0, none⟩) 3 3] (W0.alloc (.cells #[.string (sb (hld k)), .string ⟨#[114, 48]⟩, .string (sb (dgs k))] 9)) fun e w' => e = .returned (.tuple #[]) ∧ (∃ g', Wr w' B b n ((t ++ each k (fun k => insT [108, 100] [hld k, [114, 48], dgs k])) ++ insT [108, 100] [hld k, [114, 48], dgs k]) g') ∧ Below B W0 w') := HD
      have hl2 := insT_len (kd := [108, 100]) (fs := [hld k, [114, 48], dgs k]) (by decide) (by simp) (List.forall_mem_cons.2 ⟨(hld_len _), (List.forall_mem_cons.2 ⟨(by decide), (List.forall_mem_cons.2 ⟨(dgs_len20 _), (fun _ h => absurd h List.not_mem_nil)⟩)⟩)⟩)
      clear HD
      go_wp2_with fail
      refine (unhideI HD2).mono ?_
      rintro e w2 ⟨rfl, ⟨g2, hH2⟩, kK2⟩
      have H2 := hideI hH2
      have K2 := hideI ((unhideI HK).trans kK2)
      have lb2 : B ≤ w2.heap.size := Nat.le_trans lbw kK2.size
      clear HD2 hH2 kK2 HW HK
      have hT2 : ((t ++ each k (fun k => insT [108, 100] [hld k, [114, 48], dgs k])) ++ insT [108, 100] [hld k, [114, 48], dgs k]).length = ((t ++ each k (fun k => insT [108, 100] [hld k, [114, 48], dgs k]))).length + (insT [108, 100] [hld k, [114, 48], dgs k]).length := List.length_append
      go_wp2_with fail
      go_roundg (n - (k + 1))
      case measure => omega
      case rel => exact ⟨k + 1, _, by omega, rfl, by go_num, by rw [each_succ]; simpa only [List.append_assoc] using H2, K2⟩
    · have hkI : ¬ (k : Int) < (n : Int) := by omega
      have HKE := hideI (show k = n by omega)
      have c2 := (unhideI HW).words
      go_wp2_with fail
      go_end0
      refine ⟨rfl, ⟨gg, ?_⟩, unhideI HK⟩
      have hz := unhideI HW
      rw [unhideI HKE] at hz
      unfold loadT
      simpa only [List.append_assoc] using hz
set_option maxRecDepth 100000 in
set_option maxHeartbeats 4000000 in
theorem store_any (B b n : Nat) (t : List UInt8) (g : Option Nat)  (w : World) (h : Wr w B b n t g) (hn1 : 1 ≤ n) (hn : n ≤ 4) (hl : t.length ≤ 900000) (hBw : B ≤ w.heap.size)  : Calls Tryz.prog 90 #[.pointer (some ⟨b, 0, none⟩)] w fun e w' => e = .returned (.tuple #[]) ∧ (∃ g', Wr w' B b n (t ++ storeT n) g') ∧ Below B w w' := by
  have H0 := hideI h
  have K0 := hideI (Below.refl B w)
  have hnI : (n : Int) ≤ 4 := by omega
  have hnI1 : (1 : Int) ≤ (n : Int) := by omega
  have c2 := h.words
  clear h
  go_enter Tryz.func90, Tryz.ntmps90
  go_wp2_with fail
  have HE := hideI (fun k => each_len (n := k) (f := (fun k => insT [115, 116] [[114, 48], hld k, dgs k])) (c := 150) (fun k => by (try simp only [List.length_append]); have e0 := insT_len (kd := [115, 116]) (fs := [[114, 48], hld k, dgs k]) (by decide) (by simp) (List.forall_mem_cons.2 ⟨(by decide), (List.forall_mem_cons.2 ⟨(hld_len _), (List.forall_mem_cons.2 ⟨(dgs_len20 _), (fun _ h => absurd h List.not_mem_nil)⟩)⟩)⟩); omega))
  go_loopg [7] n (fun gm tt wr => ∃ (k : Nat) (gg : Option Nat), k ≤ n ∧ gm = n - k ∧ tt = .int .i64 (k : Int) ∧ Hid (Wr wr B b n (t ++ each k (fun k => insT [115, 116] [[114, 48], hld k, dgs k])) gg) ∧ Hid (Below B w wr))
  case atStart => exact ⟨0, g, Nat.zero_le _, rfl, rfl, by simpa [each] using H0, K0⟩
  case round =>
    obtain ⟨k, gg, hk, hgm, rfl, HW, HK⟩ := hrel
    generalize wr = W0 at *
    have lbw : B ≤ W0.heap.size := Nat.le_trans hBw (show _ from (unhideI HK).size)
    have hEk := unhideI HE k
    have hT0 : (t ++ each k (fun k => insT [115, 116] [[114, 48], hld k, dgs k])).length = (t).length + (each k (fun k => insT [115, 116] [[114, 48], hld k, dgs k])).length := List.length_append
    clear H0 K0 c2
    have hkn : k * 150 ≤ 600 := by omega
    by_cases hlt : k < n
    · have hkI : (k : Int) < (n : Int) := by omega
      have hk0 : (0 : Int) ≤ (k : Int) := by omega
      have HH := hideI (fun W => held_any k (by omega) W)
      go_wp2_with fail
      refine (unhideI HH _).mono ?_
      rintro e wq ⟨rfl, hq⟩
      subst wq
      clear HH
      have HH := hideI (fun W => digits_any k (by omega) W)
      go_wp2_with fail
      refine (unhideI HH _).mono ?_
      rintro e wq ⟨rfl, hq⟩
      subst wq
      clear HH
      have HD := hideI (do_at B b n (t ++ each k (fun k => insT [115, 116] [[114, 48], hld k, dgs k])) gg [115, 116] [[114, 48], hld k, dgs k] W0 (unhideI HW) (by simp) (by simp) (List.forall_mem_cons.2 ⟨(by decide), (List.forall_mem_cons.2 ⟨(hld_len _), (List.forall_mem_cons.2 ⟨(dgs_len20 _), (fun _ h => absurd h List.not_mem_nil)⟩)⟩)⟩) (by omega) (by decide) lbw)
      have HD2 : Hid (Calls Tryz.prog 87 #[.pointer (some ⟨b, 0, none⟩), .string ⟨#[115, 116]⟩, .slice (some ⟨W0.heap.size, 0, none⟩) 3 3] (W0.alloc (.cells #[.string ⟨#[114, 48]⟩, .string (sb (hld k)), .string (sb (dgs k))] 9)) fun e w' => e = .returned (.tuple #[]) ∧ (∃ g', Wr w' B b n ((t ++ each k (fun k => insT [115, 116] [[114, 48], hld k, dgs k])) ++ insT [115, 116] [[114, 48], hld k, dgs k]) g') ∧ Below B W0 w') := HD
      have hl3 := insT_len (kd := [115, 116]) (fs := [[114, 48], hld k, dgs k]) (by decide) (by simp) (List.forall_mem_cons.2 ⟨(by decide), (List.forall_mem_cons.2 ⟨(hld_len _), (List.forall_mem_cons.2 ⟨(dgs_len20 _), (fun _ h => absurd h List.not_mem_nil)⟩)⟩)⟩)
      clear HD
      go_wp2_with fail
      refine (unhideI HD2).mono ?_
      rintro e w3 ⟨rfl, ⟨g3, hH3⟩, kK3⟩
      have H3 := hideI hH3
      have K3 := hideI ((unhideI HK).trans kK3)
      have lb3 : B ≤ w3.heap.size := Nat.le_trans lbw kK3.size
      clear HD2 hH3 kK3 HW HK
      have hT3 : ((t ++ each k (fun k => insT [115, 116] [[114, 48], hld k, dgs k])) ++ insT [115, 116] [[114, 48], hld k, dgs k]).length = ((t ++ each k (fun k => insT [115, 116] [[114, 48], hld k, dgs k]))).length + (insT [115, 116] [[114, 48], hld k, dgs k]).length := List.length_append
      go_wp2_with fail
      go_roundg (n - (k + 1))
      case measure => omega
      case rel => exact ⟨k + 1, _, by omega, rfl, by go_num, by rw [each_succ]; simpa only [List.append_assoc] using H3, K3⟩
    · have hkI : ¬ (k : Int) < (n : Int) := by omega
      have HKE := hideI (show k = n by omega)
      have c2 := (unhideI HW).words
      go_wp2_with fail
      go_end0
      refine ⟨rfl, ⟨gg, ?_⟩, unhideI HK⟩
      have hz := unhideI HW
      rw [unhideI HKE] at hz
      unfold storeT
      simpa only [List.append_assoc] using hz
set_option maxRecDepth 100000 in
set_option maxHeartbeats 4000000 in
theorem up_any (B b n : Nat) (t : List UInt8) (g : Option Nat) (f : List UInt8) (w : World) (h : Wr w B b n t g) (hn1 : 1 ≤ n) (hn : n ≤ 4) (hl : t.length ≤ 900000) (hBw : B ≤ w.heap.size) (hf : f.length ≤ 10) : Calls Tryz.prog 85 #[.pointer (some ⟨b, 0, none⟩), .string (sb f)] w fun e w' => e = .returned (.tuple #[]) ∧ (∃ g', Wr w' B b n (t ++ upT f n) g') ∧ Below B w w' := by
  have H0 := hideI h
  have K0 := hideI (Below.refl B w)
  have hnI : (n : Int) ≤ 4 := by omega
  have hnI1 : (1 : Int) ≤ (n : Int) := by omega
  have c2 := h.words
  clear h
  go_enter Tryz.func85, Tryz.ntmps85
  go_wp2_with fail
  have HE := hideI (fun k => each_len (n := k) (f := (fun k => insT (chd k f [114, 111, 108]) [hld k])) (c := 150) (fun k => by (try simp only [List.length_append]); have e0 := insT_len (kd := (chd k f [114, 111, 108])) (fs := [hld k]) (chd_len _ hf (by decide)) (by simp) (List.forall_mem_cons.2 ⟨(hld_len _), (fun _ h => absurd h List.not_mem_nil)⟩); omega))
  go_loopg [9] n (fun gm tt wr => ∃ (k : Nat) (gg : Option Nat), k ≤ n ∧ gm = n - k ∧ tt = .int .i64 (k : Int) ∧ Hid (Wr wr B b n (t ++ each k (fun k => insT (chd k f [114, 111, 108]) [hld k])) gg) ∧ Hid (Below B w wr))
  case atStart => exact ⟨0, g, Nat.zero_le _, rfl, rfl, by simpa [each] using H0, K0⟩
  case round =>
    obtain ⟨k, gg, hk, hgm, rfl, HW, HK⟩ := hrel
    generalize wr = W0 at *
    have lbw : B ≤ W0.heap.size := Nat.le_trans hBw (show _ from (unhideI HK).size)
    have hEk := unhideI HE k
    have hT0 : (t ++ each k (fun k => insT (chd k f [114, 111, 108]) [hld k])).length = (t).length + (each k (fun k => insT (chd k f [114, 111, 108]) [hld k])).length := List.length_append
    clear H0 K0 c2
    have hkn : k * 150 ≤ 600 := by omega
    by_cases hlt : k < n
    · have hkI : (k : Int) < (n : Int) := by omega
      have hk0 : (0 : Int) ≤ (k : Int) := by omega
      have HH := hideI (fun W => chained_any k f [114, 111, 108] W)
      go_wp2_with fail
      refine (unhideI HH _).mono ?_
      rintro e wq ⟨rfl, hq⟩
      subst wq
      clear HH
      have HH := hideI (fun W => held_any k (by omega) W)
      go_wp2_with fail
      refine (unhideI HH _).mono ?_
      rintro e wq ⟨rfl, hq⟩
      subst wq
      clear HH
      have HD := hideI (do_at B b n (t ++ each k (fun k => insT (chd k f [114, 111, 108]) [hld k])) gg (chd k f [114, 111, 108]) [hld k] W0 (unhideI HW) (by simp) (by simp) (List.forall_mem_cons.2 ⟨(hld_len _), (fun _ h => absurd h List.not_mem_nil)⟩) (by omega) (chd_len _ hf (by decide)) lbw)
      have HD2 : Hid (Calls Tryz.prog 87 #[.pointer (some ⟨b, 0, none⟩), .string (sb ((chd k f [114, 111, 108]))), .slice (some ⟨W0.heap.size, 0, none⟩) 1 1] (W0.alloc (.cells #[.string (sb (hld k))] 9)) fun e w' => e = .returned (.tuple #[]) ∧ (∃ g', Wr w' B b n ((t ++ each k (fun k => insT (chd k f [114, 111, 108]) [hld k])) ++ insT (chd k f [114, 111, 108]) [hld k]) g') ∧ Below B W0 w') := HD
      have hl4 := insT_len (kd := (chd k f [114, 111, 108])) (fs := [hld k]) (chd_len _ hf (by decide)) (by simp) (List.forall_mem_cons.2 ⟨(hld_len _), (fun _ h => absurd h List.not_mem_nil)⟩)
      clear HD
      go_wp2_with fail
      refine (unhideI HD2).mono ?_
      rintro e w4 ⟨rfl, ⟨g4, hH4⟩, kK4⟩
      have H4 := hideI hH4
      have K4 := hideI ((unhideI HK).trans kK4)
      have lb4 : B ≤ w4.heap.size := Nat.le_trans lbw kK4.size
      clear HD2 hH4 kK4 HW HK
      have hT4 : ((t ++ each k (fun k => insT (chd k f [114, 111, 108]) [hld k])) ++ insT (chd k f [114, 111, 108]) [hld k]).length = ((t ++ each k (fun k => insT (chd k f [114, 111, 108]) [hld k]))).length + (insT (chd k f [114, 111, 108]) [hld k]).length := List.length_append
      go_wp2_with fail
      go_roundg (n - (k + 1))
      case measure => omega
      case rel => exact ⟨k + 1, _, by omega, rfl, by go_num, by rw [each_succ]; simpa only [List.append_assoc] using H4, K4⟩
    · have hkI : ¬ (k : Int) < (n : Int) := by omega
      have HKE := hideI (show k = n by omega)
      have c2 := (unhideI HW).words
      go_wp2_with fail
      go_end0
      refine ⟨rfl, ⟨gg, ?_⟩, unhideI HK⟩
      have hz := unhideI HW
      rw [unhideI HKE] at hz
      unfold upT
      simpa only [List.append_assoc] using hz
set_option maxRecDepth 100000 in
set_option maxHeartbeats 4000000 in
theorem upAt_any (B b n : Nat) (t : List UInt8) (g : Option Nat) (pl : List UInt8) (bh : Nat) (w : World) (h : Wr w B b n t g) (hn1 : 1 ≤ n) (hn : n ≤ 4) (hl : t.length ≤ 900000) (hBw : B ≤ w.heap.size) (hpl10 : pl.length ≤ 10) (hbh : bh ≤ 9) : Calls Tryz.prog 86 #[.pointer (some ⟨b, 0, none⟩), .string (sb pl), .int .i64 (bh : Int)] w fun e w' => e = .returned (.tuple #[]) ∧ (∃ g', Wr w' B b n (t ++ upAtT pl bh n) g') ∧ Below B w w' := by
  have hpl20 : pl.length ≤ 20 := by omega
  have H0 := hideI h
  have K0 := hideI (Below.refl B w)
  have hnI : (n : Int) ≤ 4 := by omega
  have hnI1 : (1 : Int) ≤ (n : Int) := by omega
  have c2 := h.words
  clear h
  go_enter Tryz.func86, Tryz.ntmps86
  go_wp2_with fail
  have HE := hideI (fun k => each_len (n := k) (f := (fun k => insT [108, 100] [[114, 54], pl, dgs (bh + k)] ++ insT (chd k [115, 104, 108] [114, 111, 108]) [[114, 54]] ++ insT [115, 116] [pl, [114, 54], dgs (bh + k)])) (c := 450) (fun k => by (try simp only [List.length_append]); have e0 := insT_len (kd := [108, 100]) (fs := [[114, 54], pl, dgs (bh + k)]) (by decide) (by simp) (List.forall_mem_cons.2 ⟨(by decide), (List.forall_mem_cons.2 ⟨hpl20, (List.forall_mem_cons.2 ⟨(dgs_len20 _), (fun _ h => absurd h List.not_mem_nil)⟩)⟩)⟩); have e1 := insT_len (kd := (chd k [115, 104, 108] [114, 111, 108])) (fs := [[114, 54]]) (chd_len _ (by decide) (by decide)) (by simp) (List.forall_mem_cons.2 ⟨(by decide), (fun _ h => absurd h List.not_mem_nil)⟩); have e2 := insT_len (kd := [115, 116]) (fs := [pl, [114, 54], dgs (bh + k)]) (by decide) (by simp) (List.forall_mem_cons.2 ⟨hpl20, (List.forall_mem_cons.2 ⟨(by decide), (List.forall_mem_cons.2 ⟨(dgs_len20 _), (fun _ h => absurd h List.not_mem_nil)⟩)⟩)⟩); omega))
  go_loopg [11] n (fun gm tt wr => ∃ (k : Nat) (gg : Option Nat), k ≤ n ∧ gm = n - k ∧ tt = .int .i64 (k : Int) ∧ Hid (Wr wr B b n (t ++ each k (fun k => insT [108, 100] [[114, 54], pl, dgs (bh + k)] ++ insT (chd k [115, 104, 108] [114, 111, 108]) [[114, 54]] ++ insT [115, 116] [pl, [114, 54], dgs (bh + k)])) gg) ∧ Hid (Below B w wr))
  case atStart => exact ⟨0, g, Nat.zero_le _, rfl, rfl, by simpa [each] using H0, K0⟩
  case round =>
    obtain ⟨k, gg, hk, hgm, rfl, HW, HK⟩ := hrel
    generalize wr = W0 at *
    have lbw : B ≤ W0.heap.size := Nat.le_trans hBw (show _ from (unhideI HK).size)
    have hEk := unhideI HE k
    have hT0 : (t ++ each k (fun k => insT [108, 100] [[114, 54], pl, dgs (bh + k)] ++ insT (chd k [115, 104, 108] [114, 111, 108]) [[114, 54]] ++ insT [115, 116] [pl, [114, 54], dgs (bh + k)])).length = (t).length + (each k (fun k => insT [108, 100] [[114, 54], pl, dgs (bh + k)] ++ insT (chd k [115, 104, 108] [114, 111, 108]) [[114, 54]] ++ insT [115, 116] [pl, [114, 54], dgs (bh + k)])).length := List.length_append
    clear H0 K0 c2
    have hkn : k * 450 ≤ 1800 := by omega
    by_cases hlt : k < n
    · have hkI : (k : Int) < (n : Int) := by omega
      have hk0 : (0 : Int) ≤ (k : Int) := by omega
      have HH := hideI (fun W => digits_any (bh + k) (by omega) W)
      rw [show (((bh + k) : Nat) : Int) = (bh : Int) + (k : Int) by omega] at HH
      go_wp2_with fail
      refine (unhideI HH _).mono ?_
      rintro e wq ⟨rfl, hq⟩
      subst wq
      clear HH
      have HD := hideI (do_at B b n (t ++ each k (fun k => insT [108, 100] [[114, 54], pl, dgs (bh + k)] ++ insT (chd k [115, 104, 108] [114, 111, 108]) [[114, 54]] ++ insT [115, 116] [pl, [114, 54], dgs (bh + k)])) gg [108, 100] [[114, 54], pl, dgs (bh + k)] W0 (unhideI HW) (by simp) (by simp) (List.forall_mem_cons.2 ⟨(by decide), (List.forall_mem_cons.2 ⟨hpl20, (List.forall_mem_cons.2 ⟨(dgs_len20 _), (fun _ h => absurd h List.not_mem_nil)⟩)⟩)⟩) (by omega) (by decide) lbw)
      have HD2 : Hid (Calls Tryz.prog 87 #[.pointer (some ⟨b, 0, none⟩), .string ⟨#[108, 100]⟩, .slice (some ⟨W0.heap.size, 0, none⟩) 3 3] (W0.alloc (.cells #[.string ⟨#[114, 54]⟩, .string (sb (pl)), .string (sb (dgs (bh + k)))] 9)) fun e w' => e = .returned (.tuple #[]) ∧ (∃ g', Wr w' B b n ((t ++ each k (fun k => insT [108, 100] [[114, 54], pl, dgs (bh + k)] ++ insT (chd k [115, 104, 108] [114, 111, 108]) [[114, 54]] ++ insT [115, 116] [pl, [114, 54], dgs (bh + k)])) ++ insT [108, 100] [[114, 54], pl, dgs (bh + k)]) g') ∧ Below B W0 w') := HD
      have hl5 := insT_len (kd := [108, 100]) (fs := [[114, 54], pl, dgs (bh + k)]) (by decide) (by simp) (List.forall_mem_cons.2 ⟨(by decide), (List.forall_mem_cons.2 ⟨hpl20, (List.forall_mem_cons.2 ⟨(dgs_len20 _), (fun _ h => absurd h List.not_mem_nil)⟩)⟩)⟩)
      clear HD
      go_wp2_with fail
      refine (unhideI HD2).mono ?_
      rintro e w5 ⟨rfl, ⟨g5, hH5⟩, kK5⟩
      have H5 := hideI hH5
      have K5 := hideI ((unhideI HK).trans kK5)
      have lb5 : B ≤ w5.heap.size := Nat.le_trans lbw kK5.size
      clear HD2 hH5 kK5 HW HK
      have hT5 : ((t ++ each k (fun k => insT [108, 100] [[114, 54], pl, dgs (bh + k)] ++ insT (chd k [115, 104, 108] [114, 111, 108]) [[114, 54]] ++ insT [115, 116] [pl, [114, 54], dgs (bh + k)])) ++ insT [108, 100] [[114, 54], pl, dgs (bh + k)]).length = ((t ++ each k (fun k => insT [108, 100] [[114, 54], pl, dgs (bh + k)] ++ insT (chd k [115, 104, 108] [114, 111, 108]) [[114, 54]] ++ insT [115, 116] [pl, [114, 54], dgs (bh + k)]))).length + (insT [108, 100] [[114, 54], pl, dgs (bh + k)]).length := List.length_append
      have HH := hideI (fun W => chained_any k [115, 104, 108] [114, 111, 108] W)
      go_wp2_with fail
      refine (unhideI HH _).mono ?_
      rintro e wq ⟨rfl, hq⟩
      subst wq
      clear HH
      have HD := hideI (do_at B b n ((t ++ each k (fun k => insT [108, 100] [[114, 54], pl, dgs (bh + k)] ++ insT (chd k [115, 104, 108] [114, 111, 108]) [[114, 54]] ++ insT [115, 116] [pl, [114, 54], dgs (bh + k)])) ++ insT [108, 100] [[114, 54], pl, dgs (bh + k)]) g5 (chd k [115, 104, 108] [114, 111, 108]) [[114, 54]] w5 (unhideI H5) (by simp) (by simp) (List.forall_mem_cons.2 ⟨(by decide), (fun _ h => absurd h List.not_mem_nil)⟩) (by omega) (chd_len _ (by decide) (by decide)) lb5)
      have HD2 : Hid (Calls Tryz.prog 87 #[.pointer (some ⟨b, 0, none⟩), .string (sb ((chd k [115, 104, 108] [114, 111, 108]))), .slice (some ⟨w5.heap.size, 0, none⟩) 1 1] (w5.alloc (.cells #[.string ⟨#[114, 54]⟩] 9)) fun e w' => e = .returned (.tuple #[]) ∧ (∃ g', Wr w' B b n (((t ++ each k (fun k => insT [108, 100] [[114, 54], pl, dgs (bh + k)] ++ insT (chd k [115, 104, 108] [114, 111, 108]) [[114, 54]] ++ insT [115, 116] [pl, [114, 54], dgs (bh + k)])) ++ insT [108, 100] [[114, 54], pl, dgs (bh + k)]) ++ insT (chd k [115, 104, 108] [114, 111, 108]) [[114, 54]]) g') ∧ Below B w5 w') := HD
      have hl6 := insT_len (kd := (chd k [115, 104, 108] [114, 111, 108])) (fs := [[114, 54]]) (chd_len _ (by decide) (by decide)) (by simp) (List.forall_mem_cons.2 ⟨(by decide), (fun _ h => absurd h List.not_mem_nil)⟩)
      clear HD
      go_wp2_with fail
      refine (unhideI HD2).mono ?_
      rintro e w6 ⟨rfl, ⟨g6, hH6⟩, kK6⟩
      have H6 := hideI hH6
      have K6 := hideI ((unhideI K5).trans kK6)
      have lb6 : B ≤ w6.heap.size := Nat.le_trans lb5 kK6.size
      clear HD2 hH6 kK6 H5 K5
      have hT6 : (((t ++ each k (fun k => insT [108, 100] [[114, 54], pl, dgs (bh + k)] ++ insT (chd k [115, 104, 108] [114, 111, 108]) [[114, 54]] ++ insT [115, 116] [pl, [114, 54], dgs (bh + k)])) ++ insT [108, 100] [[114, 54], pl, dgs (bh + k)]) ++ insT (chd k [115, 104, 108] [114, 111, 108]) [[114, 54]]).length = (((t ++ each k (fun k => insT [108, 100] [[114, 54], pl, dgs (bh + k)] ++ insT (chd k [115, 104, 108] [114, 111, 108]) [[114, 54]] ++ insT [115, 116] [pl, [114, 54], dgs (bh + k)])) ++ insT [108, 100] [[114, 54], pl, dgs (bh + k)])).length + (insT (chd k [115, 104, 108] [114, 111, 108]) [[114, 54]]).length := List.length_append
      have HH := hideI (fun W => digits_any (bh + k) (by omega) W)
      rw [show (((bh + k) : Nat) : Int) = (bh : Int) + (k : Int) by omega] at HH
      go_wp2_with fail
      refine (unhideI HH _).mono ?_
      rintro e wq ⟨rfl, hq⟩
      subst wq
      clear HH
      have HD := hideI (do_at B b n (((t ++ each k (fun k => insT [108, 100] [[114, 54], pl, dgs (bh + k)] ++ insT (chd k [115, 104, 108] [114, 111, 108]) [[114, 54]] ++ insT [115, 116] [pl, [114, 54], dgs (bh + k)])) ++ insT [108, 100] [[114, 54], pl, dgs (bh + k)]) ++ insT (chd k [115, 104, 108] [114, 111, 108]) [[114, 54]]) g6 [115, 116] [pl, [114, 54], dgs (bh + k)] w6 (unhideI H6) (by simp) (by simp) (List.forall_mem_cons.2 ⟨hpl20, (List.forall_mem_cons.2 ⟨(by decide), (List.forall_mem_cons.2 ⟨(dgs_len20 _), (fun _ h => absurd h List.not_mem_nil)⟩)⟩)⟩) (by omega) (by decide) lb6)
      have HD2 : Hid (Calls Tryz.prog 87 #[.pointer (some ⟨b, 0, none⟩), .string ⟨#[115, 116]⟩, .slice (some ⟨w6.heap.size, 0, none⟩) 3 3] (w6.alloc (.cells #[.string (sb (pl)), .string ⟨#[114, 54]⟩, .string (sb (dgs (bh + k)))] 9)) fun e w' => e = .returned (.tuple #[]) ∧ (∃ g', Wr w' B b n ((((t ++ each k (fun k => insT [108, 100] [[114, 54], pl, dgs (bh + k)] ++ insT (chd k [115, 104, 108] [114, 111, 108]) [[114, 54]] ++ insT [115, 116] [pl, [114, 54], dgs (bh + k)])) ++ insT [108, 100] [[114, 54], pl, dgs (bh + k)]) ++ insT (chd k [115, 104, 108] [114, 111, 108]) [[114, 54]]) ++ insT [115, 116] [pl, [114, 54], dgs (bh + k)]) g') ∧ Below B w6 w') := HD
      have hl7 := insT_len (kd := [115, 116]) (fs := [pl, [114, 54], dgs (bh + k)]) (by decide) (by simp) (List.forall_mem_cons.2 ⟨hpl20, (List.forall_mem_cons.2 ⟨(by decide), (List.forall_mem_cons.2 ⟨(dgs_len20 _), (fun _ h => absurd h List.not_mem_nil)⟩)⟩)⟩)
      clear HD
      go_wp2_with fail
      refine (unhideI HD2).mono ?_
      rintro e w7 ⟨rfl, ⟨g7, hH7⟩, kK7⟩
      have H7 := hideI hH7
      have K7 := hideI ((unhideI K6).trans kK7)
      have lb7 : B ≤ w7.heap.size := Nat.le_trans lb6 kK7.size
      clear HD2 hH7 kK7 H6 K6
      have hT7 : ((((t ++ each k (fun k => insT [108, 100] [[114, 54], pl, dgs (bh + k)] ++ insT (chd k [115, 104, 108] [114, 111, 108]) [[114, 54]] ++ insT [115, 116] [pl, [114, 54], dgs (bh + k)])) ++ insT [108, 100] [[114, 54], pl, dgs (bh + k)]) ++ insT (chd k [115, 104, 108] [114, 111, 108]) [[114, 54]]) ++ insT [115, 116] [pl, [114, 54], dgs (bh + k)]).length = ((((t ++ each k (fun k => insT [108, 100] [[114, 54], pl, dgs (bh + k)] ++ insT (chd k [115, 104, 108] [114, 111, 108]) [[114, 54]] ++ insT [115, 116] [pl, [114, 54], dgs (bh + k)])) ++ insT [108, 100] [[114, 54], pl, dgs (bh + k)]) ++ insT (chd k [115, 104, 108] [114, 111, 108]) [[114, 54]])).length + (insT [115, 116] [pl, [114, 54], dgs (bh + k)]).length := List.length_append
      go_wp2_with fail
      go_roundg (n - (k + 1))
      case measure => omega
      case rel => exact ⟨k + 1, _, by omega, rfl, by go_num, by rw [each_succ]; simpa only [List.append_assoc] using H7, K7⟩
    · have hkI : ¬ (k : Int) < (n : Int) := by omega
      have HKE := hideI (show k = n by omega)
      have c2 := (unhideI HW).words
      go_wp2_with fail
      go_end0
      refine ⟨rfl, ⟨gg, ?_⟩, unhideI HK⟩
      have hz := unhideI HW
      rw [unhideI HKE] at hz
      unfold upAtT
      simpa only [List.append_assoc] using hz
set_option maxRecDepth 100000 in
set_option maxHeartbeats 4000000 in
theorem with_any (B b n : Nat) (t : List UInt8) (g : Option Nat) (a c pl : List UInt8) (bh : Nat) (w : World) (h : Wr w B b n t g) (hn1 : 1 ≤ n) (hn : n ≤ 4) (hl : t.length ≤ 900000) (hBw : B ≤ w.heap.size) (ha : a.length ≤ 10) (hc : c.length ≤ 10) (hpl10 : pl.length ≤ 10) (hbh : bh ≤ 9) : Calls Tryz.prog 88 #[.pointer (some ⟨b, 0, none⟩), .string (sb a), .string (sb c), .string (sb pl), .int .i64 (bh : Int)] w fun e w' => e = .returned (.tuple #[]) ∧ (∃ g', Wr w' B b n (t ++ withT a c pl bh n) g') ∧ Below B w w' := by
  have hpl20 : pl.length ≤ 20 := by omega
  have H0 := hideI h
  have K0 := hideI (Below.refl B w)
  have hnI : (n : Int) ≤ 4 := by omega
  have hnI1 : (1 : Int) ≤ (n : Int) := by omega
  have c2 := h.words
  clear h
  go_enter Tryz.func88, Tryz.ntmps88
  go_wp2_with fail
  have HE := hideI (fun k => each_len (n := k) (f := (fun k => insT [108, 100] [[114, 54], pl, dgs (bh + k)] ++ insT (chd k a c) [hld k, [114, 54]])) (c := 300) (fun k => by (try simp only [List.length_append]); have e0 := insT_len (kd := [108, 100]) (fs := [[114, 54], pl, dgs (bh + k)]) (by decide) (by simp) (List.forall_mem_cons.2 ⟨(by decide), (List.forall_mem_cons.2 ⟨hpl20, (List.forall_mem_cons.2 ⟨(dgs_len20 _), (fun _ h => absurd h List.not_mem_nil)⟩)⟩)⟩); have e1 := insT_len (kd := (chd k a c)) (fs := [hld k, [114, 54]]) (chd_len _ ha hc) (by simp) (List.forall_mem_cons.2 ⟨(hld_len _), (List.forall_mem_cons.2 ⟨(by decide), (fun _ h => absurd h List.not_mem_nil)⟩)⟩); omega))
  go_loopg [15] n (fun gm tt wr => ∃ (k : Nat) (gg : Option Nat), k ≤ n ∧ gm = n - k ∧ tt = .int .i64 (k : Int) ∧ Hid (Wr wr B b n (t ++ each k (fun k => insT [108, 100] [[114, 54], pl, dgs (bh + k)] ++ insT (chd k a c) [hld k, [114, 54]])) gg) ∧ Hid (Below B w wr))
  case atStart => exact ⟨0, g, Nat.zero_le _, rfl, rfl, by simpa [each] using H0, K0⟩
  case round =>
    obtain ⟨k, gg, hk, hgm, rfl, HW, HK⟩ := hrel
    generalize wr = W0 at *
    have lbw : B ≤ W0.heap.size := Nat.le_trans hBw (show _ from (unhideI HK).size)
    have hEk := unhideI HE k
    have hT0 : (t ++ each k (fun k => insT [108, 100] [[114, 54], pl, dgs (bh + k)] ++ insT (chd k a c) [hld k, [114, 54]])).length = (t).length + (each k (fun k => insT [108, 100] [[114, 54], pl, dgs (bh + k)] ++ insT (chd k a c) [hld k, [114, 54]])).length := List.length_append
    clear H0 K0 c2
    have hkn : k * 300 ≤ 1200 := by omega
    by_cases hlt : k < n
    · have hkI : (k : Int) < (n : Int) := by omega
      have hk0 : (0 : Int) ≤ (k : Int) := by omega
      have HH := hideI (fun W => digits_any (bh + k) (by omega) W)
      rw [show (((bh + k) : Nat) : Int) = (bh : Int) + (k : Int) by omega] at HH
      go_wp2_with fail
      refine (unhideI HH _).mono ?_
      rintro e wq ⟨rfl, hq⟩
      subst wq
      clear HH
      have HD := hideI (do_at B b n (t ++ each k (fun k => insT [108, 100] [[114, 54], pl, dgs (bh + k)] ++ insT (chd k a c) [hld k, [114, 54]])) gg [108, 100] [[114, 54], pl, dgs (bh + k)] W0 (unhideI HW) (by simp) (by simp) (List.forall_mem_cons.2 ⟨(by decide), (List.forall_mem_cons.2 ⟨hpl20, (List.forall_mem_cons.2 ⟨(dgs_len20 _), (fun _ h => absurd h List.not_mem_nil)⟩)⟩)⟩) (by omega) (by decide) lbw)
      have HD2 : Hid (Calls Tryz.prog 87 #[.pointer (some ⟨b, 0, none⟩), .string ⟨#[108, 100]⟩, .slice (some ⟨W0.heap.size, 0, none⟩) 3 3] (W0.alloc (.cells #[.string ⟨#[114, 54]⟩, .string (sb (pl)), .string (sb (dgs (bh + k)))] 9)) fun e w' => e = .returned (.tuple #[]) ∧ (∃ g', Wr w' B b n ((t ++ each k (fun k => insT [108, 100] [[114, 54], pl, dgs (bh + k)] ++ insT (chd k a c) [hld k, [114, 54]])) ++ insT [108, 100] [[114, 54], pl, dgs (bh + k)]) g') ∧ Below B W0 w') := HD
      have hl8 := insT_len (kd := [108, 100]) (fs := [[114, 54], pl, dgs (bh + k)]) (by decide) (by simp) (List.forall_mem_cons.2 ⟨(by decide), (List.forall_mem_cons.2 ⟨hpl20, (List.forall_mem_cons.2 ⟨(dgs_len20 _), (fun _ h => absurd h List.not_mem_nil)⟩)⟩)⟩)
      clear HD
      go_wp2_with fail
      refine (unhideI HD2).mono ?_
      rintro e w8 ⟨rfl, ⟨g8, hH8⟩, kK8⟩
      have H8 := hideI hH8
      have K8 := hideI ((unhideI HK).trans kK8)
      have lb8 : B ≤ w8.heap.size := Nat.le_trans lbw kK8.size
      clear HD2 hH8 kK8 HW HK
      have hT8 : ((t ++ each k (fun k => insT [108, 100] [[114, 54], pl, dgs (bh + k)] ++ insT (chd k a c) [hld k, [114, 54]])) ++ insT [108, 100] [[114, 54], pl, dgs (bh + k)]).length = ((t ++ each k (fun k => insT [108, 100] [[114, 54], pl, dgs (bh + k)] ++ insT (chd k a c) [hld k, [114, 54]]))).length + (insT [108, 100] [[114, 54], pl, dgs (bh + k)]).length := List.length_append
      have HH := hideI (fun W => chained_any k a c W)
      go_wp2_with fail
      refine (unhideI HH _).mono ?_
      rintro e wq ⟨rfl, hq⟩
      subst wq
      clear HH
      have HH := hideI (fun W => held_any k (by omega) W)
      go_wp2_with fail
      refine (unhideI HH _).mono ?_
      rintro e wq ⟨rfl, hq⟩
      subst wq
      clear HH
      have HD := hideI (do_at B b n ((t ++ each k (fun k => insT [108, 100] [[114, 54], pl, dgs (bh + k)] ++ insT (chd k a c) [hld k, [114, 54]])) ++ insT [108, 100] [[114, 54], pl, dgs (bh + k)]) g8 (chd k a c) [hld k, [114, 54]] w8 (unhideI H8) (by simp) (by simp) (List.forall_mem_cons.2 ⟨(hld_len _), (List.forall_mem_cons.2 ⟨(by decide), (fun _ h => absurd h List.not_mem_nil)⟩)⟩) (by omega) (chd_len _ ha hc) lb8)
      have HD2 : Hid (Calls Tryz.prog 87 #[.pointer (some ⟨b, 0, none⟩), .string (sb ((chd k a c))), .slice (some ⟨w8.heap.size, 0, none⟩) 2 2] (w8.alloc (.cells #[.string (sb (hld k)), .string ⟨#[114, 54]⟩] 9)) fun e w' => e = .returned (.tuple #[]) ∧ (∃ g', Wr w' B b n (((t ++ each k (fun k => insT [108, 100] [[114, 54], pl, dgs (bh + k)] ++ insT (chd k a c) [hld k, [114, 54]])) ++ insT [108, 100] [[114, 54], pl, dgs (bh + k)]) ++ insT (chd k a c) [hld k, [114, 54]]) g') ∧ Below B w8 w') := HD
      have hl9 := insT_len (kd := (chd k a c)) (fs := [hld k, [114, 54]]) (chd_len _ ha hc) (by simp) (List.forall_mem_cons.2 ⟨(hld_len _), (List.forall_mem_cons.2 ⟨(by decide), (fun _ h => absurd h List.not_mem_nil)⟩)⟩)
      clear HD
      go_wp2_with fail
      refine (unhideI HD2).mono ?_
      rintro e w9 ⟨rfl, ⟨g9, hH9⟩, kK9⟩
      have H9 := hideI hH9
      have K9 := hideI ((unhideI K8).trans kK9)
      have lb9 : B ≤ w9.heap.size := Nat.le_trans lb8 kK9.size
      clear HD2 hH9 kK9 H8 K8
      have hT9 : (((t ++ each k (fun k => insT [108, 100] [[114, 54], pl, dgs (bh + k)] ++ insT (chd k a c) [hld k, [114, 54]])) ++ insT [108, 100] [[114, 54], pl, dgs (bh + k)]) ++ insT (chd k a c) [hld k, [114, 54]]).length = (((t ++ each k (fun k => insT [108, 100] [[114, 54], pl, dgs (bh + k)] ++ insT (chd k a c) [hld k, [114, 54]])) ++ insT [108, 100] [[114, 54], pl, dgs (bh + k)])).length + (insT (chd k a c) [hld k, [114, 54]]).length := List.length_append
      go_wp2_with fail
      go_roundg (n - (k + 1))
      case measure => omega
      case rel => exact ⟨k + 1, _, by omega, rfl, by go_num, by rw [each_succ]; simpa only [List.append_assoc] using H9, K9⟩
    · have hkI : ¬ (k : Int) < (n : Int) := by omega
      have HKE := hideI (show k = n by omega)
      have c2 := (unhideI HW).words
      go_wp2_with fail
      go_end0
      refine ⟨rfl, ⟨gg, ?_⟩, unhideI HK⟩
      have hz := unhideI HW
      rw [unhideI HKE] at hz
      unfold withT
      simpa only [List.append_assoc] using hz
set_option maxRecDepth 100000 in
set_option maxHeartbeats 4000000 in
theorem neg_any (B b n : Nat) (t : List UInt8) (g : Option Nat) (pl : List UInt8) (w : World) (h : Wr w B b n t g) (hn1 : 1 ≤ n) (hn : n ≤ 4) (hl : t.length ≤ 900000) (hBw : B ≤ w.heap.size) (hpl10 : pl.length ≤ 10) : Calls Tryz.prog 153 #[.pointer (some ⟨b, 0, none⟩), .string (sb pl)] w fun e w' => e = .returned (.tuple #[]) ∧ (∃ g', Wr w' B b n (t ++ negT pl n) g') ∧ Below B w w' := by
  have hpl20 : pl.length ≤ 20 := by omega
  have H0 := hideI h
  have K0 := hideI (Below.refl B w)
  have hnI : (n : Int) ≤ 4 := by omega
  have hnI1 : (1 : Int) ≤ (n : Int) := by omega
  have c2 := h.words
  clear h
  go_enter Tryz.func153, Tryz.ntmps153
  go_wp2_with fail
  have HE := hideI (fun k => each_len (n := k) (f := (fun k => insT [108, 100, 105] [[114, 54], [48]] ++ insT [108, 100] [hld 0, pl, dgs k] ++ insT (chd k [115, 117, 98] [115, 98, 99]) [[114, 54], hld 0] ++ insT [115, 116] [pl, [114, 54], dgs k])) (c := 600) (fun k => by (try simp only [List.length_append]); have e0 := insT_len (kd := [108, 100, 105]) (fs := [[114, 54], [48]]) (by decide) (by simp) (List.forall_mem_cons.2 ⟨(by decide), (List.forall_mem_cons.2 ⟨(by decide), (fun _ h => absurd h List.not_mem_nil)⟩)⟩); have e1 := insT_len (kd := [108, 100]) (fs := [hld 0, pl, dgs k]) (by decide) (by simp) (List.forall_mem_cons.2 ⟨(hld_len _), (List.forall_mem_cons.2 ⟨hpl20, (List.forall_mem_cons.2 ⟨(dgs_len20 _), (fun _ h => absurd h List.not_mem_nil)⟩)⟩)⟩); have e2 := insT_len (kd := (chd k [115, 117, 98] [115, 98, 99])) (fs := [[114, 54], hld 0]) (chd_len _ (by decide) (by decide)) (by simp) (List.forall_mem_cons.2 ⟨(by decide), (List.forall_mem_cons.2 ⟨(hld_len _), (fun _ h => absurd h List.not_mem_nil)⟩)⟩); have e3 := insT_len (kd := [115, 116]) (fs := [pl, [114, 54], dgs k]) (by decide) (by simp) (List.forall_mem_cons.2 ⟨hpl20, (List.forall_mem_cons.2 ⟨(by decide), (List.forall_mem_cons.2 ⟨(dgs_len20 _), (fun _ h => absurd h List.not_mem_nil)⟩)⟩)⟩); omega))
  go_loopg [9] n (fun gm tt wr => ∃ (k : Nat) (gg : Option Nat), k ≤ n ∧ gm = n - k ∧ tt = .int .i64 (k : Int) ∧ Hid (Wr wr B b n (t ++ each k (fun k => insT [108, 100, 105] [[114, 54], [48]] ++ insT [108, 100] [hld 0, pl, dgs k] ++ insT (chd k [115, 117, 98] [115, 98, 99]) [[114, 54], hld 0] ++ insT [115, 116] [pl, [114, 54], dgs k])) gg) ∧ Hid (Below B w wr))
  case atStart => exact ⟨0, g, Nat.zero_le _, rfl, rfl, by simpa [each] using H0, K0⟩
  case round =>
    obtain ⟨k, gg, hk, hgm, rfl, HW, HK⟩ := hrel
    generalize wr = W0 at *
    have lbw : B ≤ W0.heap.size := Nat.le_trans hBw (show _ from (unhideI HK).size)
    have hEk := unhideI HE k
    have hT0 : (t ++ each k (fun k => insT [108, 100, 105] [[114, 54], [48]] ++ insT [108, 100] [hld 0, pl, dgs k] ++ insT (chd k [115, 117, 98] [115, 98, 99]) [[114, 54], hld 0] ++ insT [115, 116] [pl, [114, 54], dgs k])).length = (t).length + (each k (fun k => insT [108, 100, 105] [[114, 54], [48]] ++ insT [108, 100] [hld 0, pl, dgs k] ++ insT (chd k [115, 117, 98] [115, 98, 99]) [[114, 54], hld 0] ++ insT [115, 116] [pl, [114, 54], dgs k])).length := List.length_append
    clear H0 K0 c2
    have hkn : k * 600 ≤ 2400 := by omega
    by_cases hlt : k < n
    · have hkI : (k : Int) < (n : Int) := by omega
      have hk0 : (0 : Int) ≤ (k : Int) := by omega
      have HD := hideI (do_at B b n (t ++ each k (fun k => insT [108, 100, 105] [[114, 54], [48]] ++ insT [108, 100] [hld 0, pl, dgs k] ++ insT (chd k [115, 117, 98] [115, 98, 99]) [[114, 54], hld 0] ++ insT [115, 116] [pl, [114, 54], dgs k])) gg [108, 100, 105] [[114, 54], [48]] W0 (unhideI HW) (by simp) (by simp) (List.forall_mem_cons.2 ⟨(by decide), (List.forall_mem_cons.2 ⟨(by decide), (fun _ h => absurd h List.not_mem_nil)⟩)⟩) (by omega) (by decide) lbw)
      have HD2 : Hid (Calls Tryz.prog 87 #[.pointer (some ⟨b, 0, none⟩), .string ⟨#[108, 100, 105]⟩, .slice (some ⟨W0.heap.size, 0, none⟩) 2 2] (W0.alloc (.cells #[.string ⟨#[114, 54]⟩, .string ⟨#[48]⟩] 9)) fun e w' => e = .returned (.tuple #[]) ∧ (∃ g', Wr w' B b n ((t ++ each k (fun k => insT [108, 100, 105] [[114, 54], [48]] ++ insT [108, 100] [hld 0, pl, dgs k] ++ insT (chd k [115, 117, 98] [115, 98, 99]) [[114, 54], hld 0] ++ insT [115, 116] [pl, [114, 54], dgs k])) ++ insT [108, 100, 105] [[114, 54], [48]]) g') ∧ Below B W0 w') := HD
      have hl10 := insT_len (kd := [108, 100, 105]) (fs := [[114, 54], [48]]) (by decide) (by simp) (List.forall_mem_cons.2 ⟨(by decide), (List.forall_mem_cons.2 ⟨(by decide), (fun _ h => absurd h List.not_mem_nil)⟩)⟩)
      clear HD
      go_wp2_with fail
      refine (unhideI HD2).mono ?_
      rintro e w10 ⟨rfl, ⟨g10, hH10⟩, kK10⟩
      have H10 := hideI hH10
      have K10 := hideI ((unhideI HK).trans kK10)
      have lb10 : B ≤ w10.heap.size := Nat.le_trans lbw kK10.size
      clear HD2 hH10 kK10 HW HK
      have hT10 : ((t ++ each k (fun k => insT [108, 100, 105] [[114, 54], [48]] ++ insT [108, 100] [hld 0, pl, dgs k] ++ insT (chd k [115, 117, 98] [115, 98, 99]) [[114, 54], hld 0] ++ insT [115, 116] [pl, [114, 54], dgs k])) ++ insT [108, 100, 105] [[114, 54], [48]]).length = ((t ++ each k (fun k => insT [108, 100, 105] [[114, 54], [48]] ++ insT [108, 100] [hld 0, pl, dgs k] ++ insT (chd k [115, 117, 98] [115, 98, 99]) [[114, 54], hld 0] ++ insT [115, 116] [pl, [114, 54], dgs k]))).length + (insT [108, 100, 105] [[114, 54], [48]]).length := List.length_append
      have HH := hideI (fun W => held_any 0 (by omega) W)
      rw [show ((0 : Nat) : Int) = 0 by omega] at HH
      go_wp2_with fail
      refine (unhideI HH _).mono ?_
      rintro e wq ⟨rfl, hq⟩
      subst wq
      clear HH
      have HH := hideI (fun W => digits_any k (by omega) W)
      go_wp2_with fail
      refine (unhideI HH _).mono ?_
      rintro e wq ⟨rfl, hq⟩
      subst wq
      clear HH
      have HD := hideI (do_at B b n ((t ++ each k (fun k => insT [108, 100, 105] [[114, 54], [48]] ++ insT [108, 100] [hld 0, pl, dgs k] ++ insT (chd k [115, 117, 98] [115, 98, 99]) [[114, 54], hld 0] ++ insT [115, 116] [pl, [114, 54], dgs k])) ++ insT [108, 100, 105] [[114, 54], [48]]) g10 [108, 100] [hld 0, pl, dgs k] w10 (unhideI H10) (by simp) (by simp) (List.forall_mem_cons.2 ⟨(hld_len _), (List.forall_mem_cons.2 ⟨hpl20, (List.forall_mem_cons.2 ⟨(dgs_len20 _), (fun _ h => absurd h List.not_mem_nil)⟩)⟩)⟩) (by omega) (by decide) lb10)
      have HD2 : Hid (Calls Tryz.prog 87 #[.pointer (some ⟨b, 0, none⟩), .string ⟨#[108, 100]⟩, .slice (some ⟨w10.heap.size, 0, none⟩) 3 3] (w10.alloc (.cells #[.string (sb (hld 0)), .string (sb (pl)), .string (sb (dgs k))] 9)) fun e w' => e = .returned (.tuple #[]) ∧ (∃ g', Wr w' B b n (((t ++ each k (fun k => insT [108, 100, 105] [[114, 54], [48]] ++ insT [108, 100] [hld 0, pl, dgs k] ++ insT (chd k [115, 117, 98] [115, 98, 99]) [[114, 54], hld 0] ++ insT [115, 116] [pl, [114, 54], dgs k])) ++ insT [108, 100, 105] [[114, 54], [48]]) ++ insT [108, 100] [hld 0, pl, dgs k]) g') ∧ Below B w10 w') := HD
      have hl11 := insT_len (kd := [108, 100]) (fs := [hld 0, pl, dgs k]) (by decide) (by simp) (List.forall_mem_cons.2 ⟨(hld_len _), (List.forall_mem_cons.2 ⟨hpl20, (List.forall_mem_cons.2 ⟨(dgs_len20 _), (fun _ h => absurd h List.not_mem_nil)⟩)⟩)⟩)
      clear HD
      go_wp2_with fail
      refine (unhideI HD2).mono ?_
      rintro e w11 ⟨rfl, ⟨g11, hH11⟩, kK11⟩
      have H11 := hideI hH11
      have K11 := hideI ((unhideI K10).trans kK11)
      have lb11 : B ≤ w11.heap.size := Nat.le_trans lb10 kK11.size
      clear HD2 hH11 kK11 H10 K10
      have hT11 : (((t ++ each k (fun k => insT [108, 100, 105] [[114, 54], [48]] ++ insT [108, 100] [hld 0, pl, dgs k] ++ insT (chd k [115, 117, 98] [115, 98, 99]) [[114, 54], hld 0] ++ insT [115, 116] [pl, [114, 54], dgs k])) ++ insT [108, 100, 105] [[114, 54], [48]]) ++ insT [108, 100] [hld 0, pl, dgs k]).length = (((t ++ each k (fun k => insT [108, 100, 105] [[114, 54], [48]] ++ insT [108, 100] [hld 0, pl, dgs k] ++ insT (chd k [115, 117, 98] [115, 98, 99]) [[114, 54], hld 0] ++ insT [115, 116] [pl, [114, 54], dgs k])) ++ insT [108, 100, 105] [[114, 54], [48]])).length + (insT [108, 100] [hld 0, pl, dgs k]).length := List.length_append
      have HH := hideI (fun W => chained_any k [115, 117, 98] [115, 98, 99] W)
      go_wp2_with fail
      refine (unhideI HH _).mono ?_
      rintro e wq ⟨rfl, hq⟩
      subst wq
      clear HH
      have HH := hideI (fun W => held_any 0 (by omega) W)
      rw [show ((0 : Nat) : Int) = 0 by omega] at HH
      go_wp2_with fail
      refine (unhideI HH _).mono ?_
      rintro e wq ⟨rfl, hq⟩
      subst wq
      clear HH
      have HD := hideI (do_at B b n (((t ++ each k (fun k => insT [108, 100, 105] [[114, 54], [48]] ++ insT [108, 100] [hld 0, pl, dgs k] ++ insT (chd k [115, 117, 98] [115, 98, 99]) [[114, 54], hld 0] ++ insT [115, 116] [pl, [114, 54], dgs k])) ++ insT [108, 100, 105] [[114, 54], [48]]) ++ insT [108, 100] [hld 0, pl, dgs k]) g11 (chd k [115, 117, 98] [115, 98, 99]) [[114, 54], hld 0] w11 (unhideI H11) (by simp) (by simp) (List.forall_mem_cons.2 ⟨(by decide), (List.forall_mem_cons.2 ⟨(hld_len _), (fun _ h => absurd h List.not_mem_nil)⟩)⟩) (by omega) (chd_len _ (by decide) (by decide)) lb11)
      have HD2 : Hid (Calls Tryz.prog 87 #[.pointer (some ⟨b, 0, none⟩), .string (sb ((chd k [115, 117, 98] [115, 98, 99]))), .slice (some ⟨w11.heap.size, 0, none⟩) 2 2] (w11.alloc (.cells #[.string ⟨#[114, 54]⟩, .string (sb (hld 0))] 9)) fun e w' => e = .returned (.tuple #[]) ∧ (∃ g', Wr w' B b n ((((t ++ each k (fun k => insT [108, 100, 105] [[114, 54], [48]] ++ insT [108, 100] [hld 0, pl, dgs k] ++ insT (chd k [115, 117, 98] [115, 98, 99]) [[114, 54], hld 0] ++ insT [115, 116] [pl, [114, 54], dgs k])) ++ insT [108, 100, 105] [[114, 54], [48]]) ++ insT [108, 100] [hld 0, pl, dgs k]) ++ insT (chd k [115, 117, 98] [115, 98, 99]) [[114, 54], hld 0]) g') ∧ Below B w11 w') := HD
      have hl12 := insT_len (kd := (chd k [115, 117, 98] [115, 98, 99])) (fs := [[114, 54], hld 0]) (chd_len _ (by decide) (by decide)) (by simp) (List.forall_mem_cons.2 ⟨(by decide), (List.forall_mem_cons.2 ⟨(hld_len _), (fun _ h => absurd h List.not_mem_nil)⟩)⟩)
      clear HD
      go_wp2_with fail
      refine (unhideI HD2).mono ?_
      rintro e w12 ⟨rfl, ⟨g12, hH12⟩, kK12⟩
      have H12 := hideI hH12
      have K12 := hideI ((unhideI K11).trans kK12)
      have lb12 : B ≤ w12.heap.size := Nat.le_trans lb11 kK12.size
      clear HD2 hH12 kK12 H11 K11
      have hT12 : ((((t ++ each k (fun k => insT [108, 100, 105] [[114, 54], [48]] ++ insT [108, 100] [hld 0, pl, dgs k] ++ insT (chd k [115, 117, 98] [115, 98, 99]) [[114, 54], hld 0] ++ insT [115, 116] [pl, [114, 54], dgs k])) ++ insT [108, 100, 105] [[114, 54], [48]]) ++ insT [108, 100] [hld 0, pl, dgs k]) ++ insT (chd k [115, 117, 98] [115, 98, 99]) [[114, 54], hld 0]).length = ((((t ++ each k (fun k => insT [108, 100, 105] [[114, 54], [48]] ++ insT [108, 100] [hld 0, pl, dgs k] ++ insT (chd k [115, 117, 98] [115, 98, 99]) [[114, 54], hld 0] ++ insT [115, 116] [pl, [114, 54], dgs k])) ++ insT [108, 100, 105] [[114, 54], [48]]) ++ insT [108, 100] [hld 0, pl, dgs k])).length + (insT (chd k [115, 117, 98] [115, 98, 99]) [[114, 54], hld 0]).length := List.length_append
      have HH := hideI (fun W => digits_any k (by omega) W)
      go_wp2_with fail
      refine (unhideI HH _).mono ?_
      rintro e wq ⟨rfl, hq⟩
      subst wq
      clear HH
      have HD := hideI (do_at B b n ((((t ++ each k (fun k => insT [108, 100, 105] [[114, 54], [48]] ++ insT [108, 100] [hld 0, pl, dgs k] ++ insT (chd k [115, 117, 98] [115, 98, 99]) [[114, 54], hld 0] ++ insT [115, 116] [pl, [114, 54], dgs k])) ++ insT [108, 100, 105] [[114, 54], [48]]) ++ insT [108, 100] [hld 0, pl, dgs k]) ++ insT (chd k [115, 117, 98] [115, 98, 99]) [[114, 54], hld 0]) g12 [115, 116] [pl, [114, 54], dgs k] w12 (unhideI H12) (by simp) (by simp) (List.forall_mem_cons.2 ⟨hpl20, (List.forall_mem_cons.2 ⟨(by decide), (List.forall_mem_cons.2 ⟨(dgs_len20 _), (fun _ h => absurd h List.not_mem_nil)⟩)⟩)⟩) (by omega) (by decide) lb12)
      have HD2 : Hid (Calls Tryz.prog 87 #[.pointer (some ⟨b, 0, none⟩), .string ⟨#[115, 116]⟩, .slice (some ⟨w12.heap.size, 0, none⟩) 3 3] (w12.alloc (.cells #[.string (sb (pl)), .string ⟨#[114, 54]⟩, .string (sb (dgs k))] 9)) fun e w' => e = .returned (.tuple #[]) ∧ (∃ g', Wr w' B b n (((((t ++ each k (fun k => insT [108, 100, 105] [[114, 54], [48]] ++ insT [108, 100] [hld 0, pl, dgs k] ++ insT (chd k [115, 117, 98] [115, 98, 99]) [[114, 54], hld 0] ++ insT [115, 116] [pl, [114, 54], dgs k])) ++ insT [108, 100, 105] [[114, 54], [48]]) ++ insT [108, 100] [hld 0, pl, dgs k]) ++ insT (chd k [115, 117, 98] [115, 98, 99]) [[114, 54], hld 0]) ++ insT [115, 116] [pl, [114, 54], dgs k]) g') ∧ Below B w12 w') := HD
      have hl13 := insT_len (kd := [115, 116]) (fs := [pl, [114, 54], dgs k]) (by decide) (by simp) (List.forall_mem_cons.2 ⟨hpl20, (List.forall_mem_cons.2 ⟨(by decide), (List.forall_mem_cons.2 ⟨(dgs_len20 _), (fun _ h => absurd h List.not_mem_nil)⟩)⟩)⟩)
      clear HD
      go_wp2_with fail
      refine (unhideI HD2).mono ?_
      rintro e w13 ⟨rfl, ⟨g13, hH13⟩, kK13⟩
      have H13 := hideI hH13
      have K13 := hideI ((unhideI K12).trans kK13)
      have lb13 : B ≤ w13.heap.size := Nat.le_trans lb12 kK13.size
      clear HD2 hH13 kK13 H12 K12
      have hT13 : (((((t ++ each k (fun k => insT [108, 100, 105] [[114, 54], [48]] ++ insT [108, 100] [hld 0, pl, dgs k] ++ insT (chd k [115, 117, 98] [115, 98, 99]) [[114, 54], hld 0] ++ insT [115, 116] [pl, [114, 54], dgs k])) ++ insT [108, 100, 105] [[114, 54], [48]]) ++ insT [108, 100] [hld 0, pl, dgs k]) ++ insT (chd k [115, 117, 98] [115, 98, 99]) [[114, 54], hld 0]) ++ insT [115, 116] [pl, [114, 54], dgs k]).length = (((((t ++ each k (fun k => insT [108, 100, 105] [[114, 54], [48]] ++ insT [108, 100] [hld 0, pl, dgs k] ++ insT (chd k [115, 117, 98] [115, 98, 99]) [[114, 54], hld 0] ++ insT [115, 116] [pl, [114, 54], dgs k])) ++ insT [108, 100, 105] [[114, 54], [48]]) ++ insT [108, 100] [hld 0, pl, dgs k]) ++ insT (chd k [115, 117, 98] [115, 98, 99]) [[114, 54], hld 0])).length + (insT [115, 116] [pl, [114, 54], dgs k]).length := List.length_append
      go_wp2_with fail
      go_roundg (n - (k + 1))
      case measure => omega
      case rel => exact ⟨k + 1, _, by omega, rfl, by go_num, by rw [each_succ]; simpa only [List.append_assoc] using H13, K13⟩
    · have hkI : ¬ (k : Int) < (n : Int) := by omega
      have HKE := hideI (show k = n by omega)
      have c2 := (unhideI HW).words
      go_wp2_with fail
      go_end0
      refine ⟨rfl, ⟨gg, ?_⟩, unhideI HK⟩
      have hz := unhideI HW
      rw [unhideI HKE] at hz
      unfold negT
      simpa only [List.append_assoc] using hz
set_option maxRecDepth 100000 in
set_option maxHeartbeats 4000000 in
theorem push_any (B b n : Nat) (t : List UInt8) (g : Option Nat)  (w : World) (h : Wr w B b n t g) (hn1 : 1 ≤ n) (hn : n ≤ 4) (hl : t.length ≤ 900000) (hBw : B ≤ w.heap.size)  : Calls Tryz.prog 144 #[.pointer (some ⟨b, 0, none⟩)] w fun e w' => e = .returned (.tuple #[]) ∧ (∃ g', Wr w' B b n (t ++ pushT n) g') ∧ Below B w w' := by
  have H0 := hideI h
  have K0 := hideI (Below.refl B w)
  have hnI : (n : Int) ≤ 4 := by omega
  have hnI1 : (1 : Int) ≤ (n : Int) := by omega
  have c2 := h.words
  clear h
  go_enter Tryz.func144, Tryz.ntmps144
  go_wp2_with fail
  have HE := hideI (fun k => each_len (n := k) (f := (fun k => insT [108, 100] [[114, 54], [114, 49], dgs (n - 1 - k)] ++ insT [112, 117, 115, 104] [[114, 54]])) (c := 300) (fun k => by (try simp only [List.length_append]); have e0 := insT_len (kd := [108, 100]) (fs := [[114, 54], [114, 49], dgs (n - 1 - k)]) (by decide) (by simp) (List.forall_mem_cons.2 ⟨(by decide), (List.forall_mem_cons.2 ⟨(by decide), (List.forall_mem_cons.2 ⟨(dgs_len20 _), (fun _ h => absurd h List.not_mem_nil)⟩)⟩)⟩); have e1 := insT_len (kd := [112, 117, 115, 104]) (fs := [[114, 54]]) (by decide) (by simp) (List.forall_mem_cons.2 ⟨(by decide), (fun _ h => absurd h List.not_mem_nil)⟩); omega))
  go_loopg [7] n (fun gm tt wr => ∃ (k : Nat) (gg : Option Nat), k ≤ n ∧ gm = n - k ∧ tt = .int .i64 (k : Int) ∧ Hid (Wr wr B b n (t ++ each k (fun k => insT [108, 100] [[114, 54], [114, 49], dgs (n - 1 - k)] ++ insT [112, 117, 115, 104] [[114, 54]])) gg) ∧ Hid (Below B w wr))
  case atStart => exact ⟨0, g, Nat.zero_le _, rfl, rfl, by simpa [each] using H0, K0⟩
  case round =>
    obtain ⟨k, gg, hk, hgm, rfl, HW, HK⟩ := hrel
    generalize wr = W0 at *
    have lbw : B ≤ W0.heap.size := Nat.le_trans hBw (show _ from (unhideI HK).size)
    have hEk := unhideI HE k
    have hT0 : (t ++ each k (fun k => insT [108, 100] [[114, 54], [114, 49], dgs (n - 1 - k)] ++ insT [112, 117, 115, 104] [[114, 54]])).length = (t).length + (each k (fun k => insT [108, 100] [[114, 54], [114, 49], dgs (n - 1 - k)] ++ insT [112, 117, 115, 104] [[114, 54]])).length := List.length_append
    clear H0 K0 c2
    have hkn : k * 300 ≤ 1200 := by omega
    by_cases hlt : k < n
    · have hkI : (k : Int) < (n : Int) := by omega
      have hk0 : (0 : Int) ≤ (k : Int) := by omega
      have c2 := (unhideI HW).words
      have HH := hideI (fun W => digits_any (n - 1 - k) (by omega) W)
      rw [show (((n - 1 - k) : Nat) : Int) = (n : Int) - 1 - (k : Int) by omega] at HH
      go_wp2_with fail
      refine (unhideI HH _).mono ?_
      rintro e wq ⟨rfl, hq⟩
      subst wq
      clear HH
      have HD := hideI (do_at B b n (t ++ each k (fun k => insT [108, 100] [[114, 54], [114, 49], dgs (n - 1 - k)] ++ insT [112, 117, 115, 104] [[114, 54]])) gg [108, 100] [[114, 54], [114, 49], dgs (n - 1 - k)] W0 (unhideI HW) (by simp) (by simp) (List.forall_mem_cons.2 ⟨(by decide), (List.forall_mem_cons.2 ⟨(by decide), (List.forall_mem_cons.2 ⟨(dgs_len20 _), (fun _ h => absurd h List.not_mem_nil)⟩)⟩)⟩) (by omega) (by decide) lbw)
      have HD2 : Hid (Calls Tryz.prog 87 #[.pointer (some ⟨b, 0, none⟩), .string ⟨#[108, 100]⟩, .slice (some ⟨W0.heap.size, 0, none⟩) 3 3] (W0.alloc (.cells #[.string ⟨#[114, 54]⟩, .string ⟨#[114, 49]⟩, .string (sb (dgs (n - 1 - k)))] 9)) fun e w' => e = .returned (.tuple #[]) ∧ (∃ g', Wr w' B b n ((t ++ each k (fun k => insT [108, 100] [[114, 54], [114, 49], dgs (n - 1 - k)] ++ insT [112, 117, 115, 104] [[114, 54]])) ++ insT [108, 100] [[114, 54], [114, 49], dgs (n - 1 - k)]) g') ∧ Below B W0 w') := HD
      have hl14 := insT_len (kd := [108, 100]) (fs := [[114, 54], [114, 49], dgs (n - 1 - k)]) (by decide) (by simp) (List.forall_mem_cons.2 ⟨(by decide), (List.forall_mem_cons.2 ⟨(by decide), (List.forall_mem_cons.2 ⟨(dgs_len20 _), (fun _ h => absurd h List.not_mem_nil)⟩)⟩)⟩)
      clear HD
      go_wp2_with fail
      refine (unhideI HD2).mono ?_
      rintro e w14 ⟨rfl, ⟨g14, hH14⟩, kK14⟩
      have H14 := hideI hH14
      have K14 := hideI ((unhideI HK).trans kK14)
      have lb14 : B ≤ w14.heap.size := Nat.le_trans lbw kK14.size
      clear HD2 hH14 kK14 HW HK
      have hT14 : ((t ++ each k (fun k => insT [108, 100] [[114, 54], [114, 49], dgs (n - 1 - k)] ++ insT [112, 117, 115, 104] [[114, 54]])) ++ insT [108, 100] [[114, 54], [114, 49], dgs (n - 1 - k)]).length = ((t ++ each k (fun k => insT [108, 100] [[114, 54], [114, 49], dgs (n - 1 - k)] ++ insT [112, 117, 115, 104] [[114, 54]]))).length + (insT [108, 100] [[114, 54], [114, 49], dgs (n - 1 - k)]).length := List.length_append
      have HD := hideI (do_at B b n ((t ++ each k (fun k => insT [108, 100] [[114, 54], [114, 49], dgs (n - 1 - k)] ++ insT [112, 117, 115, 104] [[114, 54]])) ++ insT [108, 100] [[114, 54], [114, 49], dgs (n - 1 - k)]) g14 [112, 117, 115, 104] [[114, 54]] w14 (unhideI H14) (by simp) (by simp) (List.forall_mem_cons.2 ⟨(by decide), (fun _ h => absurd h List.not_mem_nil)⟩) (by omega) (by decide) lb14)
      have HD2 : Hid (Calls Tryz.prog 87 #[.pointer (some ⟨b, 0, none⟩), .string ⟨#[112, 117, 115, 104]⟩, .slice (some ⟨w14.heap.size, 0, none⟩) 1 1] (w14.alloc (.cells #[.string ⟨#[114, 54]⟩] 9)) fun e w' => e = .returned (.tuple #[]) ∧ (∃ g', Wr w' B b n (((t ++ each k (fun k => insT [108, 100] [[114, 54], [114, 49], dgs (n - 1 - k)] ++ insT [112, 117, 115, 104] [[114, 54]])) ++ insT [108, 100] [[114, 54], [114, 49], dgs (n - 1 - k)]) ++ insT [112, 117, 115, 104] [[114, 54]]) g') ∧ Below B w14 w') := HD
      have hl15 := insT_len (kd := [112, 117, 115, 104]) (fs := [[114, 54]]) (by decide) (by simp) (List.forall_mem_cons.2 ⟨(by decide), (fun _ h => absurd h List.not_mem_nil)⟩)
      clear HD
      go_wp2_with fail
      refine (unhideI HD2).mono ?_
      rintro e w15 ⟨rfl, ⟨g15, hH15⟩, kK15⟩
      have H15 := hideI hH15
      have K15 := hideI ((unhideI K14).trans kK15)
      have lb15 : B ≤ w15.heap.size := Nat.le_trans lb14 kK15.size
      clear HD2 hH15 kK15 H14 K14
      have hT15 : (((t ++ each k (fun k => insT [108, 100] [[114, 54], [114, 49], dgs (n - 1 - k)] ++ insT [112, 117, 115, 104] [[114, 54]])) ++ insT [108, 100] [[114, 54], [114, 49], dgs (n - 1 - k)]) ++ insT [112, 117, 115, 104] [[114, 54]]).length = (((t ++ each k (fun k => insT [108, 100] [[114, 54], [114, 49], dgs (n - 1 - k)] ++ insT [112, 117, 115, 104] [[114, 54]])) ++ insT [108, 100] [[114, 54], [114, 49], dgs (n - 1 - k)])).length + (insT [112, 117, 115, 104] [[114, 54]]).length := List.length_append
      go_wp2_with fail
      go_roundg (n - (k + 1))
      case measure => omega
      case rel => exact ⟨k + 1, _, by omega, rfl, by go_num, by rw [each_succ]; simpa only [List.append_assoc] using H15, K15⟩
    · have hkI : ¬ (k : Int) < (n : Int) := by omega
      have HKE := hideI (show k = n by omega)
      have c2 := (unhideI HW).words
      go_wp2_with fail
      go_end0
      refine ⟨rfl, ⟨gg, ?_⟩, unhideI HK⟩
      have hz := unhideI HW
      rw [unhideI HKE] at hz
      unfold pushT
      simpa only [List.append_assoc] using hz
set_option maxRecDepth 100000 in
set_option maxHeartbeats 4000000 in
theorem trapZ_any (B b n : Nat) (t : List UInt8) (g : Option Nat)  (w : World) (h : Wr w B b n t g) (hn1 : 1 ≤ n) (hn : n ≤ 4) (hl : t.length ≤ 900000) (hBw : B ≤ w.heap.size)  : Calls Tryz.prog 93 #[.pointer (some ⟨b, 0, none⟩)] w fun e w' => e = .returned (.tuple #[]) ∧ (∃ g', Wr w' B b n (t ++ trapT n) g') ∧ Below B w w' := by
  have H0 := hideI h
  have K0 := hideI (Below.refl B w)
  have hnI : (n : Int) ≤ 4 := by omega
  have hnI1 : (1 : Int) ≤ (n : Int) := by omega
  have c2 := h.words
  clear h
  go_enter Tryz.func93, Tryz.ntmps93
  have HD := hideI (do_at B b n t g [108, 100, 105] [[114, 54], [48]] w (unhideI H0) (by simp) (by simp) (List.forall_mem_cons.2 ⟨(by decide), (List.forall_mem_cons.2 ⟨(by decide), (fun _ h => absurd h List.not_mem_nil)⟩)⟩) (by omega) (by decide) hBw)
  have HD2 : Hid (Calls Tryz.prog 87 #[.pointer (some ⟨b, 0, none⟩), .string ⟨#[108, 100, 105]⟩, .slice (some ⟨w.heap.size, 0, none⟩) 2 2] (w.alloc (.cells #[.string ⟨#[114, 54]⟩, .string ⟨#[48]⟩] 9)) fun e w' => e = .returned (.tuple #[]) ∧ (∃ g', Wr w' B b n (t ++ insT [108, 100, 105] [[114, 54], [48]]) g') ∧ Below B w w') := HD
  have hl16 := insT_len (kd := [108, 100, 105]) (fs := [[114, 54], [48]]) (by decide) (by simp) (List.forall_mem_cons.2 ⟨(by decide), (List.forall_mem_cons.2 ⟨(by decide), (fun _ h => absurd h List.not_mem_nil)⟩)⟩)
  clear HD
  go_wp2_with fail
  refine (unhideI HD2).mono ?_
  rintro e w16 ⟨rfl, ⟨g16, hH16⟩, kK16⟩
  have H16 := hideI hH16
  have K16 := hideI ((unhideI K0).trans kK16)
  have lb16 : B ≤ w16.heap.size := Nat.le_trans hBw kK16.size
  clear HD2 hH16 kK16 H0 K0
  have hT16 : (t ++ insT [108, 100, 105] [[114, 54], [48]]).length = (t).length + (insT [108, 100, 105] [[114, 54], [48]]).length := List.length_append
  have c2 := (unhideI H16).words
  go_wp2_with fail
  have HE := hideI (fun k => each_len (n := k) (f := (fun k => insT [108, 100] [hld 0, [114, 49], dgs k] ++ insT [111, 114] [[114, 54], hld 0])) (c := 300) (fun k => by (try simp only [List.length_append]); have e0 := insT_len (kd := [108, 100]) (fs := [hld 0, [114, 49], dgs k]) (by decide) (by simp) (List.forall_mem_cons.2 ⟨(hld_len _), (List.forall_mem_cons.2 ⟨(by decide), (List.forall_mem_cons.2 ⟨(dgs_len20 _), (fun _ h => absurd h List.not_mem_nil)⟩)⟩)⟩); have e1 := insT_len (kd := [111, 114]) (fs := [[114, 54], hld 0]) (by decide) (by simp) (List.forall_mem_cons.2 ⟨(by decide), (List.forall_mem_cons.2 ⟨(hld_len _), (fun _ h => absurd h List.not_mem_nil)⟩)⟩); omega))
  go_loopg [10] n (fun gm tt wr => ∃ (k : Nat) (gg : Option Nat), k ≤ n ∧ gm = n - k ∧ tt = .int .i64 (k : Int) ∧ Hid (Wr wr B b n ((t ++ insT [108, 100, 105] [[114, 54], [48]]) ++ each k (fun k => insT [108, 100] [hld 0, [114, 49], dgs k] ++ insT [111, 114] [[114, 54], hld 0])) gg) ∧ Hid (Below B w wr))
  case atStart => exact ⟨0, g16, Nat.zero_le _, rfl, rfl, by simpa [each] using H16, K16⟩
  case round =>
    obtain ⟨k, gg, hk, hgm, rfl, HW, HK⟩ := hrel
    generalize wr = W0 at *
    have lbw : B ≤ W0.heap.size := Nat.le_trans hBw (show _ from (unhideI HK).size)
    have hEk := unhideI HE k
    have hT0 : ((t ++ insT [108, 100, 105] [[114, 54], [48]]) ++ each k (fun k => insT [108, 100] [hld 0, [114, 49], dgs k] ++ insT [111, 114] [[114, 54], hld 0])).length = ((t ++ insT [108, 100, 105] [[114, 54], [48]])).length + (each k (fun k => insT [108, 100] [hld 0, [114, 49], dgs k] ++ insT [111, 114] [[114, 54], hld 0])).length := List.length_append
    clear H16 K16 c2
    have hkn : k * 300 ≤ 1200 := by omega
    by_cases hlt : k < n
    · have hkI : (k : Int) < (n : Int) := by omega
      have hk0 : (0 : Int) ≤ (k : Int) := by omega
      have HH := hideI (fun W => held_any 0 (by omega) W)
      rw [show ((0 : Nat) : Int) = 0 by omega] at HH
      go_wp2_with fail
      refine (unhideI HH _).mono ?_
      rintro e wq ⟨rfl, hq⟩
      subst wq
      clear HH
      have HH := hideI (fun W => digits_any k (by omega) W)
      go_wp2_with fail
      refine (unhideI HH _).mono ?_
      rintro e wq ⟨rfl, hq⟩
      subst wq
      clear HH
      have HD := hideI (do_at B b n ((t ++ insT [108, 100, 105] [[114, 54], [48]]) ++ each k (fun k => insT [108, 100] [hld 0, [114, 49], dgs k] ++ insT [111, 114] [[114, 54], hld 0])) gg [108, 100] [hld 0, [114, 49], dgs k] W0 (unhideI HW) (by simp) (by simp) (List.forall_mem_cons.2 ⟨(hld_len _), (List.forall_mem_cons.2 ⟨(by decide), (List.forall_mem_cons.2 ⟨(dgs_len20 _), (fun _ h => absurd h List.not_mem_nil)⟩)⟩)⟩) (by omega) (by decide) lbw)
      have HD2 : Hid (Calls Tryz.prog 87 #[.pointer (some ⟨b, 0, none⟩), .string ⟨#[108, 100]⟩, .slice (some ⟨W0.heap.size, 0, none⟩) 3 3] (W0.alloc (.cells #[.string (sb (hld 0)), .string ⟨#[114, 49]⟩, .string (sb (dgs k))] 9)) fun e w' => e = .returned (.tuple #[]) ∧ (∃ g', Wr w' B b n (((t ++ insT [108, 100, 105] [[114, 54], [48]]) ++ each k (fun k => insT [108, 100] [hld 0, [114, 49], dgs k] ++ insT [111, 114] [[114, 54], hld 0])) ++ insT [108, 100] [hld 0, [114, 49], dgs k]) g') ∧ Below B W0 w') := HD
      have hl17 := insT_len (kd := [108, 100]) (fs := [hld 0, [114, 49], dgs k]) (by decide) (by simp) (List.forall_mem_cons.2 ⟨(hld_len _), (List.forall_mem_cons.2 ⟨(by decide), (List.forall_mem_cons.2 ⟨(dgs_len20 _), (fun _ h => absurd h List.not_mem_nil)⟩)⟩)⟩)
      clear HD
      go_wp2_with fail
      refine (unhideI HD2).mono ?_
      rintro e w17 ⟨rfl, ⟨g17, hH17⟩, kK17⟩
      have H17 := hideI hH17
      have K17 := hideI ((unhideI HK).trans kK17)
      have lb17 : B ≤ w17.heap.size := Nat.le_trans lbw kK17.size
      clear HD2 hH17 kK17 HW HK
      have hT17 : (((t ++ insT [108, 100, 105] [[114, 54], [48]]) ++ each k (fun k => insT [108, 100] [hld 0, [114, 49], dgs k] ++ insT [111, 114] [[114, 54], hld 0])) ++ insT [108, 100] [hld 0, [114, 49], dgs k]).length = (((t ++ insT [108, 100, 105] [[114, 54], [48]]) ++ each k (fun k => insT [108, 100] [hld 0, [114, 49], dgs k] ++ insT [111, 114] [[114, 54], hld 0]))).length + (insT [108, 100] [hld 0, [114, 49], dgs k]).length := List.length_append
      have HH := hideI (fun W => held_any 0 (by omega) W)
      rw [show ((0 : Nat) : Int) = 0 by omega] at HH
      go_wp2_with fail
      refine (unhideI HH _).mono ?_
      rintro e wq ⟨rfl, hq⟩
      subst wq
      clear HH
      have HD := hideI (do_at B b n (((t ++ insT [108, 100, 105] [[114, 54], [48]]) ++ each k (fun k => insT [108, 100] [hld 0, [114, 49], dgs k] ++ insT [111, 114] [[114, 54], hld 0])) ++ insT [108, 100] [hld 0, [114, 49], dgs k]) g17 [111, 114] [[114, 54], hld 0] w17 (unhideI H17) (by simp) (by simp) (List.forall_mem_cons.2 ⟨(by decide), (List.forall_mem_cons.2 ⟨(hld_len _), (fun _ h => absurd h List.not_mem_nil)⟩)⟩) (by omega) (by decide) lb17)
      have HD2 : Hid (Calls Tryz.prog 87 #[.pointer (some ⟨b, 0, none⟩), .string ⟨#[111, 114]⟩, .slice (some ⟨w17.heap.size, 0, none⟩) 2 2] (w17.alloc (.cells #[.string ⟨#[114, 54]⟩, .string (sb (hld 0))] 9)) fun e w' => e = .returned (.tuple #[]) ∧ (∃ g', Wr w' B b n ((((t ++ insT [108, 100, 105] [[114, 54], [48]]) ++ each k (fun k => insT [108, 100] [hld 0, [114, 49], dgs k] ++ insT [111, 114] [[114, 54], hld 0])) ++ insT [108, 100] [hld 0, [114, 49], dgs k]) ++ insT [111, 114] [[114, 54], hld 0]) g') ∧ Below B w17 w') := HD
      have hl18 := insT_len (kd := [111, 114]) (fs := [[114, 54], hld 0]) (by decide) (by simp) (List.forall_mem_cons.2 ⟨(by decide), (List.forall_mem_cons.2 ⟨(hld_len _), (fun _ h => absurd h List.not_mem_nil)⟩)⟩)
      clear HD
      go_wp2_with fail
      refine (unhideI HD2).mono ?_
      rintro e w18 ⟨rfl, ⟨g18, hH18⟩, kK18⟩
      have H18 := hideI hH18
      have K18 := hideI ((unhideI K17).trans kK18)
      have lb18 : B ≤ w18.heap.size := Nat.le_trans lb17 kK18.size
      clear HD2 hH18 kK18 H17 K17
      have hT18 : ((((t ++ insT [108, 100, 105] [[114, 54], [48]]) ++ each k (fun k => insT [108, 100] [hld 0, [114, 49], dgs k] ++ insT [111, 114] [[114, 54], hld 0])) ++ insT [108, 100] [hld 0, [114, 49], dgs k]) ++ insT [111, 114] [[114, 54], hld 0]).length = ((((t ++ insT [108, 100, 105] [[114, 54], [48]]) ++ each k (fun k => insT [108, 100] [hld 0, [114, 49], dgs k] ++ insT [111, 114] [[114, 54], hld 0])) ++ insT [108, 100] [hld 0, [114, 49], dgs k])).length + (insT [111, 114] [[114, 54], hld 0]).length := List.length_append
      go_wp2_with fail
      go_roundg (n - (k + 1))
      case measure => omega
      case rel => exact ⟨k + 1, _, by omega, rfl, by go_num, by rw [each_succ]; simpa only [List.append_assoc] using H18, K18⟩
    · have hkI : ¬ (k : Int) < (n : Int) := by omega
      have HKE := hideI (show k = n by omega)
      have c2 := (unhideI HW).words
      have HD := hideI (do_at B b n ((t ++ insT [108, 100, 105] [[114, 54], [48]]) ++ each k (fun k => insT [108, 100] [hld 0, [114, 49], dgs k] ++ insT [111, 114] [[114, 54], hld 0])) gg [106, 110, 122] [[46, 102, 105, 110, 101]] W0 (unhideI HW) (by simp) (by simp) (List.forall_mem_cons.2 ⟨(by decide), (fun _ h => absurd h List.not_mem_nil)⟩) (by omega) (by decide) lbw)
      have HD2 : Hid (Calls Tryz.prog 87 #[.pointer (some ⟨b, 0, none⟩), .string ⟨#[106, 110, 122]⟩, .slice (some ⟨W0.heap.size, 0, none⟩) 1 1] (W0.alloc (.cells #[.string ⟨#[46, 102, 105, 110, 101]⟩] 9)) fun e w' => e = .returned (.tuple #[]) ∧ (∃ g', Wr w' B b n (((t ++ insT [108, 100, 105] [[114, 54], [48]]) ++ each k (fun k => insT [108, 100] [hld 0, [114, 49], dgs k] ++ insT [111, 114] [[114, 54], hld 0])) ++ insT [106, 110, 122] [[46, 102, 105, 110, 101]]) g') ∧ Below B W0 w') := HD
      have hl19 := insT_len (kd := [106, 110, 122]) (fs := [[46, 102, 105, 110, 101]]) (by decide) (by simp) (List.forall_mem_cons.2 ⟨(by decide), (fun _ h => absurd h List.not_mem_nil)⟩)
      clear HD
      go_wp2_with fail
      refine (unhideI HD2).mono ?_
      rintro e w19 ⟨rfl, ⟨g19, hH19⟩, kK19⟩
      have H19 := hideI hH19
      have K19 := hideI ((unhideI HK).trans kK19)
      have lb19 : B ≤ w19.heap.size := Nat.le_trans lbw kK19.size
      clear HD2 hH19 kK19 HW HK
      have hT19 : (((t ++ insT [108, 100, 105] [[114, 54], [48]]) ++ each k (fun k => insT [108, 100] [hld 0, [114, 49], dgs k] ++ insT [111, 114] [[114, 54], hld 0])) ++ insT [106, 110, 122] [[46, 102, 105, 110, 101]]).length = (((t ++ insT [108, 100, 105] [[114, 54], [48]]) ++ each k (fun k => insT [108, 100] [hld 0, [114, 49], dgs k] ++ insT [111, 114] [[114, 54], hld 0]))).length + (insT [106, 110, 122] [[46, 102, 105, 110, 101]]).length := List.length_append
      have HD := hideI (do_at B b n (((t ++ insT [108, 100, 105] [[114, 54], [48]]) ++ each k (fun k => insT [108, 100] [hld 0, [114, 49], dgs k] ++ insT [111, 114] [[114, 54], hld 0])) ++ insT [106, 110, 122] [[46, 102, 105, 110, 101]]) g19 [116, 114, 97, 112] [[49]] w19 (unhideI H19) (by simp) (by simp) (List.forall_mem_cons.2 ⟨(by decide), (fun _ h => absurd h List.not_mem_nil)⟩) (by omega) (by decide) lb19)
      have HD2 : Hid (Calls Tryz.prog 87 #[.pointer (some ⟨b, 0, none⟩), .string ⟨#[116, 114, 97, 112]⟩, .slice (some ⟨w19.heap.size, 0, none⟩) 1 1] (w19.alloc (.cells #[.string ⟨#[49]⟩] 9)) fun e w' => e = .returned (.tuple #[]) ∧ (∃ g', Wr w' B b n ((((t ++ insT [108, 100, 105] [[114, 54], [48]]) ++ each k (fun k => insT [108, 100] [hld 0, [114, 49], dgs k] ++ insT [111, 114] [[114, 54], hld 0])) ++ insT [106, 110, 122] [[46, 102, 105, 110, 101]]) ++ insT [116, 114, 97, 112] [[49]]) g') ∧ Below B w19 w') := HD
      have hl20 := insT_len (kd := [116, 114, 97, 112]) (fs := [[49]]) (by decide) (by simp) (List.forall_mem_cons.2 ⟨(by decide), (fun _ h => absurd h List.not_mem_nil)⟩)
      clear HD
      go_wp2_with fail
      refine (unhideI HD2).mono ?_
      rintro e w20 ⟨rfl, ⟨g20, hH20⟩, kK20⟩
      have H20 := hideI hH20
      have K20 := hideI ((unhideI K19).trans kK20)
      have lb20 : B ≤ w20.heap.size := Nat.le_trans lb19 kK20.size
      clear HD2 hH20 kK20 H19 K19
      have hT20 : ((((t ++ insT [108, 100, 105] [[114, 54], [48]]) ++ each k (fun k => insT [108, 100] [hld 0, [114, 49], dgs k] ++ insT [111, 114] [[114, 54], hld 0])) ++ insT [106, 110, 122] [[46, 102, 105, 110, 101]]) ++ insT [116, 114, 97, 112] [[49]]).length = ((((t ++ insT [108, 100, 105] [[114, 54], [48]]) ++ each k (fun k => insT [108, 100] [hld 0, [114, 49], dgs k] ++ insT [111, 114] [[114, 54], hld 0])) ++ insT [106, 110, 122] [[46, 102, 105, 110, 101]])).length + (insT [116, 114, 97, 112] [[49]]).length := List.length_append
      have HD := hideI (label_any B b n ((((t ++ insT [108, 100, 105] [[114, 54], [48]]) ++ each k (fun k => insT [108, 100] [hld 0, [114, 49], dgs k] ++ insT [111, 114] [[114, 54], hld 0])) ++ insT [106, 110, 122] [[46, 102, 105, 110, 101]]) ++ insT [116, 114, 97, 112] [[49]]) g20 [46, 102, 105, 110, 101] w20 (unhideI H20) (by have : ([46, 102, 105, 110, 101]).length ≤ 20 := (by decide); omega) lb20)
      have HD2 : Hid (Calls Tryz.prog 19 #[.pointer (some ⟨b, 0, none⟩), .string ⟨#[46, 102, 105, 110, 101]⟩] w20 fun e w' => e = .returned (.tuple #[]) ∧ (∃ g', Wr w' B b n (((((t ++ insT [108, 100, 105] [[114, 54], [48]]) ++ each k (fun k => insT [108, 100] [hld 0, [114, 49], dgs k] ++ insT [111, 114] [[114, 54], hld 0])) ++ insT [106, 110, 122] [[46, 102, 105, 110, 101]]) ++ insT [116, 114, 97, 112] [[49]]) ++ labT [46, 102, 105, 110, 101]) g') ∧ Below B w20 w') := HD
      have hl21 := labT_len (s := [46, 102, 105, 110, 101]) (by decide)
      clear HD
      go_wp2_with fail
      refine (unhideI HD2).mono ?_
      rintro e w21 ⟨rfl, ⟨g21, hH21⟩, kK21⟩
      have H21 := hideI hH21
      have K21 := hideI ((unhideI K20).trans kK21)
      have lb21 : B ≤ w21.heap.size := Nat.le_trans lb20 kK21.size
      clear HD2 hH21 kK21 H20 K20
      have hT21 : (((((t ++ insT [108, 100, 105] [[114, 54], [48]]) ++ each k (fun k => insT [108, 100] [hld 0, [114, 49], dgs k] ++ insT [111, 114] [[114, 54], hld 0])) ++ insT [106, 110, 122] [[46, 102, 105, 110, 101]]) ++ insT [116, 114, 97, 112] [[49]]) ++ labT [46, 102, 105, 110, 101]).length = (((((t ++ insT [108, 100, 105] [[114, 54], [48]]) ++ each k (fun k => insT [108, 100] [hld 0, [114, 49], dgs k] ++ insT [111, 114] [[114, 54], hld 0])) ++ insT [106, 110, 122] [[46, 102, 105, 110, 101]]) ++ insT [116, 114, 97, 112] [[49]])).length + (labT [46, 102, 105, 110, 101]).length := List.length_append
      go_wp2_with fail
      go_end0
      refine ⟨rfl, ⟨g21, ?_⟩, unhideI K21⟩
      have hz := unhideI H21
      rw [unhideI HKE] at hz
      unfold trapT
      simpa only [List.append_assoc] using hz
end Go.Proofs.YthlgloiocdcaoaaGreatDoor
