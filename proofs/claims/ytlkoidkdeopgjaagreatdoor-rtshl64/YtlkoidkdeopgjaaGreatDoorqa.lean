/-
  RtQ.
-/
import Derived.Test.YtlkoidkdeopgjaaGreatDoorpa
import Derived.Test.YtlkoidkdeopgjaaGreatDoorbd
set_option maxHeartbeats 4000000
set_option maxRecDepth 100000
namespace Go.Proofs.YtlkoidkdeopgjaaGreatDoor
open Go.RowKit Go.Maps
set_option linter.unusedSimpArgs false
set_option linter.unusedVariables false
def apB (p n q m : Int) : Bool := decide (0 ≤ p ∧ 0 ≤ q ∧ p ≤ 65536 - n ∧ q ≤ 65536 - m ∧ (p + n ≤ q ∨ q + m ≤ p))
theorem apart_any (p n q m : Int) (w : World) (hn : 0 ≤ n ∧ n ≤ 64) (hm : 0 ≤ m ∧ m ≤ 64) :
   Calls Tryz.prog 28 #[.int .i64 p, .int .i64 n, .int .i64 q, .int .i64 m] w fun e w' => e = .returned (.bool (apB p n q m)) ∧ w' = w := by
 obtain ⟨n0, n1⟩ := hn
 obtain ⟨m0, m1⟩ := hm
 by_cases c1 : 0 ≤ p
 · by_cases c2 : 0 ≤ q
   · by_cases c3 : p ≤ 65536 - n
     · by_cases c4 : q ≤ 65536 - m
       · by_cases c5 : p + n ≤ q
         · rw [show apB p n q m = true by unfold apB; exact decide_eq_true (by omega)]
           go_enter Tryz.func28, Tryz.ntmps28
           go_wp2_with fail
           go_ret
           exact ⟨rfl, rfl⟩
         · by_cases c6 : q + m ≤ p
           · rw [show apB p n q m = true by unfold apB; exact decide_eq_true (by omega)]
             go_enter Tryz.func28, Tryz.ntmps28
             go_wp2_with fail
             go_ret
             exact ⟨rfl, rfl⟩
           · rw [show apB p n q m = false by unfold apB; exact decide_eq_false (by omega)]
             go_enter Tryz.func28, Tryz.ntmps28
             go_wp2_with fail
             go_ret
             exact ⟨rfl, rfl⟩
       · rw [show apB p n q m = false by unfold apB; exact decide_eq_false (by omega)]
         go_enter Tryz.func28, Tryz.ntmps28
         go_wp2_with fail
         go_ret
         exact ⟨rfl, rfl⟩
     · rw [show apB p n q m = false by unfold apB; exact decide_eq_false (by omega)]
       go_enter Tryz.func28, Tryz.ntmps28
       go_wp2_with fail
       go_ret
       exact ⟨rfl, rfl⟩
   · rw [show apB p n q m = false by unfold apB; exact decide_eq_false (by omega)]
     go_enter Tryz.func28, Tryz.ntmps28
     go_wp2_with fail
     go_ret
     exact ⟨rfl, rfl⟩
 · rw [show apB p n q m = false by unfold apB; exact decide_eq_false (by omega)]
   go_enter Tryz.func28, Tryz.ntmps28
   go_wp2_with fail
   go_ret
   exact ⟨rfl, rfl⟩
theorem dv_wo {N : Int} : ∀ k, dv N k = N / 65536 ^ k
 | 0 => by simp [dv]
 | k + 1 => by
   have hp := pw_pos k
   rw [dv, dv_wo k, Int.pow_succ, Int.ediv_ediv, if_neg (by omega)]; simp
theorem wl_ws (N : Int) (k : Nat) : wl N k = wsR k N := by
 unfold wl wsR
 refine List.map_congr_left fun i _ => ?_
 rw [dv_wo]; rfl
theorem kw_w {n : Nat} (h : Nw n) : kw ((16 * n : Nat) : Int) = n := by rcases h with rfl | rfl | rfl <;> rfl
theorem isW_w {n : Nat} (h : Nw n) : IsW ((16 * n : Nat) : Int) := by
 rcases h with rfl | rfl | rfl
 · exact .inr (.inl rfl)
 · exact .inr (.inr (.inl rfl))
 · exact .inr (.inr (.inr rfl))
theorem split_w {n : Nat} (h : Nw n) (x : Int) (w : World) (hx : U x) : Calls Tryz.prog 29 #[.int .u64 x, .int .i64 ((16 * n : Nat) : Int)] w fun e w' => Below w.heap.size w w' ∧ ∃ v, e = .returned (.tuple #[v, .int .i64 0]) ∧ Ints w' v (wsR n (x % 65536 ^ n)) := by
 have := rsplit_any x _ w (isW_w h) hx
 rw [wl_ws, kw_w h, cut_w h] at this
 exact this
def Asked (xs : List Int) (n m : Nat) (a b want : Int) (z : Bool) : Prop :=
 ∀ (p q sp : Nat) (fill : Int), Lay n m p q sp → wd fill → ∃ M : Ma, runA xs (stR p q sp fill (memZ fill p (wsR n (a % 65536 ^ n)) q (wsR m (b % 65536 ^ m)))) [] 1000000 = (M, 0) ∧ (z = true → M.how = 2 ∧ M.trap = 1) ∧ (z = false → Done n sp p (want % 65536 ^ n) (memZ fill p (wsR n (a % 65536 ^ n)) q (wsR m (b % 65536 ^ m))) M)
theorem asked_of {Pr C : List Ins} {n m : Nat} {zero : Bool} {f : Int → Int → Int} (hPr : Pr = hdI ++ C) (hl : wln Pr ≤ 65535) (R : Rout Pr n m zero f) (hn : 1 ≤ n) (hm : 1 ≤ m) {a b want : Int} {z : Bool} (hz : z = true → zero = true ∧ b % 65536 ^ m = 0) (hz2 : z = false → zero = true → b % 65536 ^ m ≠ 0) (hw : z = false → want % 65536 ^ n = f (a % 65536 ^ n) (b % 65536 ^ m)) : Asked (Pr.flatMap ws) n m a b want z := by
 intro p q sp fill L hf
 obtain ⟨M, e1, e2, e3⟩ := rt_done hPr hl R L hn hm hf (md_bd n a) (md_bd m b)
 refine ⟨M, e1, fun h => e2 (hz h).1 (hz h).2, fun h => ?_⟩
 rw [hw h]
 exact e3 (hz2 h)
def refB (n m p q sp fill : Int) : Bool := decide (fill < 0) || decide (65535 < fill) || decide (sp < 64) || decide (65535 < sp) || !apB p n q m || !apB p n (sp - 64) 64 || !apB q m (sp - 64) 64
theorem lay_of {n m : Nat} {p q sp fill : Int} (h : refB n m p q sp fill = false) : ∃ (p' q' s' : Nat), p = (p' : Int) ∧ q = (q' : Int) ∧ sp = (s' : Int) ∧ Lay n m p' q' s' ∧ wd fill := by
 unfold refB at h
 simp only [Bool.or_eq_false_iff, decide_eq_false_iff_not, Bool.not_eq_false', apB, decide_eq_true_eq] at h
 obtain ⟨⟨⟨⟨⟨⟨h1, h2⟩, h3⟩, h4⟩, h5⟩, h6⟩, h7⟩ := h
 refine ⟨p.toNat, q.toNat, sp.toNat, by omega, by omega, by omega, ⟨by omega, by omega, by omega, by omega, by omega, by omega, by omega⟩, by unfold wd; omega⟩
theorem does_not (nm : ByteArray) (n m : Nat) (hn : Nw n) (hm : Nw m) (a b want p q sp fill : Int) (z : Bool) (w : World) (h : refB n m p q sp fill = true) :
   Calls Tryz.prog 16 #[.string nm, .int .i64 (n : Int), .int .i64 (m : Int), .int .u64 a, .int .u64 b, .int .i64 p, .int .i64 q, .int .i64 sp, .int .i64 fill, .int .u64 want, .bool z] w fun e w' => e = .returned (.bool true) ∧ Below w.heap.size w w' := by
 have n4 : (0 : Int) ≤ n ∧ (n : Int) ≤ 64 := by rcases hn with rfl | rfl | rfl <;> omega
 have m4 : (0 : Int) ≤ m ∧ (m : Int) ≤ 64 := by rcases hm with rfl | rfl | rfl <;> omega
 unfold refB at h
 clear hn hm
 by_cases c1 : fill < 0
 · skip
   go_enter Tryz.func16, Tryz.ntmps16
   go_wp2_with (go_at_call 28; refine (apart_any _ _ _ _ _ (by omega) (by omega)).mono ?_; rintro e w' ⟨rfl, hw⟩; subst w')
   go_ret
   exact ⟨rfl, Below.refl _ _⟩
 · by_cases c2 : 65535 < fill
   · skip
     go_enter Tryz.func16, Tryz.ntmps16
     go_wp2_with (go_at_call 28; refine (apart_any _ _ _ _ _ (by omega) (by omega)).mono ?_; rintro e w' ⟨rfl, hw⟩; subst w')
     go_ret
     exact ⟨rfl, Below.refl _ _⟩
   · by_cases c3 : sp < 64
     · skip
       go_enter Tryz.func16, Tryz.ntmps16
       go_wp2_with (go_at_call 28; refine (apart_any _ _ _ _ _ (by omega) (by omega)).mono ?_; rintro e w' ⟨rfl, hw⟩; subst w')
       go_ret
       exact ⟨rfl, Below.refl _ _⟩
     · by_cases c4 : 65535 < sp
       · skip
         go_enter Tryz.func16, Tryz.ntmps16
         go_wp2_with (go_at_call 28; refine (apart_any _ _ _ _ _ (by omega) (by omega)).mono ?_; rintro e w' ⟨rfl, hw⟩; subst w')
         go_ret
         exact ⟨rfl, Below.refl _ _⟩
       · cases e1 : apB p n q m with
         | false =>
           go_enter Tryz.func16, Tryz.ntmps16
           go_wp2_with (go_at_call 28; refine (apart_any _ _ _ _ _ (by omega) (by omega)).mono ?_; rintro e w' ⟨rfl, hw⟩; subst w')
           go_ret
           exact ⟨rfl, Below.refl _ _⟩
         | true =>
           cases e2 : apB p n (sp - 64) 64 with
           | false =>
             go_enter Tryz.func16, Tryz.ntmps16
             go_wp2_with (go_at_call 28; refine (apart_any _ _ _ _ _ (by omega) (by omega)).mono ?_; rintro e w' ⟨rfl, hw⟩; subst w')
             go_ret
             exact ⟨rfl, Below.refl _ _⟩
           | true =>
             cases e3 : apB q m (sp - 64) 64 with
             | false =>
               go_enter Tryz.func16, Tryz.ntmps16
               go_wp2_with (go_at_call 28; refine (apart_any _ _ _ _ _ (by omega) (by omega)).mono ?_; rintro e w' ⟨rfl, hw⟩; subst w')
               go_ret
               exact ⟨rfl, Below.refl _ _⟩
             | true =>
               rw [decide_eq_false c1, decide_eq_false c2, decide_eq_false c3, decide_eq_false c4, e1, e2, e3] at h
               cases h
theorem does_go (nm : ByteArray) (xs : List Int) (hk : lkOk (linkL (unR nm) [109, 97, 105, 110]) xs = true) (n m : Nat) (hn : Nw n) (hm : Nw m) (a b want : Int) (p q sp : Nat) (fill : Int) (z : Bool) (Z : List Int) (hZ : Z = memZ fill p (wsR n (a % 65536 ^ n)) q (wsR m (b % 65536 ^ m))) (M : Ma) (hrun : runA xs (stR p q sp fill (memZ fill p (wsR n (a % 65536 ^ n)) q (wsR m (b % 65536 ^ m)))) [] 1000000 = (M, 0)) (hz1 : z = true → M.how = 2 ∧ M.trap = 1) (hz2 : z = false → Done n sp p (want % 65536 ^ n) Z M) (L : Lay n m p q sp) (h : refB n m p q sp fill = false) (w : World) (G : Ga w) (ha : U a) (hb : U b) (hw : U want) :
   Calls Tryz.prog 16 #[.string nm, .int .i64 (n : Int), .int .i64 (m : Int), .int .u64 a, .int .u64 b, .int .i64 (p : Int), .int .i64 (q : Int), .int .i64 (sp : Int), .int .i64 fill, .int .u64 want, .bool z] w fun e w' => e = .returned (.bool true) ∧ Below w.heap.size w w' := by
 have n4 : (0 : Int) ≤ n ∧ (n : Int) ≤ 64 := by rcases hn with rfl | rfl | rfl <;> omega
 have m4 : (0 : Int) ≤ m ∧ (m : Int) ≤ 64 := by rcases hm with rfl | rfl | rfl <;> omega
 unfold refB at h
 simp only [Bool.or_eq_false_iff, decide_eq_false_iff_not, Bool.not_eq_false'] at h
 obtain ⟨⟨⟨⟨⟨⟨c1, c2⟩, c3⟩, c4⟩, e1⟩, e2⟩, e3⟩ := h
 have S1 := zH (fun w => split_w hn a w ha)
 have S2 := zH (fun w => split_w hm b w hb)
 have S3 := zH (fun w => split_w hn want w hw)
 have PA := zH (fun va vb w G ia ib => play_any nm xs hk (wsR n (a % 65536 ^ n)) (wsR m (b % 65536 ^ m)) va vb p q sp fill M w G ia ib (by rw [wsR_len]; exact L.lp) (by rw [wsR_len]; exact L.lq) (by rw [wsR_len]; rcases hn with rfl | rfl | rfl <;> omega) (by rw [wsR_len]; rcases hm with rfl | rfl | rfl <;> omega) hrun)
 rw [← hZ] at PA
 have HG := zH G
 have HL := zH L
 have LA := wsR_len n (want % 65536 ^ n)
 have HLA := zH LA
 have hzl : Z.length = 65536 := by rw [hZ]; exact memZ_len (by rw [wsR_len]; exact L.lp) (by rw [wsR_len]; exact L.lq)
 have HZL := zH hzl
 rw [show ((16 * n : Nat) : Int) = 16 * (n : Int) by omega] at S1 S3
 rw [show ((16 * m : Nat) : Int) = 16 * (m : Int) by omega] at S2
 have hn1 : 1 ≤ n := by rcases hn with rfl | rfl | rfl <;> omega
 clear hn hm hk hrun hZ G L ha hb hw LA hzl
 generalize wsR n (a % 65536 ^ n) = wa at *
 generalize wsR m (b % 65536 ^ m) = wb at *
 go_enter Tryz.func16, Tryz.ntmps16
 go_wp2_with (go_at_call 28; refine (apart_any _ _ _ _ _ (by omega) (by omega)).mono ?_; rintro e w' ⟨rfl, hw⟩; subst w')
 refine (uI S1 _).mono ?_
 rintro e w1 ⟨k1, va, rfl, ia⟩
 have K1 := zH k1
 have IA := zH ia
 obtain ⟨ao, ac, rfl, -, -⟩ := ia.at
 clear k1 ia S1
 go_wp2_with fail
 refine (uI S2 _).mono ?_
 rintro e w2 ⟨k2, vb, rfl, ib⟩
 have K2 := zH (btR (uI K1) k2)
 have IA2 := zH (Ints.step (uI IA) k2)
 have IB := zH ib
 obtain ⟨bo, bc, rfl, -, -⟩ := ib.at
 clear k2 ib S2 K1 IA
 go_wp2_with fail
 refine (uI PA _ _ _ ((uI HG).step (uI K2)) (uI IA2) (uI IB)).mono ?_
 unfold PlayRet
 rintro e w3 ⟨vo, vm, g, NN, rfl, hNN, im, io, hz, hg, hvm, k3⟩
 have K3 := zH (btR (uI K2) k3)
 have HNN := zH hNN
 have IM := zH im
 have ZR := zH hz
 have HV := zH hvm
 have hgl : g < w3.heap.size := (Array.getElem?_eq_some_iff.1 hz).1
 have hg0 : w.heap.size ≤ g := Nat.le_trans (uI K2).size hg
 obtain ⟨m5, c5, rfl, -, -⟩ := im.at
 obtain ⟨n5, d5, rfl, -, -⟩ := io.at
 clear k3 hNN im io hz hvm hg K2 IA2 IB PA HG
 unfold ranV
 cases z with
 | true =>
   obtain ⟨h1, h2⟩ := hz1 rfl
   have H1 := zH h1
   have H2 := zH h2
   clear hz1 hz2 h1 h2
   go_wp2_with (refine wpList_store_row rfl 53 (.tmp 27) (.tmp 95) rfl w3.heap.size (ranC M (.slice n5 M.out.length d5) (.slice m5 (memL M.mem).length c5)) rfl rfl 53 #[.int .i64 0, .int .i64 0, .slice none 0 0, .int .i64 0, .int .i64 0, .int .i64 0, .int .i64 0, .int .i64 0, .int .i64 0, .int .i64 0, .int .i64 0, .int .i64 0, .int .i64 0, .bool false, .bool false, .bool false, .bool false, .int .i64 0, .slice none 0 0] (heap_new _ _) Tryz.sizeRan rfl (ranC_one _ _ _ _ _ _ _) ?_; have SN := zH (store_new w3 #[.int .i64 0, .int .i64 0, .slice none 0 0, .int .i64 0, .int .i64 0, .int .i64 0, .int .i64 0, .int .i64 0, .int .i64 0, .int .i64 0, .int .i64 0, .int .i64 0, .int .i64 0, .bool false, .bool false, .bool false, .bool false, .int .i64 0, .slice none 0 0] (ranC M (.slice n5 M.out.length d5) (.slice m5 (memL M.mem).length c5)) 53); have SH := zH (store_heap w3 #[.int .i64 0, .int .i64 0, .slice none 0 0, .int .i64 0, .int .i64 0, .int .i64 0, .int .i64 0, .int .i64 0, .int .i64 0, .int .i64 0, .int .i64 0, .int .i64 0, .int .i64 0, .bool false, .bool false, .bool false, .bool false, .int .i64 0, .slice none 0 0] (ranC M (.slice n5 M.out.length d5) (.slice m5 (memL M.mem).length c5)) 53); generalize (w3.alloc (.cells #[.int .i64 0, .int .i64 0, .slice none 0 0, .int .i64 0, .int .i64 0, .int .i64 0, .int .i64 0, .int .i64 0, .int .i64 0, .int .i64 0, .int .i64 0, .int .i64 0, .int .i64 0, .bool false, .bool false, .bool false, .bool false, .int .i64 0, .slice none 0 0] 53)).setRow w3.heap.size (ranC M (.slice n5 M.out.length d5) (.slice m5 (memL M.mem).length c5)) = w4 at *; have p0 := (uI SN).1.2.1 0 _ rfl; have p1 := (uI SN).1.2.1 1 _ rfl; rw [uI H1] at p0; rw [uI H2] at p1; have hl4 := (uI SN).1.1)
   go_ret
   exact ⟨rfl, btR (uI K3) (uI SN).2⟩
 | false =>
   have D := zH (hz2 rfl)
   clear hz1 hz2
   have ht : ¬ 20000 < M.took := by have := (uI D).took; omega
   go_wp2_with (refine wpList_store_row rfl 53 (.tmp 27) (.tmp 95) rfl w3.heap.size (ranC M (.slice n5 M.out.length d5) (.slice m5 (memL M.mem).length c5)) rfl rfl 53 #[.int .i64 0, .int .i64 0, .slice none 0 0, .int .i64 0, .int .i64 0, .int .i64 0, .int .i64 0, .int .i64 0, .int .i64 0, .int .i64 0, .int .i64 0, .int .i64 0, .int .i64 0, .bool false, .bool false, .bool false, .bool false, .int .i64 0, .slice none 0 0] (heap_new _ _) Tryz.sizeRan rfl (ranC_one _ _ _ _ _ _ _) ?_; have SN := zH (store_new w3 #[.int .i64 0, .int .i64 0, .slice none 0 0, .int .i64 0, .int .i64 0, .int .i64 0, .int .i64 0, .int .i64 0, .int .i64 0, .int .i64 0, .int .i64 0, .int .i64 0, .int .i64 0, .bool false, .bool false, .bool false, .bool false, .int .i64 0, .slice none 0 0] (ranC M (.slice n5 M.out.length d5) (.slice m5 (memL M.mem).length c5)) 53); have SH := zH (store_heap w3 #[.int .i64 0, .int .i64 0, .slice none 0 0, .int .i64 0, .int .i64 0, .int .i64 0, .int .i64 0, .int .i64 0, .int .i64 0, .int .i64 0, .int .i64 0, .int .i64 0, .int .i64 0, .bool false, .bool false, .bool false, .bool false, .int .i64 0, .slice none 0 0] (ranC M (.slice n5 M.out.length d5) (.slice m5 (memL M.mem).length c5)) 53); generalize (w3.alloc (.cells #[.int .i64 0, .int .i64 0, .slice none 0 0, .int .i64 0, .int .i64 0, .int .i64 0, .int .i64 0, .int .i64 0, .int .i64 0, .int .i64 0, .int .i64 0, .int .i64 0, .int .i64 0, .bool false, .bool false, .bool false, .bool false, .int .i64 0, .slice none 0 0] 53)).setRow w3.heap.size (ranC M (.slice n5 M.out.length d5) (.slice m5 (memL M.mem).length c5)) = w4 at *; have p0 := (uI SN).1.2.1 0 _ rfl; have p4 := (uI SN).1.2.1 4 _ rfl; have p2 := (uI SN).1.2.1 2 _ rfl; have p3 := (uI SN).1.2.1 3 _ rfl; have p12 := (uI SN).1.2.1 12 _ rfl; rw [(uI D).how] at p0; rw [(uI D).rd] at p3; rw [(uI D).r7] at p12; rw [(uI D).out] at p2; have hl4 := (uI SN).1.1)
   have p18 := (uI SN).1.2.1 18 _ rfl
   have K4 := zH (btR (uI K3) (uI SN).2)
   have IM4 := zH (Ints.step (uI IM) (uI SN).2)
   have ZR4 := zH (((uI SN).2.block _ hgl).trans (uI ZR))
   have hg4 : g < w4.heap.size := by omega
   have hgw : w3.heap.size ≠ g := by omega
   clear SN SH p0 p4 p2 p3 p12 K3 IM ZR
   refine (uI S3 _).mono ?_
   rintro e w5 ⟨k5, vz, rfl, iz⟩
   have K5 := zH (btR (uI K4) k5)
   have IM5 := zH (Ints.step (uI IM4) k5)
   have ZR5 := zH ((k5.block _ hg4).trans (uI ZR4))
   have q18 := cell_keep k5 hl4 p18
   have hl5 : w3.heap.size < w5.heap.size := Nat.lt_of_lt_of_le hl4 k5.size
   obtain ⟨ad, zc, rfl, hsrc⟩ : ∃ ad zc, vz = .slice (some ad) (wsR n (want % 65536 ^ n)).length zc ∧ Hid (∀ j u, ((wsR n (want % 65536 ^ n)).map int1)[j]? = some u → w5.cell? (ad.add j) = some u) := by
     rcases Lies.src iz with ⟨-, e2, -⟩ | ⟨ad, cp, e, -, hcell⟩
     · rw [uI HLA] at e2; omega
     · exact ⟨ad, cp, e, hcell⟩
   have hnl := uI HLA
   have hpN : p < NN := by have := (uI HL).lp; have := uI HNN; omega
   have hpI : (p : Int) ≤ (NN : Int) := by omega
   have hZl : (Z.map int1).length = 65536 := by rw [List.length_map]; exact uI HZL
   have HN1 : Hid (((wsR n (want % 65536 ^ n)).map int1).length = Nat.min (wsR n (want % 65536 ^ n)).length (NN - p)) := by unfold Hid; rw [List.length_map]; refine (Nat.min_eq_left ?_).symm; have := (uI HL).lp; have := uI HNN; omega
   have HF1 : Hid (p + ((wsR n (want % 65536 ^ n)).map int1).length ≤ (Z.map int1).toArray.size) := by unfold Hid; rw [List.size_toArray, hZl, List.length_map, hnl]; exact (uI HL).lp
   have HM := zH ((uI D).mem)
   have KW := zH (Below.row (uI K5) hg0 (splice (Z.map int1) p ((wsR n (want % 65536 ^ n)).map int1)).toArray)
   have RW : Hid ((w5.setRow g (splice (Z.map int1) p ((wsR n (want % 65536 ^ n)).map int1)).toArray).heap[g]? = some (.cells ((splice Z p (wsR n (want % 65536 ^ n))).map int1).toArray 3 (0, 0))) := by
     unfold Hid; rw [splice_map]; exact setRow_heap _ _ _ _ _ _ (uI ZR5)
   have CW : Hid ((w5.setRow g (splice (Z.map int1) p ((wsR n (want % 65536 ^ n)).map int1)).toArray).cell? ⟨w3.heap.size, 18, none⟩ = some (.slice m5 (memL M.mem).length c5)) :=
     (World.cell?_of_block (w := w5) (a := ⟨w3.heap.size, 18, none⟩) (setRow_other _ _ _ _ hgw)).trans q18
   have IW := zH (Lies.blk (uI IM5) (by rw [size_setRow]; exact Nat.le_refl _) fun k hk => setRow_other w5 g k (splice (Z.map int1) p ((wsR n (want % 65536 ^ n)).map int1)).toArray (uI HV k hk))
   have HLW : Hid (w3.heap.size < (w5.setRow g (splice (Z.map int1) p ((wsR n (want % 65536 ^ n)).map int1)).toArray).heap.size) := by unfold Hid; rw [size_setRow]; exact hl5
   clear k5 iz K4 IM4 ZR4 IM5 K5 hZl HLA S3 q18 p18 hl4 hnl hg4 D HV
   have HSL : Hid ((splice Z p (wsR n (want % 65536 ^ n))).length = 65536) := by unfold Hid; rw [length_splice _ _ _ (by rw [wsR_len, uI HZL]; exact (uI HL).lp)]; exact uI HZL
   generalize hS : splice Z p (wsR n (want % 65536 ^ n)) = SS at *
   clear hS
   generalize wsR n (want % 65536 ^ n) = wz at *
   go_wp2_with (refine wpList_copy_own rfl (.tmp 145) (.tmp 146) 43 43 rfl 3 Tryz.underlying43 Tryz.sizeInt g p (NN - p) (NN - p) ad wz.length zc rfl rfl (Z.map int1).toArray 3 (uI ZR5) (wz.map int1) (uI HN1) (uI hsrc) (uI HF1) (ints_one _) ?_; change wpList _ _ _ _ _ (w5.setRow g (splice (Z.map int1) p (wz.map int1)).toArray); generalize w5.setRow g (splice (Z.map int1) p (wz.map int1)).toArray = w6 at *)
   have c18 := uI CW
   have hlw := uI HLW
   have NI := zH (Int.ofNat_le.2 (show 64 ≤ sp by omega))
   clear HN1 HF1 hsrc ZR5 hl5 hpN hpI CW HLW ht HZL
   go_loopg [150] NN (fun gg t wr => ∃ (k : Nat), k ≤ NN ∧ gg = NN - k ∧ t = .int .i64 (k : Int) ∧ wr = w6)
   case atStart => exact ⟨0, Nat.zero_le _, rfl, rfl, rfl⟩
   case round =>
     obtain ⟨k, hk, hgg, rfl, rfl⟩ := hrel
     by_cases hlt : k < NN
     · have hkI : (k : Int) < (NN : Int) := by omega
       have hl2 : k < 65536 := by rw [← uI HNN]; exact hlt
       obtain ⟨y, hy⟩ : ∃ y, SS[k]? = some y := ⟨_, List.getElem?_eq_getElem (by rw [uI HSL]; exact hl2)⟩
       have cy : wr.cell? ⟨g, k, none⟩ = some (.int .i64 y) := row_cell (uI RW) (by rw [List.getElem?_map, hy]; rfl)
       have hyx : Hid (¬ (sp - 64 ≤ k ∧ k < sp) → y = M.mem k) := fun hs => by have := uI HM k hl2 hs; rw [hy] at this; exact Option.some.inj this
       have e1 : wrap64 ((k : Int) + 1) = ((k + 1 : Nat) : Int) := by unfold wrap64; omega
       have HE1 := zH e1
       clear hy e1
       by_cases hin : k < (memL M.mem).length
       · obtain ⟨b0, off, rfl, cx⟩ : ∃ b0 off, m5 = some ⟨b0, off, none⟩ ∧ wr.cell? ⟨b0, off + k, none⟩ = some (.int .i64 (M.mem k)) := by
           obtain ⟨ao', cap', e0, -, hat⟩ := Ints.at (uI IW)
           obtain ⟨b0, off, rfl, -, hc⟩ := hat (by intro h; rw [h] at hin; simp at hin)
           have e2 := hc k hin
           have e3 := memL_atR M.mem k hin
           rw [List.getElem?_eq_getElem hin] at e3
           rw [Option.some.inj e3] at e2
           simp at e0
           exact ⟨b0, off, e0.1, e2⟩
         have hinI : (k : Int) < ((memL M.mem).length : Int) := by omega
         clear hl2
         generalize M.mem k = x at *
         generalize (memL M.mem).length = ll at *
         clear IW HM RW HSL
         by_cases hs : sp - 64 ≤ k ∧ k < sp
         · have j1 : ¬ (k : Int) < (sp : Int) - 64 := by omega
           have j2 : ¬ (sp : Int) ≤ (k : Int) := by omega
           by_cases hxy : x = y
           · subst hxy
             clear hyx
             go_wp2_with fail
             go_roundg (NN - (k + 1))
             case measure => omega
             case rel => exact ⟨k + 1, by omega, rfl, by first | rw [uI HE1] | rw [show ((k + 1 : Nat) : Int) = (k : Int) + 1 by omega], rfl⟩
           · clear hyx
             go_wp2_with fail
             go_roundg (NN - (k + 1))
             case measure => omega
             case rel => exact ⟨k + 1, by omega, rfl, by first | rw [uI HE1] | rw [show ((k + 1 : Nat) : Int) = (k : Int) + 1 by omega], rfl⟩
         · have hy2 := uI hyx hs
           subst hy2
           clear hyx
           go_wp2_with fail
           go_roundg (NN - (k + 1))
           case measure => omega
           case rel => exact ⟨k + 1, by omega, rfl, by first | rw [uI HE1] | rw [show ((k + 1 : Nat) : Int) = (k : Int) + 1 by omega], rfl⟩
       · have hx0 := memL_overR M.mem k hl2 hin
         have hinI : ¬ (k : Int) < ((memL M.mem).length : Int) := by omega
         rw [hx0] at hyx
         clear hl2 hx0
         generalize (memL M.mem).length = ll at *
         clear IW HM RW HSL
         by_cases hs : sp - 64 ≤ k ∧ k < sp
         · have j1 : ¬ (k : Int) < (sp : Int) - 64 := by omega
           have j2 : ¬ (sp : Int) ≤ (k : Int) := by omega
           by_cases hxy : y = 0
           · subst hxy
             clear hyx
             go_wp2_with fail
             go_roundg (NN - (k + 1))
             case measure => omega
             case rel => exact ⟨k + 1, by omega, rfl, by first | rw [uI HE1] | rw [show ((k + 1 : Nat) : Int) = (k : Int) + 1 by omega], rfl⟩
           · have hyx2 : ¬ 0 = y := fun e => hxy e.symm
             clear hyx
             go_wp2_with fail
             go_roundg (NN - (k + 1))
             case measure => omega
             case rel => exact ⟨k + 1, by omega, rfl, by first | rw [uI HE1] | rw [show ((k + 1 : Nat) : Int) = (k : Int) + 1 by omega], rfl⟩
         · have hy2 := uI hyx hs
           subst hy2
           clear hyx
           go_wp2_with fail
           go_roundg (NN - (k + 1))
           case measure => omega
           case rel => exact ⟨k + 1, by omega, rfl, by first | rw [uI HE1] | rw [show ((k + 1 : Nat) : Int) = (k : Int) + 1 by omega], rfl⟩
     · have hkI : ¬ (k : Int) < (NN : Int) := by omega
       go_wp2_with fail
       go_ret
       exact ⟨rfl, uI KW⟩
theorem does_any (nm : ByteArray) (xs : List Int) (hk : lkOk (linkL (unR nm) [109, 97, 105, 110]) xs = true) (n m : Nat) (hn : Nw n) (hm : Nw m) (a b want p q sp fill : Int) (z : Bool) (w : World) (G : Ga w) (ha : U a) (hb : U b) (hw : U want) (H : Asked xs n m a b want z) :
   Calls Tryz.prog 16 #[.string nm, .int .i64 (n : Int), .int .i64 (m : Int), .int .u64 a, .int .u64 b, .int .i64 p, .int .i64 q, .int .i64 sp, .int .i64 fill, .int .u64 want, .bool z] w fun e w' => e = .returned (.bool true) ∧ Below w.heap.size w w' := by
 cases h : refB n m p q sp fill with
 | true => exact does_not nm n m hn hm a b want p q sp fill z w h
 | false =>
   obtain ⟨p', q', s', rfl, rfl, rfl, L, hf⟩ := lay_of h
   obtain ⟨M, e1, e2, e3⟩ := H p' q' s' fill L hf
   exact does_go nm xs hk n m hn hm a b want p' q' s' fill z _ rfl M e1 e2 e3 L h w G ha hb hw
theorem u_of {x : Int} (h : (Lit.int .u64 x).wf = true) : U x := by
 have h1 : IntKind.u64.min = 0 := rfl
 have h2 : IntKind.u64.max = 18446744073709551615 := rfl
 simp only [Lit.wf, Bool.and_eq_true, decide_eq_true_eq] at h
 unfold U; omega
theorem cut_uR {n x : Int} (h : IsW n) : U (cut n x) := ⟨cut_lo h x, cut_hi h x⟩
theorem mod_u {x : Int} (h : U x) : U (x % 65536) := by unfold U at *; omega
end Go.Proofs.YtlkoidkdeopgjaaGreatDoor
