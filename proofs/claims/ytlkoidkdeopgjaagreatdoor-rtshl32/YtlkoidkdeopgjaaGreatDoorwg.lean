/-
  RtG2.
-/
import Derived.Test.YtlkoidkdeopgjaaGreatDoorwf
import Derived.Test.YtlkoidkdeopgjaaGreatDoorwd
import Derived.Test.YtlkoidkdeopgjaaGreatDoorwe
set_option maxHeartbeats 4000000
set_option maxRecDepth 100000
namespace Go.Proofs.YtlkoidkdeopgjaaGreatDoor
open Go.RowKit
set_option linter.unusedSimpArgs false
set_option linter.unusedVariables false
def prL : List Nat → List UInt8 → List UInt8 × Nat
 | [], _ => ([], 0)
 | n :: l, s => if Lib.hasSuffix s (dgs n) = true then (Lib.trimSuffix s (dgs n), n) else prL l s
def prt (s : List UInt8) : List UInt8 × Nat := prL szL s
theorem szL_drop (k : Nat) (hk : k < 3) : szL.drop k = szL.getD k 0 :: szL.drop (k + 1) := by
 match k, hk with
 | 0, _ => rfl
 | 1, _ => rfl
 | 2, _ => rfl
theorem parted_any (s : List UInt8) (w : World) (G : Gz w) (hs : s.length ≤ maxLen) : Calls Tryz.prog 72 #[.string (sb s)] w fun e w' => e = .returned (.tuple #[.string (sb (prt s).1), .int .i64 ((prt s).2 : Int)]) ∧ w' = w := by
 obtain ⟨q0, q1, q2⟩ := G.cells
 have HR : Hid (prL (szL.drop 0) s = prt s) := rfl
 have CS := zH (fun (p : List UInt8) W => Tryz.strings_CutSuffix (sb s) (sb p) W (by rw [sb_size]; exact hs))
 simp only [sb_list] at CS
 generalize prt s = R at *
 go_enter Tryz.func72, Tryz.ntmps72
 go_wp2_with fail
 go_loopg [9] 3 (fun gm t wr => ∃ k : Nat, k ≤ 3 ∧ gm = 3 - k ∧ t = .int .i64 (k : Int) ∧ wr = w ∧ Hid (prL (szL.drop k) s = R))
 case atStart => exact ⟨0, Nat.zero_le _, rfl, rfl, rfl, HR⟩
 case round =>
   obtain ⟨k, hk, hgm, rfl, hwr, HE⟩ := hrel
   subst wr
   clear HR
   by_cases hlt : k < 3
   · have IX := fun W => index_sz k hlt W
     have IT := zH (fun W => Tryz.strconv_Itoa_small (szL.getD k 0) (szL_lt k) W)
     rw [dgs_str (szL_lt k)] at IT
     have hE := uI HE
     rw [szL_drop k hlt, prL] at hE
     have hkI : (k : Int) < 3 := by omega
     have hk0 : (0 : Int) ≤ (k : Int) := by omega
     generalize szL.getD k 0 = sz at *
     by_cases hsf : Lib.hasSuffix s (dgs sz) = true
     · rw [if_pos hsf] at hE
       have C1 := zH (fun W => uI CS (dgs sz) W)
       rw [hsf] at C1
       subst hE
       clear CS HE
       go_wp2_with fail
       refine (uI IT _).mono ?_
       rintro e wq ⟨rfl, hq⟩
       subst wq
       go_wp2_with fail
       refine (uI C1 _).mono ?_
       rintro e wq ⟨rfl, hq⟩
       subst wq
       go_wp2_with fail
       go_ret2
       exact ⟨rfl, rfl⟩
     · have hsf' : Lib.hasSuffix s (dgs sz) = false := by simpa using hsf
       rw [if_neg hsf] at hE
       have HE2 := zH hE
       have C1 := zH (fun W => uI CS (dgs sz) W)
       rw [hsf'] at C1
       clear hE hsf hsf' HE
       go_wp2_with fail
       refine (uI IT _).mono ?_
       rintro e wq ⟨rfl, hq⟩
       subst wq
       go_wp2_with fail
       refine (uI C1 _).mono ?_
       rintro e wq ⟨rfl, hq⟩
       subst wq
       go_wp2_with fail
       go_roundg (3 - (k + 1))
       case measure => omega
       case rel => exact ⟨k + 1, by omega, rfl, by go_num, rfl, HE2⟩
   · have hkI : ¬ (k : Int) < 3 := by omega
     have hR : R = ([], 0) := by
       rw [← uI HE, show k = 3 by omega]; rfl
     subst hR
     go_wp2_with fail
     go_ret2
     exact ⟨rfl, rfl⟩
def rtxt (s : List UInt8) : List UInt8 × Int := match kix (prt s).1 with | none => ([], 7) | some i => (labT s ++ kdT i (prt s).2, 0)
theorem prL_in (s : List UInt8) : ∀ l : List Nat, prL l s = ([], 0) ∨ ∃ n ∈ l, prL l s = (Lib.trimSuffix s (dgs n), n) ∧ Lib.hasSuffix s (dgs n) = true
 | [] => .inl rfl
 | n :: l => by
   rw [prL]
   by_cases h : Lib.hasSuffix s (dgs n) = true
   · rw [if_pos h]; exact .inr ⟨n, by simp, rfl, h⟩
   · rw [if_neg h]
     rcases prL_in s l with e | ⟨m, hm, e⟩
     · exact .inl e
     · exact .inr ⟨m, by simp [hm], e⟩
theorem kix_some {s : List UInt8} {i : Nat} (h : kix s = some i) : i < 8 ∧ kdn i = s := by
 unfold kix at h
 have h1 := List.mem_of_find?_eq_some h
 have h2 := List.find?_some h
 exact ⟨List.mem_range.1 h1, by simpa using h2⟩
theorem prt_found {s : List UInt8} {i : Nat} (h : kix (prt s).1 = some i) : i < 8 ∧ 1 ≤ (prt s).2 ∧ (prt s).2 ≤ 4 ∧ s.length ≤ 10 := by
 obtain ⟨hi, hk⟩ := kix_some h
 rcases prL_in s szL with e | ⟨n, hn, e, hs⟩
 · have e' : prt s = ([], 0) := e
   rw [e', show kix ([], 0).1 = none by decide] at h
   cases h
 · have e' : prt s = (Lib.trimSuffix s (dgs n), n) := e
   rw [e'] at hk ⊢
   have hl := kdn_len i hi
   have hd := dgs_len n
   rw [hk] at hl
   unfold Lib.trimSuffix at hl
   rw [if_pos hs, List.length_take] at hl
   have hn4 : 1 ≤ n ∧ n ≤ 4 := by
     have : ∀ n ∈ szL, 1 ≤ n ∧ n ≤ 4 := by decide
     exact this n hn
   exact ⟨hi, hn4.1, hn4.2, by omega⟩
theorem kind_any (i : Nat) (hi : i < 8) (B b n : Nat) (t : List UInt8) (g : Option Nat) (w : World) (h : Wr w B b n t g) (hn1 : 1 ≤ n) (hn : n ≤ 4) (hl : t.length ≤ 400000) (hBw : B ≤ w.heap.size) : Calls Tryz.prog (kfn i) #[.pointer (some ⟨b, 0, none⟩)] w fun e w' => e = .returned (.tuple #[]) ∧ (∃ g', Wr w' B b n (t ++ kdT i n) g') ∧ Below B w w' := by
 match i, hi with
 | 0, _ => exact mul_any B b n t g w h hn1 hn (by omega) hBw
 | 1, _ => exact sar_any B b n t g w h hn1 hn (by omega) hBw
 | 2, _ => exact sdiv_any B b n t g w h hn1 hn (by omega) hBw
 | 3, _ => exact shl_any B b n t g w h hn1 hn (by omega) hBw
 | 4, _ => exact shr_any B b n t g w h hn1 hn (by omega) hBw
 | 5, _ => exact srem_any B b n t g w h hn1 hn (by omega) hBw
 | 6, _ => exact udiv_any B b n t g w h hn1 hn (by omega) hBw
 | 7, _ => exact urem_any B b n t g w h hn1 hn (by omega) hBw
theorem entersK {f : FuncId} {fn : Func} (hf : Tryz.prog.funcs[f]? = some fn) (hn : (fn.name == "runtime.NumGoroutine") = false) (hb : fn.body.isNone = false) (args : Array Value) (w : World) : Sem.run Tryz.prog (callFunc f args) w = .ok (.enter f args) w := by
 have hn' : ¬ fn.name = "runtime.NumGoroutine" := by simpa using hn
 have hb' : ¬ fn.body = none := fun h => by rw [h] at hb; cases hb
 simp [callFunc, go_sem, hf, hn', hb']
theorem kfn_enters (i : Nat) (hi : i < 8) (args : Array Value) (w : World) : Sem.run Tryz.prog (callFunc (kfn i) args) w = .ok (.enter (kfn i) args) w := by
 match i, hi with
 | 0, _ => exact entersK Tryz.func95 (by kernel_rfl) (by kernel_rfl) _ _
 | 1, _ => exact entersK Tryz.func96 (by kernel_rfl) (by kernel_rfl) _ _
 | 2, _ => exact entersK Tryz.func97 (by kernel_rfl) (by kernel_rfl) _ _
 | 3, _ => exact entersK Tryz.func98 (by kernel_rfl) (by kernel_rfl) _ _
 | 4, _ => exact entersK Tryz.func99 (by kernel_rfl) (by kernel_rfl) _ _
 | 5, _ => exact entersK Tryz.func100 (by kernel_rfl) (by kernel_rfl) _ _
 | 6, _ => exact entersK Tryz.func101 (by kernel_rfl) (by kernel_rfl) _ _
 | 7, _ => exact entersK Tryz.func102 (by kernel_rfl) (by kernel_rfl) _ _
theorem Wr.new (u : World) (n : Nat) : Wr (u.alloc (.cells #[.pointer none, .slice none 0 0, .int .i64 (n : Int)] 133)) u.heap.size u.heap.size n [] none := ⟨_, _, Nat.le_refl _, heapNewR _ _, .inl rfl, World.ownsRow_nil _ _ _ _, rfl, by simp⟩
theorem kdT_len (i n : Nat) (hi : i < 8) (hn : n ≤ 4) : (kdT i n).length ≤ 30000 := by
 have : ∀ i, i < 8 → ∀ n, n < 5 → (kdT i n).length ≤ 30000 := by decide +kernel
 exact this i hi n (by omega)
theorem text_any (s : List UInt8) (w : World) (G : Gz w) (hs : s.length ≤ maxLen) : Calls Tryz.prog 60 #[.string (sb s)] w fun e w' => e = .returned (.tuple #[.string (sb (rtxt s).1), .int .i64 (rtxt s).2]) ∧ Below w.heap.size w w' := by
 have PA := zH (parted_any s w G hs)
 have KA := zH (rkinds_any w)
 have LK := run_lookK (w.alloc (.map (kent 8) 8)) w.heap.size (prt s).1 (heapNewR _ _)
 have PF := zH (fun i h => prt_found (s := s) (i := i) h)
 unfold rtxt
 have k1 := zH (below_a w (.map (kent 8) 8))
 generalize hP : prt s = R at *
 obtain ⟨kd, n⟩ := R
 dsimp only at *
 clear hP G
 cases hx : kix kd with
 | none =>
   rw [hx] at LK
   dsimp only at LK
   generalize kent 8 = ke at *
   go_enter Tryz.func60, Tryz.ntmps60
   go_wp2_with fail
   refine (uI PA).mono ?_
   rintro e wq ⟨rfl, hq⟩
   subst wq
   go_wp2_with fail
   refine (uI KA).mono ?_
   rintro e wq ⟨rfl, hq⟩
   subst wq
   go_wp2_with fail
   go_ret2
   exact ⟨rfl, uI k1⟩
 | some i =>
   obtain ⟨hi, hn1, hn4, hsl⟩ := uI PF i hx
   rw [hx] at LK
   dsimp only at LK
   have WN := zH (Wr.new (w.alloc (.map (kent 8) 8)) n)
   have k2 := zH (btR (uI k1) (below_a (w.alloc (.map (kent 8) 8)) (.cells #[.pointer none, .slice none 0 0, .int .i64 (n : Int)] 133)))
   have hb : (w.alloc (.map (kent 8) 8)).heap.size = w.heap.size + 1 := by simp
   rw [hb] at WN
   have hsz : w.heap.size + 1 ≤ ((w.alloc (.map (kent 8) 8)).alloc (.cells #[.pointer none, .slice none 0 0, .int .i64 (n : Int)] 133)).heap.size := by simp
   have LB := zH (label_any (w.heap.size + 1) (w.heap.size + 1) n [] none s _ (uI WN) (by simp; omega) hsz)
   have HSZ := zH hsz
   have EN := zH (fun args W => kfn_enters i hi args W)
   have hT := kdT_len i n hi hn4
   have HKT := zH hT
   clear hb hsz hT PF hx WN
   unfold kfv at LK
   generalize kent 8 = ke at *
   go_enter Tryz.func60, Tryz.ntmps60
   go_wp2_with fail
   refine (uI PA).mono ?_
   rintro e wq ⟨rfl, hq⟩
   subst wq
   go_wp2_with fail
   refine (uI KA).mono ?_
   rintro e wq ⟨rfl, hq⟩
   subst wq
   go_wp2_with fail
   refine (uI LB).mono ?_
   rintro e w3 ⟨rfl, ⟨g3, h3⟩, k3⟩
   have hl3 : ([] ++ labT s).length ≤ 400000 := by simp [labT]; omega
   have KI := zH (kind_any i hi (w.heap.size + 1) (w.heap.size + 1) n ([] ++ labT s) g3 w3 h3 hn1 hn4 hl3 (Nat.le_trans (uI HSZ) k3.size))
   have K3 := zH ((uI k2).trans (k3.mono (by omega)))
   have hs3 : w.heap.size + 1 ≤ w3.heap.size := Nat.le_trans (uI HSZ) k3.size
   clear h3 k3 LB PA KA LK
   generalize kfn i = fi at *
   go_wp2_with fail
   rw [uI EN, Oper.upon_enter]
   refine (uI KI).mono ?_
   rintro e w4 ⟨rfl, ⟨g4, h4⟩, k4⟩
   have ST := zH (string_any (w.heap.size + 1) (w.heap.size + 1) n ([] ++ labT s ++ kdT i n) g4 w4 h4 (by simp [labT]) (by have := uI HKT; simp [labT]; omega))
   have K4 := zH ((uI K3).trans (k4.mono (by omega)))
   clear h4 k4 KI K3 EN
   go_wp2_with fail
   refine (uI ST).mono ?_
   rintro e w5 ⟨rfl, k5⟩
   have K5 := zH ((uI K4).trans (k5.mono (by omega)))
   clear ST k5
   go_wp2_with fail
   go_ret2
   exact ⟨rfl, uI K5⟩
end Go.Proofs.YtlkoidkdeopgjaaGreatDoor
