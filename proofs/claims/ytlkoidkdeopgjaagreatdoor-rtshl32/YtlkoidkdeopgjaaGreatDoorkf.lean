/-
  LkM, LkO, LkS, LkP0, LkP, LkQ.
-/
import Derived.Test.YtlkoidkdeopgjaaGreatDoorke
import Derived.Deep.QuietTactic
import Derived.BigQuiet
import Derived.BigRegion
import Derived.Deep.RegionWith
import Derived.Deep.DeepCutAuto
import Derived.RegionTactic
import Derived.ChangeAlike
import Derived.StillTailTactics
import Derived.Deep.AppendLies
set_option maxHeartbeats 4000000
set_option maxRecDepth 100000
namespace Go.Proofs.YtlkoidkdeopgjaaGreatDoor
open Go.RowKit Go.Maps
set_option linter.unusedSimpArgs false
set_option linter.unusedVariables false
structure Un where
 name : ByteArray
 lines : List Ln
structure Pt where
 A : Nmd
 n : Int
 put : Bool
 start : Int
def fa (s : ByteArray) : Bool := !(emp s) && (byt s 0 != 46)
def owns : List Ln → Int → Nmd → Option Nmd
 | [], _, O => some O
 | x :: l, n, O => if fa x.lab = true then (if hasA O x.lab.toList = true then none else owns l n (O ++ [(x.lab.toList, n)])) else owns l n O
structure Sv where
 parts : List Pt
 owners : Nmd
def srv : List Un → Nat → Sv → Sv × Int × Nat
 | [], _, s => (s, 0, 0)
 | u :: l, n, s =>
   if (plcA u.lines).2.2.1 = 0 then
     (match owns u.lines n s.owners with
      | some O => srv l (n + 1) ⟨s.parts ++ [⟨(plcA u.lines).1, (plcA u.lines).2.1, false, 0⟩], O⟩
      | none => (s, 7, n))
   else (s, (plcA u.lines).2.2.1, n)
def Rw (u : World) (g : Nat) (T : TypeId) (cs : List Value) : Prop := ∃ cur, u.heap[g]? = some (.cells cur T) ∧ cs.length ≤ cur.size ∧ ∀ j, j < cs.length → cur[j]? = cs[j]?
theorem Rw.lt {u : World} {g : Nat} {T : TypeId} {cs : List Value} (h : Rw u g T cs) : g < u.heap.size := by
 obtain ⟨cur, h1, _⟩ := h; exact (Array.getElem?_eq_some_iff.1 h1).1
theorem Rw.cell {u : World} {g : Nat} {T : TypeId} {cs : List Value} (h : Rw u g T cs) {j : Nat} {x : Value} (hx : cs[j]? = some x) : u.cell? ⟨g, j, none⟩ = some x := by
 obtain ⟨cur, h1, h2, h3⟩ := h
 have hj : j < cs.length := (List.getElem?_eq_some_iff.1 hx).1
 simp [World.cell?, h1, h3 j hj, hx]
theorem Rw.frozen {u : World} {g : Nat} {T : TypeId} {cs : List Value} (h : Rw u g T cs) (j : Nat) : u.frozen? ⟨g, j, none⟩ = false := by
 obtain ⟨cur, h1, _⟩ := h; simp [World.frozen?, h1]
theorem Rw.kpt {X : Nat → Prop} {w w' : World} {g : Nat} {T : TypeId} {cs : List Value} (h : Rw w g T cs) (k : Kpt X w w') (hx : ¬ X g) : Rw w' g T cs := by
 have hl := h.lt
 obtain ⟨cur, h1, h2⟩ := h
 exact ⟨cur, by rw [k.block g hl hx]; exact h1, h2⟩
theorem Rw.set {u : World} {g : Nat} {T : TypeId} {cs : List Value} (h : Rw u g T cs) {j : Nat} {x : Value} (hj : j < cs.length) : Rw (u.setCell ⟨g, j, none⟩ x) g T (cs.set j x) := by
 obtain ⟨cur, h1, h2, h3⟩ := h
 refine ⟨cur.setIfInBounds j x, ?_, by simp; exact h2, fun i hi => ?_⟩
 · simp [World.setCell, Array.getElem?_modify, h1]
 · rw [List.length_set] at hi
   by_cases e : j = i
   · subst e
     rw [List.getElem?_set_self hj, Array.getElem?_setIfInBounds_self_of_lt (by omega)]
   · rw [List.getElem?_set_ne e, Array.getElem?_setIfInBounds_ne e]; exact h3 i hi
theorem Rw.own {u : World} {B e s n : Nat} {v : Value} {cs : List Value} (h : u.ownsRow B e s v n cs) (hn : n ≠ 0) : ∃ g cap, v = .slice (some ⟨g, 0, none⟩) n cap ∧ B ≤ g ∧ Rw u g e cs := by
 rcases h.2 with ⟨_, h0⟩ | ⟨g, cap, cur, h1, h2, h3, h4, h5, h6, h7⟩
 · exact absurd h0 hn
 · refine ⟨g, cap, h1, h2, cur, h3, ?_, fun j hj => ?_⟩
   · rw [h.1, h6]; exact Nat.mul_le_mul_right s h4
   · rw [← h7, List.getElem?_take, if_pos (by rw [← h.1]; exact hj)]
     simp
theorem forAll_any (s : ByteArray) (w : World) : Calls Tryz.prog 86 #[.string s] w fun e w' => e = .returned (.bool (fa s)) ∧ w' = w := by
 unfold fa emp
 by_cases h : s.toList.isEmpty = true
 · rw [h]
   go_enter Tryz.func86, Tryz.ntmps86
   go_wp2_with fail
   go_ret
   exact ⟨rfl, rfl⟩
 · replace h : s.toList.isEmpty = false := by simpa using h
   have hz : 0 < s.size := by
     rcases Nat.eq_zero_or_pos s.size with h0 | h0
     · obtain rfl : s = ByteArray.empty := by simpa using h0
       rw [ByteArray.toList_eq] at h; cases h
     · exact h0
   rw [h, byt_at hz]
   go_enter Tryz.func86, Tryz.ntmps86
   go_wp2_with fail
   go_ret
   exact ⟨by simp, rfl⟩
end Go.Proofs.YtlkoidkdeopgjaaGreatDoor
namespace Go.Proofs.YtlkoidkdeopgjaaGreatDoor
open Go.RowKit Go.Maps
set_option linter.unusedSimpArgs false
set_option linter.unusedVariables false
def Uns (w : World) (v : Value) (us : List Un) : Prop := ∃ ao cap, v = .slice ao us.length cap ∧ us.length ≤ maxLen ∧ (us ≠ [] → ∃ (b off : Nat) (f : Nat → Value), ao = some ⟨b, off, none⟩ ∧ b < w.heap.size ∧ ∀ j (hj : j < us.length), w.cell? ⟨b, off + j * 2, none⟩ = some (.string (us[j]'hj).name) ∧ w.cell? ⟨b, off + j * 2 + 1, none⟩ = some (f j) ∧ Lns w (f j) (us[j]'hj).lines)
theorem Uns.step {w w' : World} {v : Value} {us : List Un} (h : Uns w v us) (k : Below w.heap.size w w') : Uns w' v us := by
 obtain ⟨ao, cap, h1, h2, h3⟩ := h
 refine ⟨ao, cap, h1, h2, fun hn => ?_⟩
 obtain ⟨b, off, f, e, hb, hc⟩ := h3 hn
 exact ⟨b, off, f, e, Nat.lt_of_lt_of_le hb k.size, fun j hj => ⟨cell_keep k hb (hc j hj).1, cell_keep k hb (hc j hj).2.1, (hc j hj).2.2.step k⟩⟩
theorem Mp.run_ok {w : World} {b : Nat} {A : Nmd} (h : Mp w b A) (s : ByteArray) (hs : s.size ≤ maxLen) : (Instr.lookup 107 (.map (some b)) (.string s) true).run Tryz.prog w = .ok (.tuple #[.int .i64 (atA A s.toList), .bool (hasA A s.toList)]) w := by
 obtain ⟨D, h1, h2⟩ := h
 obtain ⟨v, ps, hrun, hv⟩ := h1.look_ok Tryz.keyS Tryz.underlying107 (Tryz.zeroI _) (plainElem_int Tryz.underlying3 (by decide)) (Go.WideMaps.keyOf_string_mk Tryz.underlying9 hs)
 obtain ⟨c, rfl, hc, _⟩ := plainElem_int_inv Tryz.underlying3 hv
 rw [hrun, ByteArray.toList_eq, (h2 _).1]
 simp only [Prod.mk.injEq] at hc
 have := hc.1
 rw [(h2 _).2] at this
 injection this with this
 injection this with _ this
 rw [this]
theorem Mp.run {w : World} {b : Nat} {A : Nmd} (h : Mp w b A) (s : ByteArray) (hs : s.size ≤ maxLen) : (Instr.lookup 107 (.map (some b)) (.string s) false).run Tryz.prog w = .ok (.int .i64 (atA A s.toList)) w := by
 obtain ⟨D, h1, h2⟩ := h
 obtain ⟨v, ps, hrun, hv⟩ := h1.lookup Tryz.keyS Tryz.underlying107 (Tryz.zeroI _) (plainElem_int Tryz.underlying3 (by decide)) (Go.WideMaps.keyOf_string_mk Tryz.underlying9 hs)
 obtain ⟨c, rfl, hc, _⟩ := plainElem_int_inv Tryz.underlying3 hv
 rw [hrun, ByteArray.toList_eq]
 simp only [Prod.mk.injEq] at hc
 have := hc.1
 rw [(h2 _).2] at this
 injection this with this
 injection this with _ this
 rw [this]
theorem Mp.drewN {w : World} {b : Nat} {A : Nmd} (h : Mp w b A) (n : Nat) : Mp (w.drewN n) b A := h.step ⟨rfl, rfl, rfl, Nat.le_refl _, fun _ _ => rfl⟩
theorem Kpt.drewN {X : Nat → Prop} {u v : World} (h : Kpt X u v) (n : Nat) : Kpt X u (v.drewN n) := ⟨h.os, h.tape, h.output, h.size, h.block⟩
theorem Kpt.drew {X : Nat → Prop} {u v : World} (h : Kpt X u v) : Kpt X u v.drew := ⟨h.os, h.tape, h.output, h.size, h.block⟩
theorem Mp.drew {w : World} {b : Nat} {A : Nmd} (h : Mp w b A) : Mp w.drew b A := h.step ⟨rfl, rfl, rfl, Nat.le_refl _, fun _ _ => rfl⟩
theorem wp_region_headL {P : Program} {id : Nat} {Q : Exit → Act → World → Prop} {a : Act} {w : World} {l : List Oper} (n : Nat) (hm : P.follows .mixedOrders = true) (hB : Region.lexTailB .any l.toArray n = true)
   (h : wpStill P l.toArray w.drew (fun a' => wpList P l.toArray Q (l.drop n) a' w.drew) (l.take n) a) : (Code.region id l.toArray true).wp P Q a w := wp_region_still_tail n hm hB h
theorem owns_next {x : Ln} {l : List Ln} {n : Int} {O : Nmd} (h : fa x.lab = true) (t : hasA O x.lab.toList = false) : owns (x :: l) n O = owns l n (O ++ [(x.lab.toList, n)]) := by rw [owns, if_pos h, if_neg (by simp [t])]
theorem owns_taken {x : Ln} {l : List Ln} {n : Int} {O : Nmd} (h : fa x.lab = true) (t : hasA O x.lab.toList = true) : owns (x :: l) n O = none := by rw [owns, if_pos h, if_pos t]
theorem owns_skip {x : Ln} {l : List Ln} {n : Int} {O : Nmd} (h : fa x.lab = false) : owns (x :: l) n O = owns l n O := by rw [owns, if_neg (by simp [h])]
theorem own_any (w0 : World) (vu : Value) (us : List Un) (hU : Uns w0 vu us) (u : World) (hb : Below w0.heap.size w0 u) (pk ow n : Nat) (vp vo : Value) (fin : Int) (O : Nmd) (hn : n < us.length) (hl : (us[n]'hn).lines.length ≤ 40000) (hr : ∀ x ∈ (us[n]'hn).lines, wrgL x = 0)
   (hB : Box u pk [vu, vp, .map (some ow), vo, .int .i64 fin]) (hM : Mp u ow O) (hO : O.length ≤ 16000000) (hp : w0.heap.size ≤ pk) (ho : w0.heap.size ≤ ow) (hpo : pk ≠ ow) :
   Calls Tryz.prog 81 #[.pointer (some ⟨pk, 0, none⟩), .int .i64 n] u fun e u' => e = .returned (.bool (owns (us[n]'hn).lines n O).isSome) ∧ Kpt (fun c => c = ow) u u' ∧ ∀ O', owns (us[n]'hn).lines n O = some O' → Mp u' ow O' := by
 obtain ⟨ao, cap, rfl, hmax, hat⟩ := hU
 have hne : us ≠ [] := by intro h; rw [h] at hn; simp at hn
 obtain ⟨b, off, f, rfl, hbw, hc⟩ := hat hne
 obtain ⟨-, c1, hL⟩ := hc n hn
 replace c1 := cell_keep hb hbw c1
 have HL0 := zH hL
 obtain ⟨lo, lc, hfn, hlm, hlat⟩ := hL.at
 rw [hfn] at c1
 have HLA := zH hlat
 clear hat hc hlat hL
 unfold maxLen at hmax hlm
 generalize (us[n]'hn).lines = l at *
 have k0 := hB.2.1 0 _ rfl
 have k2 := hB.2.1 2 _ rfl
 have HB := zH hB
 have hpu := hB.1
 have hou := hM.lt
 generalize hR : owns l n O = R
 have HR : Hid (owns (l.drop 0) n O = R) := hR
 clear hR hB
 have hn' : (n : Int) < (us.length : Int) := by omega
 go_enter Tryz.func81, Tryz.ntmps81
 go_wp2_with fail
 go_loopg [18] l.length (fun g i wr => ∃ (k : Nat) (O' : Nmd), k ≤ l.length ∧ g = l.length - k ∧ i = .int .i64 k ∧ O'.length ≤ O.length + k ∧ Hid (Mp wr ow O') ∧ Hid (Kpt (fun c => c = ow) u wr) ∧ Hid (owns (l.drop k) n O' = R))
 case atStart => exact ⟨0, O, Nat.zero_le _, rfl, rfl, Nat.le_refl _, hM, Kpt.refl _ _, HR⟩
 case round =>
   obtain ⟨k, O', hk, hg, rfl, hO', HM, HK, HE⟩ := hrel
   clear HR
   by_cases hlt : k < l.length
   · have hne2 : l ≠ [] := by intro h; rw [h] at hlt; simp at hlt
     obtain ⟨b2, off2, rfl, hbw2, hc2⟩ := (uI HLA) hne2
     have hbk : ∀ o, wr.cell? ⟨b2, o, none⟩ = w0.cell? ⟨b2, o, none⟩ := fun o => by rw [(uI HK).cell (by have := hb.size; omega) (by omega)]; exact hb.cell (p := ⟨b2, o, none⟩) hbw2
     obtain ⟨d0, d1, d2, d3, d4, d5⟩ := hc2 k hlt
     rw [← hbk] at d0 d1 d2 d3 d4 d5
     have hd := zH (drop_at l k hlt)
     have hwx := zH (hr l[k] (List.getElem_mem hlt))
     generalize l[k] = x at *
     obtain ⟨lab, ⟨o, d, sr, m⟩, ref⟩ := x
     clear hc2 hne2 hbk
     dsimp only at *
     have BX := zH (Box.new wr #[.string lab, .int .i64 o, .int .i64 d, .int .i64 sr, .int .i64 m, .string ref] 75)
     have KA := zH (below_a wr (.cells #[.string lab, .int .i64 o, .int .i64 d, .int .i64 sr, .int .i64 m, .string ref] 75))
     have p0 := (uI BX).2.1 0 _ rfl
     have FA := fun w => forAll_any lab w
     have HB1 := zH (((uI HB).kpt (uI HK) hpo).step (uI KA))
     have q2 := (uI HB1).2.1 2 _ rfl
     have M1 := zH ((uI HM).step (uI KA))
     have K1 := zH ((uI HK).trans (Kpt.of (X := fun _ => False) (uI KA)) (fun _ h => h) (fun _ h _ => h.elim))
     by_cases hf : fa lab = true
     · rw [hf] at FA
       have hsz : lab.size ≤ maxLen := by
         have he : emp lab = false := by unfold fa at hf; simp at hf; exact hf.1
         exact Nat.le_trans (nm_size (wrgL_lab (uI hwx) he).1).1 (by unfold maxLen; omega)
       have RO := fun q => ((uI M1).drewN q).run_ok lab hsz
       by_cases ht : hasA O' lab.toList = true
       · have hRn : R = none := by rw [← uI HE, uI hd, owns_taken (x := ⟨lab, ⟨o, d, sr, m⟩, ref⟩) hf ht]
         subst hRn
         clear HE hd
         go_wp2_with fail
         refine (FA _).mono ?_
         rintro e w1 ⟨rfl, hw⟩
         subst w1
         go_wp2_with fail
         go_quiet (fail)
         go_wp2_with fail
         go_ret
         exact ⟨rfl, (uI K1).drewN _, fun O' h => by cases h⟩
       · replace ht : hasA O' lab.toList = false := by simpa using ht
         have HE2 : Hid (owns (l.drop (k + 1)) n (O' ++ [(lab.toList, (n : Int))]) = R) := by show _ = R; rw [← uI HE, uI hd, owns_next (x := ⟨lab, ⟨o, d, sr, m⟩, ref⟩) hf ht]
         clear HE hd
         go_wp2_with fail
         refine (FA _).mono ?_
         rintro e w1 ⟨rfl, hw⟩
         subst w1
         go_wp2_with fail
         go_quiet (fail)
         have M2 := zH ((uI M1).drewN nq)
         have K2 := zH ((uI K1).drewN nq)
         have q2' : ((wr.alloc (.cells #[.string lab, .int .i64 o, .int .i64 d, .int .i64 sr, .int .i64 m, .string ref] 75)).drewN nq).cell? ⟨pk, 2, none⟩ = some (.map (some ow)) := q2
         have p0' : ((wr.alloc (.cells #[.string lab, .int .i64 o, .int .i64 d, .int .i64 sr, .int .i64 m, .string ref] 75)).drewN nq).cell? ⟨wr.heap.size, 0, none⟩ = some (.string lab) := p0
         clear RO q2 p0 d0 d1 d2 d3 d4 d5
         go_wp2_with fail
         generalize (wr.alloc (.cells #[.string lab, .int .i64 o, .int .i64 d, .int .i64 sr, .int .i64 m, .string ref] 75)).drewN nq = w2 at *
         refine wp_region_headL 7 (by kernel_rfl) (by kernel_rfl) ?_
         simp only [List.take_succ_cons, List.take_zero, List.drop_succ_cons, List.drop_zero]
         repeat still_step
         refine wpStill_nil ?_
         refine wpList_put rfl (.tmp 40) (.tmp 42) (.tmp 43) rfl ow O' rfl (uI M2).drew (by unfold maxLen; omega) lab rfl hsz (n : Int) rfl (WalkArith.wf_i64 (by omega)) ht ?_
         intro w3 m3 r3
         have M3 := zH m3
         have K3 := zH ((uI K2).drew.trans (Kpt.grown (X := fun c => c = ow) r3 (fun c hc => by cases hc; rfl)) (fun _ h => h) (fun _ h _ => h))
         clear m3 r3
         go_wp2_with fail
         go_roundg (l.length - (k + 1))
         case measure => omega
         case rel => exact ⟨k + 1, _, by omega, rfl, by go_num, by simp; omega, M3, K3, HE2⟩
     · replace hf : fa lab = false := by simpa using hf
       rw [hf] at FA
       have HE2 : Hid (owns (l.drop (k + 1)) n O' = R) := by show _ = R; rw [← uI HE, uI hd, owns_skip (x := ⟨lab, ⟨o, d, sr, m⟩, ref⟩) hf]
       clear HE hd
       go_wp2_with fail
       refine (FA _).mono ?_
       rintro e w1 ⟨rfl, hw⟩
       subst w1
       go_wp2_with fail
       go_roundg (l.length - (k + 1))
       case measure => omega
       case rel => exact ⟨k + 1, O', by omega, rfl, by go_num, by omega, M1, K1, HE2⟩
   · have hkl : k = l.length := by omega
     have hRs : R = some O' := by rw [← uI HE, hkl, List.drop_length]; rfl
     subst hRs
     go_wp2_with fail
     go_ret
     exact ⟨rfl, uI HK, fun O' h => by cases h; exact uI HM⟩
end Go.Proofs.YtlkoidkdeopgjaaGreatDoor
namespace Go.Proofs.YtlkoidkdeopgjaaGreatDoor
open Go.RowKit Go.Maps
set_option linter.unusedSimpArgs false
set_option linter.unusedVariables false
theorem Tryz.infoPart : (Tryz.prog.info? 146).map (fun i => (i.zero, i.size, i.bytes)) = some (some (.agg #[.map none, .int .i64 0, .bool false, .int .i64 0]), 4, 32) := by kernel_rfl
def cellsP (p : Pt × Nat) : List Value := [.map (some p.2), .int .i64 p.1.n, .bool p.1.put, .int .i64 p.1.start]
theorem cells_c1 (u : World) (l : List Value) (T : TypeId) (B : Nat) (hB : B = u.heap.size) : ∀ j x, l[j]? = some x → (u.alloc (.cells l.toArray T)).cell? ((⟨B, 0, none⟩ : Addr).add j) = some x := by
 intro j x hx
 subst hB
 have e : ((⟨u.heap.size, 0, none⟩ : Addr).add j) = ⟨u.heap.size, j, none⟩ := by unfold Addr.add; split <;> simp_all
 rw [e]
 exact (Box.new u l.toArray T).2.1 j x (by simpa using hx)
theorem cellsP_one (p : Pt × Nat) : ∀ u ∈ cellsP p, u.oneCell' = true := by intro u hu; simp [cellsP] at hu; rcases hu with rfl | rfl | rfl | rfl <;> rfl
theorem srv_next {u : Un} {l : List Un} {n : Nat} {s : Sv} {O : Nmd} (h : (plcA u.lines).2.2.1 = 0) (o : owns u.lines n s.owners = some O) : srv (u :: l) n s = srv l (n + 1) ⟨s.parts ++ [⟨(plcA u.lines).1, (plcA u.lines).2.1, false, 0⟩], O⟩ := by rw [srv, if_pos h, o]
theorem srv_taken {u : Un} {l : List Un} {n : Nat} {s : Sv} (h : (plcA u.lines).2.2.1 = 0) (o : owns u.lines n s.owners = none) : srv (u :: l) n s = (s, 7, n) := by rw [srv, if_pos h, o]
theorem srv_bad {u : Un} {l : List Un} {n : Nat} {s : Sv} (h : (plcA u.lines).2.2.1 ≠ 0) : srv (u :: l) n s = (s, (plcA u.lines).2.2.1, n) := by rw [srv, if_neg h]
theorem owns_len : ∀ (l : List Ln) (n : Int) (O O' : Nmd), owns l n O = some O' → O'.length ≤ O.length + l.length
 | [], _, O, O', h => by simp [owns] at h; simp [h]
 | x :: l, n, O, O', h => by
   by_cases hf : fa x.lab = true
   · by_cases ht : hasA O x.lab.toList = true
     · rw [owns_taken hf ht] at h; cases h
     · rw [owns_next hf (by simpa using ht)] at h
       have := owns_len l n _ _ h
       simp at this ⊢; omega
   · rw [owns_skip (by simpa using hf)] at h
     have := owns_len l n _ _ h
     simp; omega
def Pts (u : World) (B : Nat) (vp : Value) (P : List (Pt × Nat)) : Prop := u.ownsRow B 146 4 vp P.length (P.flatMap cellsP) ∧ ∀ p ∈ P, Mp u p.2 p.1.A ∧ B ≤ p.2
theorem Pts.kpt {X : Nat → Prop} {u u' : World} {B : Nat} {vp : Value} {P : List (Pt × Nat)} (h : Pts u B vp P) (k : Kpt X u u') (hx : ∀ c, B ≤ c → ¬ X c) : Pts u' B vp P :=
 ⟨own_kpt h.1 k (fun c hc => hx c (h.1.lt c hc).1), fun p hp => ⟨(h.2 p hp).1.kpt k (hx _ (h.2 p hp).2), (h.2 p hp).2⟩⟩
theorem Pts.step {u u' : World} {B : Nat} {vp : Value} {P : List (Pt × Nat)} (h : Pts u B vp P) (k : Below u.heap.size u u') : Pts u' B vp P := h.kpt (Kpt.of (X := fun _ => False) k) (fun _ _ h => h)
theorem own_part {u : World} {B : Nat} {v : Value} {P : List (Pt × Nat)} {p : Pt × Nat} {n : Nat} {cs : List Value} (h : u.ownsRow B 146 4 v n cs) (e : cs = (P ++ [p]).flatMap cellsP) (hn : n = P.length + 1) : u.ownsRow B 146 4 v (P ++ [p]).length ((P ++ [p]).flatMap cellsP) := by
 have : (P ++ [p]).length = n := by rw [hn]; simp
 rw [← e, this]; exact h
theorem row_not_map {u : World} {B e s n b : Nat} {v : Value} {cs : List Value} {A : Nmd} (h : u.ownsRow B e s v n cs) (hb : v.ownBlock = some b) (hM : Mp u b A) : False := by
 obtain ⟨D, ⟨es, c, h1, _⟩, _⟩ := hM
 rcases h.2 with ⟨rfl, _⟩ | ⟨g, cap, cur, rfl, _, h2, _⟩
 · cases hb
 · cases hb
   rw [show ({ block := g, off := 0, spot := none } : Addr).block = g from rfl] at h1
   rw [h1] at h2; cases h2
def SrvRet (w w' : World) (v ptr : Value) (R : Sv × Int × Nat) : Prop := R.2.1 = 0 → ∃ (pk ow : Nat) (vp : Value) (P : List (Pt × Nat)), ptr = .pointer (some ⟨pk, 0, none⟩) ∧ w.heap.size ≤ pk ∧ w.heap.size ≤ ow ∧ pk ≠ ow ∧ Box w' pk [v, vp, .map (some ow), .slice none 0 0, .int .i64 0] ∧ Mp w' ow R.1.owners ∧ Pts w' (w.heap.size + 3) vp P ∧ P.map (·.1) = R.1.parts ∧ pk < w.heap.size + 3 ∧ ow < w.heap.size + 3
theorem surveyed_any (us : List Un) (v : Value) (w : World) (hU : Uns w v us) (hm : us.length ≤ 400) :
   Calls Tryz.prog 62 #[v] w fun e w' => ∃ ptr, e = .returned (.tuple #[ptr, .agg #[.int .i64 (srv us 0 ⟨[], []⟩).2.1, .int .i64 (srv us 0 ⟨[], []⟩).2.2]]) ∧ Below w.heap.size w w' ∧ SrvRet w w' v ptr (srv us 0 ⟨[], []⟩) := by
 have HU := zH hU
 obtain ⟨ao, cap, rfl, hmax, hat⟩ := hU
 have HA := zH hat
 clear hat
 unfold maxLen at hmax
 obtain ⟨i0, hi0, hz0, hz1, hz2⟩ := info_parts Tryz.infoPart
 have hmm := @run_makeMap Tryz.prog
 generalize hR : srv us 0 ⟨[], []⟩ = R
 have HR : Hid (srv (us.drop 0) 0 ⟨[], []⟩ = R) := hR
 clear hR
 have W0 : World := w
 have W0 : World := w
 have W0 : World := w
 have W0 : World := w
 go_enter Tryz.func62, Tryz.ntmps62
 go_wp2_with fail
 clear hmm W0
 have B00 := zH (Box.new ((w.alloc (.cells #[.int .i64 0, .int .i64 0] 83)).alloc (.map #[] 0)) #[.slice ao us.length cap, .slice none 0 0, .map (some (w.heap.size + 1)), .slice none 0 0, .int .i64 0] 109)
 have M00 := zH ((Mp.made (w.alloc (.cells #[.int .i64 0, .int .i64 0] 83))).step (below_a _ (.cells #[.slice ao us.length cap, .slice none 0 0, .map (some (w.heap.size + 1)), .slice none 0 0, .int .i64 0] 109)))
 simp only [World.size_alloc] at B00 M00
 have K00 : Hid (Below (w.heap.size + 1) (w.alloc (.cells #[.int .i64 0, .int .i64 0] 83)) (((w.alloc (.cells #[.int .i64 0, .int .i64 0] 83)).alloc (.map #[] 0)).alloc (.cells #[.slice ao us.length cap, .slice none 0 0, .map (some (w.heap.size + 1)), .slice none 0 0, .int .i64 0] 109))) := ((Below.refl _ _).alloc (by simp) _).alloc (by simp) _
 have S00 : (((w.alloc (.cells #[.int .i64 0, .int .i64 0] 83)).alloc (.map #[] 0)).alloc (.cells #[.slice ao us.length cap, .slice none 0 0, .map (some (w.heap.size + 1)), .slice none 0 0, .int .i64 0] 109)).heap.size = w.heap.size + 3 := by simp
 generalize ((w.alloc (.cells #[.int .i64 0, .int .i64 0] 83)).alloc (.map #[] 0)).alloc (.cells #[.slice ao us.length cap, .slice none 0 0, .map (some (w.heap.size + 1)), .slice none 0 0, .int .i64 0] 109) = w00 at *
 go_loopg [16] us.length (fun g i wr => ∃ (k : Nat) (s : Sv) (vp : Value) (P : List (Pt × Nat)), k ≤ us.length ∧ g = us.length - k ∧ i = .int .i64 k ∧ P.length ≤ k ∧ s.owners.length ≤ 40000 * k ∧ w.heap.size + 3 ≤ wr.heap.size ∧ Hid (Box wr (w.heap.size + 1 + 1) [.slice ao us.length cap, vp, .map (some (w.heap.size + 1)), .slice none 0 0, .int .i64 0]) ∧ Hid (Mp wr (w.heap.size + 1) s.owners) ∧ Hid (Pts wr (w.heap.size + 3) vp P) ∧ Hid (P.map (·.1) = s.parts) ∧ Hid (Below (w.heap.size + 1) (w.alloc (.cells #[.int .i64 0, .int .i64 0] 83)) wr) ∧ Hid (srv (us.drop k) k s = R))
 case atStart => exact ⟨0, ⟨[], []⟩, _, [], Nat.zero_le _, rfl, rfl, Nat.le_refl _, by simp, by omega, B00, M00, ⟨World.ownsRow_nil _ _ _ _, fun p hp => by cases hp⟩, rfl, K00, HR⟩
 case round =>
   obtain ⟨k, s, vp, P, hk, hg, rfl, hPk, hOk, hsz, HB, HM, HP, HPM, HK, HE⟩ := hrel
   clear B00 M00 K00 S00 HR
   obtain ⟨f0, f1, f2, f3, f4⟩ := fault0 (uI HK)
   by_cases hlt : k < us.length
   · have hne : us ≠ [] := by intro h; rw [h] at hlt; simp at hlt
     obtain ⟨b, off, f, rfl, hbw, hc⟩ := (uI HA) hne
     have hbs := seen (uI HK)
     obtain ⟨c0, c1, hL⟩ := hc k hlt
     replace c0 := cell_keep hbs hbw c0
     replace c1 := cell_keep hbs hbw c1
     replace hL := hL.step hbs
     have hd := zH (drop_at us k hlt)
     have OWN := fun u hb vo fin O hl hr hB hM hO => own_any w (.slice (some ⟨b, off, none⟩) us.length cap) us (uI HU) u hb (w.heap.size + 1 + 1) (w.heap.size + 1) k vp vo fin O hlt hl hr hB hM hO (by omega) (by omega) (by omega)
     generalize us[k] = x at *
     obtain ⟨name, lines⟩ := x
     dsimp only at *
     have HL := zH hL
     obtain ⟨lo, lc, hfn, -, -⟩ := hL.at
     rw [hfn] at c1
     have HL := zH (hfn ▸ uI HL : Lns wr (.slice lo lines.length lc) lines)
     clear hc hbs hne hL
     have BX := zH (Box.new wr #[.string name, .slice lo lines.length lc] 78)
     have KA := zH (below_a wr (.cells #[.string name, .slice lo lines.length lc] 78))
     have PA := fun u h => places_any lines (.slice lo lines.length lc) u h
     unfold PlcRet at PA
     have PX : Hid (Box (wr.alloc (.cells #[.string name, .slice lo lines.length lc] 78)) (w.heap.size + 1 + 1) [.slice (some ⟨b, off, none⟩) us.length cap, vp, .map (some (w.heap.size + 1)), .slice none 0 0, .int .i64 0]) := (uI HB).step (uI KA)
     by_cases he : (plcA lines).2.2.1 = 0
     · obtain ⟨hl4, hrr⟩ := plcA_right he
       have HRR := zH hrr
       clear hrr
       cases ho : owns lines k s.owners with
       | none =>
         have hRs : R = (s, 7, k) := by rw [← uI HE, uI hd, srv_taken (u := ⟨name, lines⟩) he ho]
         subst hRs
         clear HE hd
         generalize plcA lines = Z at *
         obtain ⟨Az, nz, ez, kz⟩ := Z
         dsimp only at *
         subst he
         go_wp2_with fail
         refine (PA _ ((uI HL).step (uI KA))).mono ?_
         rintro e w1 ⟨u, rfl, m, rfl, hmo, -, k1⟩
         obtain ⟨bm, rfl, hbm, M1⟩ := hmo trivial
         clear hmo
         have K1 := zH (bt (uI KA) k1)
         have KB := zH (((uI HK).trans ((uI K1).mono (by omega))).alloc (by have := (uI K1).size; omega) (.cells #[.int .i64 0, .int .i64 kz] 83))
         have K2 := zH (bt (uI K1) (below_a w1 (.cells #[.int .i64 0, .int .i64 kz] 83)))
         have OC := OWN _ (seen (uI KB)) (.slice none 0 0) 0 s.owners hl4 (uI HRR) ((uI HB).step (uI K2)) ((uI HM).step (uI K2)) (by omega)
         rw [ho] at OC
         obtain ⟨g0, g1, g2, g3, g4⟩ := fault0 (uI KB)
         have s1 := (uI K1).size
         clear k1 f0 f1 f2 f3 f4 c0 c1
         go_wp2_with fail
         refine OC.mono ?_
         rintro e w2 ⟨rfl, k2, -⟩
         have KC := zH ((uI KB).trans (k2.below (B := w.heap.size + 1) (by simp; omega) (fun c hc => by omega)))
         clear g0 g1 g2 g3 g4 OC
         obtain ⟨g0, g1, g2, g3, g4⟩ := fault0 (uI KC)
         clear k2
         go_wp2_with fail
         exact bodyPost_ret (v := .tuple #[.pointer none, .agg #[.int .i64 7, .int .i64 k]]) (by simp [results, Tryz.results62, go_sem, g0, g1, g2, g3, g4]) rfl ⟨_, rfl, (by repeat (first | exact seen (uI KC) | refine Below.setCell ?_ (by first | exact Nat.le_refl _ | (simp; done) | omega | (simp; omega)) _ | refine Below.alloc ?_ (by first | (simp; done) | omega | (simp; omega)) _)), fun h => by cases h⟩
       | some O =>
         have HE2 : Hid (srv (us.drop (k + 1)) (k + 1) ⟨s.parts ++ [⟨(plcA lines).1, (plcA lines).2.1, false, 0⟩], O⟩ = R) := by show _ = R; rw [← uI HE, uI hd, srv_next (u := ⟨name, lines⟩) he ho]
         have hOl := owns_len _ _ _ _ ho
         clear HE hd
         generalize plcA lines = Z at *
         obtain ⟨Az, nz, ez, kz⟩ := Z
         dsimp only at *
         subst he
         go_wp2_with fail
         refine (PA _ ((uI HL).step (uI KA))).mono ?_
         rintro e w1 ⟨u, rfl, m, rfl, hmo, -, k1⟩
         obtain ⟨bm, rfl, hbm, M1⟩ := hmo trivial
         clear hmo
         have K1 := zH (bt (uI KA) k1)
         have KB := zH (((uI HK).trans ((uI K1).mono (by omega))).alloc (by have := (uI K1).size; omega) (.cells #[.int .i64 0, .int .i64 kz] 83))
         have K2 := zH (bt (uI K1) (below_a w1 (.cells #[.int .i64 0, .int .i64 kz] 83)))
         have OC := OWN _ (seen (uI KB)) (.slice none 0 0) 0 s.owners hl4 (uI HRR) ((uI HB).step (uI K2)) ((uI HM).step (uI K2)) (by omega)
         rw [ho] at OC
         have M2 := zH (M1.step (below_a w1 (.cells #[.int .i64 0, .int .i64 kz] 83)))
         have hbm2 : w.heap.size + 3 ≤ bm := by simp at hbm; omega
         have s1 := (uI K1).size
         obtain ⟨g0, g1, g2, g3, g4⟩ := fault0 (uI KB)
         clear k1 M1 hbm f0 f1 f2 f3 f4 c0 c1
         go_wp2_with fail
         refine OC.mono ?_
         rintro e w2 ⟨rfl, k2, m2⟩
         have s2 := k2.size
         have s2' : w.heap.size + 3 ≤ w2.heap.size := by simp at s2; omega
         have KC := zH ((uI KB).trans (k2.below (B := w.heap.size + 1) (by simp; omega) (fun c hc => by omega)))
         have B2 := zH (((uI HB).step (uI K2)).kpt k2 (by omega))
         have P2 := zH (((uI HP).step (uI K2)).kpt k2 (fun c hc h => by omega))
         have M3 := zH ((uI M2).kpt k2 (by omega))
         have O2 := zH (m2 O rfl)
         clear k2 m2 g0 g1 g2 g3 g4 OC HB HM HP M2 PX
         have e0 := (uI B2).2.1 0 _ rfl
         have e1 := (uI B2).2.1 1 _ rfl
         have e2 := (uI B2).2.2
         have hpl := (uI B2).1
         have BA := fun o => (uI B2).step (below_a w2 o)
         go_wp2_with (at_builtin; refine wpList_append_lies _ rfl (.tmp 45) (.tmp 49) 106 rfl (w.heap.size + 3) 146 i0 (.agg #[.map none, .int .i64 0, .bool false, .int .i64 0]) 4 32 Tryz.underlying106 hi0 hz0 hz1 hz2 rfl (by decide) _ _ _ rfl ((uI P2).1.alloc _) ⟨_, 0, none⟩ 1 1 (cellsP (⟨Az, nz, false, 0⟩, bm)) rfl rfl (cells_c1 _ (cellsP (⟨Az, nz, false, 0⟩, bm)) _ _ (by simp)) (cellsP_one _) (by decide) (by unfold maxLen; omega) (by omega) (by simp; omega) _ rfl ?_; intro g cap3 w3 own3 grow3 hloc hgl; have O3 := zH own3; have G3 := zH grow3; have L3 := zH hloc; have B3 := zH ((BA _).kpt (Kpt.grown (X := fun c => vp.ownBlock = some c) grow3 (fun _ h => h)) (fun h => by have := ((uI P2).1.lt _ h).1; omega)); have r1 := (uI B3).2.1 1 _ rfl; have r2 := (uI B3).2.2; have hpl3 := (uI B3).1; clear own3 grow3 hloc e0 e1 e2 hpl)
         have nrow : ∀ c, vp.ownBlock = some c → w.heap.size + 3 ≤ c := fun c hc => ((uI P2).1.lt c hc).1
         have K3a : Kpt (fun c => vp.ownBlock = some c) w2 w3 := (Kpt.of (X := fun _ => False) (below_a w2 (.cells #[.map (some bm), .int .i64 nz, .bool false, .int .i64 0] 146))).trans (Kpt.grown (X := fun c => vp.ownBlock = some c) (uI G3) (fun _ h => h)) (fun _ h => h.elim) (fun _ h _ => h)
         have KS : Kpt (fun c => c = w.heap.size + 1 + 1) w3 (w3.setCell ⟨w.heap.size + 1 + 1, 1, none⟩ (.slice (some ⟨g, 0, none⟩) (P.length + 1) cap3)) := Kpt.setCell _ _ rfl
         have hgg : w.heap.size + 3 ≤ g := ((uI O3).lt g rfl).1
         have P3 : Hid (Pts (w3.setCell ⟨w.heap.size + 1 + 1, 1, none⟩ (.slice (some ⟨g, 0, none⟩) (P.length + 1) cap3)) (w.heap.size + 3) (.slice (some ⟨g, 0, none⟩) (P.length + 1) cap3) (P ++ [(⟨Az, nz, false, 0⟩, bm)])) := by
           refine ⟨own_part (own_kpt (uI O3) KS (fun c hc => by have hgc : g = c := Option.some.inj hc; omega)) (by simp) rfl, fun p hp => ?_⟩
           have key : ∀ (b : Nat) (A : Nmd), Mp w2 b A → w.heap.size + 3 ≤ b → Mp (w3.setCell ⟨w.heap.size + 1 + 1, 1, none⟩ (.slice (some ⟨g, 0, none⟩) (P.length + 1) cap3)) b A := fun b A hM hb3 => (hM.kpt K3a (fun hx => row_not_map (uI P2).1 hx hM)).kpt KS (by omega)
           rcases List.mem_append.1 hp with hp | hp
           · exact ⟨key _ _ ((uI P2).2 p hp).1 ((uI P2).2 p hp).2, ((uI P2).2 p hp).2⟩
           · simp at hp; subst hp; exact ⟨key _ _ (uI M3) hbm2, hbm2⟩
         have M4 := zH (((uI O2).kpt K3a (fun hx => by have := nrow _ hx; omega)).kpt KS (by omega))
         have B4 := zH ((uI B3).set (j := 1) (u := .slice (some ⟨g, 0, none⟩) (P.length + 1) cap3) (by simp))
         have K4 := zH ((uI KC).trans ((K3a.trans KS (Z := fun c => w.heap.size + 1 ≤ c) (fun c hc => by have := nrow c hc; omega) (fun c hc _ => by omega)).below (B := w.heap.size + 1) (by omega) (fun c hc => hc)))
         have s4 : w.heap.size + 3 ≤ (w3.setCell ⟨w.heap.size + 1 + 1, 1, none⟩ (.slice (some ⟨g, 0, none⟩) (P.length + 1) cap3)).heap.size := by have := K3a.size; simp; omega
         clear K3a KS L3 G3 O3 B3 r1 r2
         go_roundg (us.length - (k + 1))
         case measure => omega
         case rel => exact ⟨k + 1, ⟨s.parts ++ [⟨Az, nz, false, 0⟩], O⟩, _, P ++ [(⟨Az, nz, false, 0⟩, bm)], by omega, rfl, by go_num, by simp; omega, by show O.length ≤ _; omega, s4, B4, M4, P3, by show List.map _ _ = _; rw [List.map_append, uI HPM]; rfl, K4, HE2⟩
     · have hRs : R = (s, (plcA lines).2.2.1, k) := by rw [← uI HE, uI hd, srv_bad (u := ⟨name, lines⟩) he]
       clear HE hd
       generalize plcA lines = Z at *
       obtain ⟨Az, nz, ez, kz⟩ := Z
       dsimp only at *
       subst hRs
       have he2 : (ez != 0) = true := by simpa using he
       have HEZ := zH he
       go_wp2_with fail
       refine (PA _ ((uI HL).step (uI KA))).mono ?_
       rintro e w1 ⟨u, rfl, m, rfl, -, hmn, k1⟩
       obtain rfl := hmn (uI HEZ)
       have K1 := zH (bt (uI KA) k1)
       have KB := zH (((uI HK).trans ((uI K1).mono (by omega))).alloc (by have := (uI K1).size; omega) (.cells #[.int .i64 ez, .int .i64 kz] 83))
       have G1 := zH (Box.new w1 #[.int .i64 ez, .int .i64 kz] 83)
       have s1 := (uI K1).size
       obtain ⟨g0, g1, g2, g3, g4⟩ := fault0 (uI KB)
       obtain ⟨h0, h1⟩ := (uI G1).at2
       have s5 : w.heap.size < w1.heap.size := by omega
       clear k1 f0 f1 f2 f3 f4 c0 c1 OWN he
       go_wp2_with fail
       generalize w1.alloc (.cells #[.int .i64 ez, .int .i64 kz] 83) = w2 at *
       go_region_with fail
       all_goals
         go_wp2_with fail
         exact bodyPost_ret (v := .tuple #[.pointer none, .agg #[.int .i64 ez, .int .i64 k]]) (by simp [results, Tryz.results62, go_sem, g0, g1, g2, g3, g4]) rfl ⟨_, rfl, Below.drew (by repeat (first | exact seen (uI KB) | refine Below.setCell ?_ (by first | exact Nat.le_refl _ | (simp; done) | omega | (simp; omega)) _ | refine Below.alloc ?_ (by first | (simp; done) | omega | (simp; omega)) _)), fun h => absurd h (uI HEZ)⟩
   · have hkl : k = us.length := by omega
     have hRs : R = (s, 0, 0) := by rw [← uI HE, hkl, List.drop_length]; rfl
     subst hRs
     go_wp2_with fail
     refine bodyPost_ret (v := .tuple #[.pointer (some ⟨w.heap.size + 1 + 1, 0, none⟩), .agg #[.int .i64 0, .int .i64 0]]) (by simp [results, Tryz.results62, go_sem, f0, f1, f2, f3, f4]) rfl ⟨_, rfl, (by repeat (first | exact seen (uI HK) | refine Below.setCell ?_ (by first | exact Nat.le_refl _ | (simp; done) | omega | (simp; omega)) _ | refine Below.alloc ?_ (by first | (simp; done) | omega | (simp; omega)) _)), fun _ => ⟨w.heap.size + 1 + 1, w.heap.size + 1, vp, P, rfl, by omega, by omega, by omega, ((uI HB).other (by omega)).other (by omega), ((uI HM).setCell (by omega)).setCell (by omega), ?_, uI HPM, by omega, by omega⟩⟩
     exact ((uI HP).kpt (Kpt.setCell (X := fun c => c = w.heap.size) _ _ rfl) (fun c hc h => by omega)).kpt (Kpt.setCell (X := fun c => c = w.heap.size) _ _ rfl) (fun c hc h => by omega)
end Go.Proofs.YtlkoidkdeopgjaaGreatDoor
namespace Go.Proofs.YtlkoidkdeopgjaaGreatDoor
open Go.RowKit Go.Maps
set_option linter.unusedSimpArgs false
set_option linter.unusedVariables false
structure Ls where
 P : List (Pt × Nat)
 order : List Int
 fin : Int
def putL (s : Ls) (n : Nat) : Ls :=
 match s.P[n]? with
 | some p => if p.1.put = true then s else ⟨s.P.set n (⟨p.1.A, p.1.n, true, s.fin⟩, p.2), s.order ++ [(n : Int)], s.fin + p.1.n⟩
 | none => s
structure Lf where
 pk : Nat
 ow : Nat
 B : Nat
 vu : Value
 vp : Value
 O : Nmd
def LkAt (c : Lf) (s : Ls) (vo : Value) (u : World) : Prop := Box u c.pk [c.vu, c.vp, .map (some c.ow), vo, .int .i64 s.fin] ∧ Mp u c.ow c.O ∧ Pts u c.B c.vp s.P ∧ u.ownsRow c.B 3 1 vo s.order.length (s.order.map int1) ∧ c.pk < c.B ∧ c.ow < c.B ∧ c.pk ≠ c.ow
theorem own_setL {u : World} {B e s n g j : Nat} {v x : Value} {xs : List Value} (h : u.ownsRow B e s v n xs) (hg : v.ownBlock = some g) (hj : j < n * s) : (u.setCell ⟨g, j, none⟩ x).ownsRow B e s v n (xs.set j x) := by
 refine ⟨by rw [List.length_set]; exact h.1, ?_⟩
 rcases h.2 with ⟨rfl, _⟩ | ⟨g', cap, cur, rfl, h2, h3, h4, h5, h6, h7⟩
 · cases hg
 · obtain rfl : g' = g := Option.some.inj hg
   refine .inr ⟨g', cap, cur.setIfInBounds j x, rfl, h2, ?_, h4, h5, by simp [h6], ?_⟩
   · simp [World.setCell, Array.getElem?_modify, h3]
   · rw [Array.toList_setIfInBounds, List.take_set, h7]
theorem flatP : ∀ (l : List (Pt × Nat)) (i : Nat) (h : i < l.length) (j : Nat), j < 4 → (l.flatMap cellsP)[i * 4 + j]? = (cellsP (l[i]'h))[j]?
 | [], i, h, _, _ => by simp at h
 | x :: l, 0, h, j, hj => by
   rw [List.flatMap_cons, List.getElem?_append_left (by simp [cellsP]; omega)]; simp
 | x :: l, i + 1, h, j, hj => by
   have ih := flatP l i (by simpa using h) j hj
   rw [List.flatMap_cons, List.getElem?_append_right (by simp [cellsP]; omega)]
   rw [show (i + 1) * 4 + j - (cellsP x).length = i * 4 + j by simp [cellsP]; omega, ih]
   simp
theorem flatP_len (l : List (Pt × Nat)) : (l.flatMap cellsP).length = l.length * 4 := by
 induction l with
 | nil => rfl
 | cons x l ih => rw [List.flatMap_cons, List.length_append, ih]; simp [cellsP]; omega
theorem flatP_set (l : List (Pt × Nat)) (i : Nat) (h : i < l.length) (st : Int) : (l.set i (⟨(l[i]'h).1.A, (l[i]'h).1.n, true, st⟩, (l[i]'h).2)).flatMap cellsP = ((l.flatMap cellsP).set (i * 4 + 2) (.bool true)).set (i * 4 + 3) (.int .i64 st) := by
 apply List.ext_getElem?
 intro k
 by_cases hk : k < l.length * 4
 · have hq : k / 4 < l.length := by omega
   have hr : k % 4 < 4 := by omega
   have e : k = k / 4 * 4 + k % 4 := by omega
   have a := flatP (l.set i (⟨(l[i]'h).1.A, (l[i]'h).1.n, true, st⟩, (l[i]'h).2)) (k / 4) (by rw [List.length_set]; exact hq) (k % 4) hr
   have b := flatP l (k / 4) hq (k % 4) hr
   rw [← e] at a b
   rw [a, List.getElem_set]
   by_cases hi : i = k / 4
   · rw [if_pos hi]
     subst hi
     have c : k % 4 = 0 ∨ k % 4 = 1 ∨ k % 4 = 2 ∨ k % 4 = 3 := by omega
     rcases c with c | c | c | c
     · rw [List.getElem?_set_ne (by omega), List.getElem?_set_ne (by omega), b, c]; rfl
     · rw [List.getElem?_set_ne (by omega), List.getElem?_set_ne (by omega), b, c]; rfl
     · rw [List.getElem?_set_ne (by omega), show k / 4 * 4 + 2 = k by omega, List.getElem?_set_self (by rw [flatP_len]; omega), c]; rfl
     · rw [show k / 4 * 4 + 3 = k by omega, List.getElem?_set_self (by rw [List.length_set, flatP_len]; omega), c]; rfl
   · rw [if_neg hi, List.getElem?_set_ne (by omega), List.getElem?_set_ne (by omega), b]
 · rw [List.getElem?_eq_none (by rw [flatP_len, List.length_set]; omega), List.getElem?_eq_none (by rw [List.length_set, List.length_set, flatP_len]; omega)]
theorem Pts.at {u : World} {B : Nat} {vp : Value} {P : List (Pt × Nat)} (h : Pts u B vp P) (hne : P ≠ []) : ∃ g cap, vp = .slice (some ⟨g, 0, none⟩) P.length cap ∧ B ≤ g ∧ g < u.heap.size ∧ (∀ j, u.frozen? ⟨g, j, none⟩ = false) ∧ ∀ i (hi : i < P.length), u.cell? ⟨g, i * 4, none⟩ = some (.map (some (P[i]'hi).2)) ∧ u.cell? ⟨g, i * 4 + 1, none⟩ = some (.int .i64 (P[i]'hi).1.n) ∧ u.cell? ⟨g, i * 4 + 2, none⟩ = some (.bool (P[i]'hi).1.put) ∧ u.cell? ⟨g, i * 4 + 3, none⟩ = some (.int .i64 (P[i]'hi).1.start) := by
 have hn : P.length ≠ 0 := fun e => hne (List.eq_nil_of_length_eq_zero e)
 obtain ⟨g, cap, rfl, h2, hr⟩ := Rw.own h.1 hn
 refine ⟨g, cap, rfl, h2, hr.lt, hr.frozen, fun i hi => ?_⟩
 have f := flatP P i hi
 exact ⟨hr.cell (f 0 (by omega)), hr.cell (f 1 (by omega)), hr.cell (f 2 (by omega)), hr.cell (f 3 (by omega))⟩
end Go.Proofs.YtlkoidkdeopgjaaGreatDoor
namespace Go.Proofs.YtlkoidkdeopgjaaGreatDoor
open Go.RowKit Go.Maps
set_option linter.unusedSimpArgs false
set_option linter.unusedVariables false
theorem putL_yes {s : Ls} {n : Nat} (h : n < s.P.length) (p : (s.P[n]'h).1.put = true) : putL s n = s := by unfold putL; rw [List.getElem?_eq_getElem h]; dsimp only; rw [if_pos p]
theorem putL_no {s : Ls} {n : Nat} (h : n < s.P.length) (p : (s.P[n]'h).1.put = false) : putL s n = ⟨s.P.set n (⟨(s.P[n]'h).1.A, (s.P[n]'h).1.n, true, s.fin⟩, (s.P[n]'h).2), s.order ++ [(n : Int)], s.fin + (s.P[n]'h).1.n⟩ := by unfold putL; rw [List.getElem?_eq_getElem h]; dsimp only; rw [if_neg (by simp [p])]
theorem rows_apart {u : World} {B B' e e' s s' n n' g : Nat} {v v' : Value} {xs xs' : List Value} (h : u.ownsRow B e s v n xs) (h' : u.ownsRow B' e' s' v' n' xs') (he : e ≠ e') (hg : v.ownBlock = some g) : v'.ownBlock ≠ some g := by
 intro hg'
 rcases h.2 with ⟨rfl, _⟩ | ⟨g1, cap, cur, rfl, _, h3, _⟩
 · cases hg
 · rcases h'.2 with ⟨rfl, _⟩ | ⟨g2, cap2, cur2, rfl, _, h3', _⟩
   · cases hg'
   · obtain rfl : g1 = g := Option.some.inj hg
     obtain rfl : g2 = g1 := Option.some.inj hg'
     rw [h3] at h3'
     injection h3' with h3'
     injection h3' with _ h3' _
     exact he h3'
def PutX (c : Lf) (vo : Value) (k : Nat) : Prop := k = c.pk ∨ c.vp.ownBlock = some k ∨ vo.ownBlock = some k
theorem put_any (c : Lf) (s : Ls) (vo : Value) (u : World) (n : Nat) (h : LkAt c s vo u) (hn : n < s.P.length) (hf0 : 0 ≤ s.fin) (hf1 : s.fin ≤ 30000000) (hw0 : 0 ≤ (s.P[n]'hn).1.n) (hw1 : (s.P[n]'hn).1.n ≤ 65536) (hol : s.order.length ≤ 1000) :
   Calls Tryz.prog 82 #[.pointer (some ⟨c.pk, 0, none⟩), .int .i64 n] u fun e u' => e = .returned (.tuple #[]) ∧ ∃ vo', LkAt c (putL s n) vo' u' ∧ Kpt (PutX c vo) u u' ∧ ∀ k, vo'.ownBlock = some k → vo.ownBlock = some k ∨ u.heap.size ≤ k := by
 obtain ⟨i0, hi0, hz0, hz1, hz2⟩ := info_parts Tryz.infoInt
 obtain ⟨pk, ow, B, vu, vp, O⟩ := c
 obtain ⟨hB, hM, hP, hO, hpB, hoB, hpo⟩ := h
 dsimp only at *
 have hne : s.P ≠ [] := by intro e; rw [e] at hn; simp at hn
 obtain ⟨g, cap, rfl, hBg, hgl, hfz, hcs⟩ := hP.at hne
 obtain ⟨c0, c1, c2, c3⟩ := hcs n hn
 have f2 := hfz (n * 4 + 2)
 have f3 := hfz (n * 4 + 3)
 have b1 := hB.2.1 1 _ rfl
 have b3 := hB.2.1 3 _ rfl
 have b4 := hB.2.1 4 _ rfl
 have b5 := hB.2.2
 have hpl := hB.1
 have HB := zH hB
 have HM := zH hM
 have HP := zH hP
 have HO := zH hO
 clear hB hM hP hO hcs hfz
 by_cases hput : (s.P[n]'hn).1.put = true
 · rw [putL_yes hn hput]
   rw [hput] at c2
   go_enter Tryz.func82, Tryz.ntmps82
   go_wp2_with fail
   exact bodyPost_ret (v := .tuple #[]) (by simp [results, Tryz.results82, go_sem]) rfl ⟨rfl, vo, ⟨uI HB, uI HM, uI HP, uI HO, hpB, hoB, hpo⟩, Kpt.refl _ _, fun k h => .inl h⟩
 · replace hput : (s.P[n]'hn).1.put = false := by simpa using hput
   rw [putL_no hn hput]
   rw [hput] at c2
   have fs := flatP_set s.P n hn s.fin
   generalize hPn : s.P[n] = pn at *
   obtain ⟨⟨A, nw, pt, st⟩, bm⟩ := pn
   dsimp only at *
   have KG : Kpt (fun k => k = g) u ((u.setCell ⟨g, n * 4 + 2, none⟩ (.bool true)).setCell ⟨g, n * 4 + 3, none⟩ (.int .i64 s.fin)) := (Kpt.setCell (X := fun k => k = g) _ _ rfl).trans (Kpt.setCell (X := fun k => k = g) _ _ rfl) (fun _ h => h) (fun _ h _ => h)
   have mp : ∀ p ∈ (s.P.set n (⟨A, nw, true, s.fin⟩, bm)), p.2 ∈ s.P.map (·.2) ∧ ∃ q ∈ s.P, q.2 = p.2 ∧ q.1.A = p.1.A := by
     intro p hp
     rcases List.mem_or_eq_of_mem_set hp with hp | rfl
     · exact ⟨List.mem_map_of_mem hp, p, hp, rfl, rfl⟩
     · have hm : (⟨⟨A, nw, pt, st⟩, bm⟩ : Pt × Nat) ∈ s.P := hPn ▸ List.getElem_mem hn
       exact ⟨List.mem_map.2 ⟨_, hm, rfl⟩, _, hm, rfl, rfl⟩
   have B2 := zH ((uI HB).kpt KG (by omega))
   have M2 := zH ((uI HM).kpt KG (by omega))
   have P2 : Hid (Pts ((u.setCell ⟨g, n * 4 + 2, none⟩ (.bool true)).setCell ⟨g, n * 4 + 3, none⟩ (.int .i64 s.fin)) B (Value.slice (some ⟨g, 0, none⟩) s.P.length cap) (s.P.set n (⟨A, nw, true, s.fin⟩, bm))) := by
     refine ⟨?_, fun p hp => ?_⟩
     · rw [fs, List.length_set]
       exact own_setL (own_setL (uI HP).1 rfl (by omega)) rfl (by omega)
     · obtain ⟨-, q, hq, e1, e2⟩ := mp p hp
       have := (uI HP).2 q hq
       rw [e1, e2] at this
       exact ⟨this.1.kpt KG (fun e => row_not_map (uI HP).1 (show (Value.slice (some ⟨g, 0, none⟩) s.P.length cap).ownBlock = some p.2 by rw [e]; rfl) this.1), this.2⟩
   have O2 := zH (own_kpt (uI HO) KG (fun k hk e => rows_apart (uI HP).1 (uI HO) (by decide) (show (Value.slice (some ⟨g, 0, none⟩) s.P.length cap).ownBlock = some k by rw [e]; rfl) hk))
   have S2 : ((u.setCell ⟨g, n * 4 + 2, none⟩ (.bool true)).setCell ⟨g, n * 4 + 3, none⟩ (.int .i64 s.fin)).heap.size = u.heap.size := by simp
   have KG2 := zH KG
   obtain ⟨g1, cap1, hv1, -, -, -, hcs1⟩ := (uI P2).at (by intro e; have := congrArg List.length e; rw [List.length_set] at this; simp at this; rw [this] at hn; simp at hn)
   obtain rfl : g = g1 := by injection hv1 with h1; injection h1 with h1; injection h1
   have d1 := (hcs1 n (by rw [List.length_set]; exact hn)).2.1
   rw [List.getElem_set_self] at d1
   dsimp only at d1
   have e4 := (uI B2).2.1 4 _ rfl
   have e3 := (uI B2).2.1 3 _ rfl
   have e5 := (uI B2).2.2
   clear KG hcs1 hv1 mp
   go_enter Tryz.func82, Tryz.ntmps82
   go_wp2_with fail
   clear c0 c1 c2 c3 f2 f3 b1 b3 b4 b5
   generalize (u.setCell ⟨g, n * 4 + 2, none⟩ (.bool true)).setCell ⟨g, n * 4 + 3, none⟩ (.int .i64 s.fin) = w2 at *
   refine wp_region_headL 11 (by kernel_rfl) (by kernel_rfl) ?_
   simp only [List.take_succ_cons, List.take_zero, List.drop_succ_cons, List.drop_zero]
   repeat still_step
   refine wpStill_nil ?_
   have B3 := zH (((uI B2).step ⟨rfl, rfl, rfl, Nat.le_refl _, fun _ _ => rfl⟩ : Box w2.drew _ _).set (j := 4) (u := .int .i64 (s.fin + nw)) (by simp))
   have KS : Kpt (fun k => k = pk) w2 (w2.drew.setCell ⟨pk, 4, none⟩ (.int .i64 (s.fin + nw))) := (Kpt.refl (fun _ => False) w2).drew.trans (Kpt.setCell (X := fun k => k = pk) w2.drew _ rfl) (fun _ h => h.elim) (fun _ h _ => h)
   have M3 := zH ((uI M2).kpt KS (by omega))
   have P3 := zH ((uI P2).kpt KS (fun k hk e => by omega))
   have O3 := zH (own_kpt (uI O2) KS (fun k hk e => by have := ((uI O2).lt k hk).1; omega))
   have S3 : (w2.drew.setCell ⟨pk, 4, none⟩ (.int .i64 (s.fin + nw))).heap.size = w2.heap.size := by simp
   have KS2 := zH KS
   clear KS
   have r3 := (uI B3).2.1 3 _ rfl
   have r5 := (uI B3).2.2
   have hpl3 := (uI B3).1
   have BA := fun o => (uI B3).step (below_a _ o)
   go_wp2_with (at_builtin; refine wpList_append_lies _ rfl (.tmp 40) (.tmp 42) 43 rfl B 3 i0 (.int .i64 0) 1 8 Tryz.underlying43 hi0 hz0 hz1 hz2 rfl (by decide) _ _ _ rfl ((uI O3).alloc _) ⟨_, 0, none⟩ 1 1 [.int .i64 (n : Int)] rfl rfl (cells_c1 _ [.int .i64 (n : Int)] _ _ (by simp [S2])) (one_c2 _ _) (by decide) (by unfold maxLen; omega) (by omega) (by simp; omega) _ rfl ?_; intro g4 cap4 w4 own4 grow4 hloc hgl4; have O4 := zH own4; have G4 := zH grow4; have L4 := zH hloc; have B4 := zH ((BA _).kpt (Kpt.grown (X := fun c => vo.ownBlock = some c) grow4 (fun _ h => h)) (fun h => by have := ((uI O3).lt _ h).1; omega)); have q3 := (uI B4).2.1 3 _ rfl; have q5 := (uI B4).2.2; have hpl4 := (uI B4).1; clear own4 grow4 hloc r3 r5 hpl3)
   have hgO : B ≤ g4 := ((uI O4).lt g4 rfl).1
   have K4a : Kpt (fun c => vo.ownBlock = some c) (w2.drew.setCell ⟨pk, 4, none⟩ (.int .i64 (s.fin + nw))) w4 := (Kpt.of (X := fun _ => False) (below_a (w2.drew.setCell ⟨pk, 4, none⟩ (.int .i64 (s.fin + nw))) (.cells #[.int .i64 (n : Int)] 3))).trans (Kpt.grown (X := fun c => vo.ownBlock = some c) (uI G4) (fun _ h => h)) (fun _ h => h.elim) (fun _ h _ => h)
   have KS4 : Kpt (fun k => k = pk) w4 (w4.setCell ⟨pk, 3, none⟩ (.slice (some ⟨g4, 0, none⟩) (s.order.length + 1) cap4)) := Kpt.setCell _ _ rfl
   have nO : ∀ k, vo.ownBlock = some k → B ≤ k := fun k hk => ((uI O3).lt k hk).1
   have KK := zH (((uI KG2).trans (uI KS2) (Z := PutX ⟨pk, ow, B, vu, .slice (some ⟨g, 0, none⟩) s.P.length cap, O⟩ vo) (fun k hk => .inr (.inl (by rw [hk]; rfl))) (fun k hk _ => .inl hk)).trans (K4a.trans KS4 (Z := PutX ⟨pk, ow, B, vu, .slice (some ⟨g, 0, none⟩) s.P.length cap, O⟩ vo) (fun k hk => .inr (.inr hk)) (fun k hk _ => .inl hk)) (Z := PutX ⟨pk, ow, B, vu, .slice (some ⟨g, 0, none⟩) s.P.length cap, O⟩ vo) (fun _ h => h) (fun _ h _ => h))
   have hloc4 : ∀ k, (Value.slice (some ⟨g4, 0, none⟩) (s.order.length + 1) cap4).ownBlock = some k → vo.ownBlock = some k ∨ u.heap.size ≤ k := fun k hk => by
     obtain rfl : g4 = k := Option.some.inj hk
     rcases (uI L4) with h | h
     · exact .inl h
     · right; simp at h; omega
   refine bodyPost_end (v := .tuple #[]) (by simp [results, Tryz.results82, go_sem]) rfl ⟨rfl, _, ⟨(uI B4).set (j := 3) (u := .slice (some ⟨g4, 0, none⟩) (s.order.length + 1) cap4) (by simp), ((uI M3).kpt K4a (fun h => by have := nO _ h; omega)).kpt KS4 (fun h => hpo h.symm), ?_, ?_, hpB, hoB, hpo⟩, uI KK, hloc4⟩
   · have P4 : Pts w4 B (Value.slice (some ⟨g, 0, none⟩) s.P.length cap) (s.P.set n (⟨A, nw, true, s.fin⟩, bm)) := ⟨own_kpt (uI P3).1 K4a (fun k hk h => rows_apart (uI P3).1 (uI O3) (by decide) hk h), fun p hp => ⟨((uI P3).2 p hp).1.kpt K4a (fun h => row_not_map (uI O3) h ((uI P3).2 p hp).1), ((uI P3).2 p hp).2⟩⟩
     exact P4.kpt KS4 (fun k hk h => by omega)
   · have := own_kpt (uI O4) KS4 (fun k hk h => by have e : g4 = k := Option.some.inj hk; omega)
     show World.ownsRow _ _ _ _ _ (s.order ++ [(n : Int)]).length (List.map int1 (s.order ++ [(n : Int)]))
     rw [List.length_append, List.map_append]
     exact this
end Go.Proofs.YtlkoidkdeopgjaaGreatDoor
namespace Go.Proofs.YtlkoidkdeopgjaaGreatDoor
open Go.RowKit Go.Maps
set_option linter.unusedSimpArgs false
set_option linter.unusedVariables false
def faL (k : List UInt8) : Bool := match k with | [] => false | x :: _ => ((x.toNat : Int) != 46)
theorem fa_list (s : ByteArray) : fa s = faL s.toList := by
 unfold fa emp faL
 cases h : s.toList with
 | nil => rfl
 | cons x r =>
   have hz : 0 < s.size := by
     rcases Nat.eq_zero_or_pos s.size with h0 | h0
     · obtain rfl : s = ByteArray.empty := by simpa using h0
       rw [ByteArray.toList_eq] at h; cases h
     · exact h0
   rw [byt_at hz]
   have e : s[0] = x := by
     rw [ByteArray.toList_eq] at h
     have h2 : s.data.toList[0]? = some x := by rw [h]; rfl
     rw [Array.getElem?_toList] at h2
     have h3 := (Array.getElem?_eq_some_iff.1 h2).2
     exact h3
   rw [e]; simp
def ownerL (O : Nmd) (P : List (Pt × Nat)) (n : Nat) (k : List UInt8) : Int × Bool :=
 if faL k = true then (atA O k, hasA O k) else ((n : Int), match P[n]? with | some p => hasA p.1.A k | none => false)
theorem ownerL_all {O : Nmd} {P : List (Pt × Nat)} {n : Nat} {k : List UInt8} (h : faL k = true) : ownerL O P n k = (atA O k, hasA O k) := by unfold ownerL; rw [if_pos h]
theorem ownerL_own {O : Nmd} {P : List (Pt × Nat)} {n : Nat} {k : List UInt8} (h : faL k = false) (hn : n < P.length) : ownerL O P n k = ((n : Int), hasA (P[n]'hn).1.A k) := by unfold ownerL; rw [if_neg (by simp [h]), List.getElem?_eq_getElem hn]
theorem owner_any (c : Lf) (s : Ls) (vo : Value) (u : World) (x : ByteArray) (n : Nat) (h : LkAt c s vo u) (hn : n < s.P.length) (hx : x.size ≤ maxLen) :
   Calls Tryz.prog 118 #[.pointer (some ⟨c.pk, 0, none⟩), .string x, .int .i64 n] u fun e u' => e = .returned (.tuple #[.int .i64 (ownerL c.O s.P n x.toList).1, .bool (ownerL c.O s.P n x.toList).2]) ∧ u' = u := by
 obtain ⟨hB, hM, hP, hO, hpB, hoB, hpo⟩ := h
 have FA := fun w => forAll_any x w
 rw [fa_list] at FA
 have b1 := hB.2.1 1 _ rfl
 have b2 := hB.2.1 2 _ rfl
 have HM := zH hM
 by_cases hf : faL x.toList = true
 · rw [ownerL_all hf]
   rw [hf] at FA
   clear hB hM hP hO
   go_enter Tryz.func118, Tryz.ntmps118
   go_wp2_with fail
   refine (FA _).mono ?_
   rintro e w1 ⟨rfl, hw⟩
   subst w1
   go_wp2_with (at_lookup; refine wpList_look_ok rfl (.tmp 18) (.tmp 19) rfl c.ow c.O rfl (uI HM) x rfl hx ?_)
   go_ret2
   exact ⟨rfl, rfl⟩
 · replace hf : faL x.toList = false := by simpa using hf
   rw [ownerL_own hf hn]
   rw [hf] at FA
   have hne : s.P ≠ [] := by intro e; rw [e] at hn; simp at hn
   obtain ⟨g, cap, hvp, hBg, hgl, hfz, hcs⟩ := hP.at hne
   rw [hvp] at b1
   obtain ⟨c0, -, -, -⟩ := hcs n hn
   have MP := zH ((hP.2 _ (List.getElem_mem hn)).1)
   generalize s.P[n] = pn at *
   clear hB hM hP hO hcs hfz
   go_enter Tryz.func118, Tryz.ntmps118
   go_wp2_with fail
   refine (FA _).mono ?_
   rintro e w1 ⟨rfl, hw⟩
   subst w1
   go_wp2_with (at_lookup; refine wpList_look_ok rfl (.tmp 33) (.tmp 34) rfl pn.2 pn.1.A rfl (uI MP) x rfl hx ?_)
   go_ret2
   exact ⟨rfl, rfl⟩
theorem placeL_any (c : Lf) (s : Ls) (vo : Value) (u : World) (x : ByteArray) (n : Nat) (h : LkAt c s vo u) (hn : n < s.P.length) (hx : x.size ≤ maxLen) (h0 : 0 ≤ (s.P[n]'hn).1.start) (h1 : (s.P[n]'hn).1.start ≤ 30000000) (h2 : 0 ≤ atA (s.P[n]'hn).1.A x.toList) (h3 : atA (s.P[n]'hn).1.A x.toList ≤ 65536) :
   Calls Tryz.prog 88 #[.pointer (some ⟨c.pk, 0, none⟩), .string x, .int .i64 n] u fun e u' => e = .returned (.int .i64 ((s.P[n]'hn).1.start + atA (s.P[n]'hn).1.A x.toList)) ∧ ∃ q, u' = u.drewN q := by
 obtain ⟨hB, hM, hP, hO, hpB, hoB, hpo⟩ := h
 have b1 := hB.2.1 1 _ rfl
 have hne : s.P ≠ [] := by intro e; rw [e] at hn; simp at hn
 obtain ⟨g, cap, hvp, hBg, hgl, hfz, hcs⟩ := hP.at hne
 rw [hvp] at b1
 obtain ⟨c0, -, -, c3⟩ := hcs n hn
 have RO := fun q => (((hP.2 _ (List.getElem_mem hn)).1).drewN q).run x hx
 generalize s.P[n] = pn at *
 obtain ⟨⟨A, nw, pt, st⟩, bm⟩ := pn
 dsimp only at *
 generalize atA A x.toList = y at *
 clear hB hM hP hO hcs hfz
 go_enter Tryz.func88, Tryz.ntmps88
 go_wp2_with fail
 go_quiet (fail)
 go_wp2_with fail
 go_ret
 exact ⟨rfl, _, rfl⟩
end Go.Proofs.YtlkoidkdeopgjaaGreatDoor
