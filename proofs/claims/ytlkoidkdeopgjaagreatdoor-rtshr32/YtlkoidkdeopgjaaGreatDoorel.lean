/-
  EmuW, Mem2, EmuZ.
-/
import Derived.Test.YtlkoidkdeopgjaaGreatDoorea
import Derived.Test.YtlkoidkdeopgjaaGreatDoorkb
import Derived.Test.YtlkoidkdeopgjaaGreatDoorka
import Derived.Laws.AppendOwnNone
import Derived.OwnWalk
import Derived.Test.YtlkoidkdeopgjaaGreatDoored
import Derived.Test.YtlkoidkdeopgjaaGreatDoorkc
import Derived.Lib.LazyBuf
import Derived.Laws.Tables
import Derived.Laws.Rows
import Derived.Laws.ResultCell
set_option maxHeartbeats 4000000
set_option maxRecDepth 100000
namespace Go.Proofs.YtlkoidkdeopgjaaGreatDoor
open Go.RowKit
set_option linter.unusedSimpArgs false
set_option linter.unusedVariables false
def isw (x : Int) : Bool := decide (0 ≤ x ∧ x ≤ 65535)
theorem isw_yes {x : Int} (h : isw x = true) : wd x := by unfold isw at h; simpa [wd] using h
theorem isWord_any (x : Int) (w : World) : Calls Tryz.prog 90 #[.int .i64 x] w fun e w' => e = .returned (.bool (isw x)) ∧ w' = w := by
 by_cases h : 0 ≤ x
 · have hx : Hid (isw x = decide (x ≤ 65535)) := by unfold Hid isw; simp [h]
   rw [uI hx]
   have h0 : decide (0 ≤ x) = true := by simpa using h
   go_enter Tryz.func90, Tryz.ntmps90
   go_wp2
   go_ret
   exact ⟨rfl, rfl⟩
 · have hx : Hid (isw x = false) := by unfold Hid isw; simp; omega
   rw [uI hx]
   have h0 : decide (0 ≤ x) = false := by simpa using h
   go_enter Tryz.func90, Tryz.ntmps90
   go_wp2
   go_ret
   exact ⟨rfl, rfl⟩
theorem all_at (l : List Int) (k : Nat) (h : k < l.length) : (l.drop k).all isw = (isw l[k] && (l.drop (k + 1)).all isw) := by
 rw [List.drop_eq_getElem_cons h]; rfl
theorem areWords_any (l : List Int) (v : Value) (w : World) (hv : Ints w v l) : Calls Tryz.prog 89 #[v] w fun e w' => e = .returned (.bool (l.all isw)) ∧ w' = w := by
 obtain ⟨ao, cap, rfl, hmax, hat⟩ := hv.at
 clear hv
 have HA := zH hat
 clear hat
 unfold maxLen at hmax
 generalize hR : l.all isw = R
 have HR : Hid (R = (l.drop 0).all isw) := by rw [← hR]; rfl
 clear hR
 go_enter Tryz.func89, Tryz.ntmps89
 go_wp2_with fail
 go_loopg [7] l.length (fun g t wr => ∃ (i : Nat), i ≤ l.length ∧ g = l.length - i ∧ t = .int .i64 i ∧ wr = w ∧ Hid (R = (l.drop i).all isw))
 case atStart => exact ⟨0, Nat.zero_le _, rfl, rfl, rfl, HR⟩
 case round =>
   obtain ⟨i, hi, rfl, rfl, rfl, he⟩ := hrel
   by_cases hlt : i < l.length
   · have hn : l ≠ [] := by intro h; rw [h] at hlt; simp at hlt
     obtain ⟨b1, o1, rfl, h1, c1⟩ := (uI HA) hn
     have x1 := c1 i hlt
     have hd := zH (all_at l i hlt)
     clear c1
     generalize l[i] = y at *
     cases hy : isw y
     · go_wp2_with (go_at_call 90; refine (isWord_any _ _).mono ?_; rintro e w1 ⟨rfl, hw⟩; subst w1; rw [hy])
       go_ret
       have e2 := uI hd
       rw [hy] at e2
       exact ⟨by rw [uI he, e2]; rfl, rfl⟩
     · go_wp2_with (go_at_call 90; refine (isWord_any _ _).mono ?_; rintro e w1 ⟨rfl, hw⟩; subst w1; rw [hy])
       go_roundg (l.length - (i + 1))
       case measure => omega
       case rel =>
         have e2 := uI hd
         rw [hy, Bool.true_and] at e2
         exact ⟨i + 1, by omega, rfl, by go_num, rfl, by unfold Hid; rw [uI he, e2]⟩
   · have e1 : R = true := by rw [uI he, List.drop_eq_nil_of_le (by omega)]; rfl
     go_wp2_with fail
     go_ret
     exact ⟨by rw [e1]; rfl, rfl⟩
structure St where
 r : Nat → Int
 c : Bool
 z : Bool
 n : Bool
 v : Bool
 pc : Int
 mem : List Int
def St.regs (s : St) : List Int := [s.r 0, s.r 1, s.r 2, s.r 3, s.r 4, s.r 5, s.r 6, s.r 7]
def St.cells (s : St) (vm : Value) : Array Value := #[.int .i64 (s.r 0), .int .i64 (s.r 1), .int .i64 (s.r 2), .int .i64 (s.r 3), .int .i64 (s.r 4), .int .i64 (s.r 5), .int .i64 (s.r 6), .int .i64 (s.r 7), .bool s.c, .bool s.z, .bool s.n, .bool s.v, .int .i64 s.pc, vm]
def St.val (s : St) (vm : Value) : Value := .agg (s.cells vm)
def St.good (s : St) : Bool := s.regs.all isw && isw s.pc && s.mem.all isw
def St.wrong (s : St) : Int := if 65536 < s.mem.length then 4 else if s.good = true then 0 else 3
theorem regs_lie (s : St) (vm : Value) (w : World) (T : TypeId) : Ints (w.alloc (.cells (s.cells vm) T)) (.slice (some ⟨w.heap.size, 0, none⟩) 8 8) s.regs := by
 refine ⟨rfl, _, 8, rfl, Nat.le_refl _, by decide, (fun h => by cases h), fun _ => ⟨w.heap.size, 0, rfl, by simp, fun j hj => ?_⟩⟩
 have hj' : j = 0 ∨ j = 1 ∨ j = 2 ∨ j = 3 ∨ j = 4 ∨ j = 5 ∨ j = 6 ∨ j = 7 := by simp [St.regs] at hj; omega
 rcases hj' with rfl | rfl | rfl | rfl | rfl | rfl | rfl | rfl <;> simp [go_sem, St.cells, St.regs, int1]
theorem wrongS_any (s : St) (vm : Value) (w : World) (hm : Ints w vm s.mem) : Calls Tryz.prog 65 #[s.val vm] w fun e w' => e = .returned (.int .i64 s.wrong) ∧ w' = w.alloc (.cells (s.cells vm) 51) := by
 have RL := zH (regs_lie s vm w 51)
 have ML := zH (hm.step (below_a w (.cells (s.cells vm) 51)))
 obtain ⟨ao, cap, rfl, hmax, _⟩ := hm.at
 clear hm
 unfold maxLen at hmax
 unfold St.cells at RL ML
 by_cases hl : 65536 < s.mem.length
 · have hw : Hid (s.wrong = 4) := by unfold Hid St.wrong; rw [if_pos hl]
   rw [uI hw]
   have hb : decide ((65536 : Int) < s.mem.length) = true := by simp; omega
   unfold St.val St.cells
   clear RL ML
   go_enter Tryz.func65, Tryz.ntmps65
   go_wp2
   go_ret
   exact ⟨rfl, rfl⟩
 · have hw : Hid (s.wrong = if s.good = true then 0 else 3) := by unfold Hid St.wrong; rw [if_neg hl]
   rw [uI hw]
   have hb : decide ((65536 : Int) < s.mem.length) = false := by simp; omega
   have hg : Hid (s.good = (s.regs.all isw && isw s.pc && s.mem.all isw)) := rfl
   rw [uI hg]
   clear hw hg
   unfold St.val St.cells
   have AR := fun w' v' hw' => areWords_any s.regs v' w' hw'
   have AM := fun w' v' hw' => areWords_any s.mem v' w' hw'
   have IW := fun w' => isWord_any s.pc w'
   generalize s.regs.all isw = a at *
   generalize isw s.pc = b at *
   generalize s.mem.all isw = c at *
   cases a
   · go_enter Tryz.func65, Tryz.ntmps65
     go_wp2_with (go_at_call 89; refine (AR _ _ (uI RL)).mono ?_; rintro e w1 ⟨rfl, hw⟩; subst w1)
     go_ret
     exact ⟨rfl, rfl⟩
   · cases b
     · go_enter Tryz.func65, Tryz.ntmps65
       go_wp2_with (first | (go_at_call 89; refine (AR _ _ (uI RL)).mono ?_; rintro e w1 ⟨rfl, hw⟩; subst w1) | (go_at_call 90; refine (IW _).mono ?_; rintro e w1 ⟨rfl, hw⟩; subst w1))
       go_ret
       exact ⟨rfl, rfl⟩
     · cases c
       all_goals
         go_enter Tryz.func65, Tryz.ntmps65
         go_wp2_with fail
         refine (AR _ _ (uI RL)).mono ?_
         rintro e w1 ⟨rfl, hw⟩
         subst w1
         go_wp2_with fail
         refine (IW _).mono ?_
         rintro e w1 ⟨rfl, hw⟩
         subst w1
         go_wp2_with fail
         refine (AM _ _ (uI ML)).mono ?_
         rintro e w1 ⟨rfl, hw⟩
         subst w1
         go_wp2_with fail
         go_ret
         exact ⟨rfl, rfl⟩
end Go.Proofs.YtlkoidkdeopgjaaGreatDoor
namespace Go.Proofs.YtlkoidkdeopgjaaGreatDoor
open Go.RowKit
set_option linter.unusedSimpArgs false
set_option linter.unusedVariables false
theorem append_lies {P : Program} {w : World} {ops : Array Oper} {rest : List Oper} {o : Oper} {a : Act} {Q : Exit → Act → World → Prop} (hgd : o.guard = none) (s x : Operand) (t : TypeId)
   (ho : o.op = .call { callee := .builtin .append, args := #[s, x], argTypes := #[t, t] })
   (base : Nat) (e : TypeId) (i : TypeInfo) (z : Value) (size bytes : Nat) (ht : P.underlying t = some (.slice e)) (hi : P.info? e = some i) (hz : i.zero = some z)
   (hsize : i.size = size) (hby : i.bytes = bytes) (hzs : z.cells.size = size) (hsz : 0 < size)
   (v : Value) (n : Nat) (xs : List Value) (hs : a.eval s = v) (hown : w.ownsRow base e size v n xs)
   (vx : Value) (m : Nat) (news : List Value) (hx : a.eval x = vx) (hl : Lies w size vx m news) (h1 : ∀ u ∈ news, u.oneCell' = true)
   (h63 : n + m ≤ maxLen) (hbytes : (n + m) * bytes ≤ 140737488355328) (hbase : base ≤ w.heap.size)
   (h : ∀ v' w', w'.ownsRow base e size v' (n + m) (xs ++ news) → w.grownBy w' v.ownBlock → wpList P ops Q rest (a.put o.dst v') w') : wpList P ops Q (o :: rest) a w := by
 rcases hl.src with ⟨rfl, rfl, rfl⟩ | ⟨ad, cap, rfl, hlen, hc⟩
 · exact wpList_append_own_none hgd s x t ho base e i size ht hi v n xs hs hown hx (h v w (by simpa using hown) (World.grownBy.refl _ _))
 · exact wpList_append_own w hgd s x t ho base e i z size bytes ht hi hz hsize hby hzs hsz v n xs hs hown ad m cap news hx hlen hc h1 h63 hbytes hbase fun v' w' k1 k2 _ => h v' w' k1 k2
end Go.Proofs.YtlkoidkdeopgjaaGreatDoor
namespace Go.Proofs.YtlkoidkdeopgjaaGreatDoor
open Go.RowKit
set_option linter.unusedSimpArgs false
set_option linter.unusedVariables false
def lastN (f : Nat → Int) : Nat → Nat
 | 0 => 0
 | n + 1 => if f n = 0 then lastN f n else n + 1
@[irreducible] def memL (f : Nat → Int) : List Int := (List.range (lastN f 65536)).map f
theorem own_nil' (w : World) (B : Nat) (e s : Nat) (h : B ≤ w.heap.size) : (w.alloc (.cells #[] e)).ownsRow B e s (.slice (some ⟨w.heap.size, 0, none⟩) 0 0) 0 [] :=
 World.ownsRow_made w #[] 0 h (by decide) (by simp)
theorem own_ints {w : World} {B n : Nat} {v : Value} {l : List Int} (h : w.ownsRow B 3 1 v (0 + n) ([] ++ l.map int1)) (hn : n = l.length) : Ints w v l := by
 have := Lies.owned h
 subst hn
 unfold Ints
 simpa using this
theorem ints_cells (l : List Int) : ∀ u ∈ l.map int1, u.oneCell' = true := by
 intro u hu
 obtain ⟨i, _, rfl⟩ := List.mem_map.1 hu
 rfl
theorem clone_any (l : List Int) (ad : Addr) (cap : Nat) (w : World) (hv : Ints w (.slice (some ad) l.length cap) l) (hl : l.length ≤ 65536) :
   Calls Tryz.prog 134 #[.slice (some ad) l.length cap] w fun e w' => ∃ v', e = .returned v' ∧ Ints w' v' l ∧ Below w.heap.size w w' ∧ (∀ k, v'.ownBlock = some k → w.heap.size ≤ k) := by
 obtain ⟨i0, hi, hz0, hz1, hz2⟩ := info_parts Tryz.infoInt
 have HV := zH hv
 have ON := zH (own_nil' w w.heap.size 3 1 (Nat.le_refl _))
 have KA := zH (below_a w (.cells #[] 3))
 have hnil := fun w => run_eql_slice_nil (P := Tryz.prog) w 43 3 (some ad) l.length cap Tryz.underlying43
 clear hv
 go_enter Tryz.func134, Tryz.ntmps134
 go_wp2_with (at_builtin; refine append_lies rfl (.tmp 5) (.tmp 6) 43 rfl w.heap.size 3 i0 (.int .i64 0) 1 8 Tryz.underlying43 hi hz0 hz1 hz2 rfl (by decide) _ _ _ rfl (uI ON) _ _ _ rfl ((uI HV).step (uI KA)) (ints_cells _) (by unfold maxLen; omega) (by omega) (by simp) ?_; intro v3 w3 own3 grow3; have b3 := zH (below_own (uI KA) (by simp) (uI ON) grow3); have I3 := zH (own_ints own3 rfl); have N3 := zH (fun k hk => (own3.lt k hk).1); clear own3 grow3)
 go_ret
 exact ⟨_, rfl, uI I3, uI b3, uI N3⟩
theorem range_lies {w : World} {q n : Nat} {f : Nat → Int} (hq : q < w.heap.size) (hc : ∀ j, j < 65536 → w.cell? ⟨q, j, none⟩ = some (.int .i64 (f j))) (hn : n ≤ 65536) : Ints w (.slice (some ⟨q, 0, none⟩) n 65536) ((List.range n).map f) := by
 unfold Ints
 have hl : ((List.range n).map f).length = n := by simp
 rw [hl]
 refine ⟨by simp, _, 65536, rfl, hn, by decide, (fun h => by cases h), fun _ => ⟨q, 0, rfl, hq, fun j hj => ?_⟩⟩
 have hj' : j < n := by omega
 rw [Nat.zero_add, hc j (by omega)]
 simp [int1, hj']
theorem zeros_any (f : Nat → Int) (q : Nat) (w : World) (hq : q < w.heap.size) (hc : ∀ j, j < 65536 → w.cell? ⟨q, j, none⟩ = some (.int .i64 (f j))) :
   Calls Tryz.prog 94 #[.slice (some ⟨q, 0, none⟩) 65536 65536] w fun e w' => ∃ v', e = .returned v' ∧ Ints w' v' (memL f) ∧ Below w.heap.size w w' ∧ (∀ k, v'.ownBlock = some k → w.heap.size ≤ k) := by
 have HC := zH hc
 have HL := zH (fun n (h : n ≤ 65536) => range_lies hq hc h)
 clear hc
 have HN : Hid (lastN f 65536 = lastN f 65536) := rfl
 generalize hR : memL f = R
 have HR : Hid (R = (List.range (lastN f 65536)).map f) := by unfold Hid; rw [← hR]; unfold memL; rfl
 clear hR
 generalize hK : lastN f 65536 = K at HR
 have HK : Hid (K = lastN f 65536) := hK.symm
 clear hK HN
 go_enter Tryz.func94, Tryz.ntmps94
 go_wp2_with fail
 go_loopg [3] 65536 (fun g t wr => ∃ k : Nat, g = k ∧ k ≤ 65536 ∧ t = .int .i64 k ∧ wr = w ∧ Hid (K = lastN f k))
 case atStart => exact ⟨65536, rfl, Nat.le_refl _, rfl, rfl, HK⟩
 case round =>
   obtain ⟨k, hgk, hk, rfl, rfl, he⟩ := hrel
   by_cases h0 : k = 0
   · subst h0
     have e0 : K = 0 := he
     subst e0
     have L0 := uI HL 0 (by omega)
     go_wp2_with (go_at_call 134; refine (clone_any [] ⟨q, 0, none⟩ 65536 _ L0 (by decide)).mono ?_; rintro e w1 ⟨v1, rfl, i1, k1, n1⟩; have I1 := zH i1; have K1 := zH k1; have N1 := zH n1; clear i1 k1 n1)
     go_ret
     exact ⟨_, rfl, by rw [uI HR]; exact uI I1, uI K1, uI N1⟩
   · obtain ⟨n, rfl⟩ : ∃ n, k = n + 1 := ⟨k - 1, by omega⟩
     have c1 := uI HC n (by omega)
     have hg : decide (0 < ((n + 1 : Nat) : Int)) = true := by simp
     have hs : ((n + 1 : Nat) : Int) - 1 = n := by omega
     by_cases hz : f n = 0
     · have e1 : Hid (K = lastN f n) := by have := uI he; unfold lastN at this; rw [if_pos hz] at this; exact this
       have hz1 : (f n == 0) = true := by simp [hz]
       go_wp2_with fail
       go_roundg n
       case measure => omega
       case rel => exact ⟨n, rfl, by omega, by go_num, rfl, e1⟩
     · have e1 : K = n + 1 := by have := uI he; unfold lastN at this; rw [if_neg hz] at this; exact this
       subst e1
       have hz1 : (f n == 0) = false := by simp [hz]
       have L0 := uI HL (n + 1) hk
       have hlen : ((List.range (n + 1)).map f).length = n + 1 := by simp
       have CL := fun w' hv => clone_any ((List.range (n + 1)).map f) ⟨q, 0, none⟩ 65536 w' hv (by rw [hlen]; exact hk)
       rw [hlen] at CL
       go_wp2_with (go_at_call 134; refine (CL _ L0).mono ?_; rintro e w1 ⟨v1, rfl, i1, k1, n1⟩; have I1 := zH i1; have K1 := zH k1; have N1 := zH n1; clear i1 k1 n1)
       go_ret
       exact ⟨_, rfl, by rw [uI HR]; exact uI I1, uI K1, uI N1⟩
theorem heap_new (u : World) (o : Obj) : (u.alloc o).heap[u.heap.size]? = some o := by
 unfold World.alloc
 exact Array.getElem?_push_size
theorem Lies.blk {w w' : World} {s n : Nat} {v : Value} {cs : List Value} (h : Lies w s v n cs) (hs : w.heap.size ≤ w'.heap.size) (hb : ∀ k, v.ownBlock = some k → w'.heap[k]? = w.heap[k]?) : Lies w' s v n cs := by
 obtain ⟨h1, ao, cap, rfl, h3, h4, h6, h5⟩ := h
 refine ⟨h1, ao, cap, rfl, h3, h4, h6, fun hn => ?_⟩
 obtain ⟨c, off, rfl, hc, hl⟩ := h5 hn
 exact ⟨c, off, rfl, Nat.lt_of_lt_of_le hc hs, fun i hi => by rw [World.cell?_of_block (w := w) (a := ⟨c, off + i, none⟩) (hb c rfl)]; exact hl i hi⟩
theorem Box.heap {w : World} {b : Nat} {cs : Array Value} {T : TypeId} (h : w.heap[b]? = some (.cells cs T (0, 0))) : Box w b cs.toList := by
 refine ⟨(Array.getElem?_eq_some_iff.1 h).1, fun j u hu => ?_, fun j => ?_⟩
 · have : cs[j]? = some u := by rw [← Array.getElem?_toList]; exact hu
   unfold World.cell?
   simp only [h]
   simpa using this
 · unfold World.frozen?
   simp [h]
theorem size_setRow (w : World) (g : Nat) (cs : Array Value) : (w.setRow g cs).heap.size = w.heap.size := by simp [World.setRow]
theorem Below.row {B g : Nat} {u v : World} (h : Below B u v) (hg : B ≤ g) (cs : Array Value) : Below B u (v.setRow g cs) :=
 h.trans ⟨rfl, rfl, rfl, by simp [World.setRow], fun k hk => setRow_other v g k cs (by omega)⟩
def ranC (m : Ma) (vo vm : Value) : Array Value := #[.int .i64 m.how, .int .i64 m.trap, vo, .int .i64 m.rd, .int .i64 m.took, .int .i64 (m.r 0), .int .i64 (m.r 1), .int .i64 (m.r 2), .int .i64 (m.r 3), .int .i64 (m.r 4), .int .i64 (m.r 5), .int .i64 (m.r 6), .int .i64 (m.r 7), .bool m.c, .bool m.z, .bool m.n, .bool m.v, .int .i64 m.pc, vm]
theorem ranC_one (m : Ma) (a b : Option Addr) (i j k l : Nat) : (ranC m (.slice a i j) (.slice b k l)).all (·.oneCell') = true := by simp [ranC, Value.oneCell']
theorem Tryz.sizeRan : (Tryz.prog.info? 53).map (·.size) = some 19 := by kernel_rfl
def ranV (m : Ma) (vo vm : Value) : Value := .agg (ranC m vo vm)
theorem ran_any {w0 w : World} {p q : Nat} {vc vi vo : Value} {m : Ma} {xs bs : List Int} (h : Mach w0 w p q vc vi vo m xs bs) :
   Calls Tryz.prog 68 #[.pointer (some ⟨p, 0, none⟩)] w fun e w' => ∃ vm, e = .returned (ranV m vo vm) ∧ Ints w' vm (memL m.mem) ∧ Byts w' vo m.out ∧ Below w0.heap.size w0 w' ∧ (∀ k, vm.ownBlock = some k → w0.heap.size ≤ k) := by
 have HM := zH h
 obtain ⟨-, -, -, -, -, c13, -, -, -, -, -, -, -⟩ := h.at
 have fz := h.flat
 have hp := h.pw
 have hpr : p ≠ w.heap.size := by omega
 have h0 := h.low.size
 have ZA := zH (fun w1 (k : Below w.heap.size w w1) => zeros_any m.mem q w1 (Nat.lt_of_lt_of_le h.hqw k.size) (h.step k).mem)
 generalize memL m.mem = L at *
 obtain ⟨oo, ocap, rfl⟩ := own_slc h.own
 clear h
 go_enter Tryz.func68, Tryz.ntmps68
 go_wp2_with fail
 refine (uI ZA _ (below_a _ _)).mono ?_
 rintro e w1 ⟨vm, rfl, i1, k1, n1⟩
 have I1 := zH i1
 have N1 := zH n1
 have K1 := zH k1
 obtain ⟨mo, mcap, rfl, _, _⟩ := i1.at
 have HM1 := zH (((uI HM).new _).step k1)
 have PB := (uI HM1).box
 have HG : w1.heap[w.heap.size]? = some (.cells #[.int .i64 0, .int .i64 0, .slice none 0 0, .int .i64 0, .int .i64 0, .int .i64 0, .int .i64 0, .int .i64 0, .int .i64 0, .int .i64 0, .int .i64 0, .int .i64 0, .int .i64 0, .bool false, .bool false, .bool false, .bool false, .int .i64 0, .slice none 0 0] 53 (0, 0)) := by rw [k1.block _ (by simp)]; exact heap_new _ _
 obtain ⟨-, -, -, -, -, d13, -, -, -, -, -, -, -⟩ := (uI HM1).at
 have fz1 := (uI HM1).flat
 have NR : Hid (∀ k, (Value.slice mo (L).length mcap).ownBlock = some k → k ≠ w.heap.size) := fun k hk => by have := n1 k hk; simp at this; omega
 have NB : Hid (∀ k, (Value.slice mo L.length mcap).ownBlock = some k → w0.heap.size ≤ k) := fun k hk => by have := n1 k hk; simp at this; omega
 have NP : Hid (∀ k, (Value.slice mo (L).length mcap).ownBlock = some k → k ≠ p) := fun k hk => by have := n1 k hk; simp at this; omega
 have OR : Hid (∀ k, (Value.slice oo m.out.length ocap).ownBlock = some k → k ≠ w.heap.size) := fun k hk => by have := ((uI HM).own.lt k hk).2; omega
 have OP : Hid (∀ k, (Value.slice oo m.out.length ocap).ownBlock = some k → k ≠ p) := fun k hk => ((uI HM).ho k hk).1
 have PB2 := zH (PB.set (j := 13) (u := .slice mo (L).length mcap) (by simp [cellsM]))
 have HG2 := zH (show (w1.setCell ⟨p, 13, none⟩ (.slice mo L.length mcap)).heap[w.heap.size]? = _ from (Below.heap_setCell _ _ _ _ (Ne.symm hpr)).trans HG)
 have I2 := zH (Lies.other (b := p) (j := 13) (u := .slice mo (L).length mcap) i1 (uI NP))
 have O2 := zH (Lies.other (b := p) (j := 13) (u := .slice mo (L).length mcap) (Lies.owned (uI HM1).own) (uI OP))
 have L2 := zH ((uI HM1).low.setCell (p := ⟨p, 13, none⟩) (uI HM1).hp (.slice mo (L).length mcap))
 clear PB HG i1 n1 k1
 go_wp2_with fail
 generalize w1.setCell ⟨p, 13, none⟩ (.slice mo (L).length mcap) = w2 at *
 clear d13 fz1 HM1 I1 N1 K1 ZA HM fz c13
 have PD := uI PB2
 have p0 := PD.2.1 0 _ rfl
 have p1 := PD.2.1 1 _ rfl
 have p2 := PD.2.1 2 _ rfl
 have p3 := PD.2.1 3 _ rfl
 have p4 := PD.2.1 4 _ rfl
 have p5 := PD.2.1 5 _ rfl
 have p6 := PD.2.1 6 _ rfl
 have p7 := PD.2.1 7 _ rfl
 have p8 := PD.2.1 8 _ rfl
 have p9 := PD.2.1 9 _ rfl
 have p10 := PD.2.1 10 _ rfl
 have p11 := PD.2.1 11 _ rfl
 have p12 := PD.2.1 12 _ rfl
 have p13 := PD.2.1 13 _ rfl
 have p14 := PD.2.1 14 _ rfl
 have p15 := PD.2.1 15 _ rfl
 have p16 := PD.2.1 16 _ rfl
 have p17 := PD.2.1 17 _ rfl
 have p18 := PD.2.1 18 _ rfl
 have p19 := PD.2.1 19 _ rfl
 have p20 := PD.2.1 20 _ rfl
 clear PD
 refine wp_region_head 25 (by kernel_rfl) (by kernel_rfl) ?_
 simp only [List.take_succ_cons, List.take_zero, List.drop_succ_cons, List.drop_zero]
 repeat still_step
 refine wpStill_nil ?_
 refine wpList_store_row rfl 53 (.tmp 2) (.tmp 37) rfl w.heap.size (ranC m (.slice oo m.out.length ocap) (.slice mo L.length mcap)) rfl rfl 53 #[.int .i64 0, .int .i64 0, .slice none 0 0, .int .i64 0, .int .i64 0, .int .i64 0, .int .i64 0, .int .i64 0, .int .i64 0, .int .i64 0, .int .i64 0, .int .i64 0, .int .i64 0, .bool false, .bool false, .bool false, .bool false, .int .i64 0, .slice none 0 0] (uI HG2) Tryz.sizeRan rfl (ranC_one _ _ _ _ _ _ _) ?_
 have HG3 := zH (setRow_heap w2.drew w.heap.size _ (ranC m (.slice oo m.out.length ocap) (.slice mo L.length mcap)) _ _ (uI HG2))
 have W3 : Hid (Ints (w2.drew.setRow w.heap.size (ranC m (.slice oo m.out.length ocap) (.slice mo L.length mcap))) (.slice mo L.length mcap) L ∧ Byts (w2.drew.setRow w.heap.size (ranC m (.slice oo m.out.length ocap) (.slice mo L.length mcap))) (.slice oo m.out.length ocap) m.out ∧ Below w0.heap.size w0 (w2.drew.setRow w.heap.size (ranC m (.slice oo m.out.length ocap) (.slice mo L.length mcap)))) :=
   ⟨Lies.blk (uI I2) (by rw [size_setRow]; exact Nat.le_refl _) fun k hk => setRow_other _ _ _ _ (uI NR k hk), Lies.blk (uI O2) (by rw [size_setRow]; exact Nat.le_refl _) fun k hk => setRow_other _ _ _ _ (uI OR k hk), Below.row (uI L2).drew h0 _⟩
 generalize w2.drew.setRow w.heap.size (ranC m (.slice oo m.out.length ocap) (.slice mo L.length mcap)) = w3 at *
 clear I2 O2 L2 HG2
 go_wp2_with fail
 exact bodyPost_ret (results_cell_row Tryz.results68 _ _ w.heap.size 53 (ranC m (.slice oo m.out.length ocap) (.slice mo L.length mcap)) (0, 0) _ rfl (uI HG3) Tryz.underlying53 rfl Tryz.sizeRan) rfl ⟨_, rfl, (uI W3).1, (uI W3).2.1, (uI W3).2.2, uI NB⟩
end Go.Proofs.YtlkoidkdeopgjaaGreatDoor
