/-
  A memory without its last zeros, and what came of a run.
-/
import Derived.Test.YtjlbenbfmookoaaEmuT
import Derived.Test.YtjlbenbfmookoaaInsE
import Derived.Test.YtjlbenbfmookoaaMem2
import Derived.Lib.LazyBuf
import Derived.Laws.Tables
import Derived.Laws.Rows
import Derived.Laws.ResultCell
namespace Go.Proofs.Ytjlbenbfmookoaa
open Go.RowKit
set_option linter.unusedSimpArgs false
set_option linter.unusedVariables false
variable {X : Sd}

def lastN (f : Nat → Int) : Nat → Nat
  | 0 => 0
  | n + 1 => if f n = 0 then lastN f n else n + 1
@[irreducible] def memL (f : Nat → Int) : List Int := (List.range (lastN f 65536)).map f
theorem lastN_le (f : Nat → Int) : ∀ n, lastN f n ≤ n
  | 0 => Nat.le_refl _
  | n + 1 => by
    unfold lastN
    split
    · have := lastN_le f n; omega
    · exact Nat.le_refl _

theorem own_nil' (w : World) (B : Nat) (e s : Nat) (h : B ≤ w.heap.size) : (w.alloc (.cells #[] e)).ownsRow B e s (.slice (some ⟨w.heap.size, 0, none⟩) 0 0) 0 [] :=
  World.ownsRow_made w #[] 0 h (by decide) (by simp)
theorem own_ints {w : World} {B n : Nat} {v : Value} {l : List Int} (h : w.ownsRow B 3 1 v (0 + n) ([] ++ l.map int1)) (hn : n = l.length) : Ints w v l := by
  have := Lies.owned h
  subst hn
  unfold Ints
  simpa using this
theorem ints_cells (l : List Int) : ∀ u ∈ l.map int1, u.oneCell' = true := by
  intro u hu
  obtain ⟨i, _, rfl⟩ := List.mem_map.1 hu
  rfl

set_option maxRecDepth 100000 in
set_option maxHeartbeats 1000000 in
theorem clone_any (l : List Int) (ad : Addr) (cap : Nat) (w : World) (hv : Ints w (.slice (some ad) l.length cap) l) (hl : l.length ≤ 65536) :
    Calls Try.prog 68 #[.slice (some ad) l.length cap] w fun e w' => ∃ v', e = .returned v' ∧ Ints w' v' l ∧ Below w.heap.size w w' ∧ (∀ k, v'.ownBlock = some k → w.heap.size ≤ k) := by
  obtain ⟨i0, hi, hz0, hz1, hz2⟩ := info_parts Try.infoInt
  have HV := hideI hv
  have ON := hideI (own_nil' w w.heap.size 3 1 (Nat.le_refl _))
  have KA := hideI (below_a w (.cells #[] 3))
  have hnil := fun w => run_eql_slice_nil (P := Try.prog) w 22 3 (some ad) l.length cap Try.underlying22
  clear hv
  go_enter Try.func68, Try.ntmps68
  go_wp2_with (at_builtin; refine append_lies rfl (.tmp 5) (.tmp 6) 22 rfl w.heap.size 3 i0 (.int .i64 0) 1 8 Try.underlying22 hi hz0 hz1 hz2 rfl (by decide) _ _ _ rfl (unhideI ON) _ _ _ rfl ((unhideI HV).step (unhideI KA)) (ints_cells _) (by unfold maxLen; omega) (by omega) (by simp) ?_; intro v3 w3 own3 grow3; have b3 := hideI (below_own (unhideI KA) (by simp) (unhideI ON) grow3); have I3 := hideI (own_ints own3 rfl); have N3 := hideI (fun k hk => (own3.lt k hk).1); clear own3 grow3)
  go_ret
  exact ⟨_, rfl, unhideI I3, unhideI b3, unhideI N3⟩

theorem range_lies {w : World} {q n : Nat} {f : Nat → Int} (hq : q < w.heap.size) (hc : ∀ j, j < 65536 → w.cell? ⟨q, j, none⟩ = some (.int .i64 (f j))) (hn : n ≤ 65536) : Ints w (.slice (some ⟨q, 0, none⟩) n 65536) ((List.range n).map f) := by
  unfold Ints
  have hl : ((List.range n).map f).length = n := by simp
  rw [hl]
  refine ⟨by simp, _, 65536, rfl, hn, by decide, (fun h => by cases h), fun _ => ⟨q, 0, rfl, hq, fun j hj => ?_⟩⟩
  have hj' : j < n := by omega
  rw [Nat.zero_add, hc j (by omega)]
  simp [int1, hj']

set_option maxRecDepth 100000 in
set_option maxHeartbeats 1000000 in
theorem zeros_any (f : Nat → Int) (q : Nat) (w : World) (hq : q < w.heap.size) (hc : ∀ j, j < 65536 → w.cell? ⟨q, j, none⟩ = some (.int .i64 (f j))) :
    Calls Try.prog 58 #[.slice (some ⟨q, 0, none⟩) 65536 65536] w fun e w' => ∃ v', e = .returned v' ∧ Ints w' v' (memL f) ∧ Below w.heap.size w w' ∧ (∀ k, v'.ownBlock = some k → w.heap.size ≤ k) := by
  have HC := hideI hc
  have HL := hideI (fun n (h : n ≤ 65536) => range_lies hq hc h)
  clear hc
  have HN : Hid (lastN f 65536 = lastN f 65536) := rfl
  generalize hR : memL f = R
  have HR : Hid (R = (List.range (lastN f 65536)).map f) := by unfold Hid; rw [← hR]; unfold memL; rfl
  clear hR
  generalize hK : lastN f 65536 = K at HR
  have HK : Hid (K = lastN f 65536) := hK.symm
  clear hK HN
  go_enter Try.func58, Try.ntmps58
  go_wp2_with fail
  go_loopg [3] 65536 (fun g t wr => ∃ k : Nat, g = k ∧ k ≤ 65536 ∧ t = .int .i64 k ∧ wr = w ∧ Hid (K = lastN f k))
  case atStart => exact ⟨65536, rfl, Nat.le_refl _, rfl, rfl, HK⟩
  case round =>
    obtain ⟨k, hgk, hk, rfl, rfl, he⟩ := hrel
    by_cases h0 : k = 0
    · subst h0
      have e0 : K = 0 := he
      subst e0
      have L0 := unhideI HL 0 (by omega)
      go_wp2_with (go_at_call 68; refine (clone_any [] ⟨q, 0, none⟩ 65536 _ L0 (by decide)).mono ?_; rintro e w1 ⟨v1, rfl, i1, k1, n1⟩; have I1 := hideI i1; have K1 := hideI k1; have N1 := hideI n1; clear i1 k1 n1)
      go_ret
      exact ⟨_, rfl, by rw [unhideI HR]; exact unhideI I1, unhideI K1, unhideI N1⟩
    · obtain ⟨n, rfl⟩ : ∃ n, k = n + 1 := ⟨k - 1, by omega⟩
      have c1 := unhideI HC n (by omega)
      have hg : decide (0 < ((n + 1 : Nat) : Int)) = true := by simp
      have hs : ((n + 1 : Nat) : Int) - 1 = n := by omega
      by_cases hz : f n = 0
      · have e1 : Hid (K = lastN f n) := by have := unhideI he; unfold lastN at this; rw [if_pos hz] at this; exact this
        have hz1 : (f n == 0) = true := by simp [hz]
        go_wp2_with fail
        go_roundg n
        case measure => omega
        case rel => exact ⟨n, rfl, by omega, by go_num, rfl, e1⟩
      · have e1 : K = n + 1 := by have := unhideI he; unfold lastN at this; rw [if_neg hz] at this; exact this
        subst e1
        have hz1 : (f n == 0) = false := by simp [hz]
        have L0 := unhideI HL (n + 1) hk
        have hlen : ((List.range (n + 1)).map f).length = n + 1 := by simp
        have CL := fun w' hv => clone_any ((List.range (n + 1)).map f) ⟨q, 0, none⟩ 65536 w' hv (by rw [hlen]; exact hk)
        rw [hlen] at CL
        go_wp2_with (go_at_call 68; refine (CL _ L0).mono ?_; rintro e w1 ⟨v1, rfl, i1, k1, n1⟩; have I1 := hideI i1; have K1 := hideI k1; have N1 := hideI n1; clear i1 k1 n1)
        go_ret
        exact ⟨_, rfl, by rw [unhideI HR]; exact unhideI I1, unhideI K1, unhideI N1⟩

/-- What others have is as it was. -/
def SdK (X : Sd) (w : World) : Prop := X.u.heap.size ≤ w.heap.size ∧ ∀ b, b < X.u.heap.size → X.Y b → w.heap[b]? = X.u.heap[b]?

theorem heap_new (u : World) (o : Obj) : (u.alloc o).heap[u.heap.size]? = some o := by
  unfold World.alloc
  exact Array.getElem?_push_size
theorem Lies.blk {w w' : World} {s n : Nat} {v : Value} {cs : List Value} (h : Lies w s v n cs) (hs : w.heap.size ≤ w'.heap.size) (hb : ∀ k, v.ownBlock = some k → w'.heap[k]? = w.heap[k]?) : Lies w' s v n cs := by
  obtain ⟨h1, ao, cap, rfl, h3, h4, h6, h5⟩ := h
  refine ⟨h1, ao, cap, rfl, h3, h4, h6, fun hn => ?_⟩
  obtain ⟨c, off, rfl, hc, hl⟩ := h5 hn
  exact ⟨c, off, rfl, Nat.lt_of_lt_of_le hc hs, fun i hi => by rw [World.cell?_of_block (w := w) (a := ⟨c, off + i, none⟩) (hb c rfl)]; exact hl i hi⟩
theorem Box.heap {w : World} {b : Nat} {cs : Array Value} {T : TypeId} (h : w.heap[b]? = some (.cells cs T (0, 0))) : Box w b cs.toList := by
  refine ⟨(Array.getElem?_eq_some_iff.1 h).1, fun j u hu => ?_, fun j => ?_⟩
  · have : cs[j]? = some u := by rw [← Array.getElem?_toList]; exact hu
    unfold World.cell?
    simp only [h]
    simpa using this
  · unfold World.frozen?
    simp [h]
theorem size_setRow (w : World) (g : Nat) (cs : Array Value) : (w.setRow g cs).heap.size = w.heap.size := by simp [World.setRow]
theorem Below.row {B g : Nat} {u v : World} (h : Below B u v) (hg : B ≤ g) (cs : Array Value) : Below B u (v.setRow g cs) :=
  h.trans ⟨rfl, rfl, rfl, by simp [World.setRow], fun k hk => setRow_other v g k cs (by omega)⟩
/-- What came of a run, by its cells. -/
def ranC (m : Ma) (vo vm : Value) : Array Value := #[.int .i64 m.how, .int .i64 m.trap, vo, .int .i64 m.rd, .int .i64 m.took, .int .i64 (m.r 0), .int .i64 (m.r 1), .int .i64 (m.r 2), .int .i64 (m.r 3), .int .i64 (m.r 4), .int .i64 (m.r 5), .int .i64 (m.r 6), .int .i64 (m.r 7), .bool m.c, .bool m.z, .bool m.n, .bool m.v, .int .i64 m.pc, vm]
theorem ranC_one (m : Ma) (a b : Option Addr) (i j k l : Nat) : (ranC m (.slice a i j) (.slice b k l)).all (·.oneCell') = true := by simp [ranC, Value.oneCell']
theorem Try.sizeRan : (Try.prog.info? 33).map (·.size) = some 19 := by kernel_rfl
def ranV (m : Ma) (vo vm : Value) : Value := .agg (ranC m vo vm)
set_option maxRecDepth 100000 in
set_option maxHeartbeats 1000000 in
theorem ran_any {w0 w : World} {p q : Nat} {vc vi vo : Value} {m : Ma} {xs bs : List Int} (h : Mach X w0 w p q vc vi vo m xs bs) :
    Calls Try.prog 44 #[.pointer (some ⟨p, 0, none⟩)] w fun e w' => ∃ vm, e = .returned (ranV m vo vm) ∧ Ints w' vm (memL m.mem) ∧ Byts w' vo m.out ∧ Below w0.heap.size w0 w' ∧ (∀ k, vm.ownBlock = some k → w0.heap.size ≤ k) ∧ SdK X w' := by
  have HM := hideI h
  obtain ⟨-, -, -, -, -, c13, -, -, -, -, -, -, -⟩ := h.at
  have fz := h.flat
  have hp := h.pw
  have hpr : p ≠ w.heap.size := by omega
  have h0 := h.low.size
  have ZA := hideI (fun w1 (k : Below w.heap.size w w1) => zeros_any m.mem q w1 (Nat.lt_of_lt_of_le h.hqw k.size) (h.step k).mem)
  generalize memL m.mem = L at *
  obtain ⟨oo, ocap, rfl⟩ := own_slc h.own
  clear h
  go_enter Try.func44, Try.ntmps44
  go_wp2_with fail
  refine (unhideI ZA _ (below_a _ _)).mono ?_
  rintro e w1 ⟨vm, rfl, i1, k1, n1⟩
  have I1 := hideI i1
  have N1 := hideI n1
  have K1 := hideI k1
  obtain ⟨mo, mcap, rfl, _, _⟩ := i1.at
  have HM1 := hideI (((unhideI HM).new _).step k1)
  have PB := (unhideI HM1).box
  have HG : w1.heap[w.heap.size]? = some (.cells #[.int .i64 0, .int .i64 0, .slice none 0 0, .int .i64 0, .int .i64 0, .int .i64 0, .int .i64 0, .int .i64 0, .int .i64 0, .int .i64 0, .int .i64 0, .int .i64 0, .int .i64 0, .bool false, .bool false, .bool false, .bool false, .int .i64 0, .slice none 0 0] 33 (0, 0)) := by rw [k1.block _ (by simp)]; exact heap_new _ _
  obtain ⟨-, -, -, -, -, d13, -, -, -, -, -, -, -⟩ := (unhideI HM1).at
  have fz1 := (unhideI HM1).flat
  have NR : Hid (∀ k, (Value.slice mo (L).length mcap).ownBlock = some k → k ≠ w.heap.size) := fun k hk => by have := n1 k hk; simp at this; omega
  have NB : Hid (∀ k, (Value.slice mo L.length mcap).ownBlock = some k → w0.heap.size ≤ k) := fun k hk => by have := n1 k hk; simp at this; omega
  have NP : Hid (∀ k, (Value.slice mo (L).length mcap).ownBlock = some k → k ≠ p) := fun k hk => by have := n1 k hk; simp at this; omega
  have OR : Hid (∀ k, (Value.slice oo m.out.length ocap).ownBlock = some k → k ≠ w.heap.size) := fun k hk => by have := ((unhideI HM).own.lt k hk).2; omega
  have OP : Hid (∀ k, (Value.slice oo m.out.length ocap).ownBlock = some k → k ≠ p) := fun k hk => ((unhideI HM).ho k hk).1
  have PB2 := hideI (PB.set (j := 13) (u := .slice mo (L).length mcap) (by simp [cellsM]))
  have HG2 := hideI (show (w1.setCell ⟨p, 13, none⟩ (.slice mo L.length mcap)).heap[w.heap.size]? = _ from (Below.heap_setCell _ _ _ _ (Ne.symm hpr)).trans HG)
  have I2 := hideI (Lies.other (b := p) (j := 13) (u := .slice mo (L).length mcap) i1 (unhideI NP))
  have O2 := hideI (Lies.other (b := p) (j := 13) (u := .slice mo (L).length mcap) (Lies.owned (unhideI HM1).own) (unhideI OP))
  have S2 : Hid (SdK X (w1.setCell ⟨p, 13, none⟩ (.slice mo (L).length mcap))) := ⟨by have := (unhideI HM1).side.1; simpa [World.setCell] using this, fun b hb hy => by obtain ⟨a1, -, -, a4⟩ := (unhideI HM1).side.2 b hb hy; rw [Below.heap_setCell _ _ _ _ a1]; exact a4⟩
  have hsx : Hid (X.u.heap.size ≤ w.heap.size) := (unhideI HM).side.1
  have L2 := hideI ((unhideI HM1).low.setCell (p := ⟨p, 13, none⟩) (unhideI HM1).hp (.slice mo (L).length mcap))
  clear PB HG i1 n1 k1
  go_wp2_with fail
  generalize w1.setCell ⟨p, 13, none⟩ (.slice mo (L).length mcap) = w2 at *
  clear d13 fz1 HM1 I1 N1 K1 ZA HM fz c13
  have PD := unhideI PB2
  have p0 := PD.2.1 0 _ rfl
  have p1 := PD.2.1 1 _ rfl
  have p2 := PD.2.1 2 _ rfl
  have p3 := PD.2.1 3 _ rfl
  have p4 := PD.2.1 4 _ rfl
  have p5 := PD.2.1 5 _ rfl
  have p6 := PD.2.1 6 _ rfl
  have p7 := PD.2.1 7 _ rfl
  have p8 := PD.2.1 8 _ rfl
  have p9 := PD.2.1 9 _ rfl
  have p10 := PD.2.1 10 _ rfl
  have p11 := PD.2.1 11 _ rfl
  have p12 := PD.2.1 12 _ rfl
  have p13 := PD.2.1 13 _ rfl
  have p14 := PD.2.1 14 _ rfl
  have p15 := PD.2.1 15 _ rfl
  have p16 := PD.2.1 16 _ rfl
  have p17 := PD.2.1 17 _ rfl
  have p18 := PD.2.1 18 _ rfl
  have p19 := PD.2.1 19 _ rfl
  have p20 := PD.2.1 20 _ rfl
  clear PD
  refine wp_region_head 25 (by kernel_rfl) (by kernel_rfl) ?_
  simp only [List.take_succ_cons, List.take_zero, List.drop_succ_cons, List.drop_zero]
  repeat still_step
  refine wpStill_nil ?_
  refine wpList_store_row rfl 33 (.tmp 2) (.tmp 37) rfl w.heap.size (ranC m (.slice oo m.out.length ocap) (.slice mo L.length mcap)) rfl rfl 33 #[.int .i64 0, .int .i64 0, .slice none 0 0, .int .i64 0, .int .i64 0, .int .i64 0, .int .i64 0, .int .i64 0, .int .i64 0, .int .i64 0, .int .i64 0, .int .i64 0, .int .i64 0, .bool false, .bool false, .bool false, .bool false, .int .i64 0, .slice none 0 0] (unhideI HG2) Try.sizeRan rfl (ranC_one _ _ _ _ _ _ _) ?_
  have HG3 := hideI (setRow_heap w2.drew w.heap.size _ (ranC m (.slice oo m.out.length ocap) (.slice mo L.length mcap)) _ _ (unhideI HG2))
  have W3 : Hid (Ints (w2.drew.setRow w.heap.size (ranC m (.slice oo m.out.length ocap) (.slice mo L.length mcap))) (.slice mo L.length mcap) L ∧ Byts (w2.drew.setRow w.heap.size (ranC m (.slice oo m.out.length ocap) (.slice mo L.length mcap))) (.slice oo m.out.length ocap) m.out ∧ Below w0.heap.size w0 (w2.drew.setRow w.heap.size (ranC m (.slice oo m.out.length ocap) (.slice mo L.length mcap))) ∧ SdK X (w2.drew.setRow w.heap.size (ranC m (.slice oo m.out.length ocap) (.slice mo L.length mcap)))) :=
    ⟨Lies.blk (unhideI I2) (by rw [size_setRow]; exact Nat.le_refl _) fun k hk => setRow_other _ _ _ _ (unhideI NR k hk), Lies.blk (unhideI O2) (by rw [size_setRow]; exact Nat.le_refl _) fun k hk => setRow_other _ _ _ _ (unhideI OR k hk), Below.row (unhideI L2).drew h0 _, by rw [size_setRow]; exact (unhideI S2).1, fun b hb hy => by rw [setRow_other _ _ _ _ (by have := unhideI hsx; omega)]; exact (unhideI S2).2 b hb hy⟩
  generalize w2.drew.setRow w.heap.size (ranC m (.slice oo m.out.length ocap) (.slice mo L.length mcap)) = w3 at *
  clear I2 O2 L2 HG2 S2
  go_wp2_with fail
  exact bodyPost_ret (results_cell_row Try.results44 _ _ w.heap.size 33 (ranC m (.slice oo m.out.length ocap) (.slice mo L.length mcap)) (0, 0) _ rfl (unhideI HG3) Try.underlying33 rfl Try.sizeRan) rfl ⟨_, rfl, (unhideI W3).1, (unhideI W3).2.1, (unhideI W3).2.2.1, unhideI NB, (unhideI W3).2.2.2⟩
end Go.Proofs.Ytjlbenbfmookoaa
