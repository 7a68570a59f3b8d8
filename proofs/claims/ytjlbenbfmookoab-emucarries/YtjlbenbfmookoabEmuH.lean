/-
  pairlegallaw3.run: some instructions, and an end.
-/
import Derived.Test.YtjlbenbfmookoabEmuN
import Derived.Test.YtjlbenbfmookoabAlive3
import Derived.Test.YtjlbenbfmookoabFour
import Derived.Test.YtjlbenbfmookoabReg
namespace Go.Proofs.Ytjlbenbfmookoab
open Go.RowKit
set_option linter.unusedSimpArgs false
set_option linter.unusedVariables false

theorem still_load_row {P : Program} {ops : Array Oper} {w : World} {rest : List Oper} {o : Oper} {a : Act} {Q : Act → Prop} (hgd : o.guard = none) (ty : TypeId) (x : Operand) (ho : o.op = .load ty x)
    (g : Nat) (hx : a.eval x = .pointer (some ⟨g, 0, none⟩)) (t : TypeId) (cs : Array Value) (fr : Nat × Nat) (d : TypeDesc) (hg : w.heap[g]? = some (.cells cs t fr))
    (hu : P.underlying ty = some d) (hd : (match d with | .struct _ | .array _ _ => true | _ => false) = true) (hi : (P.info? ty).map (·.size) = some cs.size)
    (h : wpStill P ops w Q rest (a.put o.dst (.agg cs))) : wpStill P ops w Q (o :: rest) a := by
  unfold wpStill
  rw [if_pos (by simp [Region.wanted, hgd])]
  unfold Oper.still execOp
  simp only [ho, hx, Instr.loadAt, Instr.sureAddr, Sem.run_bind, Sem.run_pure, Result.andThen_ok, run_loadVar_row w g t ty cs fr d hg hu hd hi]
  exact ⟨rfl, h⟩
theorem own_inss {w : World} {B : Nat} {v : Value} {l : List Ins} {i : Ins} (h : w.ownsRow B 45 4 v (l.length + 1) (l.flatMap cells4 ++ cells4 i)) : Inss w v (l ++ [i]) := by
  have := Lies.owned h
  unfold Inss
  rw [List.length_append, List.flatMap_append]
  simpa using this
theorem heap_2 (w : World) (a b c : Obj) : (((w.alloc a).alloc b).alloc c).heap[w.heap.size]? = some a ∧ (((w.alloc a).alloc b).alloc c).heap[w.heap.size + 1]? = some b := by
  constructor
  · rw [Below.heap_alloc _ _ _ (by simp; omega), Below.heap_alloc _ _ _ (by simp)]; exact heap_new _ _
  · rw [Below.heap_alloc _ _ _ (by simp)]
    have := heap_new (w.alloc a) b
    rw [World.size_alloc] at this; exact this
theorem grown_3 (w : World) (a b c : Obj) (row : Option Nat) : w.grownBy (((w.alloc a).alloc b).alloc c) row :=
  ((World.grownBy_alloc w a row).trans (World.grownBy_alloc _ b row)).trans (World.grownBy_alloc _ c row)
theorem grown_low {w w' u : World} {row : Option Nat} (h : w.grownBy w' row) (k : Below w'.heap.size w' u) : w.grownBy u row :=
  ⟨k.os.trans h.os, k.tape.trans h.tape, k.output.trans h.output, Nat.le_trans h.size k.size, fun i hi hn => (k.block i (Nat.lt_of_lt_of_le hi h.size)).trans (h.block i hi hn)⟩
theorem grown_row {w w' : World} {row : Option Nat} {g : Nat} (h : w.grownBy w' row) (hg : w.heap.size ≤ g) (cs : Array Value) : w.grownBy (w'.drew.setRow g cs) row :=
  ⟨h.os, h.tape, h.output, by rw [size_setRow]; exact h.size, fun i hi hn => (setRow_other _ _ _ _ (by omega)).trans (h.block i hi hn)⟩
/-- What lies in a block that has not turned lies there. -/
theorem Lies.grown {w w' : World} {s n : Nat} {v : Value} {cs : List Value} {row : Option Nat} (h : Lies w s v n cs) (g : w.grownBy w' row) (hne : ∀ k, n ≠ 0 → v.ownBlock = some k → some k ≠ row) : Lies w' s v n cs := by
  obtain ⟨h1, ao, cap, rfl, h3, h4, h6, h5⟩ := h
  refine ⟨h1, ao, cap, rfl, h3, h4, h6, fun hn => ?_⟩
  obtain ⟨b, off, rfl, hb, hc⟩ := h5 hn
  exact ⟨b, off, rfl, Nat.lt_of_lt_of_le hb g.size, fun i hi => by rw [World.cell?_of_block (w := w) (a := ⟨b, off + i, none⟩) (g.block b hb (hne b hn rfl))]; exact hc i hi⟩

theorem ints_lt {w : World} {v : Value} {l : List Int} (h : Ints w v l) : ∀ k, l.length ≠ 0 → v.ownBlock = some k → k < w.heap.size := by
  intro k hn hk
  obtain ⟨_, ao, cap, rfl, _, _, _, h5⟩ := h
  obtain ⟨b, off, rfl, hb, _⟩ := h5 hn
  simp [Value.ownBlock] at hk
  omega

set_option maxRecDepth 100000 in
set_option maxHeartbeats 2000000 in
theorem lawRun_any (l : List Ins) (s : St) (vm v : Value) (B : Nat) (w : World) (hown : w.ownsRow B 45 4 v l.length (l.flatMap cells4)) (hB : B ≤ w.heap.size) (hm : Ints w vm s.mem) (hvm : ∀ k, s.mem.length ≠ 0 → vm.ownBlock = some k → k < B)
    (hw : ∀ i ∈ l, wrg i = 0) (hc : ∀ i ∈ l, calm i.o = true) (hn : l.length ≤ 900) (hs : s.wrong = 0) (hp : s.pc = 0) :
    Calls Try.prog 14 #[s.val vm, v] w fun e w' => ∃ vo vm', e = .returned (.tuple #[ranV (endM ((startM s).line [] l)) vo vm', .bool true]) ∧ Ints w' vm' (memL (endM ((startM s).line [] l)).mem) ∧ Byts w' vo (endM ((startM s).line [] l)).out ∧ w.grownBy w' v.ownBlock := by
  obtain ⟨i0, hi, hz0, hz1, hz2⟩ := info_parts Try.infoInstr
  have HO := hideI hown
  have HM := hideI hm
  have HL : Hid (∀ k, v.ownBlock = some k → B ≤ k ∧ k < w.heap.size) := hown.lt
  have HV := hideI hvm
  obtain ⟨hE, _⟩ := enc_halt l hw hn
  have E := fun v w h => encode_any (l ++ [haltI]) v w h
  rw [hE] at E
  have R := hideI (fun vc vm vi w hc hm hi => run_any ((l ++ [haltI]).flatMap ws) s [] 1000 vc vm vi w hc hm hi (by simp))
  rw [run_line l s hw hc hn hs hp] at R
  generalize (l ++ [haltI]).flatMap ws = X at *
  have hend : (endM ((startM s).line [] l)).how = 1 := rfl
  generalize endM ((startM s).line [] l) = mm at *
  have HE := hideI hend
  obtain ⟨mo, mcap, rfl, _, _⟩ := hm.at
  have HEn := hideI E
  clear hown hm hvm hw hc hs hp hE hend E
  unfold St.val St.cells at *
  dsimp only at R
  go_enter Try.func14, Try.ntmps14
  go_wp2_with (at_builtin; refine wpList_append_own _ rfl (.tmp 11) (.tmp 13) 43 rfl B 45 i0 (.agg #[.int .i64 0, .int .i64 0, .int .i64 0, .int .i64 0]) 4 32 Try.underlying43 hi hz0 hz1 hz2 rfl (by decide) _ _ _ rfl ((((unhideI HO).alloc _).alloc _).alloc _) ⟨_, 0, none⟩ 1 1 (cells4 haltI) rfl rfl (four_c1 _ haltI _ _ (by simp)) (four_c2 haltI) (by unfold maxLen; omega) (by omega) (by simp; omega) ?_; intro v3 w3 own3 grow3 _; have O3 := hideI own3; have G3 := hideI grow3; clear own3 grow3)
  have lt := unhideI HL
  obtain ⟨hb1, hb2⟩ := heap_2 w (.cells #[.int .i64 (s.r 0), .int .i64 (s.r 1), .int .i64 (s.r 2), .int .i64 (s.r 3), .int .i64 (s.r 4), .int .i64 (s.r 5), .int .i64 (s.r 6), .int .i64 (s.r 7), .bool s.c, .bool s.z, .bool s.n, .bool s.v, .int .i64 s.pc, .slice mo s.mem.length mcap] 27) (.cells #[.int .i64 0, .int .i64 0, .slice none 0 0, .int .i64 0, .int .i64 0, .int .i64 0, .int .i64 0, .int .i64 0, .int .i64 0, .int .i64 0, .int .i64 0, .int .i64 0, .int .i64 0, .bool false, .bool false, .bool false, .bool false, .int .i64 0, .slice none 0 0] 31) (.cells #[.int .i64 0, .int .i64 0, .int .i64 0, .int .i64 0] 45)
  have B1 := hideI (((unhideI G3).block w.heap.size (by simp; omega) (fun e => by have := (lt _ e.symm).2; omega)).trans hb1)
  have B2 := hideI (((unhideI G3).block (w.heap.size + 1) (by simp) (fun e => by have := (lt _ e.symm).2; omega)).trans hb2)
  have GG := hideI ((grown_3 w _ _ _ _).trans (unhideI G3))
  have M3 := hideI (Lies.grown (unhideI HM) (unhideI GG) (fun k hk hv e => by have h1 := unhideI HV k hk hv; have h2 := (lt k e.symm).1; omega))
  have I3 := hideI (own_inss (unhideI O3))
  clear hb1 hb2 lt G3 O3 HO HM
  refine (unhideI HEn _ _ (unhideI I3)).mono ?_
  rintro e w4 ⟨v4, rfl, i4, _, k4⟩
  have I4 := hideI i4
  obtain ⟨ao4, cap4, rfl, _, _⟩ := i4.at
  have SB := (Box.heap (unhideI B1)).step k4
  have l4 := SB.1
  have s0 := SB.2.1 0 _ rfl
  have s1 := SB.2.1 1 _ rfl
  have s2 := SB.2.1 2 _ rfl
  have s3 := SB.2.1 3 _ rfl
  have s4 := SB.2.1 4 _ rfl
  have s5 := SB.2.1 5 _ rfl
  have s6 := SB.2.1 6 _ rfl
  have s7 := SB.2.1 7 _ rfl
  have s8 := SB.2.1 8 _ rfl
  have s9 := SB.2.1 9 _ rfl
  have s10 := SB.2.1 10 _ rfl
  have s11 := SB.2.1 11 _ rfl
  have s12 := SB.2.1 12 _ rfl
  have s13 := SB.2.1 13 _ rfl
  have B24 := hideI ((k4.block _ (Array.getElem?_eq_some_iff.1 (unhideI B2)).1).trans (unhideI B2))
  have GG4 := hideI (grown_low (unhideI GG) k4)
  have M4 := hideI (Lies.step (unhideI M3) k4)
  clear k4 i4 SB
  go_wp2_with fail
  refine (unhideI R _ (.slice mo s.mem.length mcap) (.slice none 0 0) _ ((unhideI I4).step (below_a _ _)) (Ints.step (unhideI M4) (below_a _ _)) (Lies.nil _ _)).mono ?_
  rintro e w5 ⟨vo, vm5, rfl, i5, o5, k5, _, no5, nm5⟩
  have KF := hideI ((Box.new w4 #[.int .i64 0, .int .i64 0] 62).step k5)
  have k45 := hideI (bt (below_a w4 (.cells #[.int .i64 0, .int .i64 0] 62)) k5)
  have B25 := hideI (((unhideI k45).block _ (Array.getElem?_eq_some_iff.1 (unhideI B24)).1).trans (unhideI B24))
  have GG5 := hideI (grown_low (unhideI GG4) (unhideI k45))
  have I5 := hideI i5
  have O5 := hideI o5
  have hB2 := (Array.getElem?_eq_some_iff.1 (unhideI B24)).1
  have NO : Hid (∀ k, vo.ownBlock = some k → k ≠ w.heap.size + 1) := fun k hk => by have := no5 k hk; simp at this; omega
  have NM : Hid (∀ k, vm5.ownBlock = some k → k ≠ w.heap.size + 1) := fun k hk => by have := nm5 k hk; simp at this; omega
  obtain ⟨m5, c5, rfl, _, _⟩ := i5.at
  obtain ⟨n5, d5, rfl, _, _⟩ := o5.at
  clear i5 o5 k5 no5 nm5 s0 s1 s2 s3 s4 s5 s6 s7 s8 s9 s10 s11 s12 s13 R I4 HEn M4 M3 I3 GG GG4 B1 B2 B24
  unfold ranV
  go_wp2_with (refine wpList_store_row rfl 31 (.tmp 8) (.tmp 22) rfl w5.heap.size (ranC mm (.slice n5 mm.out.length d5) (.slice m5 (memL mm.mem).length c5)) rfl rfl 31 #[.int .i64 0, .int .i64 0, .slice none 0 0, .int .i64 0, .int .i64 0, .int .i64 0, .int .i64 0, .int .i64 0, .int .i64 0, .int .i64 0, .int .i64 0, .int .i64 0, .int .i64 0, .bool false, .bool false, .bool false, .bool false, .int .i64 0, .slice none 0 0] (heap_new _ _) Try.sizeRan rfl (ranC_one _ _ _ _ _ _ _) ?_; have SN := hideI (store_new w5 #[.int .i64 0, .int .i64 0, .slice none 0 0, .int .i64 0, .int .i64 0, .int .i64 0, .int .i64 0, .int .i64 0, .int .i64 0, .int .i64 0, .int .i64 0, .int .i64 0, .int .i64 0, .bool false, .bool false, .bool false, .bool false, .int .i64 0, .slice none 0 0] (ranC mm (.slice n5 mm.out.length d5) (.slice m5 (memL mm.mem).length c5)) 31); have SH := hideI (store_heap w5 #[.int .i64 0, .int .i64 0, .slice none 0 0, .int .i64 0, .int .i64 0, .int .i64 0, .int .i64 0, .int .i64 0, .int .i64 0, .int .i64 0, .int .i64 0, .int .i64 0, .int .i64 0, .bool false, .bool false, .bool false, .bool false, .int .i64 0, .slice none 0 0] (ranC mm (.slice n5 mm.out.length d5) (.slice m5 (memL mm.mem).length c5)) 31); generalize (w5.alloc (.cells #[.int .i64 0, .int .i64 0, .slice none 0 0, .int .i64 0, .int .i64 0, .int .i64 0, .int .i64 0, .int .i64 0, .int .i64 0, .int .i64 0, .int .i64 0, .int .i64 0, .int .i64 0, .bool false, .bool false, .bool false, .bool false, .int .i64 0, .slice none 0 0] 31)).setRow w5.heap.size (ranC mm (.slice n5 mm.out.length d5) (.slice m5 (memL mm.mem).length c5)) = w6 at *)
  have p0 := (unhideI SN).1.2.1 0 _ rfl
  rw [unhideI HE] at p0
  have hz5 := (unhideI SN).1.1
  have KF6 := (unhideI KF).step (unhideI SN).2
  have hz4 := KF6.1
  obtain ⟨f0, f1⟩ := KF6.at2
  have B26 := hideI (((unhideI SN).2.block _ (Array.getElem?_eq_some_iff.1 (unhideI B25)).1).trans (unhideI B25))
  have GG6 := hideI (grown_low (unhideI GG5) (unhideI SN).2)
  have I6 := hideI (Ints.step (unhideI I5) (unhideI SN).2)
  have O6 := hideI (Lies.step (unhideI O5) (unhideI SN).2)
  clear KF6 KF SN I5 O5 B25 GG5
  refine reg_start (fun W => W.heap[w5.heap.size]? = some (.cells (ranC mm (.slice n5 mm.out.length d5) (.slice m5 (memL mm.mem).length c5)) 31 (0, 0)) ∧ W.cell? ⟨w5.heap.size, 0, none⟩ = some (.int .i64 1) ∧ W.cell? ⟨w4.heap.size, 0, none⟩ = some (.int .i64 0)) (by kernel_rfl) ?_
  refine reg_seg 0 13 2 (by kernel_rfl) (by decide) (by kernel_rfl) (by kernel_rfl) (fun _ _ _ _ _ h => h) ?_
  simp only [List.take_succ_cons, List.take_zero, List.drop_succ_cons, List.drop_zero]
  refine steady_load_row rfl 31 (.tmp 8) rfl w5.heap.size rfl 31 (ranC mm (.slice n5 mm.out.length d5) (.slice m5 (memL mm.mem).length c5)) (0, 0) _ (fun W hW => hW.1) Try.underlying31 rfl Try.sizeRan ?_
  repeat (refine wpSteady_step (fun K hK => ?_); go_simp; first | (refine steady_of ?_ (fun W hW => ?_) (hK _ ?_); rotate_left; (obtain ⟨_, h1, h2⟩ := hW; go_simp; first | done | rfl); clear hK K) | (refine hK _ ?_; clear hK K))
  refine wpSteady_nil ?_
  have hne5 : w5.heap.size ≠ w.heap.size + 1 := by have := (unhideI k45).size; omega
  have hne4 : w4.heap.size ≠ w.heap.size + 1 := by omega
  have CC : Hid (∀ cs : Array Value, (w6.drew.setRow (w.heap.size + 1) cs).heap[w5.heap.size]? = some (.cells (ranC mm (.slice n5 mm.out.length d5) (.slice m5 (memL mm.mem).length c5)) 31 (0, 0)) ∧ (w6.drew.setRow (w.heap.size + 1) cs).cell? ⟨w5.heap.size, 0, none⟩ = some (.int .i64 1) ∧ (w6.drew.setRow (w.heap.size + 1) cs).cell? ⟨w4.heap.size, 0, none⟩ = some (.int .i64 0)) := fun cs =>
    ⟨(setRow_other _ _ _ _ hne5).trans (unhideI SH), (World.cell?_of_block (w := w6.drew) (a := ⟨w5.heap.size, 0, none⟩) (setRow_other _ _ _ _ hne5)).trans p0, (World.cell?_of_block (w := w6.drew) (a := ⟨w4.heap.size, 0, none⟩) (setRow_other _ _ _ _ hne4)).trans f0⟩
  refine reg_one 13 1 (by kernel_rfl) (by kernel_rfl) ⟨unhideI SH, p0, f0⟩ ?_
  simp only [List.take_succ_cons, List.take_zero, List.drop_succ_cons, List.drop_zero]
  refine wpList_store_row rfl 31 (.tmp 4) (.tmp 24) rfl (w.heap.size + 1) (ranC mm (.slice n5 mm.out.length d5) (.slice m5 (memL mm.mem).length c5)) rfl rfl 31 #[.int .i64 0, .int .i64 0, .slice none 0 0, .int .i64 0, .int .i64 0, .int .i64 0, .int .i64 0, .int .i64 0, .int .i64 0, .int .i64 0, .int .i64 0, .int .i64 0, .int .i64 0, .bool false, .bool false, .bool false, .bool false, .int .i64 0, .slice none 0 0] (unhideI B26) Try.sizeRan rfl (ranC_one _ _ _ _ _ _ _) ?_
  have HG3 := hideI (setRow_heap w6.drew (w.heap.size + 1) _ (ranC mm (.slice n5 mm.out.length d5) (.slice m5 (memL mm.mem).length c5)) _ _ (unhideI B26))
  have C7 := hideI (unhideI CC (ranC mm (.slice n5 mm.out.length d5) (.slice m5 (memL mm.mem).length c5)))
  have W3 : Hid (Ints (w6.drew.setRow (w.heap.size + 1) (ranC mm (.slice n5 mm.out.length d5) (.slice m5 (memL mm.mem).length c5))) (.slice m5 (memL mm.mem).length c5) (memL mm.mem) ∧ Byts (w6.drew.setRow (w.heap.size + 1) (ranC mm (.slice n5 mm.out.length d5) (.slice m5 (memL mm.mem).length c5))) (.slice n5 mm.out.length d5) mm.out ∧ w.grownBy (w6.drew.setRow (w.heap.size + 1) (ranC mm (.slice n5 mm.out.length d5) (.slice m5 (memL mm.mem).length c5))) v.ownBlock) :=
    ⟨Lies.blk (unhideI I6) (by rw [size_setRow]; exact Nat.le_refl _) fun k hk => setRow_other _ _ _ _ (unhideI NM k hk), Lies.blk (unhideI O6) (by rw [size_setRow]; exact Nat.le_refl _) fun k hk => setRow_other _ _ _ _ (unhideI NO k hk), grown_row (unhideI GG6) (by omega) _⟩
  generalize w6.drew.setRow (w.heap.size + 1) (ranC mm (.slice n5 mm.out.length d5) (.slice m5 (memL mm.mem).length c5)) = w7 at *
  first | refine next_nil ?_ | refine next_go ?_
  refine reg_one 14 0 (by kernel_rfl) (by kernel_rfl) (unhideI C7) ?_
  simp only [List.take_succ_cons, List.take_zero, List.drop_succ_cons, List.drop_zero]
  go_wp2_with fail
  first | refine next_nil ?_ | refine next_go ?_
  refine reg_end (by kernel_rfl) (unhideI C7) ?_
  go_wp2_with fail
  exact bodyPost_ret (results_row_tmp Try.results14 _ _ (w.heap.size + 1) 31 (ranC mm (.slice n5 mm.out.length d5) (.slice m5 (memL mm.mem).length c5)) (0, 0) _ _ rfl rfl (unhideI HG3) Try.underlying31 rfl Try.sizeRan) rfl ⟨.slice n5 mm.out.length d5, .slice m5 (memL mm.mem).length c5, rfl, (unhideI W3).1, (unhideI W3).2.1, (unhideI W3).2.2⟩
end Go.Proofs.Ytjlbenbfmookoab
