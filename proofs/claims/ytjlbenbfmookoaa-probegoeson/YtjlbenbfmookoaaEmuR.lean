/-
  emu.Run.
-/
import Derived.Test.YtjlbenbfmookoaaEmuG
import Derived.Test.YtjlbenbfmookoaaEmuA
import Derived.Test.YtjlbenbfmookoaaEmuZ
namespace Go.Proofs.Ytjlbenbfmookoaa
open Go.RowKit
set_option linter.unusedSimpArgs false
set_option linter.unusedVariables false

theorem act_took (m : Ma) (i : Ins) (bs : List Int) : (m.act i bs).took = m.took := by
  simp only [Ma.act, Ma.jump, Ma.tell, Ma.take, apply_ite Ma.took, Ma.setR, Ma.st, Ma.sum, Ma.cmp, Ma.dif, Ma.become, Ma.push, Ma.pop, ite_self]
theorem step_took (m : Ma) (xs bs : List Int) : (m.step xs bs).took = m.took + 1 := by
  unfold Ma.step
  split
  · rfl
  · dsimp only
    split
    · rw [act_took]
    · dsimp only; rw [act_took]
theorem run_end (xs bs : List Int) (k : Nat) (m : Ma) (h : ¬ m.how = 0) : Ma.run xs bs k m = m := by
  cases k <;> (unfold Ma.run; rw [if_neg h])
def zeroMa : Ma := { r := fun _ => 0, c := false, z := false, n := false, v := false, pc := 0, mem := fun _ => 0, how := 0, trap := 0, out := [], rd := 0, took := 0 }
theorem lastN_zero : ∀ n, lastN (fun _ => 0) n = 0
  | 0 => rfl
  | n + 1 => by unfold lastN; rw [if_pos rfl]; exact lastN_zero n
theorem memL_zero : memL zeroMa.mem = [] := by
  unfold memL
  have : lastN zeroMa.mem 65536 = 0 := lastN_zero _
  rw [this]; rfl
/-- What Run answers. -/
def runA (xs : List Int) (s : St) (bs : List Int) (F : Int) : Ma × Int :=
  if 65536 < xs.length then (zeroMa, 4) else if 65536 < bs.length then (zeroMa, 4) else if s.wrong = 0 then (if F < 0 then (zeroMa, 3) else if 1000000 < F then (zeroMa, 3) else (Ma.run xs bs F.toNat (startM s), 0)) else (zeroMa, s.wrong)

theorem results_row_tmp {P : Program} {fn : Func} {p u : Tmp} {ty : TypeId} (h : fn.results = #[.cell p ty, .tmp u]) (tmps : Array Value) (w : World) (g : Nat) (t : TypeId) (cs : Array Value) (fr : Nat × Nat) (d : TypeDesc) (x : Value)
    (hp : tmps.getD p undef = .pointer (some ⟨g, 0, none⟩)) (hx : tmps.getD u undef = x) (hg : w.heap[g]? = some (.cells cs t fr))
    (hu : P.underlying ty = some d) (hd : (match d with | .struct _ | .array _ _ => true | _ => false) = true) (hi : (P.info? ty).map (·.size) = some cs.size) :
    (results fn tmps).run P w = .ok (.tuple #[.agg cs, x]) w := by
  rw [results_cell_tmp h, hp, hx]
  simp [asAddr, run_loadVar_row w g t ty cs fr d hg hu hd hi]

def ran0 : Array Value := #[.int .i64 0, .int .i64 0, .slice none 0 0, .int .i64 0, .int .i64 0, .int .i64 0, .int .i64 0, .int .i64 0, .int .i64 0, .int .i64 0, .int .i64 0, .int .i64 0, .int .i64 0, .bool false, .bool false, .bool false, .bool false, .int .i64 0, .slice none 0 0]
theorem ran0_one : ran0.all (·.oneCell') = true := by simp [ran0, Value.oneCell']
theorem ran0_zero : ranC zeroMa (.slice none 0 0) (.slice none 0 0) = ran0 := rfl

def runW {σ : Type} (xs : List Int) (s : St) (bs : List Int) (F : Int) (st : Int → Bool) (tk : σ → Sht → Bool → σ) (s0 : σ) : (Ma × Int) × σ :=
  if 65536 < xs.length then ((zeroMa, 4), s0) else if 65536 < bs.length then ((zeroMa, 4), s0) else if s.wrong = 0 then (if F < 0 then ((zeroMa, 3), s0) else if 1000000 < F then ((zeroMa, 3), s0) else (((goW xs bs st tk F.toNat (startM s) s0).1, 0), (goW xs bs st tk F.toNat (startM s) s0).2)) else ((zeroMa, s.wrong), s0)
/-- Who only looks changes nothing. -/
theorem runW_run {σ : Type} {xs : List Int} {s : St} {bs : List Int} {F : Int} {st : Int → Bool} {tk : σ → Sht → Bool → σ} {s0 : σ} (hst : ∀ x, st x = false) : (runW xs s bs F st tk s0).1 = runA xs s bs F := by
  unfold runW runA
  split
  · rfl
  · split
    · rfl
    · split
      · split
        · rfl
        · split
          · rfl
          · rw [goW_run hst]
      · rfl
section
variable {σ γ : Type}
/-- What a watched run answers, and what is there behind it. -/
def WRet (Inv : σ → γ → World → Prop) (Foot : γ → Nat → Prop) (g0 : γ) (w : World) (bs : List Int) (R : (Ma × Int) × σ) (e : Ending) (w' : World) : Prop :=
  ∃ vo vm', e = .returned (.tuple #[ranV R.1.1 vo vm', .int .i64 R.1.2]) ∧ Ints w' vm' (memL R.1.1.mem) ∧ Byts w' vo R.1.1.out ∧ Kpw (Foot g0) w w' ∧ (R.1.2 = 0 → R.1.1.Fine bs) ∧ (∀ k, vo.ownBlock = some k → w.heap.size ≤ k) ∧ (∀ k, vm'.ownBlock = some k → w.heap.size ≤ k) ∧ ∃ g', Inv R.2 g' w' ∧ ∀ k, Foot g' k → Foot g0 k ∨ w.heap.size ≤ k
variable {Inv : σ → γ → World → Prop} {Foot : γ → Nat → Prop} {st : Int → Bool} {tk : σ → Sht → Bool → σ} {vS vT : Value} {g0 g : γ}
/-- An answer that is none. -/
theorem wran_none (L : Looks Inv Foot st tk vS vT) {w w' : World} {bs : List Int} {s0 : σ} (h : Below w.heap.size w w') (hI : Inv s0 g0 w) (er : Int) (he : ¬ er = 0) : WRet Inv Foot g0 w bs ((zeroMa, er), s0) (.returned (.tuple #[.agg ran0, .int .i64 er])) w' :=
  ⟨.slice none 0 0, .slice none 0 0, rfl, by rw [memL_zero]; exact Lies.nil _ _, Lies.nil _ _, Kpw.of h, fun h0 => absurd h0 he, (fun _ h => by cases h), (fun _ h => by cases h), g0, L.keep _ _ _ _ hI (Kpw.of h), fun _ h => .inl h⟩
/-- A watched run starts. -/
theorem Wtc.start (L : Looks Inv Foot st tk vS vT) {w W3 w2 : World} {p q : Nat} {vc vi : Value} {m0 : Ma} {xs bs : List Int} {s0 : σ} (hI : Inv s0 g0 w) (k3 : Below w.heap.size w W3) (M : Mach (Sd.no W3) W3 w2 p q vc vi (.slice none 0 0) m0 xs bs)
    (hc : ∀ c, xs.length ≠ 0 → vc.ownBlock = some c → ¬ Foot g0 c) (hi : ∀ c, bs.length ≠ 0 → vi.ownBlock = some c → ¬ Foot g0 c) : Wtc Inv Foot g0 g0 W3 w2 p q vc vi (.slice none 0 0) m0 xs bs s0 where
  mach := M.recut (Kpw.refl (fun _ => False) w2) (fun h => h) (fun h => h) (fun _ _ h => h) (fun _ _ _ _ h => h) (fun _ _ _ _ h => h)
  ex := ⟨L.keep _ _ _ _ hI (Kpw.of (k3.trans (M.low.mono k3.size))), fun b hb => by
    have h1 := L.lt _ _ _ _ hI hb
    have h2 := k3.size
    have h3 := M.hp
    have h4 := M.hq
    exact ⟨by omega, by omega, fun h => by cases h⟩, fun b hb => .inl hb⟩
  kpt := ⟨M.low.os, M.low.tape, M.low.output, M.low.size, fun k hk _ => M.low.block k hk⟩
  hc := fun c hn _ h => hc c hn h
  hi := fun c hn _ h => hi c hn h
theorem Kpw.ofB {w w' : World} {B : Nat} (h : Below B w w') : Kpw (fun b => B ≤ b) w w' := ⟨h.os, h.tape, h.output, h.size, fun k _ hk => h.block k (by omega)⟩
/-- What came of it. -/
theorem Wtc.ran (L : Looks Inv Foot st tk vS vT) {W0 wr : World} {p q : Nat} {vc vi vo : Value} {m : Ma} {xs bs : List Int} {s : σ} (K : Wtc Inv Foot g0 g W0 wr p q vc vi vo m xs bs s) :
    Calls Try.prog 44 #[.pointer (some ⟨p, 0, none⟩)] wr fun e w' => ∃ vm, e = .returned (ranV m vo vm) ∧ Ints w' vm (memL m.mem) ∧ Byts w' vo m.out ∧ Kpw (fun b => Foot g0 b ∨ W0.heap.size ≤ b) W0 w' ∧ Inv s g w' ∧ (∀ k, vm.ownBlock = some k → W0.heap.size ≤ k) ∧ (∀ k, vo.ownBlock = some k → W0.heap.size ≤ k) := by
  obtain ⟨h1, h2, h3⟩ := K.ex
  have hsz := K.sz
  refine (ran_any (K.mach.reside (Foot g) fun b _ hb => h2 b hb)).mono ?_
  rintro e w' ⟨vm, rfl, i5, o5, k5, n5, s5, t5⟩
  have ko : w'.os = wr.os ∧ w'.tape = wr.tape ∧ w'.output = wr.output := ⟨k5.os, k5.tape, k5.output⟩
  refine ⟨vm, rfl, i5, o5, ?_, L.keep _ _ _ _ h1 ⟨ko.1, ko.2.1, ko.2.2, s5, fun k hk hf => t5 k hk (Classical.not_not.1 hf)⟩, fun k hk => by have := n5 k hk; omega, fun k hk => by have := (K.mach.own.lt k hk).1; omega⟩
  refine K.kpt.trans (Z := fun b => W0.heap.size ≤ b) ⟨ko.1, ko.2.1, ko.2.2, s5, fun k _ hn => ?_⟩ (fun _ h => h) fun _ h _ => .inr h
  have hk : k < W0.heap.size := by omega
  rw [k5.block k (by rw [hsz]; exact hk), cutW_at hk]
theorem Kpw.row {Y : Nat → Prop} (w : World) (b : Nat) (cs : Array Value) (hb : Y b) : Kpw Y w (w.setRow b cs) :=
  ⟨(Below.row (Below.refl 0 w) (Nat.zero_le b) cs).os, (Below.row (Below.refl 0 w) (Nat.zero_le b) cs).tape, (Below.row (Below.refl 0 w) (Nat.zero_le b) cs).output, by rw [size_setRow]; exact Nat.le_refl _, fun k _ hk => setRow_other _ _ _ _ (fun e => hk (by rw [e]; exact hb))⟩
/-- A round of the run: it goes on, or ends. -/
theorem goOn_any (L : Looks Inv Foot st tk vS vT) {W0 wr : World} {p q : Nat} {vc vi vo : Value} {m : Ma} {xs bs : List Int} {s : σ} (K : Wtc Inv Foot g0 g W0 wr p q vc vi vo m xs bs s) (ht : 0 ≤ m.took) (F : Int) (hF : F ≤ 1000000) (hm : m.took ≤ F) :
    Calls Try.prog 43 #[.pointer (some ⟨p, 0, none⟩), .int .i64 F, .agg #[vS, vT]] wr fun e w' => e = .returned (.tuple #[]) ∧ ∃ vo' g', Wtc Inv Foot g0 g' W0 w' p q vc vi vo' (goN xs bs st tk F m s).1 xs bs (goN xs bs st tk F m s).2 := by
  by_cases h1 : 0 < m.took ∧ st m.pc = true
  · have e1 : goN xs bs st tk F m s = ({ m with how := 6 }, s) := by unfold goN; rw [if_pos h1]
    rw [e1]
    exact (goOn_stop L K ht F h1.1 h1.2).mono fun e w' ⟨a, vo', b⟩ => ⟨a, vo', g, b⟩
  · by_cases h2 : m.took = F
    · have e1 : goN xs bs st tk F m s = ({ m with how := 3 }, s) := by unfold goN; rw [if_neg h1, if_pos h2]
      rw [e1]
      exact (goOn_fuel L K ht F h1 h2).mono fun e w' ⟨a, vo', b⟩ => ⟨a, vo', g, b⟩
    · have e1 : goN xs bs st tk F m s = (m.step xs bs, m.seen xs bs tk s) := by unfold goN; rw [if_neg h1, if_neg h2]
      rw [e1]
      rcases L.took with ⟨hT, hn⟩ | hT
      · have e2 : m.seen xs bs tk s = s := hn _ _ _
        rw [e2]
        exact (goOn_nil L K ht F h1 h2 (by omega) hT).mono fun e w' ⟨a, vo', b⟩ => ⟨a, vo', g, b⟩
      · exact goOn_took L K ht F h1 h2 (by omega) hT

set_option maxRecDepth 100000 in
set_option maxHeartbeats 2000000 in
theorem watched_any (L : Looks Inv Foot st tk vS vT) (xs : List Int) (s : St) (bs : List Int) (F : Int) (vc vm vi : Value) (w : World) (hc : Ints w vc xs) (hm : Ints w vm s.mem) (hi : Byts w vi bs) (hb : ∀ x ∈ bs, 0 ≤ x ∧ x ≤ 255) (s0 : σ) (hI : Inv s0 g0 w)
    (hcF : ∀ c, xs.length ≠ 0 → vc.ownBlock = some c → ¬ Foot g0 c) (hiF : ∀ c, bs.length ≠ 0 → vi.ownBlock = some c → ¬ Foot g0 c) :
    Calls Try.prog 27 #[vc, s.val vm, vi, .int .i64 F, .agg #[vS, vT]] w fun e w' => WRet Inv Foot g0 w bs (runW xs s bs F st tk s0) e w' := by
  have HC := hideI hc
  have HI := hideI hi
  have HM := hideI hm
  have HB := hideI hb
  obtain ⟨co, ccap, rfl, hmx, _⟩ := hc.at
  obtain ⟨mo, mcap, rfl, hmm, _⟩ := hm.at
  obtain ⟨io, icap, rfl, hmi, _⟩ := hi.at
  clear hc hm hi hb
  unfold maxLen at hmx hmm hmi
  have HI0 := hideI hI
  have HCF := hideI hcF
  have HIF := hideI hiF
  clear hI hcF hiF
  have K2 := hideI (bt (bt (below_a w (.cells (s.cells (.slice mo s.mem.length mcap)) 27)) (below_a _ (.cells #[vS, vT] 64))) (below_a _ (.cells ran0 33)))
  have G2 : Hid ((((w.alloc (.cells (s.cells (.slice mo s.mem.length mcap)) 27)).alloc (.cells #[vS, vT] 64)).alloc (.cells ran0 33)).heap[w.heap.size + 1 + 1]? = some (.cells ran0 33 (0, 0))) := by
    have h := heap_new ((w.alloc (.cells (s.cells (.slice mo s.mem.length mcap)) 27)).alloc (.cells #[vS, vT] 64)) (.cells ran0 33)
    rw [World.size_alloc, World.size_alloc] at h
    exact h
  have B2 : Hid (Box (((w.alloc (.cells (s.cells (.slice mo s.mem.length mcap)) 27)).alloc (.cells #[vS, vT] 64)).alloc (.cells ran0 33)) (w.heap.size + 1) [vS, vT]) := by
    have h := (Box.new (w.alloc (.cells (s.cells (.slice mo s.mem.length mcap)) 27)) #[vS, vT] 64).step (below_a _ (.cells ran0 33))
    rw [World.size_alloc] at h
    exact h
  unfold St.cells ran0 at K2 G2 B2
  by_cases h1 : 65536 < xs.length
  · have hR : Hid (runW xs s bs F st tk s0 = ((zeroMa, 4), s0)) := by unfold Hid runW; rw [if_pos h1]
    rw [unhideI hR]
    have b1 : decide ((65536 : Int) < xs.length) = true := by simp; omega
    unfold St.val St.cells
    go_enter Try.func27, Try.ntmps27
    go_wp2_with (refine wpList_store_row rfl 33 (.tmp 10) (.tmp 22) rfl (w.heap.size + 1 + 1) #[.int .i64 0, .int .i64 0, .slice none 0 0, .int .i64 0, .int .i64 0, .int .i64 0, .int .i64 0, .int .i64 0, .int .i64 0, .int .i64 0, .int .i64 0, .int .i64 0, .int .i64 0, .bool false, .bool false, .bool false, .bool false, .int .i64 0, .slice none 0 0] rfl rfl 33 #[.int .i64 0, .int .i64 0, .slice none 0 0, .int .i64 0, .int .i64 0, .int .i64 0, .int .i64 0, .int .i64 0, .int .i64 0, .int .i64 0, .int .i64 0, .int .i64 0, .int .i64 0, .bool false, .bool false, .bool false, .bool false, .int .i64 0, .slice none 0 0] (unhideI G2) Try.sizeRan rfl ran0_one ?_; have HG := hideI (setRow_heap _ (w.heap.size + 1 + 1) _ #[.int .i64 0, .int .i64 0, .slice none 0 0, .int .i64 0, .int .i64 0, .int .i64 0, .int .i64 0, .int .i64 0, .int .i64 0, .int .i64 0, .int .i64 0, .int .i64 0, .int .i64 0, .bool false, .bool false, .bool false, .bool false, .int .i64 0, .slice none 0 0] _ _ (unhideI G2)); have HK := hideI (Below.row (unhideI K2) (by omega : w.heap.size ≤ w.heap.size + 1 + 1) #[.int .i64 0, .int .i64 0, .slice none 0 0, .int .i64 0, .int .i64 0, .int .i64 0, .int .i64 0, .int .i64 0, .int .i64 0, .int .i64 0, .int .i64 0, .int .i64 0, .int .i64 0, .bool false, .bool false, .bool false, .bool false, .int .i64 0, .slice none 0 0]))
    exact bodyPost_ret (results_row_tmp Try.results27 _ _ (w.heap.size + 1 + 1) 33 ran0 (0, 0) _ _ rfl rfl (unhideI HG) Try.underlying33 rfl Try.sizeRan) rfl (wran_none L (unhideI HK) (unhideI HI0) 4 (by decide))
  have b1 : decide ((65536 : Int) < xs.length) = false := by simp; omega
  by_cases h2 : 65536 < bs.length
  · have hR : Hid (runW xs s bs F st tk s0 = ((zeroMa, 4), s0)) := by unfold Hid runW; rw [if_neg h1, if_pos h2]
    rw [unhideI hR]
    have b2 : decide ((65536 : Int) < bs.length) = true := by simp; omega
    unfold St.val St.cells
    go_enter Try.func27, Try.ntmps27
    go_wp2_with (refine wpList_store_row rfl 33 (.tmp 10) (.tmp 22) rfl (w.heap.size + 1 + 1) #[.int .i64 0, .int .i64 0, .slice none 0 0, .int .i64 0, .int .i64 0, .int .i64 0, .int .i64 0, .int .i64 0, .int .i64 0, .int .i64 0, .int .i64 0, .int .i64 0, .int .i64 0, .bool false, .bool false, .bool false, .bool false, .int .i64 0, .slice none 0 0] rfl rfl 33 #[.int .i64 0, .int .i64 0, .slice none 0 0, .int .i64 0, .int .i64 0, .int .i64 0, .int .i64 0, .int .i64 0, .int .i64 0, .int .i64 0, .int .i64 0, .int .i64 0, .int .i64 0, .bool false, .bool false, .bool false, .bool false, .int .i64 0, .slice none 0 0] (unhideI G2) Try.sizeRan rfl ran0_one ?_; have HG := hideI (setRow_heap _ (w.heap.size + 1 + 1) _ #[.int .i64 0, .int .i64 0, .slice none 0 0, .int .i64 0, .int .i64 0, .int .i64 0, .int .i64 0, .int .i64 0, .int .i64 0, .int .i64 0, .int .i64 0, .int .i64 0, .int .i64 0, .bool false, .bool false, .bool false, .bool false, .int .i64 0, .slice none 0 0] _ _ (unhideI G2)); have HK := hideI (Below.row (unhideI K2) (by omega : w.heap.size ≤ w.heap.size + 1 + 1) #[.int .i64 0, .int .i64 0, .slice none 0 0, .int .i64 0, .int .i64 0, .int .i64 0, .int .i64 0, .int .i64 0, .int .i64 0, .int .i64 0, .int .i64 0, .int .i64 0, .int .i64 0, .bool false, .bool false, .bool false, .bool false, .int .i64 0, .slice none 0 0]))
    exact bodyPost_ret (results_row_tmp Try.results27 _ _ (w.heap.size + 1 + 1) 33 ran0 (0, 0) _ _ rfl rfl (unhideI HG) Try.underlying33 rfl Try.sizeRan) rfl (wran_none L (unhideI HK) (unhideI HI0) 4 (by decide))
  have b2 : decide ((65536 : Int) < bs.length) = false := by simp; omega
  have WR := hideI (wrongS_any s (.slice mo s.mem.length mcap) _ ((unhideI HM).step (unhideI K2)))
  have K3 := hideI (bt (unhideI K2) (below_a _ (.cells (s.cells (.slice mo s.mem.length mcap)) 27)))
  have G3 := hideI (((below_a _ (.cells (s.cells (.slice mo s.mem.length mcap)) 27)).block (w.heap.size + 1 + 1) (Array.getElem?_eq_some_iff.1 (unhideI G2)).1).trans (unhideI G2))
  have L3 := hideI (Array.getElem?_eq_some_iff.1 (unhideI G3)).1
  have SG : Hid (s.wrong = 0 → s.mem.length ≤ 65536 ∧ s.good = true) := fun h => by
    unfold St.wrong at h
    split at h
    · omega
    · split at h
      · exact ⟨by omega, by assumption⟩
      · omega
  have ST := hideI (fun h0 => started_any s (.slice mo s.mem.length mcap) (.slice co xs.length ccap) (.slice io bs.length icap) xs bs _ ((unhideI HM).step (unhideI K3)) ((unhideI HC).step (unhideI K3)) (Lies.step (unhideI HI) (unhideI K3)) (unhideI SG h0).1 (unhideI SG h0).2 (unhideI HB))
  unfold St.val St.cells at WR ST
  unfold St.cells at K3 G3 L3
  have hR : Hid (runW xs s bs F st tk s0 = if s.wrong = 0 then (if F < 0 then ((zeroMa, 3), s0) else if 1000000 < F then ((zeroMa, 3), s0) else (((goW xs bs st tk F.toNat (startM s) s0).1, 0), (goW xs bs st tk F.toNat (startM s) s0).2)) else ((zeroMa, s.wrong), s0)) := by unfold Hid runW; rw [if_neg h1, if_neg h2]
  rw [unhideI hR]
  clear hR SG
  unfold St.val St.cells
  generalize s.wrong = er at *
  by_cases h3 : er = 0
  · subst h3
    rw [if_pos rfl]
    by_cases h4 : F < 0
    · rw [if_pos h4]
      have b4 : decide (F < 0) = true := by simp [h4]
      go_enter Try.func27, Try.ntmps27
      go_wp2_with (first | (go_at_call 23; refine (unhideI WR).mono ?_; rintro e w1 ⟨rfl, hw⟩; subst w1) | (refine wpList_store_row rfl 33 (.tmp 10) (.tmp 35) rfl (w.heap.size + 1 + 1) #[.int .i64 0, .int .i64 0, .slice none 0 0, .int .i64 0, .int .i64 0, .int .i64 0, .int .i64 0, .int .i64 0, .int .i64 0, .int .i64 0, .int .i64 0, .int .i64 0, .int .i64 0, .bool false, .bool false, .bool false, .bool false, .int .i64 0, .slice none 0 0] rfl rfl 33 #[.int .i64 0, .int .i64 0, .slice none 0 0, .int .i64 0, .int .i64 0, .int .i64 0, .int .i64 0, .int .i64 0, .int .i64 0, .int .i64 0, .int .i64 0, .int .i64 0, .int .i64 0, .bool false, .bool false, .bool false, .bool false, .int .i64 0, .slice none 0 0] (unhideI G3) Try.sizeRan rfl ran0_one ?_; have HG := hideI (setRow_heap _ (w.heap.size + 1 + 1) _ #[.int .i64 0, .int .i64 0, .slice none 0 0, .int .i64 0, .int .i64 0, .int .i64 0, .int .i64 0, .int .i64 0, .int .i64 0, .int .i64 0, .int .i64 0, .int .i64 0, .int .i64 0, .bool false, .bool false, .bool false, .bool false, .int .i64 0, .slice none 0 0] _ _ (unhideI G3)); have HK := hideI (Below.row (unhideI K3) (by omega : w.heap.size ≤ w.heap.size + 1 + 1) #[.int .i64 0, .int .i64 0, .slice none 0 0, .int .i64 0, .int .i64 0, .int .i64 0, .int .i64 0, .int .i64 0, .int .i64 0, .int .i64 0, .int .i64 0, .int .i64 0, .int .i64 0, .bool false, .bool false, .bool false, .bool false, .int .i64 0, .slice none 0 0])))
      exact bodyPost_ret (results_row_tmp Try.results27 _ _ (w.heap.size + 1 + 1) 33 ran0 (0, 0) _ _ rfl rfl (unhideI HG) Try.underlying33 rfl Try.sizeRan) rfl (wran_none L (unhideI HK) (unhideI HI0) 3 (by decide))
    rw [if_neg h4]
    have b4 : decide (F < 0) = false := by simp; omega
    by_cases h5 : 1000000 < F
    · rw [if_pos h5]
      have b5 : decide (1000000 < F) = true := by simp [h5]
      go_enter Try.func27, Try.ntmps27
      go_wp2_with (first | (go_at_call 23; refine (unhideI WR).mono ?_; rintro e w1 ⟨rfl, hw⟩; subst w1) | (refine wpList_store_row rfl 33 (.tmp 10) (.tmp 35) rfl (w.heap.size + 1 + 1) #[.int .i64 0, .int .i64 0, .slice none 0 0, .int .i64 0, .int .i64 0, .int .i64 0, .int .i64 0, .int .i64 0, .int .i64 0, .int .i64 0, .int .i64 0, .int .i64 0, .int .i64 0, .bool false, .bool false, .bool false, .bool false, .int .i64 0, .slice none 0 0] rfl rfl 33 #[.int .i64 0, .int .i64 0, .slice none 0 0, .int .i64 0, .int .i64 0, .int .i64 0, .int .i64 0, .int .i64 0, .int .i64 0, .int .i64 0, .int .i64 0, .int .i64 0, .int .i64 0, .bool false, .bool false, .bool false, .bool false, .int .i64 0, .slice none 0 0] (unhideI G3) Try.sizeRan rfl ran0_one ?_; have HG := hideI (setRow_heap _ (w.heap.size + 1 + 1) _ #[.int .i64 0, .int .i64 0, .slice none 0 0, .int .i64 0, .int .i64 0, .int .i64 0, .int .i64 0, .int .i64 0, .int .i64 0, .int .i64 0, .int .i64 0, .int .i64 0, .int .i64 0, .bool false, .bool false, .bool false, .bool false, .int .i64 0, .slice none 0 0] _ _ (unhideI G3)); have HK := hideI (Below.row (unhideI K3) (by omega : w.heap.size ≤ w.heap.size + 1 + 1) #[.int .i64 0, .int .i64 0, .slice none 0 0, .int .i64 0, .int .i64 0, .int .i64 0, .int .i64 0, .int .i64 0, .int .i64 0, .int .i64 0, .int .i64 0, .int .i64 0, .int .i64 0, .bool false, .bool false, .bool false, .bool false, .int .i64 0, .slice none 0 0])))
      exact bodyPost_ret (results_row_tmp Try.results27 _ _ (w.heap.size + 1 + 1) 33 ran0 (0, 0) _ _ rfl rfl (unhideI HG) Try.underlying33 rfl Try.sizeRan) rfl (wran_none L (unhideI HK) (unhideI HI0) 3 (by decide))
    rw [if_neg h5]
    have b5 : decide (1000000 < F) = false := by simp; omega
    have ST2 := hideI (unhideI ST rfl)
    clear ST
    obtain ⟨N, hN⟩ : ∃ N : Nat, F.toNat = N := ⟨_, rfl⟩
    have hF : F = (N : Int) := by omega
    rw [hN]
    subst hF
    clear hN
    generalize hM0 : startM s = m0 at *
    have t0 : m0.took = 0 := by rw [← hM0]; rfl
    have o0 : m0.how = 0 := by rw [← hM0]; rfl
    clear hM0
    generalize hRR : goW xs bs st tk N m0 s0 = R
    have HR : Hid (R = goW xs bs st tk N m0 s0) := hRR.symm
    clear hRR
    go_enter Try.func27, Try.ntmps27
    go_wp2_with (go_at_call 23; refine (unhideI WR).mono ?_; rintro e w1 ⟨rfl, hw⟩; subst w1)
    refine (unhideI ST2).mono ?_
    rintro e w2 ⟨p, q, rfl, M2⟩
    have B3 := hideI ((unhideI B2).step (below_a _ (.cells (s.cells (.slice mo s.mem.length mcap)) 27)))
    unfold St.cells at B3
    obtain ⟨W3, M3, k3, g3, b3⟩ : ∃ W3, Hid (Mach (Sd.no W3) W3 w2 p q (.slice co xs.length ccap) (.slice io bs.length icap) (.slice none 0 0) m0 xs bs) ∧ Hid (Below w.heap.size w W3) ∧ Hid (W3.heap[w.heap.size + 1 + 1]? = some (.cells #[.int .i64 0, .int .i64 0, .slice none 0 0, .int .i64 0, .int .i64 0, .int .i64 0, .int .i64 0, .int .i64 0, .int .i64 0, .int .i64 0, .int .i64 0, .int .i64 0, .int .i64 0, .bool false, .bool false, .bool false, .bool false, .int .i64 0, .slice none 0 0] 33 (0, 0))) ∧ Hid (Box W3 (w.heap.size + 1) [vS, vT]) := ⟨_, M2, unhideI K3, unhideI G3, unhideI B3⟩
    have K0 := hideI (Wtc.start L (unhideI HI0) (unhideI k3) (unhideI M3) (unhideI HCF) (unhideI HIF))
    have hFw : Hid (∀ b, w.heap.size ≤ b → ¬ Foot g0 b) := fun b hb h => by have := L.lt _ _ _ _ (unhideI HI0) h; omega
    clear M2 M3 K3 G3 L3 K2 G2 B2 B3 ST2 WR HC HI HM HCF HIF
    go_wp2_with fail
    go_loopg [] (N + 1) (fun g wr => ∃ (k : Nat) (m : Ma) (vo : Value) (s1 : σ) (g1 : γ), Hid (Wtc Inv Foot g0 g1 W3 wr p q (.slice co xs.length ccap) (.slice io bs.length icap) vo m xs bs s1) ∧ Hid (R = goW xs bs st tk k m s1) ∧ 0 ≤ m.took ∧ ((m.how = 0 ∧ g = k + 1 ∧ m.took + k = N) ∨ (¬ m.how = 0 ∧ g = 0)))
    case atStart => exact ⟨N, m0, _, s0, g0, K0, HR, by omega, .inl ⟨o0, rfl, by omega⟩⟩
    case round =>
      obtain ⟨k, m, vo, s1, g1, M, he, hto, hor⟩ := hrel
      clear K0 HR
      obtain ⟨-, -, -, -, -, -, -, -, c16, -, -, -, c20⟩ := (unhideI M).mach.at
      have fz := (unhideI M).mach.flat
      have hpw := (unhideI M).mach.pw
      have hl3 : w.heap.size + 1 < W3.heap.size := (unhideI b3).1
      have hb9 : Hid (¬ (Foot g0 (w.heap.size + 1) ∨ W3.heap.size ≤ w.heap.size + 1)) := fun h => h.elim (unhideI hFw _ (by omega)) (by omega)
      have bx := (unhideI M).kpt.box (unhideI b3) (unhideI hb9)
      obtain ⟨x0, x1⟩ := bx.two0
      have x2 := bx.1
      clear bx
      rcases hor with ⟨ho, hg, htk⟩ | ⟨ho, hg⟩
      · have b6 : (m.how == 0) = true := by simp [ho]
        have S := hideI (goOn_any L (unhideI M) hto (N : Int) (by omega) (by omega))
        obtain ⟨k', e1, hk'⟩ : ∃ k', Hid (R = goW xs bs st tk k' (goN xs bs st tk (N : Int) m s1).1 (goN xs bs st tk (N : Int) m s1).2) ∧ 0 ≤ (goN xs bs st tk (N : Int) m s1).1.took ∧ ((goN xs bs st tk (N : Int) m s1).1.how = 0 → k = k' + 1 ∧ (goN xs bs st tk (N : Int) m s1).1.took + k' = N) := by
          have he := unhideI he
          unfold goN
          by_cases h1 : 0 < m.took ∧ st m.pc = true
          · rw [if_pos h1]
            rw [goW_stop k m s1 ho h1.1 h1.2] at he
            exact ⟨0, by unfold Hid; rw [he, goW_end _ _ _ (by show ¬ (6 : Int) = 0; decide)], hto, fun h => absurd h (by show ¬ (6 : Int) = 0; decide)⟩
          · rw [if_neg h1]
            cases k with
            | zero =>
              rw [if_pos (by omega)]
              rw [goW_fuel m s1 ho h1] at he
              exact ⟨0, by unfold Hid; rw [he, goW_end _ _ _ (by show ¬ (3 : Int) = 0; decide)], hto, fun h => absurd h (by show ¬ (3 : Int) = 0; decide)⟩
            | succ k =>
              rw [if_neg (by omega)]
              rw [goW_step k m s1 ho h1] at he
              have ts := step_took m xs bs
              exact ⟨k, he, by show 0 ≤ (m.step xs bs).took; omega, fun _ => ⟨rfl, by show (m.step xs bs).took + k = N; omega⟩⟩
        generalize goN xs bs st tk (N : Int) m s1 = r at *
        obtain ⟨m1, s2⟩ := r
        dsimp only at *
        go_wp2_with (go_at_call 43; refine (unhideI S).mono ?_; rintro e w4 ⟨rfl, vo4, g4, M4⟩; have HM4 := hideI M4; clear M4)
        go_roundg (if m1.how = 0 then k' + 1 else 0)
        case measure => split <;> omega
        case rel =>
          refine ⟨k', m1, vo4, s2, g4, HM4, e1, hk'.1, ?_⟩
          by_cases hh : m1.how = 0
          · exact .inl ⟨hh, by rw [if_pos hh], (hk'.2 hh).2⟩
          · exact .inr ⟨hh, by rw [if_neg hh]⟩
      · have b6 : (m.how == 0) = false := by simp [ho]
        have e1 : Hid (R = (m, s1)) := by unfold Hid; rw [unhideI he, goW_end _ _ _ ho]
        have fin := hideI (unhideI M).mach.fine
        have RA := hideI (Wtc.ran L (unhideI M))
        have F1 := hideI (unhideI M).ex.2.2
        clear M he
        go_wp2_with fail
        refine (unhideI RA).mono ?_
        rintro e w5 ⟨vm5, rfl, i5, o5, k5, v5, n5, n6⟩
        have I5 := hideI i5
        have O5 := hideI o5
        have K5 := hideI k5
        have V5 := hideI v5
        have hb8 : Hid (¬ (Foot g0 (w.heap.size + 1 + 1) ∨ W3.heap.size ≤ w.heap.size + 1 + 1)) := fun h => h.elim (unhideI hFw _ (by omega)) (by have := (Array.getElem?_eq_some_iff.1 (unhideI g3)).1; omega)
        have g5 := hideI ((k5.block (w.heap.size + 1 + 1) (Array.getElem?_eq_some_iff.1 (unhideI g3)).1 (unhideI hb8)).trans (unhideI g3))
        obtain ⟨a5, c5, rfl, _, _⟩ := i5.at
        obtain ⟨b5, d5, rfl, _, _⟩ := o5.at
        have l3 := (Array.getElem?_eq_some_iff.1 (unhideI g3)).1
        have F5 : Hid (∀ k, (Value.slice a5 (memL m.mem).length c5).ownBlock = some k → k ≠ w.heap.size + 1 + 1) := fun k hk => by have := n5 k hk; omega
        have E5 : Hid (∀ k, (Value.slice b5 m.out.length d5).ownBlock = some k → k ≠ w.heap.size + 1 + 1) := fun k hk => by have := n6 k hk; omega
        have hws := (unhideI k3).size
        have F6 : Hid (∀ k, (Value.slice a5 (memL m.mem).length c5).ownBlock = some k → w.heap.size ≤ k) := fun k hk => Nat.le_trans hws (n5 k hk)
        have E6 : Hid (∀ k, (Value.slice b5 m.out.length d5).ownBlock = some k → w.heap.size ≤ k) := fun k hk => Nat.le_trans hws (n6 k hk)
        have KK : Hid (Kpw (Foot g0) w w5) := ⟨(unhideI K5).os.trans (unhideI k3).os, (unhideI K5).tape.trans (unhideI k3).tape, (unhideI K5).output.trans (unhideI k3).output, Nat.le_trans hws (unhideI K5).size, fun k hk hn => by rw [(unhideI K5).block k (by omega) (fun h => h.elim hn (by omega)), (unhideI k3).block k hk]⟩
        have FF : Hid (∀ k, Foot g1 k → Foot g0 k ∨ w.heap.size ≤ k) := fun k hk => ((unhideI F1) k hk).imp id fun h => by omega
        have FN : Hid (¬ Foot g1 (w.heap.size + 1 + 1)) := fun h => unhideI hb8 (unhideI F1 _ h)
        clear n5 n6 i5 o5 k5 v5
        have e2 := unhideI e1
        subst e2
        generalize hL : memL m.mem = L5 at *
        have HL := hideI hL
        clear hL
        unfold ranV
        go_wp2_with (refine wpList_store_row rfl 33 (.tmp 10) (.tmp 50) rfl (w.heap.size + 1 + 1) (ranC m (.slice b5 m.out.length d5) (.slice a5 L5.length c5)) rfl rfl 33 #[.int .i64 0, .int .i64 0, .slice none 0 0, .int .i64 0, .int .i64 0, .int .i64 0, .int .i64 0, .int .i64 0, .int .i64 0, .int .i64 0, .int .i64 0, .int .i64 0, .int .i64 0, .bool false, .bool false, .bool false, .bool false, .int .i64 0, .slice none 0 0] (unhideI g5) Try.sizeRan rfl (ranC_one _ _ _ _ _ _ _) ?_; have HG := hideI (setRow_heap _ (w.heap.size + 1 + 1) _ (ranC m (.slice b5 m.out.length d5) (.slice a5 L5.length c5)) _ _ (unhideI g5)); have HK := hideI (Kpw.row (Y := fun b => b = w.heap.size + 1 + 1) w5 (w.heap.size + 1 + 1) (ranC m (.slice b5 m.out.length d5) (.slice a5 L5.length c5)) rfl); have I6 := hideI (Lies.blk (w' := w5.setRow (w.heap.size + 1 + 1) (ranC m (.slice b5 m.out.length d5) (.slice a5 L5.length c5))) (unhideI I5) (by rw [size_setRow]; exact Nat.le_refl _) fun k hk => setRow_other _ _ _ _ (unhideI F5 k hk)); have O6 := hideI (Lies.blk (w' := w5.setRow (w.heap.size + 1 + 1) (ranC m (.slice b5 m.out.length d5) (.slice a5 L5.length c5))) (unhideI O5) (by rw [size_setRow]; exact Nat.le_refl _) fun k hk => setRow_other _ _ _ _ (unhideI E5 k hk)))
        exact bodyPost_ret (results_row_tmp Try.results27 _ _ (w.heap.size + 1 + 1) 33 (ranC m (.slice b5 m.out.length d5) (.slice a5 L5.length c5)) (0, 0) _ _ rfl rfl (unhideI HG) Try.underlying33 rfl Try.sizeRan) rfl
          ⟨.slice b5 m.out.length d5, .slice a5 L5.length c5, rfl, by show Ints _ _ (memL m.mem); rw [unhideI HL]; exact unhideI I6, unhideI O6, (unhideI KK).trans (unhideI HK) (fun _ h => h) (fun n h hl => by omega), fun _ => unhideI fin, unhideI E6, unhideI F6, g1,
            L.keep _ _ _ _ (unhideI V5) ((unhideI HK).mono fun k hk hf => unhideI FN (by rw [← hk]; exact hf)), unhideI FF⟩
  · rw [if_neg h3]
    have b3 : (er != 0) = true := by simp [h3]
    clear ST
    go_enter Try.func27, Try.ntmps27
    go_wp2_with (first | (go_at_call 23; refine (unhideI WR).mono ?_; rintro e w1 ⟨rfl, hw⟩; subst w1) | (refine wpList_store_row rfl 33 (.tmp 10) (.tmp 27) rfl (w.heap.size + 1 + 1) #[.int .i64 0, .int .i64 0, .slice none 0 0, .int .i64 0, .int .i64 0, .int .i64 0, .int .i64 0, .int .i64 0, .int .i64 0, .int .i64 0, .int .i64 0, .int .i64 0, .int .i64 0, .bool false, .bool false, .bool false, .bool false, .int .i64 0, .slice none 0 0] rfl rfl 33 #[.int .i64 0, .int .i64 0, .slice none 0 0, .int .i64 0, .int .i64 0, .int .i64 0, .int .i64 0, .int .i64 0, .int .i64 0, .int .i64 0, .int .i64 0, .int .i64 0, .int .i64 0, .bool false, .bool false, .bool false, .bool false, .int .i64 0, .slice none 0 0] (unhideI G3) Try.sizeRan rfl ran0_one ?_; have HG := hideI (setRow_heap _ (w.heap.size + 1 + 1) _ #[.int .i64 0, .int .i64 0, .slice none 0 0, .int .i64 0, .int .i64 0, .int .i64 0, .int .i64 0, .int .i64 0, .int .i64 0, .int .i64 0, .int .i64 0, .int .i64 0, .int .i64 0, .bool false, .bool false, .bool false, .bool false, .int .i64 0, .slice none 0 0] _ _ (unhideI G3)); have HK := hideI (Below.row (unhideI K3) (by omega : w.heap.size ≤ w.heap.size + 1 + 1) #[.int .i64 0, .int .i64 0, .slice none 0 0, .int .i64 0, .int .i64 0, .int .i64 0, .int .i64 0, .int .i64 0, .int .i64 0, .int .i64 0, .int .i64 0, .int .i64 0, .int .i64 0, .bool false, .bool false, .bool false, .bool false, .int .i64 0, .slice none 0 0])))
    exact bodyPost_ret (results_row_tmp Try.results27 _ _ (w.heap.size + 1 + 1) 33 ran0 (0, 0) _ _ rfl rfl (unhideI HG) Try.underlying33 rfl Try.sizeRan) rfl (wran_none L (unhideI HK) (unhideI HI0) er h3)
end
/-- Nobody looks on. -/
theorem looks_none : Looks (σ := Unit) (γ := Unit) (fun _ _ _ => True) (fun _ _ => False) (fun _ => false) (fun s _ _ => s) .nilFunc .nilFunc where
  lt := fun _ _ _ _ _ h => h.elim
  keep := fun _ _ _ _ _ _ => trivial
  stops := .inl ⟨rfl, fun _ => rfl⟩
  took := .inl ⟨rfl, fun _ _ _ => rfl⟩

set_option maxRecDepth 100000 in
set_option maxHeartbeats 2000000 in
theorem run_any (xs : List Int) (s : St) (bs : List Int) (F : Int) (vc vm vi : Value) (w : World) (hc : Ints w vc xs) (hm : Ints w vm s.mem) (hi : Byts w vi bs) (hb : ∀ x ∈ bs, 0 ≤ x ∧ x ≤ 255) :
    Calls Try.prog 18 #[vc, s.val vm, vi, .int .i64 F] w fun e w' => ∃ vo vm', e = .returned (.tuple #[ranV (runA xs s bs F).1 vo vm', .int .i64 (runA xs s bs F).2]) ∧ Ints w' vm' (memL (runA xs s bs F).1.mem) ∧ Byts w' vo (runA xs s bs F).1.out ∧ Below w.heap.size w w' ∧ ((runA xs s bs F).2 = 0 → (runA xs s bs F).1.Fine bs) ∧ (∀ k, vo.ownBlock = some k → w.heap.size ≤ k) ∧ (∀ k, vm'.ownBlock = some k → w.heap.size ≤ k) := by
  have HC := hideI hc
  have HI := hideI hi
  have HM := hideI hm
  have HB := hideI hb
  obtain ⟨mo, mcap, rfl, hmm, _⟩ := hm.at
  clear hc hm hi hb
  have KW := fun K2 => hideI (watched_any (g0 := ()) looks_none xs s bs F vc (.slice mo s.mem.length mcap) vi ((w.alloc (.cells (s.cells (.slice mo s.mem.length mcap)) 27)).alloc (.cells ran0 33)) ((unhideI HC).step K2) ((unhideI HM).step K2) (Lies.step (unhideI HI) K2) (unhideI HB) () trivial (fun _ _ _ h => h) fun _ _ _ h => h)
  have K2 := bt (below_a w (.cells (s.cells (.slice mo s.mem.length mcap)) 27)) (below_a _ (.cells ran0 33))
  have KR := KW K2
  have HK2 := hideI K2
  have G2 : Hid (((w.alloc (.cells (s.cells (.slice mo s.mem.length mcap)) 27)).alloc (.cells ran0 33)).heap[w.heap.size + 1]? = some (.cells ran0 33 (0, 0))) := by
    have h := heap_new (w.alloc (.cells (s.cells (.slice mo s.mem.length mcap)) 27)) (.cells ran0 33)
    rw [World.size_alloc] at h
    exact h
  have hs2 : Hid (((w.alloc (.cells (s.cells (.slice mo s.mem.length mcap)) 27)).alloc (.cells ran0 33)).heap.size = w.heap.size + 1 + 1) := by unfold Hid; rw [World.size_alloc, World.size_alloc]
  clear K2 KW HC HI HM HB
  have hrr : (runW xs s bs F (fun _ => false) (fun s _ _ => s) ()).1 = runA xs s bs F := runW_run fun _ => rfl
  generalize runA xs s bs F = R at *
  obtain ⟨m, er⟩ := R
  have HRR := hideI hrr
  clear hrr
  unfold St.val St.cells at *
  unfold ran0 at *
  go_enter Try.func18, Try.ntmps18
  go_wp2_with fail
  refine (unhideI KR).mono ?_
  rintro e w5 ⟨vo, vm5, rfl, i5, o5, k5, f5, n6, n5, -⟩
  rw [unhideI HRR] at i5 o5 f5
  rw [unhideI HRR]
  dsimp only at *
  have g5 := hideI ((k5.block (w.heap.size + 1) (Array.getElem?_eq_some_iff.1 (unhideI G2)).1 (fun h => h)).trans (unhideI G2))
  have KK : Hid (Below w.heap.size w w5) := (unhideI HK2).trans (k5.below (by have := unhideI hs2; omega) fun _ h => h.elim)
  obtain ⟨a5, c5, rfl, _, _⟩ := i5.at
  obtain ⟨b5, d5, rfl, _, _⟩ := o5.at
  have I5 := hideI i5
  have O5 := hideI o5
  have hs3 := unhideI hs2
  have F5 : Hid (∀ k, (Value.slice a5 (memL m.mem).length c5).ownBlock = some k → k ≠ w.heap.size + 1) := fun k hk => by have := n5 k hk; omega
  have E5 : Hid (∀ k, (Value.slice b5 m.out.length d5).ownBlock = some k → k ≠ w.heap.size + 1) := fun k hk => by have := n6 k hk; omega
  have F6 : Hid (∀ k, (Value.slice a5 (memL m.mem).length c5).ownBlock = some k → w.heap.size ≤ k) := fun k hk => by have := n5 k hk; omega
  have E6 : Hid (∀ k, (Value.slice b5 m.out.length d5).ownBlock = some k → w.heap.size ≤ k) := fun k hk => by have := n6 k hk; omega
  have FI := hideI f5
  clear n5 n6 i5 o5 k5 f5 hs3 hs2 HRR
  generalize hL : memL m.mem = L5 at *
  unfold ranV
  go_wp2_with (refine wpList_store_row rfl 33 (.tmp 8) (.tmp 16) rfl (w.heap.size + 1) (ranC m (.slice b5 m.out.length d5) (.slice a5 L5.length c5)) rfl rfl 33 #[.int .i64 0, .int .i64 0, .slice none 0 0, .int .i64 0, .int .i64 0, .int .i64 0, .int .i64 0, .int .i64 0, .int .i64 0, .int .i64 0, .int .i64 0, .int .i64 0, .int .i64 0, .bool false, .bool false, .bool false, .bool false, .int .i64 0, .slice none 0 0] (unhideI g5) Try.sizeRan rfl (ranC_one _ _ _ _ _ _ _) ?_; have HG := hideI (setRow_heap _ (w.heap.size + 1) _ (ranC m (.slice b5 m.out.length d5) (.slice a5 L5.length c5)) _ _ (unhideI g5)); have HK := hideI (Below.row (unhideI KK) (by omega : w.heap.size ≤ w.heap.size + 1) (ranC m (.slice b5 m.out.length d5) (.slice a5 L5.length c5))); have I6 := hideI (Lies.blk (w' := w5.setRow (w.heap.size + 1) (ranC m (.slice b5 m.out.length d5) (.slice a5 L5.length c5))) (unhideI I5) (by rw [size_setRow]; exact Nat.le_refl _) fun k hk => setRow_other _ _ _ _ (unhideI F5 k hk)); have O6 := hideI (Lies.blk (w' := w5.setRow (w.heap.size + 1) (ranC m (.slice b5 m.out.length d5) (.slice a5 L5.length c5))) (unhideI O5) (by rw [size_setRow]; exact Nat.le_refl _) fun k hk => setRow_other _ _ _ _ (unhideI E5 k hk)))
  exact bodyPost_ret (results_row_tmp Try.results18 _ _ (w.heap.size + 1) 33 (ranC m (.slice b5 m.out.length d5) (.slice a5 L5.length c5)) (0, 0) _ _ rfl rfl (unhideI HG) Try.underlying33 rfl Try.sizeRan) rfl
    ⟨.slice b5 m.out.length d5, .slice a5 L5.length c5, rfl, by show Ints _ _ (memL m.mem); rw [hL]; exact unhideI I6, unhideI O6, unhideI HK, unhideI FI, unhideI E6, unhideI F6⟩
end Go.Proofs.Ytjlbenbfmookoaa
