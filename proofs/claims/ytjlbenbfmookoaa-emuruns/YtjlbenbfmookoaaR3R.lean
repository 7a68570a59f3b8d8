/-
  The document's machine: Run.
-/
import Derived.Test.YtjlbenbfmookoaaR3T
import Derived.Test.YtjlbenbfmookoaaEmuW
import Derived.Test.YtjlbenbfmookoaaEmuZ
import Derived.Test.YtjlbenbfmookoaaMem2
import Derived.Test.YtjlbenbfmookoaaEmuR
namespace Go.Proofs.Ytjlbenbfmookoaa
open Go.RowKit
set_option linter.unusedSimpArgs false
set_option linter.unusedVariables false


/-- All that must be words. -/
def St.all (s : St) : List Int := s.pc :: s.mem ++ s.regs
theorem St.all_good (s : St) : s.all.all isw = s.good := by
  unfold St.all St.good
  rw [List.cons_append, List.all_cons, List.all_append]
  cases isw s.pc <;> cases s.mem.all isw <;> cases s.regs.all isw <;> rfl
theorem regs_len (s : St) : s.regs.length = 8 := rfl
theorem own_one (w : World) (x : Int) : (w.alloc (.cells #[.int .i64 x] 3)).ownsRow w.heap.size 3 1 (.slice (some ⟨w.heap.size, 0, none⟩) 1 1) 1 ([x].map int1) :=
  ⟨by simp, .inr ⟨w.heap.size, 1, #[.int .i64 x], rfl, Nat.le_refl _, heap_new _ _, Nat.le_refl _, by unfold maxLen; decide, by simp, by simp [int1]⟩⟩
theorem regs_at (s : St) (vm : Value) (i : Nat) (h : i < 8) : (s.cells vm).toList[i]? = some (.int .i64 (s.regs.getD i 0)) := by
  have : i = 0 ∨ i = 1 ∨ i = 2 ∨ i = 3 ∨ i = 4 ∨ i = 5 ∨ i = 6 ∨ i = 7 := by omega
  rcases this with rfl | rfl | rfl | rfl | rfl | rfl | rfl | rfl <;> rfl
theorem isw_no {x : Int} (h : isw x = false) : x < 0 ∨ (¬ x < 0 ∧ 65535 < x) := by unfold isw at h; simp at h; omega
set_option maxRecDepth 100000 in
set_option maxHeartbeats 2000000 in
theorem rwrongS_any (s : St) (vm : Value) (w : World) (hm : Ints w vm s.mem) : Calls Try.prog 24 #[s.val vm] w fun e w' => e = .returned (.int .i64 s.wrong) ∧ Below w.heap.size w w' := by
  obtain ⟨i0, hi0, hz0, hz1, hz2⟩ := info_parts (show (Try.prog.info? 3).map (fun i => (i.zero, i.size, i.bytes)) = some (some (.int .i64 0), 1, 8) by kernel_rfl)
  have HM := hide hm
  obtain ⟨mo, mcap, rfl, hmx, -⟩ := hm.at
  unfold maxLen at hmx
  have K1 := hide (below_a w (.cells (s.cells (.slice mo s.mem.length mcap)) 27))
  have B1 := hide (Box.new w (s.cells (.slice mo s.mem.length mcap)) 27)
  have c12 := (unhide B1).2.1 12 _ rfl
  have c13 := (unhide B1).2.1 13 _ rfl
  have HG := hide s.all_good
  clear hm
  by_cases hlen : 65536 < s.mem.length
  · have hw : s.wrong = 4 := by unfold St.wrong; rw [if_pos hlen]
    rw [hw]
    have b1 : (65536 : Int) < (s.mem.length : Int) := by omega
    unfold St.val
    unfold St.cells at *
    go_enter Try.func24, Try.ntmps24
    go_wp2_with fail
    go_ret
    exact ⟨rfl, unhide K1⟩
  · have hw : s.wrong = if s.good = true then 0 else 3 := by unfold St.wrong; rw [if_neg hlen]
    rw [hw, ← unhide HG]
    generalize her : (if s.all.all isw = true then (0 : Int) else 3) = er
    have HER := hide her
    clear her
    have b1 : ¬ (65536 : Int) < (s.mem.length : Int) := by omega
    clear hw HG
    unfold St.val
    have RG := hide (fun (W : World) (k : Below (w.alloc (.cells (s.cells (.slice mo s.mem.length mcap)) 27)).heap.size (w.alloc (.cells (s.cells (.slice mo s.mem.length mcap)) 27)) W) (i : Nat) (hi : i < 8) => (show W.cell? ⟨w.heap.size, i, none⟩ = some (.int .i64 (s.regs.getD i 0)) from ((unhide B1).step k).2.1 i _ (regs_at s _ i hi)))
    have O2 := hide (own_one (w.alloc (.cells (s.cells (.slice mo s.mem.length mcap)) 27)) s.pc)
    have L2 := hide (((unhide HM).step (unhide K1)).step (below_a _ (.cells #[.int .i64 s.pc] 3)))
    have KA := hide (below_a (w.alloc (.cells (s.cells (.slice mo s.mem.length mcap)) 27)) (.cells #[.int .i64 s.pc] 3))
    have hs1 : (w.alloc (.cells (s.cells (.slice mo s.mem.length mcap)) 27)).heap.size = w.heap.size + 1 := by simp
    have HS1 := hide hs1
    rw [hs1] at O2 KA RG
    clear hs1
    unfold St.cells at *
    go_enter Try.func24, Try.ntmps24
    go_wp2_with (at_builtin; refine append_lies rfl (.tmp 13) (.tmp 15) 22 rfl _ 3 i0 (.int .i64 0) 1 8 Try.underlying22 hi0 hz0 hz1 hz2 rfl (by decide) _ 1 _ rfl (unhide O2) _ _ _ rfl (unhide L2) (ints_cells _) (by unfold maxLen; omega) (by omega) (by simp) ?_; intro v2 w2 own2 grow2; have O3 := hide own2; have K3 := hide (below_own (unhide KA) (by simp) (unhide O2) grow2); clear own2 grow2)
    clear O2 L2 KA c12 c13 B1
    generalize (w.alloc (.cells #[.int .i64 (s.r 0), .int .i64 (s.r 1), .int .i64 (s.r 2), .int .i64 (s.r 3), .int .i64 (s.r 4), .int .i64 (s.r 5), .int .i64 (s.r 6), .int .i64 (s.r 7), .bool s.c, .bool s.z, .bool s.n, .bool s.v, .int .i64 s.pc, .slice mo s.mem.length mcap] 27)) = w1 at *
    go_loopg [3, 17] 8 (fun g v t wr => ∃ i : Nat, i ≤ 8 ∧ g = 8 - i ∧ t = .int .i64 (i : Int) ∧ Hid (wr.ownsRow (w.heap.size + 1) 3 1 v (1 + s.mem.length + i) ((s.pc :: s.mem ++ s.regs.take i).map int1)) ∧ Hid (Below (w.heap.size + 1) w1 wr))
    case atStart => exact ⟨0, by omega, rfl, rfl, hide (by simpa using unhide O3), K3⟩
    case round =>
      obtain ⟨i, hi, hg, rfl, hO, hK⟩ := hrel
      clear O3 K3
      have sk := (unhide hK).size
      have hs1 := unhide HS1
      have HSK := hide sk
      have sk2 : w.heap.size + 1 ≤ wr.heap.size := by omega
      clear hs1 sk
      by_cases hlt : i < 8
      · have hil : (i : Int) < 8 := by omega
        have hi0' : (0 : Int) ≤ (i : Int) := by omega
        have ci := unhide RG wr (unhide hK) i hlt
        have hl8 : i < s.regs.length := hlt
        have et : (s.pc :: s.mem ++ s.regs.take (i + 1)).map int1 = (s.pc :: s.mem ++ s.regs.take i).map int1 ++ [.int .i64 (s.regs.getD i 0)] := by
          have eg : s.regs.getD i 0 = s.regs[i] := by rw [List.getD_eq_getElem?_getD, List.getElem?_eq_getElem hl8]; rfl
          rw [List.take_succ_eq_append_getElem hl8, ← List.append_assoc, List.map_append, eg]
          rfl
        have ET := hide et
        clear et
        generalize s.regs.getD i 0 = x at *
        go_wp2_with (at_builtin; refine wpList_append_own _ rfl (.tmp 20) (.tmp 25) 22 rfl (w.heap.size + 1) 3 i0 (.int .i64 0) 1 8 Try.underlying22 hi0 hz0 hz1 hz2 rfl (by decide) _ _ _ rfl ((unhide hO).alloc _) ⟨_, 0, none⟩ 1 1 [.int .i64 x] rfl rfl (one_c1 _ _ _) (one_c2 _ _) (by unfold maxLen; omega) (by omega) (by simp; omega) ?_; intro v5 w5 own5 grow5 _; have O5 := hide (show w5.ownsRow (w.heap.size + 1) 3 1 v5 (1 + s.mem.length + (i + 1)) ((s.pc :: s.mem ++ s.regs.take (i + 1)).map int1) by rw [unhide ET]; exact own5); have K5 := hide (below_own ((unhide hK).alloc (by omega) _) (by simp; omega) ((unhide hO).alloc _) grow5); clear own5 grow5)
        go_roundg (8 - (i + 1))
        case measure => omega
        case rel => exact ⟨i + 1, by omega, rfl, by go_num, O5, K5⟩
      · have hil : ¬ (i : Int) < 8 := by omega
        obtain rfl : i = 8 := by omega
        have IA := hide (show Ints wr _ s.all by
          have := Lies.owned (unhide hO)
          rw [show s.regs.take 8 = s.regs from rfl] at this
          have el : s.all.length = 1 + s.mem.length + 8 := by unfold St.all; simp [regs_len]; omega
          unfold Ints
          rw [el]
          exact this)
        have KK := hide ((unhide K1).trans ((unhide hK).mono (by omega)))
        have HE : Hid (s.all.length = 1 + s.mem.length + 8) := by unfold Hid St.all; simp [regs_len]; omega
        clear hO hK RG K1 HM
        generalize hL : s.all = L at *
        have HL := hide hL
        clear hL
        obtain ⟨lo, lc, rfl, -, hat⟩ := (unhide IA).at
        have HAT := hide hat
        clear hat IA
        have hll : L.length ≤ 70000 := by have := unhide HE; omega
        clear HE
        go_wp2_with fail
        go_loopg [30] L.length (fun g t w9 => ∃ k : Nat, k ≤ L.length ∧ g = L.length - k ∧ t = .int .i64 (k : Int) ∧ Hid (L.all isw = (L.drop k).all isw) ∧ w9 = wr)
        case atStart => exact ⟨0, by omega, rfl, rfl, hide rfl, rfl⟩
        case round =>
          obtain ⟨k, hk, hg2, rfl, hA, rfl⟩ := hrel
          by_cases hlt : k < L.length
          · have hkl : (k : Int) < (L.length : Int) := by omega
            obtain ⟨b, off, rfl, hb, hc⟩ := unhide HAT (by intro h; rw [h] at hlt; simp at hlt)
            have ck := hc k hlt
            have ea := all_at L k hlt
            clear hc
            generalize L[k] = x at *
            cases hx : isw x
            · have ef : L.all isw = false := by rw [unhide hA, ea, hx]; rfl
              have EF := hide ef
              clear ea ef hA
              rcases isw_no hx with h1 | ⟨h1, h2⟩
              · go_wp2_with fail
                go_ret
                have e3 : er = 3 := by rw [← unhide HER]; first | (rw [unhide EF]; rfl) | (rw [unhide HL, unhide EF]; rfl)
                rw [e3]
                exact ⟨rfl, unhide KK⟩
              · go_wp2_with fail
                go_ret
                have e3 : er = 3 := by rw [← unhide HER]; first | (rw [unhide EF]; rfl) | (rw [unhide HL, unhide EF]; rfl)
                rw [e3]
                exact ⟨rfl, unhide KK⟩
            · have hw := isw_yes hx
              unfold wd at hw
              have h1 : ¬ x < 0 := by omega
              have h2 : ¬ 65535 < x := by omega
              have A1 := hide (show L.all isw = (L.drop (k + 1)).all isw by rw [unhide hA, ea, hx]; rfl)
              clear ea hA hw
              go_wp2_with fail
              go_roundg (L.length - (k + 1))
              case measure => omega
              case rel => exact ⟨k + 1, by omega, rfl, by go_num, A1, rfl⟩
          · have hkl : ¬ (k : Int) < (L.length : Int) := by omega
            have et : L.all isw = true := by rw [unhide hA, List.drop_eq_nil_of_le (by omega)]; rfl
            have EF := hide et
            clear hA et
            go_wp2_with fail
            go_ret
            have e3 : er = 0 := by rw [← unhide HER]; first | (rw [unhide EF]; rfl) | (rw [unhide HL, unhide EF]; rfl)
            rw [e3]
            exact ⟨rfl, unhide KK⟩

theorem Try.sizeState3 : (Try.prog.info? 27).map (·.size) = some 14 := by kernel_rfl
/-- What Run tells. -/
def RunRet (R : Ma × Int) (w : World) (e : Ending) (w' : World) : Prop := ∃ vo vm, e = .returned (.tuple #[ranV R.1 vo vm, .int .i64 R.2]) ∧ Ints w' vm (memL R.1.mem) ∧ Byts w' vo R.1.out ∧ Below w.heap.size w w'
theorem run_none {w w' : World} (h : Below w.heap.size w w') (er : Int) : RunRet (zeroMa, er) w (.returned (.tuple #[.agg ran0, .int .i64 er])) w' :=
  ⟨.slice none 0 0, .slice none 0 0, rfl, by rw [memL_zero]; exact Lies.nil _ _, Lies.nil _ _, h⟩
theorem start_bx {w : World} {s : St} {vc vm vi : Value} {xs bs : List Int} (T : TypeId) (hF : (startM s).Fine bs) (hc : Ints w vc xs) (hm : Ints w vm s.mem) (hi : Byts w vi bs) :
    BX w ((w.alloc (.map #[] 0)).alloc (.cells (cellsX (startM s) vc vm (.map (some w.heap.size)) vi (.slice none 0 0)).toArray T)) (w.heap.size + 1) w.heap.size 0 vc vm vi (.slice none 0 0) (startM s) s.mem xs bs where
  box := by have := Box.new (w.alloc (.map #[] 0)) (cellsX (startM s) vc vm (.map (some w.heap.size)) vi (.slice none 0 0)).toArray T; simpa using this
  hp := by omega
  hq := Nat.le_refl _
  hpq := by omega
  map := ⟨_, (Mi.made w).step (below_a _ _), fun j _ => rfl⟩
  code := hc
  mem0 := hm
  inp := hi
  low := ((Below.refl _ _).alloc (Nat.le_refl _) _).alloc (by simp) _
  own := World.ownsRow_nil _ _ _ _
  ho := fun k hk => by cases hk
  fine := hF
theorem cut_lies {w : World} {b off cap n k : Nat} {f : Nat → Int} (hb : b < w.heap.size) (hk : k ≤ n) (hn : n ≤ cap) (hm : cap ≤ maxLen) (hc : ∀ j, j < n → w.cell? ⟨b, off + j, none⟩ = some (.int .i64 (f j))) : Ints w (.slice (some ⟨b, off, none⟩) k cap) ((List.range k).map f) := by
  have hl : ((List.range k).map f).length = k := by simp
  unfold Ints
  rw [hl]
  refine ⟨by simp, _, _, rfl, by omega, hm, (fun h => by cases h), fun _ => ⟨b, off, rfl, hb, fun j hj => ?_⟩⟩
  have hj' : j < k := by omega
  rw [hc j (by omega), List.getElem?_map, List.getElem?_map, List.getElem?_range hj']
  rfl
theorem Lies.cap {w : World} {s n c : Nat} {ao : Option Addr} {cs : List Value} (h : Lies w s (.slice ao n c) n cs) : n ≤ c ∧ c ≤ maxLen := by
  obtain ⟨h1, a, c', e, h3, h4, h6, h5⟩ := h
  injection e with e1 e2 e3
  subst e3
  exact ⟨h3, h4⟩
theorem lw_nat {i : Nat} (h : i < 65536) : lw (i : Int) = i := by unfold lw; omega
theorem lastN_step (f : Nat → Int) (i : Nat) : lastN f (i + 1) = if f i = 0 then lastN f i else i + 1 := rfl
set_option maxRecDepth 100000 in
set_option maxHeartbeats 4000000 in
theorem run3_any (xs : List Int) (s : St) (bs : List Int) (F : Int) (vc vm vi : Value) (w : World) (hc : Ints w vc xs) (hm : Ints w vm s.mem) (hi : Byts w vi bs) (hb : ∀ x ∈ bs, 0 ≤ x ∧ x ≤ 255) :
    Calls Try.prog 22 #[vc, s.val vm, vi, .int .i64 F] w fun e w' => RunRet (runA xs s bs F) w e w' := by
  obtain ⟨i0, hi0, hz0, hz1, hz2⟩ := info_parts (show (Try.prog.info? 3).map (fun i => (i.zero, i.size, i.bytes)) = some (some (.int .i64 0), 1, 8) by kernel_rfl)
  have HC := hideI hc
  have HI := hideI hi
  have HM := hideI hm
  have HB := hideI hb
  obtain ⟨co, ccap, rfl, hmx, _⟩ := hc.at
  obtain ⟨mo, mcap, rfl, hmm, _⟩ := hm.at
  obtain ⟨io, icap, rfl, hmi, _⟩ := hi.at
  clear hc hm hi hb
  unfold maxLen at hmx hmm hmi
  have K2 := hideI (bt (below_a w (.cells (s.cells (.slice mo s.mem.length mcap)) 27)) (below_a _ (.cells ran0 33)))
  have G2 : Hid (((w.alloc (.cells (s.cells (.slice mo s.mem.length mcap)) 27)).alloc (.cells ran0 33)).heap[w.heap.size + 1]? = some (.cells ran0 33 (0, 0))) := by
    have h := heap_new (w.alloc (.cells (s.cells (.slice mo s.mem.length mcap)) 27)) (.cells ran0 33)
    rw [World.size_alloc] at h
    exact h
  have S2 : Hid (((w.alloc (.cells (s.cells (.slice mo s.mem.length mcap)) 27)).alloc (.cells ran0 33)).heap[w.heap.size]? = some (.cells (s.cells (.slice mo s.mem.length mcap)) 27 (0, 0))) := by
    have h := heap_new w (.cells (s.cells (.slice mo s.mem.length mcap)) 27)
    have k := (below_a (w.alloc (.cells (s.cells (.slice mo s.mem.length mcap)) 27)) (.cells ran0 33)).block w.heap.size (by simp)
    exact k.trans h
  have hs2 : ((w.alloc (.cells (s.cells (.slice mo s.mem.length mcap)) 27)).alloc (.cells ran0 33)).heap.size = w.heap.size + 2 := by simp
  have HS2 := hideI hs2
  clear hs2
  have WR := hideI (rwrongS_any s (.slice mo s.mem.length mcap) _ ((unhideI HM).step (unhideI K2)))
  unfold St.cells ran0 at K2 G2 HS2
  unfold St.cells at S2
  unfold St.val St.cells ran0 at WR
  have SG : Hid (s.wrong = 0 → s.mem.length ≤ 65536 ∧ s.good = true) := fun h => by
    unfold St.wrong at h
    split at h
    · omega
    · split at h
      · exact ⟨by omega, by assumption⟩
      · omega
  by_cases h1 : 65536 < xs.length
  · have hR : Hid (runA xs s bs F = (zeroMa, 4)) := by unfold Hid runA; rw [if_pos h1]
    rw [unhideI hR]
    have b1 : decide ((65536 : Int) < xs.length) = true := by simp; omega
    unfold St.val St.cells
    go_enter Try.func22, Try.ntmps22
    go_wp2_with (refine wpList_store_row rfl 33 (.tmp 8) (.tmp 25) rfl (w.heap.size + 1) #[.int .i64 0, .int .i64 0, .slice none 0 0, .int .i64 0, .int .i64 0, .int .i64 0, .int .i64 0, .int .i64 0, .int .i64 0, .int .i64 0, .int .i64 0, .int .i64 0, .int .i64 0, .bool false, .bool false, .bool false, .bool false, .int .i64 0, .slice none 0 0] rfl rfl 33 #[.int .i64 0, .int .i64 0, .slice none 0 0, .int .i64 0, .int .i64 0, .int .i64 0, .int .i64 0, .int .i64 0, .int .i64 0, .int .i64 0, .int .i64 0, .int .i64 0, .int .i64 0, .bool false, .bool false, .bool false, .bool false, .int .i64 0, .slice none 0 0] (unhideI G2) Try.sizeRan rfl ran0_one ?_; have HG := hideI (setRow_heap _ (w.heap.size + 1) _ #[.int .i64 0, .int .i64 0, .slice none 0 0, .int .i64 0, .int .i64 0, .int .i64 0, .int .i64 0, .int .i64 0, .int .i64 0, .int .i64 0, .int .i64 0, .int .i64 0, .int .i64 0, .bool false, .bool false, .bool false, .bool false, .int .i64 0, .slice none 0 0] _ _ (unhideI G2)); have HK := hideI (Below.row (unhideI K2) (by omega : w.heap.size ≤ w.heap.size + 1) #[.int .i64 0, .int .i64 0, .slice none 0 0, .int .i64 0, .int .i64 0, .int .i64 0, .int .i64 0, .int .i64 0, .int .i64 0, .int .i64 0, .int .i64 0, .int .i64 0, .int .i64 0, .bool false, .bool false, .bool false, .bool false, .int .i64 0, .slice none 0 0]))
    exact bodyPost_ret (results_row_tmp Try.results22 _ _ (w.heap.size + 1) 33 ran0 (0, 0) _ _ rfl rfl (unhideI HG) Try.underlying33 rfl Try.sizeRan) rfl (run_none (unhideI HK) 4)
  have b1 : decide ((65536 : Int) < xs.length) = false := by simp; omega
  by_cases h2 : 65536 < bs.length
  · have hR : Hid (runA xs s bs F = (zeroMa, 4)) := by unfold Hid runA; rw [if_neg h1, if_pos h2]
    rw [unhideI hR]
    have b2 : decide ((65536 : Int) < bs.length) = true := by simp; omega
    unfold St.val St.cells
    go_enter Try.func22, Try.ntmps22
    go_wp2_with (refine wpList_store_row rfl 33 (.tmp 8) (.tmp 25) rfl (w.heap.size + 1) #[.int .i64 0, .int .i64 0, .slice none 0 0, .int .i64 0, .int .i64 0, .int .i64 0, .int .i64 0, .int .i64 0, .int .i64 0, .int .i64 0, .int .i64 0, .int .i64 0, .int .i64 0, .bool false, .bool false, .bool false, .bool false, .int .i64 0, .slice none 0 0] rfl rfl 33 #[.int .i64 0, .int .i64 0, .slice none 0 0, .int .i64 0, .int .i64 0, .int .i64 0, .int .i64 0, .int .i64 0, .int .i64 0, .int .i64 0, .int .i64 0, .int .i64 0, .int .i64 0, .bool false, .bool false, .bool false, .bool false, .int .i64 0, .slice none 0 0] (unhideI G2) Try.sizeRan rfl ran0_one ?_; have HG := hideI (setRow_heap _ (w.heap.size + 1) _ #[.int .i64 0, .int .i64 0, .slice none 0 0, .int .i64 0, .int .i64 0, .int .i64 0, .int .i64 0, .int .i64 0, .int .i64 0, .int .i64 0, .int .i64 0, .int .i64 0, .int .i64 0, .bool false, .bool false, .bool false, .bool false, .int .i64 0, .slice none 0 0] _ _ (unhideI G2)); have HK := hideI (Below.row (unhideI K2) (by omega : w.heap.size ≤ w.heap.size + 1) #[.int .i64 0, .int .i64 0, .slice none 0 0, .int .i64 0, .int .i64 0, .int .i64 0, .int .i64 0, .int .i64 0, .int .i64 0, .int .i64 0, .int .i64 0, .int .i64 0, .int .i64 0, .bool false, .bool false, .bool false, .bool false, .int .i64 0, .slice none 0 0]))
    exact bodyPost_ret (results_row_tmp Try.results22 _ _ (w.heap.size + 1) 33 ran0 (0, 0) _ _ rfl rfl (unhideI HG) Try.underlying33 rfl Try.sizeRan) rfl (run_none (unhideI HK) 4)
  have b2 : decide ((65536 : Int) < bs.length) = false := by simp; omega
  have hR : Hid (runA xs s bs F = if s.wrong = 0 then (if F < 0 then (zeroMa, 3) else if 1000000 < F then (zeroMa, 3) else (Ma.run xs bs F.toNat (startM s), 0)) else (zeroMa, s.wrong)) := by unfold Hid runA; rw [if_neg h1, if_neg h2]
  rw [unhideI hR]
  clear hR
  unfold St.val St.cells
  generalize s.wrong = er at *
  by_cases h3 : er = 0
  · subst h3
    rw [if_pos rfl]
    by_cases h4 : F < 0 ∨ 1000000 < F
    · rw [show (if F < 0 then (zeroMa, (3 : Int)) else if 1000000 < F then (zeroMa, 3) else (Ma.run xs bs F.toNat (startM s), 0)) = (zeroMa, 3) by
        rcases h4 with h | h
        · rw [if_pos h]
        · rw [if_neg (by omega), if_pos h]]
      rcases h4 with h4 | h4
      · have b4 : decide (F < 0) = true := by simp [h4]
        go_enter Try.func22, Try.ntmps22
        go_wp2_with (refine wpList_load_row rfl 27 (.tmp 5) rfl w.heap.size rfl _ _ _ _ (unhideI S2) Try.underlying27 rfl Try.sizeState3 ?_)
        refine (unhideI WR).mono ?_
        rintro e w3 ⟨rfl, k3⟩
        have K3 := hideI (bt (unhideI K2) k3)
        have G3 := hideI ((k3.block (w.heap.size + 1) (by have := unhideI HS2; omega)).trans (unhideI G2))
        clear k3
        go_wp2_with (refine wpList_store_row rfl 33 (.tmp 8) (.tmp 38) rfl (w.heap.size + 1) #[.int .i64 0, .int .i64 0, .slice none 0 0, .int .i64 0, .int .i64 0, .int .i64 0, .int .i64 0, .int .i64 0, .int .i64 0, .int .i64 0, .int .i64 0, .int .i64 0, .int .i64 0, .bool false, .bool false, .bool false, .bool false, .int .i64 0, .slice none 0 0] rfl rfl 33 #[.int .i64 0, .int .i64 0, .slice none 0 0, .int .i64 0, .int .i64 0, .int .i64 0, .int .i64 0, .int .i64 0, .int .i64 0, .int .i64 0, .int .i64 0, .int .i64 0, .int .i64 0, .bool false, .bool false, .bool false, .bool false, .int .i64 0, .slice none 0 0] (unhideI G3) Try.sizeRan rfl ran0_one ?_; have HG := hideI (setRow_heap _ (w.heap.size + 1) _ #[.int .i64 0, .int .i64 0, .slice none 0 0, .int .i64 0, .int .i64 0, .int .i64 0, .int .i64 0, .int .i64 0, .int .i64 0, .int .i64 0, .int .i64 0, .int .i64 0, .int .i64 0, .bool false, .bool false, .bool false, .bool false, .int .i64 0, .slice none 0 0] _ _ (unhideI G3)); have HK := hideI (Below.row (unhideI K3) (by omega : w.heap.size ≤ w.heap.size + 1) #[.int .i64 0, .int .i64 0, .slice none 0 0, .int .i64 0, .int .i64 0, .int .i64 0, .int .i64 0, .int .i64 0, .int .i64 0, .int .i64 0, .int .i64 0, .int .i64 0, .int .i64 0, .bool false, .bool false, .bool false, .bool false, .int .i64 0, .slice none 0 0]))
        exact bodyPost_ret (results_row_tmp Try.results22 _ _ (w.heap.size + 1) 33 ran0 (0, 0) _ _ rfl rfl (unhideI HG) Try.underlying33 rfl Try.sizeRan) rfl (run_none (unhideI HK) 3)
      · have b4 : decide (F < 0) = false := by simp; omega
        have b5 : decide (1000000 < F) = true := by simp [h4]
        go_enter Try.func22, Try.ntmps22
        go_wp2_with (refine wpList_load_row rfl 27 (.tmp 5) rfl w.heap.size rfl _ _ _ _ (unhideI S2) Try.underlying27 rfl Try.sizeState3 ?_)
        refine (unhideI WR).mono ?_
        rintro e w3 ⟨rfl, k3⟩
        have K3 := hideI (bt (unhideI K2) k3)
        have G3 := hideI ((k3.block (w.heap.size + 1) (by have := unhideI HS2; omega)).trans (unhideI G2))
        clear k3
        go_wp2_with (refine wpList_store_row rfl 33 (.tmp 8) (.tmp 38) rfl (w.heap.size + 1) #[.int .i64 0, .int .i64 0, .slice none 0 0, .int .i64 0, .int .i64 0, .int .i64 0, .int .i64 0, .int .i64 0, .int .i64 0, .int .i64 0, .int .i64 0, .int .i64 0, .int .i64 0, .bool false, .bool false, .bool false, .bool false, .int .i64 0, .slice none 0 0] rfl rfl 33 #[.int .i64 0, .int .i64 0, .slice none 0 0, .int .i64 0, .int .i64 0, .int .i64 0, .int .i64 0, .int .i64 0, .int .i64 0, .int .i64 0, .int .i64 0, .int .i64 0, .int .i64 0, .bool false, .bool false, .bool false, .bool false, .int .i64 0, .slice none 0 0] (unhideI G3) Try.sizeRan rfl ran0_one ?_; have HG := hideI (setRow_heap _ (w.heap.size + 1) _ #[.int .i64 0, .int .i64 0, .slice none 0 0, .int .i64 0, .int .i64 0, .int .i64 0, .int .i64 0, .int .i64 0, .int .i64 0, .int .i64 0, .int .i64 0, .int .i64 0, .int .i64 0, .bool false, .bool false, .bool false, .bool false, .int .i64 0, .slice none 0 0] _ _ (unhideI G3)); have HK := hideI (Below.row (unhideI K3) (by omega : w.heap.size ≤ w.heap.size + 1) #[.int .i64 0, .int .i64 0, .slice none 0 0, .int .i64 0, .int .i64 0, .int .i64 0, .int .i64 0, .int .i64 0, .int .i64 0, .int .i64 0, .int .i64 0, .int .i64 0, .int .i64 0, .bool false, .bool false, .bool false, .bool false, .int .i64 0, .slice none 0 0]))
        exact bodyPost_ret (results_row_tmp Try.results22 _ _ (w.heap.size + 1) 33 ran0 (0, 0) _ _ rfl rfl (unhideI HG) Try.underlying33 rfl Try.sizeRan) rfl (run_none (unhideI HK) 3)
    · rw [if_neg (by omega), if_neg (by omega)]
      have b4 : decide (F < 0) = false := by simp; omega
      have b5 : decide (1000000 < F) = false := by simp; omega
      obtain ⟨N, hN⟩ : ∃ N : Nat, F.toNat = N := ⟨_, rfl⟩
      have hF : F = (N : Int) := by omega
      rw [hN]
      subst hF
      have hN9 : N ≤ 1000000 := by omega
      clear hN h4
      have FN := hideI (good_fine s bs (unhideI SG rfl).2 (unhideI HB))
      have t0 : (startM s).took = 0 := rfl
      have o0 : (startM s).how = 0 := rfl
      generalize hRR : Ma.run xs bs N (startM s) = R
      have HR : Hid (R = Ma.run xs bs N (startM s)) := hRR.symm
      clear hRR SG
      go_enter Try.func22, Try.ntmps22
      go_wp2_with (refine wpList_load_row rfl 27 (.tmp 5) rfl w.heap.size rfl _ _ _ _ (unhideI S2) Try.underlying27 rfl Try.sizeState3 ?_)
      refine (unhideI WR).mono ?_
      rintro e w3 ⟨rfl, k3⟩
      have K3 := hideI (bt (unhideI K2) k3)
      have hs3 := k3.size
      have hzz2 := unhideI HS2
      have G3 := hideI ((k3.block (w.heap.size + 1) (by omega)).trans (unhideI G2))
      have S3 := hideI ((k3.block w.heap.size (by omega)).trans (unhideI S2))
      have lw3 : w.heap.size + 2 ≤ w3.heap.size := by omega
      have BX0 := hideI (start_bx (T := 70) (unhideI FN) ((unhideI HC).step (unhideI K3)) ((unhideI HM).step (unhideI K3)) (Lies.step (unhideI HI) (unhideI K3)))
      unfold cellsX startM at BX0
      simp only [show ((0 : Nat) : Int) = 0 from rfl] at BX0
      have hmm := @run_makeMap Try.prog
      clear k3 hs3 hzz2 K2 G2 S2 HS2 WR FN HC HI HM
      go_wp2_with (refine wpList_load_row rfl 27 (.tmp 5) rfl w.heap.size rfl _ _ _ _ (unhideI S3) Try.underlying27 rfl Try.sizeState3 ?_)
      clear hmm
      generalize (w3.alloc (.map #[] 0)).alloc (.cells #[.slice co xs.length ccap, .int .i64 (s.r 0), .int .i64 (s.r 1), .int .i64 (s.r 2), .int .i64 (s.r 3), .int .i64 (s.r 4), .int .i64 (s.r 5), .int .i64 (s.r 6), .int .i64 (s.r 7), .bool s.c, .bool s.z, .bool s.n, .bool s.v, .int .i64 s.pc, .slice mo s.mem.length mcap, .map (some w3.heap.size), .slice io bs.length icap, .int .i64 0, .slice none 0 0, .int .i64 0, .int .i64 0] 70) = w4 at *
      go_loopg [12] (N + 1) (fun g t wr => ∃ (k : Nat) (m : Ma) (vo : Value) (n : Nat), Hid (BX w3 wr (w3.heap.size + 1) w3.heap.size n (.slice co xs.length ccap) (.slice mo s.mem.length mcap) (.slice io bs.length icap) vo m s.mem xs bs) ∧ Hid (R = Ma.run xs bs k m) ∧ (n : Int) ≤ m.took ∧ m.took ≤ N ∧ t = .int .i64 m.how ∧ ((m.how = 0 ∧ g = k + 1 ∧ m.took + k = N) ∨ (¬ m.how = 0 ∧ g = 0)))
      case atStart => exact ⟨N, startM s, _, 0, BX0, HR, by rw [t0]; exact Int.le_refl _, by rw [t0]; omega, rfl, .inl ⟨o0, rfl, by rw [t0]; omega⟩⟩
      case round =>
        obtain ⟨k, m, vo, n, M, he, hnt, htN, rfl, hor⟩ := hrel
        clear BX0 HR
        have c20 := (unhideI M).at.2.2.2.2.2.2.2.2.2.2.2.2
        have fz := (unhideI M).flat
        have hpw := (unhideI M).pw
        rcases hor with ⟨ho, hg, htk⟩ | ⟨ho, hg⟩
        · have b6 : (m.how == 0) = true := by simp [ho]
          cases k with
          | zero =>
            have htk' : m.took = N := by omega
            have b7 : (m.took == (N : Int)) = true := by simp [htk']
            have P1 := hideI ((unhideI M).how 3)
            have e1 : Hid (R = Ma.run xs bs 0 ({ m with how := 3 } : Ma)) := by
              have := unhideI he
              unfold Ma.run at this
              rw [if_pos ho] at this
              unfold Hid
              rw [this, run_end _ _ _ _ (by show ¬ (3 : Int) = 0; decide)]
            have HTK := hideI htk'
            clear htk'
            go_wp2_with fail
            go_roundg 0
            case measure => omega
            case rel => exact ⟨0, { m with how := 3 }, _, n, P1, e1, hnt, htN, rfl, .inr ⟨by show ¬ (3 : Int) = 0; decide, rfl⟩⟩
          | succ k =>
            have b7 : (m.took == (N : Int)) = false := by simp; omega
            have e1 : Hid (R = Ma.run xs bs k (m.step xs bs)) := by
              have := unhideI he
              unfold Ma.run at this
              rw [if_pos ho] at this
              exact this
            have ts := step_took m xs bs
            have P1 := hideI ((unhideI M).put (m' := ({ m with took := m.took + 1 } : Ma)) 20 (.int .i64 (m.took + 1)) (by decide) rfl rfl rfl { (unhideI M).fine with })
            have S := hideI (step3_any (unhideI P1) ho (by omega))
            rw [stp_step] at S
            have HO := hideI ho
            clear ho he P1
            generalize m.step xs bs = m1 at *
            have hwr := wrap_ok (x := m.took + 1) (by omega) (by omega)
            have HT := hideI ts
            clear ts
            go_wp2_with fail
            refine (unhideI S).mono ?_
            intro e w5 hS
            obtain ⟨vo5, n5, rfl, hn5, M5⟩ := hS
            have HM5 := hideI M5
            clear M5 S
            go_wp2_with fail
            go_roundg (if m1.how = 0 then k + 1 else 0)
            case measure => split <;> omega
            case rel =>
              have ts := unhideI HT
              refine ⟨k, m1, vo5, n5, HM5, e1, by omega, by omega, rfl, ?_⟩
              by_cases hh : m1.how = 0
              · exact .inl ⟨hh, by rw [if_pos hh], by omega⟩
              · exact .inr ⟨hh, by rw [if_neg hh]⟩
        · have b6 : (m.how == 0) = false := by simp [ho]
          have e1 : Hid (R = m) := by unfold Hid; rw [unhideI he, run_end _ _ _ _ ho]
          clear he hnt htN c20 fz hpw
          obtain ⟨NN, hNN⟩ : ∃ NN : Nat, NN = 65536 := ⟨_, rfl⟩
          have HNN := hideI hNN
          clear hNN
          go_wp2_with fail
          generalize wr = w5 at *
          have sz5 := (unhideI M).low.size
          go_loopg [13, 14, 15] NN (fun g v l t wr => ∃ i : Nat, i ≤ NN ∧ g = NN - i ∧ t = .int .i64 (i : Int) ∧ l = .int .i64 ((lastN m.mem i : Nat) : Int) ∧ Hid (wr.ownsRow w5.heap.size 3 1 v i (((List.range i).map m.mem).map int1)) ∧ Hid (Below w5.heap.size w5 wr))
          case atStart => exact ⟨0, by omega, rfl, rfl, rfl, World.ownsRow_nil _ _ _ _, hideI (Below.refl _ _)⟩
          case round =>
            obtain ⟨i, hi, hg9, rfl, rfl, hO, hK⟩ := hrel
            have M6 := hideI ((unhideI M).step (unhideI hK))
            have sk := (unhideI hK).size
            by_cases hlt : i < NN
            · have hN6 := unhideI HNN
              have hil : (i : Int) < 65536 := by omega
              have i65 : i < 65536 := by omega
              have LD := load3_any (unhideI M6) (i : Int) (by omega) (by omega)
              have el : m.ld (lw (i : Int)) = m.mem i := by rw [lw_nat i65]; rfl
              rw [el] at LD
              have et : ((List.range (i + 1)).map m.mem).map int1 = ((List.range i).map m.mem).map int1 ++ [.int .i64 (m.mem i)] := by rw [List.range_succ, List.map_append, List.map_append]; rfl
              have ET := hideI et
              have es := lastN_step m.mem i
              have LST := hideI LD
              clear hN6 el et LD i65
              generalize hlast : lastN m.mem i = la at *
              generalize m.mem i = y at *
              by_cases hy : y = 0
              · rw [if_pos hy] at es
                have ES := hideI es
                have by0 : (y != 0) = false := by simp [hy]
                have HY := hideI hy
                clear es hy hlast
                go_wp2_with fail
                refine (unhideI LST).mono ?_
                rintro e w7 ⟨rfl, hw7⟩
                subst w7
                go_wp2_with (at_builtin; refine wpList_append_own _ rfl (.tmp 69) (.tmp 71) 22 rfl w5.heap.size 3 i0 (.int .i64 0) 1 8 Try.underlying22 hi0 hz0 hz1 hz2 rfl (by decide) _ _ _ rfl ((unhideI hO).alloc _) ⟨_, 0, none⟩ 1 1 [.int .i64 y] rfl rfl (one_c1 _ _ _) (one_c2 _ _) (by unfold maxLen; omega) (by omega) (by simp; omega) ?_; intro v8 w8 own8 grow8 _; have O8 := hideI (show w8.ownsRow w5.heap.size 3 1 v8 (i + 1) (((List.range (i + 1)).map m.mem).map int1) by rw [unhideI ET]; exact own8); have K8 := hideI (below_own ((unhideI hK).alloc (by omega) _) (by simp; omega) ((unhideI hO).alloc _) grow8); clear own8 grow8)
                go_roundg (NN - (i + 1))
                case measure => omega
                case rel => exact ⟨i + 1, by omega, rfl, by go_num, by first | (rw [unhideI ES]; done) | (rw [unhideI ES]; rfl) | (rw [unhideI ES]; go_num), O8, K8⟩
              · rw [if_neg hy] at es
                have ES := hideI es
                have by0 : (y != 0) = true := by simp [hy]
                have HY := hideI hy
                clear es hy hlast
                go_wp2_with fail
                refine (unhideI LST).mono ?_
                rintro e w7 ⟨rfl, hw7⟩
                subst w7
                go_wp2_with (at_builtin; refine wpList_append_own _ rfl (.tmp 69) (.tmp 71) 22 rfl w5.heap.size 3 i0 (.int .i64 0) 1 8 Try.underlying22 hi0 hz0 hz1 hz2 rfl (by decide) _ _ _ rfl ((unhideI hO).alloc _) ⟨_, 0, none⟩ 1 1 [.int .i64 y] rfl rfl (one_c1 _ _ _) (one_c2 _ _) (by unfold maxLen; omega) (by omega) (by simp; omega) ?_; intro v8 w8 own8 grow8 _; have O8 := hideI (show w8.ownsRow w5.heap.size 3 1 v8 (i + 1) (((List.range (i + 1)).map m.mem).map int1) by rw [unhideI ET]; exact own8); have K8 := hideI (below_own ((unhideI hK).alloc (by omega) _) (by simp; omega) ((unhideI hO).alloc _) grow8); clear own8 grow8)
                go_roundg (NN - (i + 1))
                case measure => omega
                case rel => exact ⟨i + 1, by omega, rfl, by go_num, by first | (rw [unhideI ES]; done) | (rw [unhideI ES]; rfl) | (rw [unhideI ES]; go_num), O8, K8⟩
            · have hil : ¬ (i : Int) < 65536 := by have := unhideI HNN; omega
              have hi6 : Hid (i = 65536) := by unfold Hid; have := unhideI HNN; omega
              have IL := Lies.owned (unhideI hO)
              have HL := hideI (show Ints wr _ ((List.range i).map m.mem) by unfold Ints; rw [show ((List.range i).map m.mem).length = i by simp]; exact IL)
              obtain ⟨lo, lc, hv, -, hat⟩ := (unhideI HL).at
              rw [show ((List.range i).map m.mem).length = i by simp] at hv
              subst hv
              have hcap := Lies.cap IL
              have hne : (List.range i).map m.mem ≠ [] := by
                intro h
                have h9 : ((List.range i).map m.mem).length = 0 := by rw [h]; rfl
                rw [show ((List.range i).map m.mem).length = i by simp] at h9
                have := unhideI hi6
                omega
              obtain ⟨lb, lo9, rfl, hlb, hlc⟩ := hat hne
              clear hne
              have HCC := hideI (fun (j : Nat) (hj : j < i) => (show wr.cell? ⟨lb, lo9 + j, none⟩ = some (.int .i64 (m.mem j)) by rw [hlc j (by simpa using hj)]; simp))
              have hlbo := ((unhideI hO).lt lb rfl).1
              have hla := lastN_le m.mem i
              have hmL : Hid (memL m.mem = (List.range (lastN m.mem i)).map m.mem) := by unfold Hid; rw [unhideI hi6]; unfold memL; rfl
              obtain ⟨ov, oc, hvo⟩ := own_slc (unhideI M6).own
              subst hvo
              have hcap1 := hcap.1
              have hcap2 := hcap.2
              have HCAP := hideI hcap2
              unfold maxLen at hcap2
              have O6 := hideI (show Byts wr (.slice ov m.out.length oc) m.out by
                have := Lies.owned (unhideI M6).own
                unfold Byts
                exact this)
              have OB := hideI (unhideI M6).own.lt
              have KK := hideI ((unhideI K3).trans ((unhideI M6).low.mono (unhideI K3).size))
              have GG := hideI (((unhideI M6).low.block (w.heap.size + 1) (by omega)).trans (unhideI G3))
              have BB := hideI ((unhideI M6).box)
              have c14 := (unhideI M6).at.2.2.2.2.2.2.1
              have fz := (unhideI M6).flat
              have hpw := (unhideI M6).pw
              have hpw5 := (unhideI M).pw
              have HO9 := hideI (unhideI M6).ho
              clear HL IL hat hlc hcap hO hK M6 M K3 G3 S3 hlt hg9
              generalize lastN m.mem i = la at *
              go_wp2_with fail
              have B9 := hideI ((unhideI BB).set (j := 14) (u := (.slice (some ⟨lb, lo9, none⟩) la lc)) (by simp [cellsX]))
              have K9 := hideI ((unhideI KK).setCell (p := ⟨w3.heap.size + 1, 14, none⟩) (by show w.heap.size ≤ w3.heap.size + 1; omega) (.slice (some ⟨lb, lo9, none⟩) la lc))
              have G9 := hideI ((heap_setCell_other wr ⟨w3.heap.size + 1, 14, none⟩ (w.heap.size + 1) (.slice (some ⟨lb, lo9, none⟩) la lc) (by show w.heap.size + 1 ≠ w3.heap.size + 1; omega)).trans (unhideI GG))
              have hlp : lb ≠ w3.heap.size + 1 := by omega
              have I9 := hideI (show Ints (wr.setCell ⟨w3.heap.size + 1, 14, none⟩ (.slice (some ⟨lb, lo9, none⟩) la lc)) (.slice (some ⟨lb, lo9, none⟩) la lc) ((List.range la).map m.mem) from cut_lies (by simpa [World.setCell] using hlb) hla hcap1 (unhideI HCAP) (fun j hj => by rw [World.cell?_of_block (w := wr) (a := ⟨lb, lo9 + j, none⟩) (Below.heap_setCell _ _ _ _ hlp)]; exact unhideI HCC j hj))
              have O9 := hideI (Lies.other (b := w3.heap.size + 1) (j := 14) (u := (.slice (some ⟨lb, lo9, none⟩) la lc)) (unhideI O6) (fun k hk => ((unhideI HO9) k hk).1))
              rw [← unhideI hmL] at I9
              clear BB KK GG HCC O6 c14 fz hpw hla hlb hmL
              generalize wr.setCell ⟨w3.heap.size + 1, 14, none⟩ (.slice (some ⟨lb, lo9, none⟩) la lc) = w9 at *
              have BC := unhideI B9
              have x0 := BC.2.1 0 _ rfl
              have x1 := BC.2.1 1 _ rfl
              have x2 := BC.2.1 2 _ rfl
              have x3 := BC.2.1 3 _ rfl
              have x4 := BC.2.1 4 _ rfl
              have x5 := BC.2.1 5 _ rfl
              have x6 := BC.2.1 6 _ rfl
              have x7 := BC.2.1 7 _ rfl
              have x8 := BC.2.1 8 _ rfl
              have x9 := BC.2.1 9 _ rfl
              have x10 := BC.2.1 10 _ rfl
              have x11 := BC.2.1 11 _ rfl
              have x12 := BC.2.1 12 _ rfl
              have x13 := BC.2.1 13 _ rfl
              have x14 := BC.2.1 14 _ rfl
              have x15 := BC.2.1 15 _ rfl
              have x16 := BC.2.1 16 _ rfl
              have x17 := BC.2.1 17 _ rfl
              have x18 := BC.2.1 18 _ rfl
              have x19 := BC.2.1 19 _ rfl
              have x20 := BC.2.1 20 _ rfl
              have fz := BC.2.2
              clear BC B9
              have E9 : Hid (∀ k, (Value.slice ov m.out.length oc).ownBlock = some k → k ≠ w.heap.size + 1) := fun k hk => by have := (unhideI OB k hk).1; omega
              have F9 : Hid (∀ k, (Value.slice (some ⟨lb, lo9, none⟩) la lc).ownBlock = some k → k ≠ w.heap.size + 1) := fun k hk => by have : lb = k := Option.some.inj hk; omega
              refine wp_region_head 22 (by kernel_rfl) (by kernel_rfl) ?_
              simp only [List.take_succ_cons, List.take_zero, List.drop_succ_cons, List.drop_zero]
              repeat still_step
              refine wpStill_nil ?_
              go_wp2_with (refine wpList_store_row rfl 33 (.tmp 8) (.tmp 105) rfl (w.heap.size + 1) (ranC m (.slice ov m.out.length oc) (.slice (some ⟨lb, lo9, none⟩) la lc)) rfl rfl 33 #[.int .i64 0, .int .i64 0, .slice none 0 0, .int .i64 0, .int .i64 0, .int .i64 0, .int .i64 0, .int .i64 0, .int .i64 0, .int .i64 0, .int .i64 0, .int .i64 0, .int .i64 0, .bool false, .bool false, .bool false, .bool false, .int .i64 0, .slice none 0 0] (unhideI G9) Try.sizeRan rfl (ranC_one _ _ _ _ _ _ _) ?_)
              have HG := hideI (setRow_heap w9.drew (w.heap.size + 1) _ (ranC m (.slice ov m.out.length oc) (.slice (some ⟨lb, lo9, none⟩) la lc)) _ _ (unhideI G9))
              have HK := hideI (Below.row (unhideI K9).drew (by omega : w.heap.size ≤ w.heap.size + 1) (ranC m (.slice ov m.out.length oc) (.slice (some ⟨lb, lo9, none⟩) la lc)))
              have I10 := hideI (Lies.blk (w' := w9.drew.setRow (w.heap.size + 1) (ranC m (.slice ov m.out.length oc) (.slice (some ⟨lb, lo9, none⟩) la lc))) (unhideI I9) (by rw [size_setRow]; exact Nat.le_refl _) fun k hk => setRow_other _ _ _ _ (unhideI F9 k hk))
              have O10 := hideI (Lies.blk (w' := w9.drew.setRow (w.heap.size + 1) (ranC m (.slice ov m.out.length oc) (.slice (some ⟨lb, lo9, none⟩) la lc))) (unhideI O9) (by rw [size_setRow]; exact Nat.le_refl _) fun k hk => setRow_other _ _ _ _ (unhideI E9 k hk))
              have e2 := unhideI e1
              subst e2
              exact bodyPost_ret (results_row_tmp Try.results22 _ _ (w.heap.size + 1) 33 _ (0, 0) _ _ rfl rfl (unhideI HG) Try.underlying33 rfl Try.sizeRan) rfl ⟨_, _, rfl, unhideI I10, unhideI O10, unhideI HK⟩
  · rw [if_neg h3]
    have b3 : (er != 0) = true := by simp [h3]
    go_enter Try.func22, Try.ntmps22
    go_wp2_with (refine wpList_load_row rfl 27 (.tmp 5) rfl w.heap.size rfl _ _ _ _ (unhideI S2) Try.underlying27 rfl Try.sizeState3 ?_)
    refine (unhideI WR).mono ?_
    rintro e w3 ⟨rfl, k3⟩
    have K3 := hideI (bt (unhideI K2) k3)
    have G3 := hideI ((k3.block (w.heap.size + 1) (by have := unhideI HS2; omega)).trans (unhideI G2))
    clear k3
    go_wp2_with (refine wpList_store_row rfl 33 (.tmp 8) (.tmp 30) rfl (w.heap.size + 1) #[.int .i64 0, .int .i64 0, .slice none 0 0, .int .i64 0, .int .i64 0, .int .i64 0, .int .i64 0, .int .i64 0, .int .i64 0, .int .i64 0, .int .i64 0, .int .i64 0, .int .i64 0, .bool false, .bool false, .bool false, .bool false, .int .i64 0, .slice none 0 0] rfl rfl 33 #[.int .i64 0, .int .i64 0, .slice none 0 0, .int .i64 0, .int .i64 0, .int .i64 0, .int .i64 0, .int .i64 0, .int .i64 0, .int .i64 0, .int .i64 0, .int .i64 0, .int .i64 0, .bool false, .bool false, .bool false, .bool false, .int .i64 0, .slice none 0 0] (unhideI G3) Try.sizeRan rfl ran0_one ?_; have HG := hideI (setRow_heap _ (w.heap.size + 1) _ #[.int .i64 0, .int .i64 0, .slice none 0 0, .int .i64 0, .int .i64 0, .int .i64 0, .int .i64 0, .int .i64 0, .int .i64 0, .int .i64 0, .int .i64 0, .int .i64 0, .int .i64 0, .bool false, .bool false, .bool false, .bool false, .int .i64 0, .slice none 0 0] _ _ (unhideI G3)); have HK := hideI (Below.row (unhideI K3) (by omega : w.heap.size ≤ w.heap.size + 1) #[.int .i64 0, .int .i64 0, .slice none 0 0, .int .i64 0, .int .i64 0, .int .i64 0, .int .i64 0, .int .i64 0, .int .i64 0, .int .i64 0, .int .i64 0, .int .i64 0, .int .i64 0, .bool false, .bool false, .bool false, .bool false, .int .i64 0, .slice none 0 0]))
    exact bodyPost_ret (results_row_tmp Try.results22 _ _ (w.heap.size + 1) 33 ran0 (0, 0) _ _ rfl rfl (unhideI HG) Try.underlying33 rfl Try.sizeRan) rfl (run_none (unhideI HK) er)
end Go.Proofs.Ytjlbenbfmookoaa
