/-
  RtP.
-/
import Derived.Test.YtlkoidkdeopgjaaGreatDoorha
import Derived.Test.YtlkoidkdeopgjaaGreatDoormc
import Derived.Test.YtlkoidkdeopgjaaGreatDoorkl
set_option maxHeartbeats 4000000
set_option maxRecDepth 100000
namespace Go.Proofs.YtlkoidkdeopgjaaGreatDoor
open Go.RowKit Go.Maps
set_option linter.unusedSimpArgs false
set_option linter.unusedVariables false
def callR (nm : ByteArray) : List Ln := [⟨⟨#[109, 97, 105, 110]⟩, ⟨0, 0, 0, 0⟩, ⟨#[]⟩⟩, ⟨⟨#[]⟩, ⟨26, 0, 0, 0⟩, nm⟩, ⟨⟨#[]⟩, ⟨0, 0, 0, 0⟩, ⟨#[]⟩⟩]
def unR (nm : ByteArray) : List Un := unL ++ [⟨⟨#[]⟩, callR nm⟩]
def lkOk (R : Im × Int × Int) (xs : List Int) : Bool := R.2.1 == 0 && R.1.words == xs
def fillV (k : Nat) (fill : Int) : List Value := List.replicate k (int1 fill) ++ List.replicate (65536 - k) (int1 0)
theorem fillV_set {k : Nat} {fill : Int} (h : k < 65536) : (fillV k fill).set k (.int .i64 fill) = fillV (k + 1) fill := by
 unfold fillV
 apply List.ext_getElem?
 intro j
 have l1 : (List.replicate k (int1 fill)).length = k := List.length_replicate
 have l2 : (List.replicate (k + 1) (int1 fill)).length = k + 1 := List.length_replicate
 have l3 : (List.replicate (65536 - k) (int1 0)).length = 65536 - k := List.length_replicate
 have l4 : (List.replicate (65536 - (k + 1)) (int1 0)).length = 65536 - (k + 1) := List.length_replicate
 by_cases h1 : j < k
 · rw [List.getElem?_set_ne (by omega), List.getElem?_append_left (by omega), List.getElem?_append_left (by omega), List.getElem?_replicate, List.getElem?_replicate, if_pos h1, if_pos (by omega)]
 · by_cases h2 : j = k
   · subst h2
     rw [List.getElem?_set_self (by rw [List.length_append, l1, l3]; omega), List.getElem?_append_left (by omega), List.getElem?_replicate, if_pos (by omega)]; rfl
   · rw [List.getElem?_set_ne (by omega), List.getElem?_append_right (by omega), List.getElem?_append_right (by omega), l1, l2, List.getElem?_replicate, List.getElem?_replicate]
     by_cases h3 : j < 65536
     · rw [if_pos (by omega), if_pos (by omega)]
     · rw [if_neg (by omega), if_neg (by omega)]
theorem fillV_at {k : Nat} {fill : Int} (h : k < 65536) : (fillV k fill)[k]? = some (.int .i64 0) := by
 unfold fillV
 rw [List.getElem?_append_right (by rw [List.length_replicate]; omega), List.length_replicate, List.getElem?_replicate, if_pos (by omega)]; rfl
theorem fillV_end (fill : Int) : fillV 65536 fill = (fillL 65536 fill).map int1 := by
 unfold fillV fillL; rw [Nat.sub_self, List.replicate_zero, List.append_nil, List.map_replicate]
theorem made_any (N : Nat) : madeCells #[Value.int .i64 0] N = (List.replicate N (int1 0)).toArray := by
 apply Array.ext'
 have : (fun x : Nat => ([Value.int IntKind.i64 0][x % 1]?).getD default) = fun _ => Value.int IntKind.i64 0 := by funext x; simp [Nat.mod_one]
 simp [madeCells, this, List.map_const', int1]
theorem fillV_zero (fill : Int) : fillV 0 fill = List.replicate 65536 (int1 0) := by
 unfold fillV; rw [List.replicate_zero, List.nil_append, Nat.sub_zero]
theorem madeZ (u : World) (MC : Array Value) (h : MC = madeCells #[Value.int .i64 0] 65536) (fill : Int) : (u.alloc (.cells MC 3)).heap[u.heap.size]? = some (.cells (fillV 0 fill).toArray 3 (0, 0)) := by
 rw [h, made_any, fillV_zero]
 exact heap_new _ _
theorem row_cell {u : World} {g : Nat} {cs : List Value} {T : TypeId} (h : u.heap[g]? = some (.cells cs.toArray T (0, 0))) {j : Nat} {x : Value} (hx : cs[j]? = some x) : u.cell? ⟨g, j, none⟩ = some x := by
 simp [World.cell?, h, hx]
theorem row_frozen {u : World} {g : Nat} {cs : List Value} {T : TypeId} (h : u.heap[g]? = some (.cells cs.toArray T (0, 0))) (j : Nat) : u.frozen? ⟨g, j, none⟩ = false := by
 simp [World.frozen?, h]
theorem row_set {u : World} {g : Nat} {cs : List Value} {T : TypeId} (h : u.heap[g]? = some (.cells cs.toArray T (0, 0))) (j : Nat) (x : Value) : (u.setCell ⟨g, j, none⟩ x).heap[g]? = some (.cells (cs.set j x).toArray T (0, 0)) := by
 simp [World.setCell, Array.getElem?_modify, h]
theorem ints_row {u : World} {g N : Nat} {Z : List Int} (h : u.heap[g]? = some (.cells (Z.map int1).toArray 3 (0, 0))) (hZ : Z.length = N) (hN : N ≤ maxLen) : Ints u (.slice (some ⟨g, 0, none⟩) N N) Z := by
 subst hZ
 refine ⟨by simp, _, _, rfl, Nat.le_refl _, hN, (fun h => by cases h), fun _ => ⟨g, 0, rfl, (Array.getElem?_eq_some_iff.1 h).1, fun j hj => ?_⟩⟩
 have : (Z.map int1)[j]? = some ((Z.map int1)[j]'(by simp at hj ⊢; omega)) := List.getElem?_eq_getElem _
 rw [row_cell h (j := 0 + j) (by rw [Nat.zero_add]; exact this), this]
theorem copy_pos {u : World} {l : List Int} {ao : Option Addr} {cap g p : Nat} {dp : Option Addr} (h : Ints u (.slice ao l.length cap) l) (hd : dp = some ⟨g, p, none⟩) : 0 < (l.map int1).length → dp = some ⟨g, p, none⟩ ∧ ∃ ad, ao = some ad ∧ ∀ j v, (l.map int1)[j]? = some v → u.cell? (ad.add j) = some v := by
 intro h0
 refine ⟨hd, ?_⟩
 rcases Lies.src h with ⟨e, e2, -⟩ | ⟨ad, cp, e, -, hcell⟩
 · rw [List.length_map] at h0; omega
 · have e3 : ao = some ad := by simp at e; exact e.1
   exact ⟨ad, e3, hcell⟩
theorem ints_one (l : List Int) : ∀ u ∈ l.map int1, u.oneCell' = true := by
 intro u hu; obtain ⟨i, _, rfl⟩ := List.mem_map.1 hu; rfl
theorem call_lines (u : World) (nm : ByteArray) : Lns (u.alloc (.cells #[.string ⟨#[109, 97, 105, 110]⟩, .int .i64 0, .int .i64 0, .int .i64 0, .int .i64 0, .string ⟨#[]⟩, .string ⟨#[]⟩, .int .i64 26, .int .i64 0, .int .i64 0, .int .i64 0, .string nm, .string ⟨#[]⟩, .int .i64 0, .int .i64 0, .int .i64 0, .int .i64 0, .string ⟨#[]⟩] 75)) (.slice (some ⟨u.heap.size, 0, none⟩) 3 3) (callR nm) :=
 Lies.owned (own_new u _ 75 6 3 rfl (by unfold maxLen; omega))
theorem results_cell_tmp2 {fn : Func} {p u v : Tmp} {ty : TypeId} (h : fn.results = #[.cell p ty, .tmp u, .tmp v]) (tmps : Array Value) (P : Program) (w : World) :
   (results fn tmps).run P w =
     ((asAddr (tmps.getD p undef)).run P w).andThen fun a w₁ => ((loadVar ty a).run P w₁).andThen fun y w₂ => .ok (.tuple #[y, tmps.getD u undef, tmps.getD v undef]) w₂ := by
 simp only [results, h]
 simp [Sem.run_bind, Result.andThen]
theorem results_row2 {P : Program} {fn : Func} {p u v : Tmp} {ty : TypeId} (h : fn.results = #[.cell p ty, .tmp u, .tmp v]) (tmps : Array Value) (w : World) (g : Nat) (t : TypeId) (cs : Array Value) (fr : Nat × Nat) (d : TypeDesc) (x y : Value)
   (hp : tmps.getD p undef = .pointer (some ⟨g, 0, none⟩)) (hx : tmps.getD u undef = x) (hy : tmps.getD v undef = y) (hg : w.heap[g]? = some (.cells cs t fr))
   (hu : P.underlying ty = some d) (hd : (match d with | .struct _ | .array _ _ => true | _ => false) = true) (hi : (P.info? ty).map (·.size) = some cs.size) :
   (results fn tmps).run P w = .ok (.tuple #[.agg cs, x, y]) w := by
 rw [results_cell_tmp2 h, hp, hx, hy]
 simp [asAddr, run_loadVar_row w g t ty cs fr d hg hu hd hi]
theorem store_new (w : World) (a b : Array Value) (T : TypeId) : Box ((w.alloc (.cells a T)).setRow w.heap.size b) w.heap.size b.toList ∧ Below w.heap.size w ((w.alloc (.cells a T)).setRow w.heap.size b) :=
 ⟨Box.heap (setRow_heap _ _ _ b _ _ (heap_new w (.cells a T))), Below.row (below_a _ _) (Nat.le_refl _) _⟩
theorem store_heap (w : World) (a b : Array Value) (T : TypeId) : ((w.alloc (.cells a T)).setRow w.heap.size b).heap[w.heap.size]? = some (.cells b T (0, 0)) := setRow_heap _ _ _ b _ _ (heap_new w (.cells a T))
def PlayRet (w : World) (M : Ma) (Z : List Int) (e : Ending) (w' : World) : Prop :=
 ∃ vo vm g NN, e = .returned (.tuple #[ranV M vo vm, .slice (some ⟨g, 0, none⟩) NN NN, .bool true]) ∧ NN = 65536 ∧ Ints w' vm (memL M.mem) ∧ Byts w' vo M.out ∧ w'.heap[g]? = some (.cells (Z.map int1).toArray 3 (0, 0)) ∧ w.heap.size ≤ g ∧ (∀ k, vm.ownBlock = some k → k ≠ g) ∧ Below w.heap.size w w'
theorem memZ_map (fill : Int) (p : Nat) (a : List Int) (q : Nat) (b : List Int) : (memZ fill p a q b).map int1 = splice (splice ((fillL 65536 fill).map int1) p (a.map int1)) q (b.map int1) := by
 unfold memZ; rw [splice_map, splice_map]
theorem play_any (nm : ByteArray) (xs : List Int) (hk : lkOk (linkL (unR nm) [109, 97, 105, 110]) xs = true) (a b : List Int) (va vb : Value) (p q sp : Nat) (fill : Int) (M : Ma) (w : World) (G : Ga w) (ha : Ints w va a) (hb : Ints w vb b) (hp : p + a.length ≤ 65536) (hq : q + b.length ≤ 65536) (ha1 : 1 ≤ a.length) (hb1 : 1 ≤ b.length) (hR : runA xs (stR p q sp fill (memZ fill p a q b)) [] 1000000 = (M, 0)) :
   Calls Tryz.prog 30 #[.string nm, va, vb, .int .i64 (p : Int), .int .i64 (q : Int), .int .i64 (sp : Int), .int .i64 fill] w fun e w' => PlayRet w M (memZ fill p a q b) e w' := by
 obtain ⟨j0, hj, hy0, hy1, hy2⟩ := info_parts Tryz.infoUnit
 have RN := zH (fun vc vm w hc hm => run_any xs (stR p q sp fill (memZ fill p a q b)) [] 1000000 vc vm (.slice none 0 0) w hc hm (Lies.nil _ _) (by simp))
 rw [hR] at RN
 have HZM := zH (memZ_map fill p a q b)
 have HSV := zH (stR_val p q sp fill (memZ fill p a q b))
 have HZL := zH (memZ_len (fill := fill) hp hq)
 have hmem : (stR p q sp fill (memZ fill p a q b)).mem = memZ fill p a q b := rfl
 rw [hmem] at RN
 generalize stR p q sp fill (memZ fill p a q b) = st at *
 generalize memZ fill p a q b = Z at *
 have HK := zH hk
 have HA := zH ha
 have HB := zH hb
 obtain ⟨MC, hMC⟩ : ∃ MC, MC = madeCells #[Value.int .i64 0] 65536 := ⟨_, rfl⟩
 obtain ⟨NN, hNN⟩ : ∃ NN : Nat, NN = 65536 := ⟨_, rfl⟩
 have hmk : ∀ w, (Instr.makeSlice 43 (.int .i64 65536) (.int .i64 65536)).run Tryz.prog w = .ok (.slice (some ⟨w.heap.size, 0, none⟩) NN NN) (w.alloc (.cells MC 3)) := by
   rw [hMC, hNN]
   exact run_make_row' 43 3 (.int .i64 0) 8 Tryz.underlying43 Tryz.infoInt rfl .i64 .i64 65536 (by decide) (by decide)
 have HMC := zH hMC
 have HNN := zH hNN
 obtain ⟨ao, acap, rfl, hamax, -⟩ := ha.at
 obtain ⟨bo, bcap, rfl, hbmax, -⟩ := hb.at
 have k0 := below_a w (.cells #[.int .i64 0, .int .i64 0, .slice none 0 0, .int .i64 0, .int .i64 0, .int .i64 0, .int .i64 0, .int .i64 0, .int .i64 0, .int .i64 0, .int .i64 0, .int .i64 0, .int .i64 0, .bool false, .bool false, .bool false, .bool false, .int .i64 0, .slice none 0 0] 53)
 have UA := zH (units_any _ (G.step k0))
 have K0 := zH k0
 have hs0 : (w.alloc (.cells #[.int .i64 0, .int .i64 0, .slice none 0 0, .int .i64 0, .int .i64 0, .int .i64 0, .int .i64 0, .int .i64 0, .int .i64 0, .int .i64 0, .int .i64 0, .int .i64 0, .int .i64 0, .bool false, .bool false, .bool false, .bool false, .int .i64 0, .slice none 0 0] 53)).heap.size = w.heap.size + 1 := by simp
 have HS0 := zH hs0
 have R0 := zH (heap_new w (.cells #[.int .i64 0, .int .i64 0, .slice none 0 0, .int .i64 0, .int .i64 0, .int .i64 0, .int .i64 0, .int .i64 0, .int .i64 0, .int .i64 0, .int .i64 0, .int .i64 0, .int .i64 0, .bool false, .bool false, .bool false, .bool false, .int .i64 0, .slice none 0 0] 53))
 clear hk ha hb hMC hNN hR hmem k0 G hs0
 go_enter Tryz.func30, Tryz.ntmps30
 go_wp2_with fail
 generalize w.alloc (.cells #[.int .i64 0, .int .i64 0, .slice none 0 0, .int .i64 0, .int .i64 0, .int .i64 0, .int .i64 0, .int .i64 0, .int .i64 0, .int .i64 0, .int .i64 0, .int .i64 0, .int .i64 0, .bool false, .bool false, .bool false, .bool false, .int .i64 0, .slice none 0 0] 53) = w0 at *
 refine (uI UA).mono ?_
 rintro e w3 ⟨vu, f, rfl, ua, k3⟩
 have HU := zH ua
 have K3 := zH (btR (uI K0) k3)
 have R3 := zH ((k3.block _ (by rw [uI HS0]; omega)).trans (uI R0))
 have hs3 : w.heap.size + 1 ≤ w3.heap.size := by have := k3.size; rw [uI HS0] at this; exact this
 obtain ⟨uo, uc, rfl⟩ := own_sliceR ua.own
 have HX := zH (call_lines w3 nm)
 have hs03 : w0.heap.size ≤ w3.heap.size := k3.size
 clear UA k3 ua R0
 go_wp2_with (at_builtin; (refine wpList_append_own_at _ rfl (.tmp 25) (.tmp 34) 70 rfl w0.heap.size 78 j0 (.agg #[.string ⟨#[]⟩, .slice none 0 0]) 2 40 Tryz.underlying70 hj hy0 hy1 hy2 rfl (by decide) _ _ _ rfl (((uI HU).own.alloc _).alloc _) ⟨_, 0, none⟩ 1 1 [.string ⟨#[]⟩, .slice (some ⟨w3.heap.size, 0, none⟩) 3 3] rfl rfl (two_c1 _ _ _ _ _ (by simp)) (by intro u hu; simp at hu; rcases hu with rfl | rfl <;> rfl) (by unfold maxLen; omega) (by omega) (by simp; omega) ?_; intro v5 w5 own5 grow5 hv5 at5; have O5 := zH own5; have G5 := zH grow5; clear own5 grow5 hv5 at5))
 have hb5 : w.heap.size < w0.heap.size := by rw [uI HS0]; omega
 have HUN := zH (uns_all (uI O5) (fun j hj => lies_grown (Lies.step (Lies.step ((uI HU).lns j hj) (below_a w3 _)) (below_a _ _)) (uI G5) (fun hz b hb => ((uI HU).far j hj hz b hb).2)) (lies_grown (Lies.step (uI HX) (below_a _ _)) (uI G5) (fun _ b hb e => by have q2 := ((uI HU).own.lt b e).2; simp [Value.ownBlock] at hb; omega)))
 have K5 := zH (below_own (((uI K3).alloc (by omega) _).alloc (by simp; omega) _) (by simp; omega) (((uI HU).low (B' := w.heap.size) (by omega)).own.alloc _ |>.alloc _) (uI G5))
 have R5 : Hid (w5.heap[w.heap.size]? = some (.cells #[.int .i64 0, .int .i64 0, .slice none 0 0, .int .i64 0, .int .i64 0, .int .i64 0, .int .i64 0, .int .i64 0, .int .i64 0, .int .i64 0, .int .i64 0, .int .i64 0, .int .i64 0, .bool false, .bool false, .bool false, .bool false, .int .i64 0, .slice none 0 0] 53 (0, 0))) := by
   unfold Hid
   rw [(uI G5).block w.heap.size (by simp; omega) (fun e => by have := ((uI HU).own.lt _ e.symm).1; omega), Below.heap_alloc _ _ _ (by simp; omega), Below.heap_alloc _ _ _ (by omega)]
   exact uI R3
 have hs5 : w.heap.size + 1 ≤ w5.heap.size := by have := (uI G5).size; simp at this; omega
 clear O5 G5 HX HU K3 R3 HS0 K0 hs3 hb5
 have LK := zH (link_any2 (unR nm) _ ⟨#[109, 97, 105, 110]⟩ w5 (uI HUN) (by decide))
 rw [main_list] at LK
 unfold LinkRet2 at LK
 have al := uI HK
 generalize linkL (unR nm) [109, 97, 105, 110] = R at *
 obtain ⟨⟨zs, os, spt⟩, er, ef⟩ := R
 unfold lkOk at al
 simp only [Bool.and_eq_true, beq_iff_eq] at al
 obtain ⟨a1, a2⟩ := al
 subst a1 a2
 dsimp only at LK
 clear HK HUN
 refine (uI LK).mono ?_
 rintro e w6 ⟨vw, vx, vs, rfl, i1, i2, i3, k6, -⟩
 have K6 := zH (btR (uI K5) k6)
 have R6 := zH ((k6.block _ (by omega)).trans (uI R5))
 have hs6 : w.heap.size + 1 ≤ w6.heap.size := Nat.le_trans hs5 k6.size
 have IW := zH i1
 obtain ⟨b1, o1, rfl, -, -⟩ := i1.at
 obtain ⟨b2, o2, rfl, -, -⟩ := i2.at
 obtain ⟨-, sa, sc, rfl, -⟩ := i3
 have BI := zH ((Box.new w6 #[.slice b1 zs.length o1, .slice b2 os.length o2, .slice sa spt.length sc] 81).step (below_a _ (.cells #[.int .i64 0, .int .i64 ef] 83)))
 have BF := zH (Box.new (w6.alloc (.cells #[.slice b1 zs.length o1, .slice b2 os.length o2, .slice sa spt.length sc] 81)) #[.int .i64 0, .int .i64 ef] 83)
 simp only [World.size_alloc] at BF
 have K67 := zH (btR (below_a w6 (.cells #[.slice b1 zs.length o1, .slice b2 os.length o2, .slice sa spt.length sc] 81)) (below_a _ (.cells #[.int .i64 0, .int .i64 ef] 83)))
 have K7 := zH (btR (uI K6) (uI K67))
 have hs7 : ((w6.alloc (.cells #[.slice b1 zs.length o1, .slice b2 os.length o2, .slice sa spt.length sc] 81)).alloc (.cells #[.int .i64 0, .int .i64 ef] 83)).heap.size = w6.heap.size + 1 + 1 := by simp
 have HS7 := zH hs7
 have R7 := zH (((uI K67).block _ (by omega)).trans (uI R6))
 have IW7 := zH (Ints.step (uI IW) (uI K67))
 have IA7 := zH (Ints.step (uI HA) (uI K7))
 have IB7 := zH (Ints.step (uI HB) (uI K7))
 have MZ := zH (madeZ ((w6.alloc (.cells #[.slice b1 zs.length o1, .slice b2 os.length o2, .slice sa spt.length sc] 81)).alloc (.cells #[.int .i64 0, .int .i64 ef] 83)) MC (uI HMC) fill)
 have KM := zH (below_a ((w6.alloc (.cells #[.slice b1 zs.length o1, .slice b2 os.length o2, .slice sa spt.length sc] 81)).alloc (.cells #[.int .i64 0, .int .i64 ef] 83)) (.cells MC 3))
 clear LK k6 K5 R5 i1 i2 K6 hs7 HA HB IW R6
 go_wp2_with fail
 generalize (w6.alloc (.cells #[.slice b1 zs.length o1, .slice b2 os.length o2, .slice sa spt.length sc] 81)).alloc (.cells #[.int .i64 0, .int .i64 ef] 83) = w7 at *
 rw [uI HS7] at MZ
 generalize hgm : w6.heap.size + 1 + 1 = gm at *
 have HGM := zH hgm
 clear hgm
 go_loopg [44] NN (fun gg t wr => ∃ (k : Nat), k ≤ NN ∧ gg = NN - k ∧ t = .int .i64 (k : Int) ∧ Hid (wr.heap[gm]? = some (.cells (fillV k fill).toArray 3 (0, 0))) ∧ Hid (Below w7.heap.size w7 wr))
 case atStart => exact ⟨0, Nat.zero_le _, rfl, rfl, MZ, KM⟩
 case round =>
   obtain ⟨k, hk, hgg, rfl, HR, HBw⟩ := hrel
   generalize wr = W0 at *
   by_cases hlt : k < NN
   · have hkI : (k : Int) < (NN : Int) := by omega
     have hl2 : k < 65536 := by rw [← uI HNN]; exact hlt
     have ck := row_cell (uI HR) (fillV_at hl2)
     have cf := row_frozen (uI HR) k
     have HR2 := zH (row_set (uI HR) k (.int .i64 fill))
     rw [fillV_set hl2] at HR2
     clear hl2
     have HB2 := zH ((uI HBw).setCell (p := ⟨gm, k, none⟩) (by rw [uI HS7]; exact Nat.le_refl _) (.int .i64 fill))
     go_wp2_with fail
     go_roundg (NN - (k + 1))
     case measure => omega
     case rel =>
       have hkB : (k : Int) < 65536 := by have := uI HNN; omega
       have hkC : k + 1 ≤ NN := by omega
       have e1 : wrap64 ((k : Int) + 1) = ((k + 1 : Nat) : Int) := by unfold wrap64; omega
       exact ⟨k + 1, hkC, rfl, by rw [e1], HR2, HB2⟩
   · have hkI : ¬ (k : Int) < (NN : Int) := by omega
     have hke : k = 65536 := (Nat.le_antisymm hk (Nat.le_of_not_lt hlt)).trans (uI HNN)
     rw [hke, fillV_end] at HR
     clear hke hgg MZ KM
     have hpN : p < NN := by rw [uI HNN]; omega
     have hqN : q < NN := by rw [uI HNN]; omega
     have hpa : a.length ≤ NN - p := by rw [uI HNN]; omega
     have hqb : b.length ≤ NN - q := by rw [uI HNN]; omega
     have hpI : (p : Int) ≤ (NN : Int) := by omega
     have hqI : (q : Int) ≤ (NN : Int) := by omega
     have FLl : ((fillL 65536 fill).map int1).length = 65536 := by rw [List.length_map]; unfold fillL; exact List.length_replicate
     have HFL := zH FLl
     generalize (fillL 65536 fill).map int1 = FL at *
     have HF1 : Hid (p + (a.map int1).length ≤ FL.length) := by unfold Hid; rw [List.length_map, FLl]; exact hp
     have HF2 : Hid (q + (b.map int1).length ≤ (splice FL p (a.map int1)).length) := by unfold Hid; rw [length_splice _ _ _ (uI HF1), List.length_map, FLl]; exact hq
     have HN1 : Hid ((a.map int1).length = Nat.min a.length (NN - p)) := by unfold Hid; rw [List.length_map]; exact (Nat.min_eq_left hpa).symm
     have HN2 : Hid ((b.map int1).length = Nat.min b.length (NN - q)) := by unfold Hid; rw [List.length_map]; exact (Nat.min_eq_left hqb).symm
     have HG0 : Hid (w7.heap.size ≤ gm) := by unfold Hid; rw [uI HS7]; exact Nat.le_refl _
     clear FLl hpa hqb hk
     go_wp2_with (first | ((refine wpList_copy_splice rfl (.tmp 54) (.tmp 55) 43 43 rfl 3 Tryz.underlying43 Tryz.sizeInt (some ⟨gm, p, none⟩) ao (NN - p) (NN - p) a.length acap rfl rfl gm p FL 3 (uI HR) (a.map int1) (uI HN1) (copy_pos (Ints.step (uI IA7) (uI HBw)) rfl) (uI HF1) (ints_one _) w7.heap.size w7 (uI HBw) (uI HG0) ?_; intro w8 R8 k8; have K8 := zH k8; clear k8)) | ((refine wpList_copy_splice rfl (.tmp 59) (.tmp 60) 43 43 rfl 3 Tryz.underlying43 Tryz.sizeInt (some ⟨gm, q, none⟩) bo (NN - q) (NN - q) b.length bcap rfl rfl gm q (splice FL p (a.map int1)) 3 (uI R8) (b.map int1) (uI HN2) (copy_pos (Ints.step (uI IB7) (uI K8)) rfl) (uI HF2) (ints_one _) w7.heap.size w7 (uI K8) (uI HG0) ?_; intro w9 R9 k9; have K9 := zH k9; have c0 := cell_keep k9 (uI BI).1 ((uI BI).2.1 0 _ rfl); have hs9 : w6.heap.size < w9.heap.size := Nat.lt_of_lt_of_le (uI BI).1 k9.size; clear k9)))
     have HZ9 : Hid (w9.heap[gm]? = some (.cells (Z.map int1).toArray 3 (0, 0))) := by rw [uI HZM]; exact R9
     have IZ := zH (ints_row (N := NN) (uI HZ9) ((uI HZL).trans (uI HNN).symm) (by rw [uI HNN]; unfold maxLen; omega))
     have BF9 := zH ((uI BF).step (uI K9))
     have IW9 := zH (Ints.step (uI IW7) (uI K9))
     have hs97 := (uI K9).size
     rw [uI HS7] at hs97
     have R10 := zH (((uI K9).block _ (by rw [uI HS7, ← uI HGM]; omega)).trans (uI R7))
     have HST := zH (below_a w9 (.cells #[.int .i64 (p : Int), .int .i64 (q : Int), .int .i64 fill, .int .i64 fill, .int .i64 fill, .int .i64 fill, .int .i64 fill, .int .i64 (sp : Int), .bool false, .bool false, .bool false, .bool false, .int .i64 0, .slice (some ⟨gm, 0, none⟩) NN NN] 51))
     have RR := uI RN _ _ _ (Ints.step (uI IW9) (uI HST)) (Ints.step (uI IZ) (uI HST))
     rw [uI HSV] at RR
     have hw9 : w.heap.size < w9.heap.size := by omega
     have hg9 : gm < w9.heap.size := (Array.getElem?_eq_some_iff.1 (uI HZ9)).1
     refine RR.mono ?_
     clear RR RN HSV
     rintro e w12 ⟨vo, vm5, rfl, i5, o5, k5, -, no5, nm5⟩
     have k9c := btR (uI HST) k5
     have K12 := zH (btR (uI K7) (btR (uI K9) k9c))
     have R12 := zH ((k9c.block _ hw9).trans (uI R10))
     have Z12 := zH ((k9c.block _ hg9).trans (uI HZ9))
     have BF12 := zH ((uI BF9).step k9c)
     have I5 := zH i5
     have O5 := zH o5
     have hs12 := k9c.size
     have NM : Hid (∀ k, vm5.ownBlock = some k → w9.heap.size < k) := fun k hk => by have := nm5 k hk; simp at this; omega
     have NO : Hid (∀ k, vo.ownBlock = some k → w9.heap.size < k) := fun k hk => by have := no5 k hk; simp at this; omega
     obtain ⟨m5, c5, rfl, -, -⟩ := i5.at
     obtain ⟨n5, d5, rfl, -, -⟩ := o5.at
     clear i5 o5 k5 no5 nm5 k9c HST IW9 IZ R10 BF9 HZ9 K9 K8 R8 R9 HBw HR IA7 IB7 IW7 K7 K67 c0 R7 BI BF
     unfold ranV
     have hgm0 : w.heap.size < gm := by have := uI HGM; omega
     go_wp2_with (first | (refine wpList_store_row rfl 53 (.tmp 23) (.tmp 78) rfl w12.heap.size (ranC M (.slice n5 M.out.length d5) (.slice m5 (memL M.mem).length c5)) rfl rfl 53 #[.int .i64 0, .int .i64 0, .slice none 0 0, .int .i64 0, .int .i64 0, .int .i64 0, .int .i64 0, .int .i64 0, .int .i64 0, .int .i64 0, .int .i64 0, .int .i64 0, .int .i64 0, .bool false, .bool false, .bool false, .bool false, .int .i64 0, .slice none 0 0] (heap_new _ _) Tryz.sizeRan rfl (ranC_one _ _ _ _ _ _ _) ?_; have SN := zH (store_new w12 #[.int .i64 0, .int .i64 0, .slice none 0 0, .int .i64 0, .int .i64 0, .int .i64 0, .int .i64 0, .int .i64 0, .int .i64 0, .int .i64 0, .int .i64 0, .int .i64 0, .int .i64 0, .bool false, .bool false, .bool false, .bool false, .int .i64 0, .slice none 0 0] (ranC M (.slice n5 M.out.length d5) (.slice m5 (memL M.mem).length c5)) 53); have SH := zH (store_heap w12 #[.int .i64 0, .int .i64 0, .slice none 0 0, .int .i64 0, .int .i64 0, .int .i64 0, .int .i64 0, .int .i64 0, .int .i64 0, .int .i64 0, .int .i64 0, .int .i64 0, .int .i64 0, .bool false, .bool false, .bool false, .bool false, .int .i64 0, .slice none 0 0] (ranC M (.slice n5 M.out.length d5) (.slice m5 (memL M.mem).length c5)) 53); generalize (w12.alloc (.cells #[.int .i64 0, .int .i64 0, .slice none 0 0, .int .i64 0, .int .i64 0, .int .i64 0, .int .i64 0, .int .i64 0, .int .i64 0, .int .i64 0, .int .i64 0, .int .i64 0, .int .i64 0, .bool false, .bool false, .bool false, .bool false, .int .i64 0, .slice none 0 0] 53)).setRow w12.heap.size (ranC M (.slice n5 M.out.length d5) (.slice m5 (memL M.mem).length c5)) = w13 at *; have KF6 := (uI BF12).step (uI SN).2; obtain ⟨f0, f1⟩ := KF6.at2; have hz4 := KF6.1; have R13 := zH (((uI SN).2.block _ (by omega)).trans (uI R12)); have Z13 := zH (((uI SN).2.block _ (by omega)).trans (uI Z12)); have K13 := zH (btR (uI K12) (uI SN).2); have I6 := zH (Ints.step (uI I5) (uI SN).2); have O6 := zH (Lies.step (uI O5) (uI SN).2); clear KF6) | (refine wpList_load_row rfl 53 (.tmp 23) rfl w12.heap.size rfl 53 (ranC M (.slice n5 M.out.length d5) (.slice m5 (memL M.mem).length c5)) (0, 0) _ (uI SH) Tryz.underlying53 rfl Tryz.sizeRan ?_) | (refine wpList_store_row rfl 53 (.tmp 14) (.tmp 80) rfl w.heap.size (ranC M (.slice n5 M.out.length d5) (.slice m5 (memL M.mem).length c5)) rfl rfl 53 #[.int .i64 0, .int .i64 0, .slice none 0 0, .int .i64 0, .int .i64 0, .int .i64 0, .int .i64 0, .int .i64 0, .int .i64 0, .int .i64 0, .int .i64 0, .int .i64 0, .int .i64 0, .bool false, .bool false, .bool false, .bool false, .int .i64 0, .slice none 0 0] (uI R13) Tryz.sizeRan rfl (ranC_one _ _ _ _ _ _ _) ?_))
     have HG3 := setRow_heap w13 w.heap.size _ (ranC M (.slice n5 M.out.length d5) (.slice m5 (memL M.mem).length c5)) _ _ (uI R13)
     refine bodyPost_ret (results_row2 Tryz.results30 _ _ w.heap.size 53 (ranC M (.slice n5 M.out.length d5) (.slice m5 (memL M.mem).length c5)) (0, 0) _ _ _ rfl rfl rfl HG3 Tryz.underlying53 rfl Tryz.sizeRan) rfl ?_
     refine ⟨.slice n5 M.out.length d5, .slice m5 (memL M.mem).length c5, gm, NN, rfl, uI HNN, ?_, ?_, ?_, by omega, fun k hk => by have := uI NM k hk; omega, ?_⟩
     · exact Lies.blk (uI I6) (by rw [size_setRow]; exact Nat.le_refl _) fun k hk => setRow_other _ _ _ _ (by have := uI NM k hk; omega)
     · exact Lies.blk (uI O6) (by rw [size_setRow]; exact Nat.le_refl _) fun k hk => setRow_other _ _ _ _ (by have := uI NO k hk; omega)
     · exact (setRow_other _ _ _ _ (by omega)).trans (uI Z13)
     · exact Below.row (uI K13) (Nat.le_refl _) _
end Go.Proofs.YtlkoidkdeopgjaaGreatDoor
