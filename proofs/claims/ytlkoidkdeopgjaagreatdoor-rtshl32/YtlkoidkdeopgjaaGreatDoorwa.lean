/-
  RtW, RtW2, RtV.
-/
import Derived.Test.YtlkoidkdeopgjaaGreatDoorChecked
import Derived.Test.YtlkoidkdeopgjaaGreatDoorka
import Derived.Test.YtlkoidkdeopgjaaGreatDoorke
import Derived.Lib.Builder
import Derived.Lib.AppendStr
import Derived.Lib.UnsafeStr
import Derived.Laws.Externs
import Derived.WalkKit
import Derived.Laws.IdiomStrings
import Derived.Deep.LoopGhost
import Derived.Shelf.RegionOpenPlain
import Derived.Test.YtlkoidkdeopgjaaGreatDooryShelf
import Derived.Test.YtlkoidkdeopgjaaGreatDooryReg
set_option maxHeartbeats 4000000
set_option maxRecDepth 100000
namespace Go.Proofs.YtlkoidkdeopgjaaGreatDoor
open Go.RowKit
set_option linter.unusedSimpArgs false
set_option linter.unusedVariables false
theorem btR {u v x : World} (k1 : Below u.heap.size u v) (k2 : Below v.heap.size v x) : Below u.heap.size u x := k1.trans (k2.mono k1.size)
theorem Tryz.infoBt : (Tryz.prog.info? 5).map (fun i => (i.zero, i.size, i.bytes)) = some (some (.int .u8 0), 1, 1) := by kernel_rfl
theorem Tryz.infoBld : (Tryz.prog.info? 131).map (·.size) = some 2 := by kernel_rfl
theorem Tryz.liesBld : liesAt Tryz.prog Tryz.prog.depth 133 (3 / Tryz.prog.cellsOf 133) 0 131 1 = true := by kernel_rfl
theorem Tryz.cellsBt : Tryz.prog.cellsOf 5 = 1 := by kernel_rfl
def Wr (w : World) (B b n : Nat) (t : List UInt8) (g : Option Nat) : Prop := ∃ p v, B ≤ b ∧ w.heap[b]? = some (.cells #[p, v, .int .i64 (n : Int)] 133 (0, 0)) ∧ (p = .pointer none ∨ p = .pointer (some ⟨b, 0, none⟩)) ∧ w.ownsRow B 5 1 v t.length (Lib.byteCells t) ∧ v.ownBlock = g ∧ g ≠ some b
theorem Wr.lt {w : World} {B b n : Nat} {t : List UInt8} {g : Option Nat} (h : Wr w B b n t g) : b < w.heap.size := by
 obtain ⟨p, v, _, h2, _⟩ := h
 exact (Array.getElem?_eq_some_iff.1 h2).1
theorem Wr.step {w w' : World} {B b n : Nat} {t : List UInt8} {g : Option Nat} (h : Wr w B b n t g) (k : Below w.heap.size w w') : Wr w' B b n t g := by
 have hl := h.lt
 obtain ⟨p, v, h1, h2, h3, h4, h5⟩ := h
 exact ⟨p, v, h1, by rw [k.block b hl]; exact h2, h3, own_step h4 k, h5⟩
theorem Wr.glt {w : World} {B b n : Nat} {t : List UInt8} {g : Option Nat} (h : Wr w B b n t g) : ∀ k, g = some k → k < w.heap.size := by
 obtain ⟨p, v, h1, h2, h3, h4, h5, h6⟩ := h
 intro k hk
 exact (h4.lt k (h5.trans hk)).2
theorem Wr.words {w : World} {B b n : Nat} {t : List UInt8} {g : Option Nat} (h : Wr w B b n t g) : w.cell? ⟨b, 2, none⟩ = some (.int .i64 (n : Int)) := by
 obtain ⟨p, v, _, h2, _⟩ := h
 rw [Lib.cell_of_heap h2]; rfl
theorem heap_setCell {w : World} {b j : Nat} {cs : Array Value} {T : TypeId} {fr : Nat × Nat} {x : Value} (h : w.heap[b]? = some (.cells cs T fr)) : (w.setCell ⟨b, j, none⟩ x).heap[b]? = some (.cells (cs.setIfInBounds j x) T fr) := by
 unfold World.setCell
 simp [Array.getElem?_modify, h]
theorem own_setR {w : World} {B e s n b j : Nat} {v x : Value} {cs : List Value} (h : w.ownsRow B e s v n cs) (hne : v.ownBlock ≠ some b) : (w.setCell ⟨b, j, none⟩ x).ownsRow B e s v n cs := by
 refine ⟨h.1, ?_⟩
 rcases h.2 with hn | ⟨g, cap, cur, rfl, hb, hg, rest⟩
 · exact .inl hn
 · refine .inr ⟨g, cap, cur, rfl, hb, ?_, rest⟩
   have hgb : b ≠ g := fun e => hne (by simp [Value.ownBlock, e])
   unfold World.setCell
   simp [Array.getElem?_modify, hgb, hg]
theorem copyCheck_any (B b n : Nat) (t : List UInt8) (g : Option Nat) (w : World) (h : Wr w B b n t g) : Calls Tryz.prog 162 #[.pointer (some ⟨b, 0, none⟩)] w fun e w' => e = .returned (.tuple #[]) ∧ Wr w' B b n t g ∧ Below B w w' ∧ Kpt (fun k => k = b) w w' ∧ w'.heap.size = w.heap.size ∧ w'.cell? ⟨b, 0, none⟩ = some (.pointer (some ⟨b, 0, none⟩)) := by
 obtain ⟨j, hj, hjs⟩ := Option.map_eq_some_iff.1 Tryz.infoBld
 obtain ⟨p, v, hB, hbk, hp, hown, hg, hne⟩ := h
 subst hg
 have h0 : w.cell? ⟨b, 0, none⟩ = some p := by rw [Lib.cell_of_heap hbk]; rfl
 have hf : w.frozen? ⟨b, 0, none⟩ = false := Lib.frozen_of_heap hbk 0
 have hsh : w.shape? b = some (133, 3) := by simp [World.shape?, hbk]
 have HO := zH hown
 have HK := zH hbk
 rcases hp with rfl | rfl
 · have hk := heap_setCell (j := 0) (x := .pointer (some ⟨b, 0, none⟩)) hbk
   have hown2 : (w.setCell ⟨b, 0, none⟩ (.pointer (some ⟨b, 0, none⟩))).ownsRow B 5 1 v t.length (Lib.byteCells t) := own_setR hown hne
   have W2 : Hid (Wr (w.setCell ⟨b, 0, none⟩ (.pointer (some ⟨b, 0, none⟩))) B b n t v.ownBlock) := ⟨_, v, hB, hk, .inr rfl, hown2, rfl, hne⟩
   have C2 : Hid ((w.setCell ⟨b, 0, none⟩ (.pointer (some ⟨b, 0, none⟩))).cell? ⟨b, 0, none⟩ = some (.pointer (some ⟨b, 0, none⟩))) := by show _ = _; rw [Lib.cell_of_heap hk]; rfl
   clear hown hbk hown2 hk
   go_enter Tryz.func162, Tryz.ntmps162
   go_wp2_with fail
   rw [Lib.run_to_unsafe w ⟨b, 0, none⟩ Tryz.underlying129 Tryz.underlying226 hj (by rw [hjs]; decide) hsh (Nat.zero_lt_succ 2)]
   simp only [Result.andThen]
   rw [Oper.upon_value]
   go_wp2_with fail
   rw [run_callFunc_extern Tryz.func193 (by kernel_rfl) (by kernel_rfl) (by kernel_rfl) (e := Extern.AbiNoEscape.same) (by kernel_rfl)]
   rw [Lib.run_noEscape]
   simp only [Result.andThen]
   rw [Oper.upon_value]
   go_wp2_with fail
   rw [Lib.run_from_unsafe w ⟨b, 0, none⟩ Tryz.underlying226 Tryz.underlying129 hj hsh Tryz.liesBld]
   simp only [Result.andThen]
   rw [Oper.upon_value]
   go_wp2_with fail
   go_end0
   exact ⟨rfl, uI W2, (Below.refl B w).setCell (p := ⟨b, 0, none⟩) hB _, Kpt.setCell _ _ rfl, by simp, uI C2⟩
 · clear hown hbk
   go_enter Tryz.func162, Tryz.ntmps162
   go_wp2_with fail
   rw [Lib.run_neq_ptr_same w _ Tryz.underlying129 hj]
   go_wp2_with fail
   go_end0
   exact ⟨rfl, ⟨_, v, hB, uI HK, .inr rfl, uI HO, rfl, hne⟩, Below.refl B _, Kpt.refl _ _, rfl, h0⟩
theorem Wr.buf {w : World} {B b n : Nat} {t : List UInt8} {g : Option Nat} (h : Wr w B b n t g) : ∃ v, w.cell? ⟨b, 1, none⟩ = some v ∧ w.frozen? ⟨b, 1, none⟩ = false ∧ w.ownsRow B 5 1 v t.length (Lib.byteCells t) ∧ v.ownBlock = g ∧ v.ownBlock ≠ some b ∧ B ≤ b ∧ ∃ p, w.heap[b]? = some (.cells #[p, v, .int .i64 (n : Int)] 133 (0, 0)) ∧ (p = .pointer none ∨ p = .pointer (some ⟨b, 0, none⟩)) := by
 obtain ⟨p, v, h1, h2, h3, h4, h5, h6⟩ := h
 exact ⟨v, by rw [Lib.cell_of_heap h2]; rfl, Lib.frozen_of_heap h2 1, h4, h5, by rw [h5]; exact h6, h1, p, h2, h3⟩
theorem writeString_any (B b n : Nat) (t : List UInt8) (g : Option Nat) (s : ByteArray) (w : World) (h : Wr w B b n t g) (hlen : t.length + s.size ≤ 1048576) (hBw : B ≤ w.heap.size) : Calls Tryz.prog 107 #[.pointer (some ⟨b, 0, none⟩), .string s] w fun e w' => (∃ v, e = .returned v) ∧ (∃ g', Wr w' B b n (t ++ s.data.toList) g') ∧ Below B w w' ∧ Kpt (fun k => k = b ∨ g = some k) w w' := by
 obtain ⟨i0, hi, hz0, hz1, hz2⟩ := info_parts Tryz.infoBt
 have CC := zH (copyCheck_any B b n t g w h)
 go_enter Tryz.func107, Tryz.ntmps107
 go_wp2_with fail
 refine (uI CC).mono ?_
 rintro e w1 ⟨rfl, h1, k1, q1, s1, c0⟩
 have hBw1 : B ≤ w1.heap.size := by omega
 have HK1 := zH k1
 have HQ1 := zH q1
 have hlt := h1.lt
 obtain ⟨v, c1, f1, hown, hvg, hne, hB, p, hbk, hp⟩ := h1.buf
 subst hvg
 have HO := zH hown
 have HKB := zH hbk
 have hbl : (Lib.byteCells t).length = t.length := by simp [Lib.byteCells]
 clear CC k1 q1 h1 hown hbk h s1
 go_wp2_with (at_builtin; refine Lib.wpList_append_own_string _ rfl _ _ 46 9 rfl B 5 i0 Tryz.underlying46 Tryz.underlying9 hi hz0 hz1 hz2 _ _ _ rfl (uI HO) s rfl (by unfold maxLen; omega) (by omega) (by omega) ?_; intro v' w2 hown' hgrow _; have O2 := zH hown'; have G2 := zH hgrow; have hb2 : w2.heap[b]? = some (.cells #[p, v, .int .i64 (n : Int)] 133 (0, 0)) := (by rw [hgrow.block b hlt (fun e => hne e.symm)]; exact uI HKB); have d1 : w2.cell? ⟨b, 1, none⟩ = some v := (by rw [Lib.cell_of_heap hb2]; rfl); have f1 : w2.frozen? ⟨b, 1, none⟩ = false := Lib.frozen_of_heap hb2 1; have HB2 := zH hb2; obtain ⟨ao, n', cap, rfl⟩ : ∃ ao n' cap, v' = .slice ao n' cap := (by rcases hown'.2 with ⟨hv, _⟩ | ⟨g, cap, cur, hv, _⟩; exact ⟨_, _, _, hv⟩; exact ⟨_, _, _, hv⟩); clear hown' hgrow hb2)
 go_ret2
 have hk := heap_setCell (j := 1) (x := Value.slice ao n' cap) (uI HB2)
 have hx := uI O2
 have hnb : (Value.slice ao n' cap).ownBlock ≠ some b := fun e => by
   rcases hx.2 with ⟨hv, _⟩ | ⟨g, cap', cur, hv, _, hg, _⟩
   · rw [hv] at e; simp [Value.ownBlock] at e
   · rw [hv] at e; simp [Value.ownBlock] at e; subst e
     rw [uI HB2] at hg
     injection hg with hg
     injection hg with _ hg _
     exact absurd hg (by decide)
 refine ⟨⟨_, rfl⟩, ⟨_, p, _, hB, hk, hp, ?_, rfl, hnb⟩, ?_, ?_⟩
 · have := own_setR (j := 1) (x := Value.slice ao n' cap) hx hnb
   have e1 : Lib.byteCells (t ++ s.data.toList) = Lib.byteCells t ++ Lib.strCells s := by simp [Lib.byteCells, Lib.strCells]
   have e2 : (t ++ s.data.toList).length = t.length + s.size := by simp
   rw [e1, e2]
   exact this
 · exact ((uI HK1).grown (uI G2) (by omega) (fun k hk => ((uI HO).lt k hk).1)).setCell (p := ⟨b, 1, none⟩) hB _
 · exact ((uI HQ1).trans (Kpt.grown (X := fun k => v.ownBlock = some k) (uI G2) (fun _ h => h)) (Z := fun k => k = b ∨ v.ownBlock = some k) (fun _ h => .inl h) (fun _ h _ => .inr h)).trans (Kpt.setCell (X := fun k => k = b) _ _ rfl) (fun _ h => h) (fun _ h _ => .inl h)
end Go.Proofs.YtlkoidkdeopgjaaGreatDoor
namespace Go.Proofs.YtlkoidkdeopgjaaGreatDoor
open Go.RowKit
set_option linter.unusedSimpArgs false
set_option linter.unusedVariables false
theorem bt_c1 (u : World) (x : Value) (T : TypeId) : ∀ (j : Nat) y, [x][j]? = some y → (u.alloc (.cells #[x] T)).cell? ((⟨u.heap.size, 0, none⟩ : Addr).add j) = some y := by
 intro j y hj
 match j, hj with
 | 0, hj => simp at hj; subst hj; simp [Addr.add]
theorem bt_c2 (x : Int) : ∀ u ∈ [Value.int .u8 x], u.oneCell' = true := by intro u hu; simp at hu; subst hu; rfl
theorem writeByte_any (B b n : Nat) (t : List UInt8) (g : Option Nat) (c : UInt8) (w : World) (h : Wr w B b n t g) (hlen : t.length + 1 ≤ 1048576) (hBw : B ≤ w.heap.size) : Calls Tryz.prog 181 #[.pointer (some ⟨b, 0, none⟩), .int .u8 ((c.toNat : Nat) : Int)] w fun e w' => (∃ v, e = .returned v) ∧ (∃ g', Wr w' B b n (t ++ [c]) g') ∧ Below B w w' := by
 obtain ⟨i0, hi, hz0, hz1, hz2⟩ := info_parts Tryz.infoBt
 have CC := zH (copyCheck_any B b n t g w h)
 go_enter Tryz.func181, Tryz.ntmps181
 go_wp2_with fail
 refine (uI CC).mono ?_
 rintro e w1 ⟨rfl, h1, k1, q1, s1, c0⟩
 have hBw1 : B ≤ w1.heap.size := by omega
 clear s1
 have HK1 := zH k1
 have hlt := h1.lt
 obtain ⟨v, c1, f1, hown, hvg, hne, hB, p, hbk, hp⟩ := h1.buf
 subst hvg
 have HO := zH hown
 have HKB := zH hbk
 have hbl : (Lib.byteCells t).length = t.length := by simp [Lib.byteCells]
 clear CC k1 q1 h1 hown hbk h
 go_wp2_with (at_builtin; refine wpList_append_own _ rfl _ _ 46 rfl B 5 i0 (.int .u8 0) 1 1 Tryz.underlying46 hi hz0 hz1 hz2 rfl (by decide) _ _ _ rfl ((uI HO).alloc _) ⟨w1.heap.size, 0, none⟩ 1 1 [.int .u8 ((c.toNat : Nat) : Int)] rfl rfl (bt_c1 _ _ _) (bt_c2 _) (by unfold maxLen; omega) (by omega) (by simp; omega) ?_; intro v' w2 hown' hgrow _; have O2 := zH hown'; have G2 := zH hgrow; have hb2 : w2.heap[b]? = some (.cells #[p, v, .int .i64 (n : Int)] 133 (0, 0)) := (by rw [hgrow.block b (by simp; omega) (fun e => hne e.symm), Lib.alloc_old w1 _ b hlt]; exact uI HKB); have d1 : w2.cell? ⟨b, 1, none⟩ = some v := (by rw [Lib.cell_of_heap hb2]; rfl); have f1 : w2.frozen? ⟨b, 1, none⟩ = false := Lib.frozen_of_heap hb2 1; have HB2 := zH hb2; obtain ⟨ao, n', cap, rfl⟩ : ∃ ao n' cap, v' = .slice ao n' cap := (by rcases hown'.2 with ⟨hv, _⟩ | ⟨g, cap, cur, hv, _⟩; exact ⟨_, _, _, hv⟩; exact ⟨_, _, _, hv⟩); clear hown' hgrow hb2)
 go_ret
 have hk := heap_setCell (j := 1) (x := Value.slice ao n' cap) (uI HB2)
 have hx := uI O2
 have hnb : (Value.slice ao n' cap).ownBlock ≠ some b := fun e => by
   rcases hx.2 with ⟨hv, _⟩ | ⟨g, cap', cur, hv, _, hg, _⟩
   · rw [hv] at e; simp [Value.ownBlock] at e
   · rw [hv] at e; simp [Value.ownBlock] at e; subst e
     rw [uI HB2] at hg
     injection hg with hg
     injection hg with _ hg _
     exact absurd hg (by decide)
 refine ⟨⟨_, rfl⟩, ⟨_, p, _, hB, hk, hp, ?_, rfl, hnb⟩, ?_⟩
 · have := own_setR (j := 1) (x := Value.slice ao n' cap) hx hnb
   have e1 : Lib.byteCells (t ++ [c]) = Lib.byteCells t ++ [.int .u8 ((c.toNat : Nat) : Int)] := by simp [Lib.byteCells]
   have e2 : (t ++ [c]).length = t.length + 1 := by simp
   rw [e1, e2]
   exact this
 · exact (((uI HK1).alloc (by omega) _).grown (uI G2) (by simp; omega) (fun k hk => ((uI HO).lt k hk).1)).setCell (p := ⟨b, 1, none⟩) hB _
theorem string_any (B b n : Nat) (t : List UInt8) (g : Option Nat) (w : World) (h : Wr w B b n t g) (ht : t ≠ []) (hl : t.length ≤ 1048576) : Calls Tryz.prog 74 #[.pointer (some ⟨b, 0, none⟩)] w fun e w' => e = .returned (.string ⟨t.toArray⟩) ∧ Below B w w' := by
 obtain ⟨v, _, _, hown, _, hne, hB, p, hbk, hp⟩ := h.buf
 have hl0 : t.length ≠ 0 := by simpa using ht
 obtain ⟨g, cap, cur, rfl, hbg, hg, hnc, hcm, hcs, htake⟩ : ∃ g cap cur, v = .slice (some ⟨g, 0, none⟩) t.length cap ∧ B ≤ g ∧ w.heap[g]? = some (.cells cur 5 (0, 0)) ∧ t.length ≤ cap ∧ cap ≤ maxLen ∧ cur.size = cap * 1 ∧ cur.toList.take (t.length * 1) = Lib.byteCells t := by
   rcases hown.2 with ⟨_, hz⟩ | ⟨g, cap, cur, hv, r⟩
   · exact absurd hz hl0
   · exact ⟨g, cap, cur, hv, r⟩
 have c1 : w.drew.cell? ⟨b, 1, none⟩ = some (.slice (some ⟨g, 0, none⟩) t.length cap) := by
   have : w.drew.heap[b]? = some (.cells #[p, .slice (some ⟨g, 0, none⟩) t.length cap, .int .i64 (n : Int)] 133 (0, 0)) := hbk
   rw [Lib.cell_of_heap this]; rfl
 have hSD : (Builtin.unsafeSliceData_ #[46] 173 #[.slice (some ⟨g, 0, none⟩) t.length cap]).run Tryz.prog w.drew = .ok (.pointer (some ⟨g, 0, none⟩)) w.drew :=
   Lib.run_unsafeSliceData_row _ _ _ _ _ _ (by omega)
 have hUS : (Builtin.unsafeString_ #[173, 3] 9 #[.pointer (some ⟨g, 0, none⟩), .int .i64 t.length]).run Tryz.prog w.drew = .ok (.string ⟨t.toArray⟩) (w.drew.freeze ⟨g, 0, none⟩ t.length) := by
   refine Lib.run_unsafeString_row w.drew 173 3 9 5 Tryz.underlying173 Tryz.cellsBt g cur.size (by have hg' : w.drew.heap[g]? = some (.cells cur 5 (0, 0)) := hg; simp [World.shape?, hg']) t ht (by omega) (by unfold maxLen at hcm; omega) ?_
   intro j x hx
   exact hown.cells (g := g) rfl j (.int .u8 x.toNat) (by simp [Lib.byteCells, hx])
 clear hown hbk hg htake
 have mixed : Tryz.prog.follows Departure.mixedOrders = true := by kernel_rfl
 go_enter Tryz.func74, Tryz.ntmps74
 go_wp2_with fail
 go_region_o
 all_goals (go_wp2_with fail; go_ret; exact ⟨rfl, Lib.below_freeze (Below.drew (Below.refl B w)) (p := ⟨g, 0, none⟩) hbg _⟩)
end Go.Proofs.YtlkoidkdeopgjaaGreatDoor
namespace Go.Proofs.YtlkoidkdeopgjaaGreatDoor
open Go.RowKit
set_option linter.unusedSimpArgs false
set_option linter.unusedVariables false
def sb (l : List UInt8) : ByteArray := ⟨l.toArray⟩
theorem sb_list (l : List UInt8) : (sb l).data.toList = l := by simp [sb]
theorem sb_size (l : List UInt8) : (sb l).size = l.length := rfl
theorem sb_cat (a b : List UInt8) : sb a ++ sb b = sb (a ++ b) := by
 have h : ∀ a b : ByteArray, a.data = b.data → a = b := fun a b h => by cases a; cases b; exact congrArg _ h
 apply h
 rw [ByteArray.data_append]
 simp [sb]
theorem dgs_str {n : Nat} (h : n < 100) : Value.string ⟨(Lib.decDigits n).toArray⟩ = .string (sb (dgs n)) := by rw [dgs_eq h]; rfl
theorem digits_any (i : Nat) (hi : i < 100) (w : World) : Calls Tryz.prog 146 #[.int .i64 (i : Int)] w fun e w' => e = .returned (.string (sb (dgs i))) ∧ w' = w := by
 have IT := Tryz.strconv_Itoa_small i hi w
 rw [dgs_str hi] at IT
 go_enter Tryz.func146, Tryz.ntmps146
 go_wp2_with fail
 refine IT.mono ?_
 rintro e w1 ⟨rfl, rfl⟩
 go_wp2_with fail
 go_ret
 exact ⟨rfl, rfl⟩
theorem held_any (k : Nat) (hk : k ≤ 9) (w : World) : Calls Tryz.prog 145 #[.int .i64 (k : Int)] w fun e w' => e = .returned (.string (sb (hld k))) ∧ w' = w := by
 have IT := digits_any (2 + k) (by omega) w
 have e1 : (((2 + k : Nat) : Int)) = 2 + (k : Int) := by omega
 rw [e1] at IT
 have hs : ¬ 9223372036854775807 < 1 + (sb (dgs (2 + k))).size := by have := dgs_len (2 + k); rw [sb_size]; omega
 have hc : (⟨#[114]⟩ ++ sb (dgs (2 + k)) : ByteArray) = sb (hld k) := sb_cat [114] _
 have HC := zH hc
 clear hc e1
 go_enter Tryz.func145, Tryz.ntmps145
 go_wp2_with fail
 refine IT.mono ?_
 rintro e w1 ⟨rfl, rfl⟩
 go_wp2_with fail
 go_ret
 exact ⟨by rw [uI HC]; rfl, rfl⟩
theorem rnamed_any (kd : List UInt8) (n : Nat) (hn : n < 100) (hk : kd.length ≤ 1000) (w : World) : Calls Tryz.prog 70 #[.string (sb kd), .int .i64 (n : Int)] w fun e w' => e = .returned (.string (sb (kd ++ dgs n))) ∧ w' = w := by
 have IT := Tryz.strconv_Itoa_small n hn w
 rw [dgs_str hn] at IT
 have hs : ¬ 9223372036854775807 < (sb kd).size + (sb (dgs n)).size := by have := dgs_len n; rw [sb_size, sb_size]; omega
 have HC := zH (sb_cat kd (dgs n))
 go_enter Tryz.func70, Tryz.ntmps70
 go_wp2_with fail
 refine IT.mono ?_
 rintro e w1 ⟨rfl, rfl⟩
 go_wp2_with fail
 go_ret
 exact ⟨by rw [uI HC]; rfl, rfl⟩
theorem chained_any (k : Nat) (a b : List UInt8) (w : World) : Calls Tryz.prog 179 #[.int .i64 (k : Int), .string (sb a), .string (sb b)] w fun e w' => e = .returned (.string (sb (chd k a b))) ∧ w' = w := by
 unfold chd
 by_cases h : k = 0
 · subst h
   rw [if_pos rfl]
   go_enter Tryz.func179, Tryz.ntmps179
   go_wp2_with fail
   go_ret
   exact ⟨rfl, rfl⟩
 · rw [if_neg h]
   have hb : ((k : Int) == 0) = false := by simp; omega
   go_enter Tryz.func179, Tryz.ntmps179
   go_wp2_with fail
   go_ret
   exact ⟨rfl, rfl⟩
theorem label_any (B b n : Nat) (t : List UInt8) (g : Option Nat) (s : List UInt8) (w : World) (h : Wr w B b n t g) (hl : t.length + s.length + 2 ≤ 1048576) (hBw : B ≤ w.heap.size) : Calls Tryz.prog 73 #[.pointer (some ⟨b, 0, none⟩), .string (sb s)] w fun e w' => e = .returned (.tuple #[]) ∧ (∃ g', Wr w' B b n (t ++ labT s) g') ∧ Below B w w' := by
 have hc : (sb s ++ ⟨#[58, 10]⟩ : ByteArray) = sb (labT s) := sb_cat s [58, 10]
 have hs : ¬ 9223372036854775807 < (sb s).size + 2 := by rw [sb_size]; omega
 have WS := writeString_any B b n t g (sb (labT s)) w h (by rw [sb_size]; simp [labT]; omega) hBw
 rw [← hc] at WS
 have HC := zH (sb_list (labT s))
 rw [← hc] at HC
 clear hc
 go_enter Tryz.func73, Tryz.ntmps73
 go_wp2_with fail
 refine WS.mono ?_
 rintro e w1 ⟨⟨v, rfl⟩, h1, k1, _⟩
 rw [uI HC] at h1
 go_wp2_with fail
 go_end0
 exact ⟨rfl, h1, k1⟩
theorem do_none (B b n : Nat) (t : List UInt8) (g : Option Nat) (kd : List UInt8) (w : World) (h : Wr w B b n t g) (hl : t.length + kd.length + 100 ≤ 1048576) (hBw : B ≤ w.heap.size) : Calls Tryz.prog 138 #[.pointer (some ⟨b, 0, none⟩), .string (sb kd), .slice none 0 0] w fun e w' => e = .returned (.tuple #[]) ∧ (∃ g', Wr w' B b n (t ++ insT kd []) g') ∧ Below B w w' := by
 have hc : (⟨#[9]⟩ ++ sb kd : ByteArray) = sb (9 :: kd) := sb_cat [9] kd
 have hs : ¬ 9223372036854775807 < 1 + (sb kd).size := by rw [sb_size]; omega
 have WS := writeString_any B b n t g (sb (9 :: kd)) w h (by rw [sb_size]; simp; omega) hBw
 rw [← hc] at WS
 have HC := zH (sb_list (9 :: kd))
 rw [← hc] at HC
 clear hc
 go_enter Tryz.func138, Tryz.ntmps138
 go_wp2_with fail
 refine WS.mono ?_
 rintro e w1 ⟨⟨v, rfl⟩, ⟨g1, h1⟩, k1, _⟩
 rw [uI HC] at h1
 have WB := writeByte_any B b n (t ++ 9 :: kd) g1 10 w1 h1 (by simp; omega) (Nat.le_trans hBw k1.size)
 have K1 := zH k1
 clear WS HC h k1
 go_wp2_with fail
 refine WB.mono ?_
 rintro e w2 ⟨⟨v, rfl⟩, h2, k2⟩
 go_wp2_with fail
 go_end0
 refine ⟨rfl, ?_, (uI K1).trans k2⟩
 have e : t ++ insT kd [] = t ++ 9 :: kd ++ [10] := by simp [insT]
 rw [e]; exact h2
theorem join_len {fs : List (List UInt8)} (h : fs.length ≤ 4) (hf : ∀ f ∈ fs, f.length ≤ 20) : (Lib.join fs [44, 32]).length ≤ 100 := by
 unfold Lib.join
 match fs, h, hf with
 | [], _, _ => simp
 | [a], _, hf => have := hf a (by simp); simp [List.intercalate]; omega
 | [a, b], _, hf => have := hf a (by simp); have := hf b (by simp); simp [List.intercalate]; omega
 | [a, b, c], _, hf => have := hf a (by simp); have := hf b (by simp); have := hf c (by simp); simp [List.intercalate]; omega
 | [a, b, c, d], _, hf => have := hf a (by simp); have := hf b (by simp); have := hf c (by simp); have := hf d (by simp); simp [List.intercalate]; omega
 | _ :: _ :: _ :: _ :: _ :: _, h, _ => simp at h
theorem do_some (B b n : Nat) (t : List UInt8) (g : Option Nat) (kd : List UInt8) (fs : List (List UInt8)) (bk c : Nat) (w : World) (h : Wr w B b n t g) (hne : fs ≠ []) (hf4 : fs.length ≤ 4) (hfl : ∀ f ∈ fs, f.length ≤ 20) (hcc : fs.length ≤ c) (hbk : bk < w.heap.size) (hcells : ∀ j x, fs[j]? = some x → w.cell? ⟨bk, j, none⟩ = some (.string (sb x))) (hb : bk ≠ b) (hg : g ≠ some bk) (hl : t.length + kd.length + 200 ≤ 1048576) (hBw : B ≤ w.heap.size) : Calls Tryz.prog 138 #[.pointer (some ⟨b, 0, none⟩), .string (sb kd), .slice (some ⟨bk, 0, none⟩) fs.length c] w fun e w' => e = .returned (.tuple #[]) ∧ (∃ g', Wr w' B b n (t ++ insT kd fs) g') ∧ Below B w w' := by
 have hc : (⟨#[9]⟩ ++ sb kd : ByteArray) = sb (9 :: kd) := sb_cat [9] kd
 have hs : ¬ 9223372036854775807 < 1 + (sb kd).size := by rw [sb_size]; omega
 have WS := writeString_any B b n t g (sb (9 :: kd)) w h (by rw [sb_size]; simp; omega) hBw
 rw [← hc] at WS
 have HC := zH (sb_list (9 :: kd))
 rw [← hc] at HC
 have hf0 : (0 : Int) < (fs.length : Int) := by
   have : fs.length ≠ 0 := fun e => hne (List.eq_nil_of_length_eq_zero e)
   omega
 have hJ := join_len hf4 hfl
 have HJ := zH hJ
 have HF := zH hcells
 clear hc hcells hJ hfl
 go_enter Tryz.func138, Tryz.ntmps138
 go_wp2_with fail
 refine WS.mono ?_
 rintro e w1 ⟨⟨v, rfl⟩, ⟨g1, h1⟩, k1, q1⟩
 rw [uI HC] at h1
 have hcells1 : ∀ j x, fs[j]? = some x → w1.cell? ⟨bk, j, none⟩ = some (.string (sb x)) := fun j x hx => by
   rw [q1.cell hbk (fun e => e.elim hb hg)]; exact uI HF j x hx
 have kd1 : Below w1.heap.size w1 w1.drew := Below.drew (Below.refl _ w1)
 have hcd : ∀ j x, fs[j]? = some x → w1.drew.cell? ⟨bk, j, none⟩ = some (.string (sb x)) := hcells1
 have hbd : bk < w1.drew.heap.size := Nat.lt_of_lt_of_le hbk k1.size
 have em : (fs.map sb).map (fun x => x.data.toList) = fs := by rw [List.map_map]; exact (List.map_congr_left (fun a _ => sb_list a)).trans (List.map_id _)
 have JN : Calls Tryz.prog 180 #[.slice (some ⟨bk, 0, none⟩) fs.length c, .string ⟨#[44, 32]⟩] w1.drew fun e w' => e = .returned (.string (sb (Lib.join fs [44, 32]))) ∧ Below w1.drew.heap.size w1.drew w' := by
   have J0 := Tryz.strings_Join bk 0 c (fs.map sb) ⟨#[44, 32]⟩ w1.drew (fun j y hy => by
     rw [List.getElem?_map, Option.map_eq_some_iff] at hy
     obtain ⟨x, hx, rfl⟩ := hy
     rw [Nat.zero_add]; exact hcd j x hx) hbd (by rw [List.length_map]; omega) (by rw [List.length_map]; exact hcc) (by rw [em]; have := uI HJ; show (Lib.join fs [44, 32]).length ≤ _; omega)
   rw [em, List.length_map] at J0
   exact J0
 have HJN := zH JN
 have H1 := zH (h1.step kd1)
 have K1 := zH (k1.trans (kd1.mono (Nat.le_trans hBw k1.size)))
 have hjs : (sb (Lib.join fs [44, 32])).size ≤ 100 := by rw [sb_size]; exact uI HJ
 have hjs2 : ¬ 9223372036854775807 < 1 + (sb (Lib.join fs [44, 32])).size := by omega
 have hB1 : B ≤ w1.drew.heap.size := Nat.le_trans hBw k1.size
 clear JN em hcd hbd kd1 hcells1 h1 k1 q1 WS HC HF h hbk hg hb
 go_wp2_with fail
 refine reg_start (fun _ => True) (by kernel_rfl) ?_
 generalize w1.drew = w2 at *
 refine reg_seg 0 4 3 (by kernel_rfl) (by decide) (by kernel_rfl) (by kernel_rfl) (fun _ _ _ _ _ h => h) ?_
 simp only [List.take_succ_cons, List.take_zero, List.drop_succ_cons, List.drop_zero]
 repeat (refine wpSteady_step (fun K hK => ?_); go_simp; first | (refine steady_of ?_ (fun W hW => ?_) (hK _ ?_); rotate_left; (obtain _ := hW; go_simp; first | done | rfl); clear hK K) | (refine hK _ ?_; clear hK K))
 refine wpSteady_nil ?_
 refine reg_one 4 2 (by kernel_rfl) (by kernel_rfl) trivial ?_
 simp only [List.take_succ_cons, List.take_zero, List.drop_succ_cons, List.drop_zero]
 go_wp2_with fail
 refine (uI HJN).mono ?_
 rintro e w3 ⟨rfl, k3⟩
 have H3 := zH ((uI H1).step k3)
 have K3 := zH ((uI K1).trans (k3.mono hB1))
 have hB3 : B ≤ w3.heap.size := Nat.le_trans hB1 k3.size
 have hc3 : (⟨#[32]⟩ ++ sb (Lib.join fs [44, 32]) : ByteArray) = sb (32 :: Lib.join fs [44, 32]) := sb_cat [32] _
 have WS := writeString_any B b n (t ++ 9 :: kd) g1 (sb (32 :: Lib.join fs [44, 32])) w3 (uI H3) (by rw [sb_size]; have := uI HJ; simp; omega) hB3
 rw [sb_list, ← hc3] at WS
 have HWS := zH WS
 clear k3 HJN H1 K1 WS hc3 H3
 generalize hjt : Lib.join fs [44, 32] = jt at *
 have HT := zH hjt
 clear hjt
 go_wp2_with fail
 first | refine next_nil ?_ | refine next_go ?_
 refine reg_seg 5 1 1 (by kernel_rfl) (by decide) (by kernel_rfl) (by kernel_rfl) (fun _ _ _ _ _ h => h) ?_
 simp only [List.take_succ_cons, List.take_zero, List.drop_succ_cons, List.drop_zero]
 repeat (refine wpSteady_step (fun K hK => ?_); go_simp; first | (refine steady_of ?_ (fun W hW => ?_) (hK _ ?_); rotate_left; (obtain _ := hW; go_simp; first | done | rfl); clear hK K) | (refine hK _ ?_; clear hK K))
 refine wpSteady_nil ?_
 refine reg_one 6 0 (by kernel_rfl) (by kernel_rfl) trivial ?_
 simp only [List.take_succ_cons, List.take_zero, List.drop_succ_cons, List.drop_zero]
 go_wp2_with fail
 refine (uI HWS).mono ?_
 rintro e w4 ⟨⟨v, rfl⟩, ⟨g4, h4⟩, k4, _⟩
 have WB := zH (writeByte_any B b n _ g4 10 w4 h4 (by have := uI HJ; simp; omega) (Nat.le_trans hB3 k4.size))
 have K4 := zH ((uI K3).trans k4)
 clear HWS k4 h4 K3
 go_wp2_with fail
 first | refine next_nil ?_ | refine next_go ?_
 refine reg_end (by kernel_rfl) trivial ?_
 go_wp2_with fail
 refine (uI WB).mono ?_
 rintro e w5 ⟨⟨v, rfl⟩, h5, k5⟩
 go_wp2_with fail
 go_end0
 refine ⟨rfl, ?_, (uI K4).trans k5⟩
 have e : t ++ insT kd fs = t ++ 9 :: kd ++ 32 :: jt ++ [10] := by unfold insT; rw [if_neg hne, uI HT]; simp
 rw [e]; exact h5
end Go.Proofs.YtlkoidkdeopgjaaGreatDoor
