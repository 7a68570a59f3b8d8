/-
  The document's linker: the image in memory.
-/
import Derived.Test.YteoifpkbknkpjaaL5Dz
import Derived.Test.YteoifpkbknkpjaaRefE
import Derived.Test.YteoifpkbknkpjaaFour
import Derived.Test.YteoifpkbknkpjaaLkT
namespace Go.Proofs.Yteoifpkbknkpjaa
open Go.RowKit Go.Maps
set_option linter.unusedSimpArgs false
set_option linter.unusedVariables false

/-- The image while it grows: two rows of the call's own, and the box in which they lie. -/
structure ImgAt (w11 : World) (vo vb : Value) (out : List Int) (sp : List (ByteArray × Int)) (vw vs : Value) (W : World) : Prop where
  box : Box W (w11.heap.size + 1) [vw, vo, vs]
  bb : Box W w11.heap.size [vb]
  ow : W.ownsRow (w11.heap.size + 2) 3 1 vw out.length (out.map int1)
  os : W.ownsRow (w11.heap.size + 2) 59 2 vs sp.length (sp.flatMap cellsS)
  bel : Below w11.heap.size w11 W
section
variable {w11 W W' : World} {vo vb vw vs : Value} {out : List Int} {sp : List (ByteArray × Int)}
theorem ImgAt.sz (h : ImgAt w11 vo vb out sp vw vs W) : w11.heap.size + 2 ≤ W.heap.size := h.box.1
theorem ImgAt.step (h : ImgAt w11 vo vb out sp vw vs W) (k : Below W.heap.size W W') : ImgAt w11 vo vb out sp vw vs W' := ⟨h.box.step k, h.bb.step k, own_step h.ow k, own_step h.os k, h.bel.trans (k.mono h.bel.size)⟩
theorem ImgAt.start (w11 : World) (vo vb : Value) : ImgAt w11 vo vb [] [] (.slice none 0 0) (.slice none 0 0) ((w11.alloc (.cells #[vb] 23)).alloc (.cells #[.slice none 0 0, vo, .slice none 0 0] 26)) := by
  have b := Box.new (w11.alloc (.cells #[vb] 23)) #[.slice none 0 0, vo, .slice none 0 0] 26
  rw [show (w11.alloc (.cells #[vb] 23)).heap.size = w11.heap.size + 1 by simp] at b
  exact ⟨b, (Box.new w11 #[vb] 23).step (below_a _ _), World.ownsRow_nil _ _ _ _, World.ownsRow_nil _ _ _ _, bt (below_a _ _) (below_a _ _)⟩
/-- More words. -/
theorem ImgAt.word (h : ImgAt w11 vo vb out sp vw vs W) {g : World} {v' : Value} {l : List Int} (k : Kpt (fun c => vw.ownBlock = some c) W g) (o : g.ownsRow (w11.heap.size + 2) 3 1 v' (out ++ l).length ((out ++ l).map int1)) : ImgAt w11 vo vb (out ++ l) sp v' vs (g.setCell ⟨w11.heap.size + 1, 0, none⟩ v') := by
  have hn : ∀ c, vw.ownBlock = some c → w11.heap.size + 2 ≤ c := fun c hc => (h.ow.lt c hc).1
  have hs := h.sz
  have b1 := h.box.kpt k (fun e => by have := hn _ e; omega)
  have n1 : v'.ownBlock ≠ some (w11.heap.size + 1) := fun e => by have := (o.lt _ e).1; omega
  have os := own_kpt h.os k (fun c hc e => rows_apart h.ow h.os (by decide) e hc)
  have n2 : vs.ownBlock ≠ some (w11.heap.size + 1) := fun e => by have := (h.os.lt _ e).1; omega
  exact ⟨b1.set (j := 0) (u := v') (by simp), (h.bb.kpt k (fun e => by have := hn _ e; omega)).other (by omega), ownsRow_setCell_other o (a := ⟨w11.heap.size + 1, 0, none⟩) n1 _, ownsRow_setCell_other os (a := ⟨w11.heap.size + 1, 0, none⟩) n2 _, (h.bel.trans (k.below (by omega) (fun c hc => by have := hn c hc; omega))).setCell (by simp) _⟩
/-- One spot more. -/
theorem ImgAt.spot (h : ImgAt w11 vo vb out sp vw vs W) {g : World} {v' : Value} {z : ByteArray × Int} (k : Kpt (fun c => vs.ownBlock = some c) W g) (o : g.ownsRow (w11.heap.size + 2) 59 2 v' (sp ++ [z]).length ((sp ++ [z]).flatMap cellsS)) : ImgAt w11 vo vb out (sp ++ [z]) vw v' (g.setCell ⟨w11.heap.size + 1, 2, none⟩ v') := by
  have hn : ∀ c, vs.ownBlock = some c → w11.heap.size + 2 ≤ c := fun c hc => (h.os.lt c hc).1
  have hs := h.sz
  have b1 := h.box.kpt k (fun e => by have := hn _ e; omega)
  have n1 : v'.ownBlock ≠ some (w11.heap.size + 1) := fun e => by have := (o.lt _ e).1; omega
  have ow := own_kpt h.ow k (fun c hc e => rows_apart h.ow h.os (by decide) hc e)
  have n2 : vw.ownBlock ≠ some (w11.heap.size + 1) := fun e => by have := (h.ow.lt _ e).1; omega
  exact ⟨b1.set (j := 2) (u := v') (by simp), (h.bb.kpt k (fun e => by have := hn _ e; omega)).other (by omega), ownsRow_setCell_other ow (a := ⟨w11.heap.size + 1, 2, none⟩) n2 _, ownsRow_setCell_other o (a := ⟨w11.heap.size + 1, 2, none⟩) n1 _, (h.bel.trans (k.below (by omega) (fun c hc => by have := hn c hc; omega))).setCell (by simp) _⟩
end
theorem inss_one (u : World) (i : Ins) (T : TypeId) (B : Nat) (hB : B = u.heap.size) : Inss (u.alloc (.cells #[.int .i64 i.o, .int .i64 i.d, .int .i64 i.s, .int .i64 i.m] T)) (.slice (some ⟨B, 0, none⟩) 1 1) [i] := by
  subst hB
  refine ⟨by simp [cells4], some ⟨u.heap.size, 0, none⟩, 1, rfl, by simp, by unfold maxLen; simp, fun h => ?_, fun _ => ⟨u.heap.size, 0, rfl, by simp, fun j hj => ?_⟩⟩
  · simp at h
  · have hj' : j < (cells4 i).length := by simpa [cells4] using hj
    have := four_c1 u i T u.heap.size rfl j _ (List.getElem?_eq_getElem hj')
    rw [show ((⟨u.heap.size, 0, none⟩ : Addr).add j) = ⟨u.heap.size, 0 + j, none⟩ by unfold Addr.add; split <;> simp_all] at this
    rw [this]
    simp [hj']
theorem ints_cells (xs : List Int) : ∀ u ∈ xs.map int1, u.oneCell' = true := by
  intro u hu
  obtain ⟨x, -, rfl⟩ := List.mem_map.1 hu
  rfl
theorem own_ints {w : World} {B n : Nat} {v : Value} {l m : List Int} (h : w.ownsRow B 3 1 v n (l.map int1 ++ m.map int1)) : w.ownsRow B 3 1 v (l ++ m).length ((l ++ m).map int1) := by
  have hn : (l ++ m).length = n := by have := h.1; simpa using this
  rw [hn, List.map_append]; exact h
theorem ImgAt.put {w11 W : World} {vo vb vw vs : Value} {out : List Int} {sp : List (ByteArray × Int)} (h : ImgAt w11 vo vb out sp vw vs W) {c j : Nat} (x : Value) (hc : w11.heap.size + 2 ≤ c) (hw : vw.ownBlock ≠ some c) (hs : vs.ownBlock ≠ some c) : ImgAt w11 vo vb out sp vw vs (W.setCell ⟨c, j, none⟩ x) :=
  ⟨h.box.other (by omega), h.bb.other (by omega), ownsRow_setCell_other h.ow (a := ⟨c, j, none⟩) hw _, ownsRow_setCell_other h.os (a := ⟨c, j, none⟩) hs _, h.bel.setCell (by simp; omega) _⟩
theorem L5S.ret2 {w w6 : World} {v : Value} {us : List Un} (h : L5S w w6 v us) (x y z : Value) (a b : Int) : ∃ W, W = ((((w6.setCell ⟨w.heap.size + 1, 0, none⟩ x).setCell ⟨w.heap.size + 1, 1, none⟩ y).setCell ⟨w.heap.size + 1, 2, none⟩ z).setCell ⟨w.heap.size + 1 + 1, 0, none⟩ (.int .i64 a)).setCell ⟨w.heap.size + 1 + 1, 1, none⟩ (.int .i64 b) ∧ Box W (w.heap.size + 1) [x, y, z] ∧ Box W (w.heap.size + 1 + 1) [.int .i64 a, .int .i64 b] ∧ Below w.heap.size w W := by
  refine ⟨_, rfl, ?_, ?_, ?_⟩
  · exact ((((h.bi.set (j := 0) (u := x) (by simp)).set (j := 1) (u := y) (by simp)).set (j := 2) (u := z) (by simp)).other (by omega)).other (by omega)
  · exact ((((h.bf.other (by omega)).other (by omega)).other (by omega)).set (j := 0) (u := .int .i64 a) (by simp)).set (j := 1) (u := .int .i64 b) (by simp)
  · have := h.bel
    have k := h.sz
    exact (by repeat (first | exact this | refine Below.setCell ?_ (by first | exact Nat.le_refl _ | (simp; done) | omega | (simp; omega)) _ | refine Below.alloc ?_ (by first | (simp; done) | omega | (simp; omega)) _))
theorem Lies.keep {W : World} {s n n0 : Nat} {v : Value} {cs : List Value} (h : Lies W s v n cs) (hb : ∀ k, v.ownBlock = some k → n0 + 1 < k ∨ k < n0) (x y z a b : Value) : Lies (((((W.setCell ⟨n0, 0, none⟩ x).setCell ⟨n0, 1, none⟩ y).setCell ⟨n0, 2, none⟩ z).setCell ⟨n0 + 1, 0, none⟩ a).setCell ⟨n0 + 1, 1, none⟩ b) s v n cs := by
  have e : ∀ k, v.ownBlock = some k → k ≠ n0 ∧ k ≠ n0 + 1 := fun k hk => by have := hb k hk; omega
  exact ((((h.other (fun k hk => (e k hk).1)).other (fun k hk => (e k hk).1)).other (fun k hk => (e k hk).1)).other (fun k hk => (e k hk).2)).other (fun k hk => (e k hk).2)
theorem enc1_len (i : Ins) : (encA [i]).1.length ≤ 2 := by
  unfold encA
  by_cases h : wrg i = 0
  · have l2 := (ws_len2 i).2
    rw [enc_next h (by simp; omega), enc_nil]
    simpa using l2
  · rw [enc_bad h]; simp
end Go.Proofs.Yteoifpkbknkpjaa
