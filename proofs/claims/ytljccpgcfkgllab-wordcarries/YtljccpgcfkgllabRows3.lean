/-
  AddWords and SubWords of the words of two numbers lay the words of the sum and of the difference.
-/
import Derived.Test.YtljccpgcfkgllabMath
namespace Go.Proofs.Ytljccpgcfkgllab
open Go.RowKit

theorem wide_of {n : Int} (h : IsW n) : n = 8 ∨ ∃ L, Wide n L := by
  rcases h with rfl | rfl | rfl | rfl
  · exact .inl rfl
  · exact .inr ⟨1, .inl ⟨rfl, rfl⟩⟩
  · exact .inr ⟨2, .inr (.inl ⟨rfl, rfl⟩)⟩
  · exact .inr ⟨4, .inr (.inr ⟨rfl, rfl⟩)⟩

theorem add_row (a b n : Int) (L ba bb : Nat) (w : World) (h : Wide n L) (ra : Row w ba L (wdf (cut n a))) (rb : Row w bb L (wdf (cut n b))) :
    ∃ N V : Bool, Calls Try.prog 16 #[.slice (some ⟨ba, 0, none⟩) L L, .slice (some ⟨bb, 0, none⟩) L L] w fun e w' =>
      e = .returned (.tuple #[.slice (some ⟨w.heap.size + 1 + 1 + 1 + 1, 0, none⟩) L L, .agg #[.bool (decide (cut n (a + b) < cut n a)), .bool (cut n (a + b) == 0), .bool N, .bool V], .int .i64 0]) ∧ Below w.heap.size w w' ∧ Row w' (w.heap.size + 1 + 1 + 1 + 1) L (wdf (cut n (cut n (a + b)))) := by
  obtain ⟨e1, e2, e3⟩ := sum_all h a b
  have hl := h.len
  refine ⟨(sumf (wdf (cut n a)) (wdf (cut n b)) L).2.2.1, (sumf (wdf (cut n a)) (wdf (cut n b)) L).2.2.2, ((aw_sum L _ _ ba 0 L bb 0 L w hl.1 hl.2 ra.1 rb.1 ra.off rb.off).mono ?_)⟩
  rintro e w' ⟨rfl, M⟩
  exact ⟨by rw [e2, e3], M.bel, M.sz, fun j hj => by rw [← e1 j hj]; exact M.o j hj⟩
theorem sub_row (a b n : Int) (L ba bb : Nat) (w : World) (h : Wide n L) (ra : Row w ba L (wdf (cut n a))) (rb : Row w bb L (wdf (cut n b))) :
    Calls Try.prog 17 #[.slice (some ⟨ba, 0, none⟩) L L, .slice (some ⟨bb, 0, none⟩) L L] w fun e w' =>
      e = .returned (.tuple #[.slice (some ⟨w.heap.size + 1 + 1 + 1 + 1, 0, none⟩) L L, .agg #[.bool (decide (cut n a < cut n b)), .bool (cut n (a - b) == 0), .bool (diff (wdf (cut n a)) (wdf (cut n b)) L).2.2.1, .bool (diff (wdf (cut n a)) (wdf (cut n b)) L).2.2.2], .int .i64 0]) ∧ Below w.heap.size w w' ∧ Row w' (w.heap.size + 1 + 1 + 1 + 1) L (wdf (cut n (cut n (a - b)))) := by
  obtain ⟨e1, e2, e3⟩ := dif_all h a b
  have hl := h.len
  refine ((aw_dif L _ _ ba 0 L bb 0 L w hl.1 hl.2 ra.1 rb.1 ra.off rb.off).mono ?_)
  rintro e w' ⟨rfl, M⟩
  exact ⟨by rw [e2, e3], M.bel, M.sz, fun j hj => by rw [← e1 j hj]; exact M.o j hj⟩

theorem al {u : World} (o : Obj) : Below u.heap.size u (u.alloc o) := (Below.refl _ _).alloc (Nat.le_refl _) _

end Go.Proofs.Ytljccpgcfkgllab
