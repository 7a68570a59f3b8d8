/-
  A region that draws its order: three operations that may come up; ways that meet.
-/
import Derived.Test.YtfkhbhjpnfajeaaReg
namespace Go.Proofs.Ytfkhbhjpnfajeaa
open Go.RowKit
set_option linter.unusedSimpArgs false
set_option linter.unusedVariables false

theorem reg_meet2 {G R : Nat → Nat → World → Prop} {p : Prop} (h1 : (∀ a b W, R a b W → G a b W) → p) (h2 : ∀ a b W, R a b W → G a b W) : p := h1 h2
theorem reg_three {P : Program} {Q : Exit → Act → World → Prop} {C : World → Prop} {L : List Oper} (i j m f : Nat) {fuel : Nat} {listed : Array Bool} {a : Act} {w : World} (hf : fuel = f + 1) (hr : Region.ready .any L.toArray listed = [i, j, m]) (hC : C w)
    (h1 : wpList P L.toArray (nextQ Q (wpAnyC P .any L.toArray Q C f (listed.setIfInBounds i true))) ((L.drop i).take 1) a w)
    (h2 : wpList P L.toArray (nextQ Q (wpAnyC P .any L.toArray Q C f (listed.setIfInBounds j true))) ((L.drop j).take 1) a w)
    (h3 : wpList P L.toArray (nextQ Q (wpAnyC P .any L.toArray Q C f (listed.setIfInBounds m true))) ((L.drop m).take 1) a w) : wpAnyC P .any L.toArray Q C fuel listed a w := by
  subst hf
  refine ⟨hC, fun h0 => (by rw [hr] at h0; cases h0), fun k hk => ?_⟩
  have hm := hk
  rw [hr] at hk
  obtain ⟨_, o, ho, _⟩ := mem_ready.1 hm
  have ho' : L[k]? = some o := by simpa using ho
  have hd : (L.drop k).take 1 = [o] := by
    obtain ⟨hlt, e⟩ := List.getElem?_eq_some_iff.1 ho'
    rw [List.drop_eq_getElem_cons hlt, e]; rfl
  have h : wpList P L.toArray (nextQ Q (wpAnyC P .any L.toArray Q C f (listed.setIfInBounds k true))) [o] a w := by
    rw [← hd]
    simp only [List.mem_cons, List.not_mem_nil, or_false] at hk
    rcases hk with rfl | rfl | rfl
    · exact h1
    · exact h2
    · exact h3
  unfold wpOp
  simp only [ho]
  unfold wpList at h
  split
  · rename_i hw
    rw [if_pos hw] at h
    rcases h with h | ⟨h1, ⟨a', w', h2⟩⟩
    · exact .inl (wp_turn (fun _ _ _ h => h) (fun _ _ h => h) h)
    · exact .inr ⟨h1, a', w', h2⟩
  · rename_i hw
    rw [if_neg hw] at h
    exact h
end Go.Proofs.Ytfkhbhjpnfajeaa
