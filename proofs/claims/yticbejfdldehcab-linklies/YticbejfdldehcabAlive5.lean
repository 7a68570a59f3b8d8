/-
  pairlegallaw5.alive: two units are linked.
-/
import Derived.Test.YticbejfdldehcabLkL
import Derived.Test.YticbejfdldehcabOpenL
namespace Go.Proofs.Yticbejfdldehcab
open Go.RowKit Go.Maps
set_option linter.unusedSimpArgs false
set_option linter.unusedVariables false

theorem lies_new (w : World) (cs : Array Value) (T : TypeId) (s n : Nat) (h : cs.size = n * s) (hm : n ≤ maxLen) : Lies (w.alloc (.cells cs T)) s (.slice (some ⟨w.heap.size, 0, none⟩) n n) n cs.toList := by
  refine ⟨by simpa using h, _, _, rfl, Nat.le_refl _, hm, (fun h => by cases h), fun _ => ⟨_, _, rfl, by simp, fun j hj => ?_⟩⟩
  have hj' : j < cs.toList.length := by simpa [h] using hj
  rw [Nat.zero_add, List.getElem?_eq_getElem hj']
  exact (Box.new w cs T).2.1 j _ (List.getElem?_eq_getElem hj')
theorem uns_two {W : World} {v : Value} {a b : Un} {va vb : Value} (h : Lies W 2 v 2 [.string a.name, va, .string b.name, vb]) (ha : Lns W va a.lines) (hb : Lns W vb b.lines) : Uns W v [a, b] := by
  obtain ⟨_, ao, cap, rfl, h3, h4, _, h5⟩ := h
  refine ⟨ao, cap, rfl, Nat.le_trans h3 h4, fun _ => ?_⟩
  obtain ⟨b', off, rfl, hb', hc⟩ := h5 (by decide)
  refine ⟨b', off, fun j => if j = 0 then va else vb, rfl, hb', fun j hj => ?_⟩
  have c0 := hc 0 (by decide)
  have c1 := hc 1 (by decide)
  have c2 := hc 2 (by decide)
  have c3 := hc 3 (by decide)
  match j, hj with
  | 0, _ => exact ⟨c0, c1, ha⟩
  | 1, _ => exact ⟨c2, c3, hb⟩
theorem uns_one {W : World} {v : Value} {a : Un} {va : Value} (h : Lies W 2 v 1 [.string a.name, va]) (ha : Lns W va a.lines) : Uns W v [a] := by
  obtain ⟨_, ao, cap, rfl, h3, h4, _, h5⟩ := h
  refine ⟨ao, cap, rfl, Nat.le_trans h3 h4, fun _ => ?_⟩
  obtain ⟨b', off, rfl, hb', hc⟩ := h5 (by decide)
  refine ⟨b', off, fun _ => va, rfl, hb', fun j hj => ?_⟩
  have c0 := hc 0 (by decide)
  have c1 := hc 1 (by decide)
  match j, hj with
  | 0, _ => exact ⟨c0, c1, ha⟩
def us5 : List Un := [⟨⟨#[]⟩, [⟨⟨#[98]⟩, ⟨0, 0, 0, 0⟩, ⟨#[]⟩⟩, ⟨⟨#[]⟩, ⟨27, 0, 0, 0⟩, ⟨#[]⟩⟩]⟩, ⟨⟨#[]⟩, [⟨⟨#[97]⟩, ⟨0, 0, 0, 0⟩, ⟨#[]⟩⟩, ⟨⟨#[]⟩, ⟨26, 0, 0, 0⟩, ⟨#[98]⟩⟩]⟩]
theorem lk5 : (linkL us5 (ByteArray.toList ⟨#[97]⟩)).2 = (0, 0) ∧ (linkL us5 (ByteArray.toList ⟨#[97]⟩)).1.words = [26624, 2, 27648] ∧ (linkL us5 (ByteArray.toList ⟨#[97]⟩)).1.units = [1, 0] := ⟨by kernel_rfl, by kernel_rfl, by kernel_rfl⟩
set_option maxRecDepth 100000 in
set_option maxHeartbeats 4000000 in
theorem alive5 (w : World) : Calls Try.prog 11 #[] w fun e w' => e = .returned (.bool true) ∧ Below w.heap.size w w' := by
  have LA := fun v w h => link_any us5 v ⟨#[97]⟩ w h (by decide)
  unfold LinkRet at LA
  obtain ⟨l1, l2, l3⟩ := lk5
  generalize linkL us5 (ByteArray.toList ⟨#[97]⟩) = R at *
  obtain ⟨⟨zs, os, sp⟩, er, ef⟩ := R
  dsimp only at *
  subst l2 l3
  obtain ⟨rfl, rfl⟩ := Prod.mk.inj l1
  clear l1
  have U : Hid (∀ (W : World), Uns (((W.alloc (.cells #[.string ⟨#[98]⟩, .int .i64 0, .int .i64 0, .int .i64 0, .int .i64 0, .string ⟨#[]⟩, .string ⟨#[]⟩, .int .i64 27, .int .i64 0, .int .i64 0, .int .i64 0, .string ⟨#[]⟩] 43)).alloc (.cells #[.string ⟨#[97]⟩, .int .i64 0, .int .i64 0, .int .i64 0, .int .i64 0, .string ⟨#[]⟩, .string ⟨#[]⟩, .int .i64 26, .int .i64 0, .int .i64 0, .int .i64 0, .string ⟨#[98]⟩] 43)).alloc (.cells #[.string ⟨#[]⟩, .slice (some ⟨W.heap.size, 0, none⟩) 2 2, .string ⟨#[]⟩, .slice (some ⟨W.heap.size + 1, 0, none⟩) 2 2] 39)) (.slice (some ⟨W.heap.size + 1 + 1, 0, none⟩) 2 2) us5) := by
    intro W
    have a1 := lies_new W #[.string ⟨#[98]⟩, .int .i64 0, .int .i64 0, .int .i64 0, .int .i64 0, .string ⟨#[]⟩, .string ⟨#[]⟩, .int .i64 27, .int .i64 0, .int .i64 0, .int .i64 0, .string ⟨#[]⟩] 43 6 2 rfl (by decide)
    have a2 := lies_new (W.alloc (.cells #[.string ⟨#[98]⟩, .int .i64 0, .int .i64 0, .int .i64 0, .int .i64 0, .string ⟨#[]⟩, .string ⟨#[]⟩, .int .i64 27, .int .i64 0, .int .i64 0, .int .i64 0, .string ⟨#[]⟩] 43)) #[.string ⟨#[97]⟩, .int .i64 0, .int .i64 0, .int .i64 0, .int .i64 0, .string ⟨#[]⟩, .string ⟨#[]⟩, .int .i64 26, .int .i64 0, .int .i64 0, .int .i64 0, .string ⟨#[98]⟩] 43 6 2 rfl (by decide)
    have a3 := lies_new ((W.alloc (.cells #[.string ⟨#[98]⟩, .int .i64 0, .int .i64 0, .int .i64 0, .int .i64 0, .string ⟨#[]⟩, .string ⟨#[]⟩, .int .i64 27, .int .i64 0, .int .i64 0, .int .i64 0, .string ⟨#[]⟩] 43)).alloc (.cells #[.string ⟨#[97]⟩, .int .i64 0, .int .i64 0, .int .i64 0, .int .i64 0, .string ⟨#[]⟩, .string ⟨#[]⟩, .int .i64 26, .int .i64 0, .int .i64 0, .int .i64 0, .string ⟨#[98]⟩] 43)) #[.string ⟨#[]⟩, .slice (some ⟨W.heap.size, 0, none⟩) 2 2, .string ⟨#[]⟩, .slice (some ⟨W.heap.size + 1, 0, none⟩) 2 2] 39 2 2 rfl (by decide)
    simp only [World.size_alloc] at a1 a2 a3
    exact uns_two a3 (Lies.step (Lies.step a1 (below_a _ _)) (below_a _ _)) (Lies.step a2 (below_a _ _))
  have HU := hideI ((unhideI U) w)
  clear U
  go_enter Try.func11, Try.ntmps11
  go_wp2_with fail
  refine (LA _ _ (unhideI HU)).mono ?_
  rintro e w1 ⟨vw, vu, vs, rfl, i1, i2, i3, k1⟩
  obtain ⟨b1, o1, rfl, m1, h1⟩ := i1.at
  obtain ⟨b2, o2, rfl, m2, h2⟩ := i2.at
  obtain ⟨c1, d1, rfl, z1, h3⟩ := h1 (by simp)
  obtain ⟨c2, d2, rfl, z2, h4⟩ := h2 (by simp)
  obtain ⟨-, sa, sc, rfl, -⟩ := i3
  have x1 := h3 1 (by decide)
  have x2 := h4 0 (by decide)
  have K1 := hideI ((bt (bt (below_a _ _) (below_a _ _)) (below_a _ _) : Below w.heap.size w _).trans (k1.mono (by simp; omega)))
  simp only [List.getElem_cons_succ, List.getElem_cons_zero, List.length_cons, List.length_nil, Nat.add_zero] at x1 x2
  clear h1 h2 h3 h4 i1 i2 k1 HU LA m1 m2
  have s1 := (unhideI K1).size
  go_wp2_with fail
  go_ret
  exact ⟨rfl, (by repeat (first | exact unhideI K1 | refine Below.setCell ?_ (by first | exact Nat.le_refl _ | (simp; done) | omega | (simp; omega)) _ | refine Below.alloc ?_ (by first | (simp; done) | omega | (simp; omega)) _))⟩
end Go.Proofs.Yticbejfdldehcab
