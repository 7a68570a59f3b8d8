/-
  What is known is worked out: how a number of a type is written.
-/
import Derived.Test.YtjddpfojllefgaaGreatFkAz
import Derived.Test.YtjddpfojllefgaaGreatR7Fz
namespace Go.Proofs.YtjddpfojllefgaaGreat
open Go.RowKit
set_option linter.unusedSimpArgs false
set_option linter.unusedVariables false

/-- Two blocks of a call's own. -/
structure Tb (w W : World) (a r : List Value) : Prop where
  d : Below w.heap.size w W
  A : Box W w.heap.size a
  R : Box W (w.heap.size + 1) r
theorem Tb.next {w W W' : World} {a r : List Value} (h : Tb w W a r) (q : Below W.heap.size W W') : Tb w W' a r := ⟨bT h.d q, h.A.step q, h.R.step q⟩
theorem Tb.begin (w : World) (a r : Array Value) (S T : TypeId) : Tb w ((w.alloc (.cells a S)).alloc (.cells r T)) a.toList r.toList := by
  have k1 := below_a w (.cells a S)
  have k2 := below_a (w.alloc (.cells a S)) (.cells r T)
  have e1 : (w.alloc (.cells a S)).heap.size = w.heap.size + 1 := by simp
  refine ⟨bT k1 k2, (Box.new w a S).step k2, ?_⟩
  have := Box.new (w.alloc (.cells a S)) r T
  rwa [e1] at this
theorem Box.put6 {w : World} {b : Nat} {a0 a1 a2 a3 a4 a5 : Value} (h : Box w b [a0, a1, a2, a3, a4, a5]) (u0 u1 u2 u3 u4 u5 : Value) : Box ((((((w.setCell ⟨b, 0, none⟩ u0).setCell ⟨b, 1, none⟩ u1).setCell ⟨b, 2, none⟩ u2).setCell ⟨b, 3, none⟩ u3).setCell ⟨b, 4, none⟩ u4).setCell ⟨b, 5, none⟩ u5) b [u0, u1, u2, u3, u4, u5] :=
  (((((h.set (j := 0) (u := u0) (by simp)).set (j := 1) (u := u1) (by simp)).set (j := 2) (u := u2) (by simp)).set (j := 3) (u := u3) (by simp)).set (j := 4) (u := u4) (by simp)).set (j := 5) (u := u5) (by simp)
theorem below_6 {B b : Nat} {u v : World} (h : Below B u v) (hb : B ≤ b) (a0 a1 a2 a3 a4 a5 : Value) : Below B u ((((((v.setCell ⟨b, 0, none⟩ a0).setCell ⟨b, 1, none⟩ a1).setCell ⟨b, 2, none⟩ a2).setCell ⟨b, 3, none⟩ a3).setCell ⟨b, 4, none⟩ a4).setCell ⟨b, 5, none⟩ a5) :=
  Below.setCell (Below.setCell (Below.setCell (Below.setCell (below_2 h hb a0 a1) hb _) hb _) hb _) hb _
theorem exP_one {X : Nat → Prop} {w : World} {b : Nat} {z : Ex} {kv : Value} (h : Box w b (exC z kv)) (hX : X b) (hk : ExP X w kv z.kids) (hf : ExF z) : ExP X w (.slice (some ⟨b, 0, none⟩) 1 1) [z] := by
  refine .mk _ [z] [kv] rfl (fun c hc _ => ?_) ⟨rfl, some ⟨b, 0, none⟩, 1, rfl, Nat.le_refl _, by unfold maxLen; omega, (fun h => by cases h), fun _ => ⟨b, 0, rfl, h.1, fun j hj => ?_⟩⟩ (fun x hx => ?_) (fun i hi => ?_)
  · injection hc with hc; subst hc; exact hX
  · have hj' : j < 6 := by simpa using hj
    have e : (exCs [z] [kv])[j]? = (exC z kv)[j]? := by simp [exCs]
    rw [Nat.zero_add, e]
    have h6 : (exC z kv).length = 6 := rfl
    rw [List.getElem?_eq_getElem (by omega)]
    exact h.2.1 j _ (List.getElem?_eq_getElem (by omega))
  · rcases List.mem_cons.1 hx with rfl | hx
    · exact hf
    · cases hx
  · obtain rfl : i = 0 := by simpa using hi
    exact hk
set_option maxRecDepth 100000 in
set_option maxHeartbeats 1000000 in
theorem written_num (V b : Int) (s : Bool) (w : World) (h : (lit V (!s)).2.2 = 0 ∧ (lit V (!s)).1 = b ∧ (lit V (!s)).2.1 = s) : Calls Tryz.prog 28 #[.int .u64 V, .agg #[.int .i64 b, .bool s]] w fun e w' => e = .returned (.agg #[.int .i64 1, .int .u64 V, .int .i64 b, .bool s, .string ⟨#[]⟩, .slice none 0 0]) ∧ Below w.heap.size w w' := by
  have HL0 := fun (w : World) => literal_any V (!s) w
  rw [h.1, h.2.1, h.2.2] at HL0
  have HL := hideI HL0
  clear HL0 h
  have S0 := hideI (Tb.begin w #[.int .i64 b, .bool s] #[.int .i64 0, .int .u64 0, .int .i64 0, .bool false, .string ⟨#[]⟩, .slice none 0 0] 24 27)
  obtain ⟨a0, a1⟩ := (unhideI S0).A.at2
  have hsA := (unhideI S0).A.1
  generalize hW0 : (w.alloc (.cells #[.int .i64 b, .bool s] 24)).alloc (.cells #[.int .i64 0, .int .u64 0, .int .i64 0, .bool false, .string ⟨#[]⟩, .slice none 0 0] 27) = W0 at *
  have eb : (b == b) = true := beq_self_eq_true b
  have es : (s == s) = true := beq_self_eq_true s
  go_enter Tryz.func28, Tryz.ntmps28
  go_wp2_with fail
  refine (unhideI HL _).mono ?_
  rintro e w1 ⟨rfl, k1⟩
  have S1 := hideI ((unhideI S0).next k1)
  have kN := below_a w1 (.cells #[.int .i64 b, .bool s] 24)
  have BN := hideI (Box.new w1 #[.int .i64 b, .bool s] 24)
  have S2 := hideI ((unhideI S1).next kN)
  clear k1 S0 S1 kN a0 a1 hsA HL
  obtain ⟨a0, a1⟩ := (unhideI S2).A.at2
  have hsA := (unhideI S2).A.1
  obtain ⟨u0, u1⟩ := (unhideI BN).at2
  have hsN := (unhideI BN).1
  obtain ⟨z0, z1, z2, z3, z4, z5⟩ := (unhideI S2).R.six8
  have zf := (unhideI S2).R.2.2
  have zl := (unhideI S2).R.1
  generalize hW2 : w1.alloc (.cells #[.int .i64 b, .bool s] 24) = W2 at *
  go_wp2_with fail
  obtain ⟨p0, p1, p2, p3, p4, p5⟩ := ((unhideI S2).R.put6 (.int .i64 1) (.int .u64 V) (.int .i64 b) (.bool s) (.string ⟨#[]⟩) (.slice none 0 0)).six8
  exact bodyPost_ret (v := .agg #[.int .i64 1, .int .u64 V, .int .i64 b, .bool s, .string ⟨#[]⟩, .slice none 0 0]) (by simp [results, Tryz.results28, go_sem, p0, p1, p2, p3, p4, p5]) rfl ⟨rfl, below_6 (unhideI S2).d (by omega) _ _ _ _ _ _⟩
set_option maxRecDepth 100000 in
set_option maxHeartbeats 1000000 in
theorem written_cast (V b : Int) (s : Bool) (w : World) (h : ¬ ((lit V (!s)).2.2 = 0 ∧ (lit V (!s)).1 = b ∧ (lit V (!s)).2.1 = s)) : Calls Tryz.prog 28 #[.int .u64 V, .agg #[.int .i64 b, .bool s]] w fun e w' => ∃ q, e = .returned (.agg #[.int .i64 5, .int .u64 0, .int .i64 b, .bool s, .string ⟨#[]⟩, .slice (some ⟨q, 0, none⟩) 1 1]) ∧ Below w.heap.size w w' ∧ w.heap.size ≤ q ∧ Box w' q [.int .i64 1, .int .u64 V, .int .i64 (lit V true).1, .bool (lit V true).2.1, .string ⟨#[]⟩, .slice none 0 0] := by
  have HL := hideI (fun (w : World) => literal_any V (!s) w)
  have HM := hideI (fun (w : World) => literal_any V true w)
  generalize lit V (!s) = L at *
  generalize lit V true = M at *
  obtain ⟨lb, ls, le⟩ := L
  obtain ⟨mb, ms, me⟩ := M
  dsimp only at HL HM h ⊢
  have hc : (le == 0) = false ∨ (le = 0 ∧ (lb == b) = false) ∨ (le = 0 ∧ lb = b ∧ (ls == s) = false) := by
    by_cases h1 : le = 0
    · by_cases h2 : lb = b
      · refine .inr (.inr ⟨h1, h2, beq_eq_false_iff_ne.2 fun h3 => h ⟨h1, h2, h3⟩⟩)
      · exact .inr (.inl ⟨h1, beq_eq_false_iff_ne.2 h2⟩)
    · exact .inl (beq_eq_false_iff_ne.2 h1)
  clear h
  have S0 := hideI (Tb.begin w #[.int .i64 b, .bool s] #[.int .i64 0, .int .u64 0, .int .i64 0, .bool false, .string ⟨#[]⟩, .slice none 0 0] 24 27)
  obtain ⟨a0, a1⟩ := (unhideI S0).A.at2
  have hsA := (unhideI S0).A.1
  generalize hW0 : (w.alloc (.cells #[.int .i64 b, .bool s] 24)).alloc (.cells #[.int .i64 0, .int .u64 0, .int .i64 0, .bool false, .string ⟨#[]⟩, .slice none 0 0] 27) = W0 at *
  go_enter Tryz.func28, Tryz.ntmps28
  go_wp2_with fail
  refine (unhideI HL _).mono ?_
  rintro e w1 ⟨rfl, k1⟩
  have S1 := hideI ((unhideI S0).next k1)
  have kN := below_a w1 (.cells #[.int .i64 lb, .bool ls] 24)
  have BN := hideI (Box.new w1 #[.int .i64 lb, .bool ls] 24)
  have S2 := hideI ((unhideI S1).next kN)
  clear k1 S0 S1 kN a0 a1 hsA HL
  obtain ⟨a0, a1⟩ := (unhideI S2).A.at2
  have hsA := (unhideI S2).A.1
  obtain ⟨u0, u1⟩ := (unhideI BN).at2
  have hsN := (unhideI BN).1
  obtain ⟨z0, z1, z2, z3, z4, z5⟩ := (unhideI S2).R.six8
  have zf := (unhideI S2).R.2.2
  have zl := (unhideI S2).R.1
  generalize hW2 : w1.alloc (.cells #[.int .i64 lb, .bool ls] 24) = W2 at *
  rcases hc with h1 | ⟨h0, h1⟩ | ⟨h0, h2, h1⟩
  · go_wp2_with fail
    refine (unhideI HM _).mono ?_
    rintro e w3 ⟨rfl, k3⟩
    have S3 := hideI ((unhideI S2).next k3)
    have kT := below_a w3 (.cells #[.int .i64 mb, .bool ms] 24)
    have BT := hideI (Box.new w3 #[.int .i64 mb, .bool ms] 24)
    have S4 := hideI ((unhideI S3).next kT)
    have hz4 : (w3.alloc (.cells #[.int .i64 mb, .bool ms] 24)).heap.size = w3.heap.size + 1 := by simp
    have BS := hideI (Box.new (w3.alloc (.cells #[.int .i64 mb, .bool ms] 24)) #[.int .i64 1, .int .u64 V, .int .i64 mb, .bool ms, .string ⟨#[]⟩, .slice none 0 0] 27)
    have S5 := hideI ((unhideI S4).next (below_a _ (.cells #[.int .i64 1, .int .u64 V, .int .i64 mb, .bool ms, .string ⟨#[]⟩, .slice none 0 0] 27)))
    rw [hz4] at BS
    have HZ := hideI (show w.heap.size + 1 < w3.heap.size from (unhideI S3).R.1)
    clear k3 kT S2 a0 a1 hsA u0 u1 hsN z0 z1 z2 z3 z4 z5 zf zl HM hW2 BN hz4
    obtain ⟨a0, a1⟩ := (unhideI S4).A.at2
    have hsA := (unhideI S4).A.1
    obtain ⟨t0, t1⟩ := (unhideI BT).at2
    have hsT := (unhideI BT).1
    have hsz4 : (w3.alloc (.cells #[.int .i64 mb, .bool ms] 24)).heap.size = w3.heap.size + 1 := by simp
    obtain ⟨z0, z1, z2, z3, z4, z5⟩ := (unhideI S5).R.six8
    have zf := (unhideI S5).R.2.2
    have zl := (unhideI S5).R.1
    generalize hW5 : (w3.alloc (.cells #[.int .i64 mb, .bool ms] 24)).alloc (.cells #[.int .i64 1, .int .u64 V, .int .i64 mb, .bool ms, .string ⟨#[]⟩, .slice none 0 0] 27) = W5 at *
    generalize hW4 : w3.alloc (.cells #[.int .i64 mb, .bool ms] 24) = W4 at *
    go_wp2_with fail
    obtain ⟨p0, p1, p2, p3, p4, p5⟩ := ((unhideI S5).R.put6 (.int .i64 5) (.int .u64 0) (.int .i64 b) (.bool s) (.string ⟨#[]⟩) (.slice (some ⟨w3.heap.size + 1, 0, none⟩) 1 1)).six8
    have hne : w3.heap.size + 1 ≠ w.heap.size + 1 := by have := unhideI HZ; omega
    exact bodyPost_ret (v := .agg #[.int .i64 5, .int .u64 0, .int .i64 b, .bool s, .string ⟨#[]⟩, .slice (some ⟨w3.heap.size + 1, 0, none⟩) 1 1]) (by simp [results, Tryz.results28, go_sem, p0, p1, p2, p3, p4, p5]) rfl ⟨w3.heap.size + 1, rfl, below_6 (unhideI S5).d (by omega) _ _ _ _ _ _, by have := unhideI HZ; omega, (((((((unhideI BS).other hne).other hne).other hne).other hne).other hne).other hne)⟩
  · subst h0
    go_wp2_with fail
    refine (unhideI HM _).mono ?_
    rintro e w3 ⟨rfl, k3⟩
    have S3 := hideI ((unhideI S2).next k3)
    have kT := below_a w3 (.cells #[.int .i64 mb, .bool ms] 24)
    have BT := hideI (Box.new w3 #[.int .i64 mb, .bool ms] 24)
    have S4 := hideI ((unhideI S3).next kT)
    have hz4 : (w3.alloc (.cells #[.int .i64 mb, .bool ms] 24)).heap.size = w3.heap.size + 1 := by simp
    have BS := hideI (Box.new (w3.alloc (.cells #[.int .i64 mb, .bool ms] 24)) #[.int .i64 1, .int .u64 V, .int .i64 mb, .bool ms, .string ⟨#[]⟩, .slice none 0 0] 27)
    have S5 := hideI ((unhideI S4).next (below_a _ (.cells #[.int .i64 1, .int .u64 V, .int .i64 mb, .bool ms, .string ⟨#[]⟩, .slice none 0 0] 27)))
    rw [hz4] at BS
    have HZ := hideI (show w.heap.size + 1 < w3.heap.size from (unhideI S3).R.1)
    clear k3 kT S2 a0 a1 hsA u0 u1 hsN z0 z1 z2 z3 z4 z5 zf zl HM hW2 BN hz4
    obtain ⟨a0, a1⟩ := (unhideI S4).A.at2
    have hsA := (unhideI S4).A.1
    obtain ⟨t0, t1⟩ := (unhideI BT).at2
    have hsT := (unhideI BT).1
    have hsz4 : (w3.alloc (.cells #[.int .i64 mb, .bool ms] 24)).heap.size = w3.heap.size + 1 := by simp
    obtain ⟨z0, z1, z2, z3, z4, z5⟩ := (unhideI S5).R.six8
    have zf := (unhideI S5).R.2.2
    have zl := (unhideI S5).R.1
    generalize hW5 : (w3.alloc (.cells #[.int .i64 mb, .bool ms] 24)).alloc (.cells #[.int .i64 1, .int .u64 V, .int .i64 mb, .bool ms, .string ⟨#[]⟩, .slice none 0 0] 27) = W5 at *
    generalize hW4 : w3.alloc (.cells #[.int .i64 mb, .bool ms] 24) = W4 at *
    go_wp2_with fail
    obtain ⟨p0, p1, p2, p3, p4, p5⟩ := ((unhideI S5).R.put6 (.int .i64 5) (.int .u64 0) (.int .i64 b) (.bool s) (.string ⟨#[]⟩) (.slice (some ⟨w3.heap.size + 1, 0, none⟩) 1 1)).six8
    have hne : w3.heap.size + 1 ≠ w.heap.size + 1 := by have := unhideI HZ; omega
    exact bodyPost_ret (v := .agg #[.int .i64 5, .int .u64 0, .int .i64 b, .bool s, .string ⟨#[]⟩, .slice (some ⟨w3.heap.size + 1, 0, none⟩) 1 1]) (by simp [results, Tryz.results28, go_sem, p0, p1, p2, p3, p4, p5]) rfl ⟨w3.heap.size + 1, rfl, below_6 (unhideI S5).d (by omega) _ _ _ _ _ _, by have := unhideI HZ; omega, (((((((unhideI BS).other hne).other hne).other hne).other hne).other hne).other hne)⟩
  · subst h0
    have h2 := h2.symm
    subst h2
    have eb : (b == b) = true := beq_self_eq_true b
    go_wp2_with fail
    refine (unhideI HM _).mono ?_
    rintro e w3 ⟨rfl, k3⟩
    have S3 := hideI ((unhideI S2).next k3)
    have kT := below_a w3 (.cells #[.int .i64 mb, .bool ms] 24)
    have BT := hideI (Box.new w3 #[.int .i64 mb, .bool ms] 24)
    have S4 := hideI ((unhideI S3).next kT)
    have hz4 : (w3.alloc (.cells #[.int .i64 mb, .bool ms] 24)).heap.size = w3.heap.size + 1 := by simp
    have BS := hideI (Box.new (w3.alloc (.cells #[.int .i64 mb, .bool ms] 24)) #[.int .i64 1, .int .u64 V, .int .i64 mb, .bool ms, .string ⟨#[]⟩, .slice none 0 0] 27)
    have S5 := hideI ((unhideI S4).next (below_a _ (.cells #[.int .i64 1, .int .u64 V, .int .i64 mb, .bool ms, .string ⟨#[]⟩, .slice none 0 0] 27)))
    rw [hz4] at BS
    have HZ := hideI (show w.heap.size + 1 < w3.heap.size from (unhideI S3).R.1)
    clear k3 kT S2 a0 a1 hsA u0 u1 hsN z0 z1 z2 z3 z4 z5 zf zl HM hW2 BN hz4
    obtain ⟨a0, a1⟩ := (unhideI S4).A.at2
    have hsA := (unhideI S4).A.1
    obtain ⟨t0, t1⟩ := (unhideI BT).at2
    have hsT := (unhideI BT).1
    have hsz4 : (w3.alloc (.cells #[.int .i64 mb, .bool ms] 24)).heap.size = w3.heap.size + 1 := by simp
    obtain ⟨z0, z1, z2, z3, z4, z5⟩ := (unhideI S5).R.six8
    have zf := (unhideI S5).R.2.2
    have zl := (unhideI S5).R.1
    generalize hW5 : (w3.alloc (.cells #[.int .i64 mb, .bool ms] 24)).alloc (.cells #[.int .i64 1, .int .u64 V, .int .i64 mb, .bool ms, .string ⟨#[]⟩, .slice none 0 0] 27) = W5 at *
    generalize hW4 : w3.alloc (.cells #[.int .i64 mb, .bool ms] 24) = W4 at *
    go_wp2_with fail
    obtain ⟨p0, p1, p2, p3, p4, p5⟩ := ((unhideI S5).R.put6 (.int .i64 5) (.int .u64 0) (.int .i64 b) (.bool s) (.string ⟨#[]⟩) (.slice (some ⟨w3.heap.size + 1, 0, none⟩) 1 1)).six8
    have hne : w3.heap.size + 1 ≠ w.heap.size + 1 := by have := unhideI HZ; omega
    exact bodyPost_ret (v := .agg #[.int .i64 5, .int .u64 0, .int .i64 b, .bool s, .string ⟨#[]⟩, .slice (some ⟨w3.heap.size + 1, 0, none⟩) 1 1]) (by simp [results, Tryz.results28, go_sem, p0, p1, p2, p3, p4, p5]) rfl ⟨w3.heap.size + 1, rfl, below_6 (unhideI S5).d (by omega) _ _ _ _ _ _, by have := unhideI HZ; omega, (((((((unhideI BS).other hne).other hne).other hne).other hne).other hne).other hne)⟩
end Go.Proofs.YtjddpfojllefgaaGreat
