/-
  asm.Assemble.
-/
import Derived.Test.YtoopgkbefhoeiaaDoorAsR
import Derived.RegionTactic
import Derived.Deep.RegionWith
namespace Go.Proofs.YtoopgkbefhoeiaaDoor
open Go.RowKit Go.Maps
set_option linter.unusedSimpArgs false
set_option linter.unusedVariables false

theorem plc_right : ∀ (l : List Ln) (k : Nat) (A : Nmd) (n : Int), (plc l k A n).2.2.1 = 0 → ∀ x ∈ l, wrgL x = 0
  | [], _, _, _, _ => by simp
  | x :: l, k, A, n, h => by
    by_cases hw : wrgL x = 0
    · by_cases he : emp x.lab = true
      · by_cases ht : n + lng x.i.o ≤ 65536
        · rw [plc_ins hw he ht] at h
          intro y hy
          rcases List.mem_cons.1 hy with rfl | hy
          · exact hw
          · exact plc_right l _ _ _ h y hy
        · rw [plc_much hw he (by omega)] at h; simp at h
      · replace he : emp x.lab = false := by simpa using he
        by_cases ht : hasA A x.lab.toList = true
        · rw [plc_taken hw he ht] at h; simp at h
        · replace ht : hasA A x.lab.toList = false := by simpa using ht
          rw [plc_label hw he ht] at h
          intro y hy
          rcases List.mem_cons.1 hy with rfl | hy
          · exact hw
          · exact plc_right l _ _ _ h y hy
    · rw [plc_bad hw] at h; exact absurd h hw
theorem plc_pos : ∀ (l : List Ln) (k : Nat) (A : Nmd) (n : Int), 0 ≤ n → (∀ p ∈ A, 0 ≤ p.2) → ∀ p ∈ (plc l k A n).1, 0 ≤ p.2
  | [], _, _, _, _, h => h
  | x :: l, k, A, n, hn, h => by
    by_cases hw : wrgL x = 0
    · by_cases he : emp x.lab = true
      · by_cases ht : n + lng x.i.o ≤ 65536
        · rw [plc_ins hw he ht]
          exact plc_pos l _ _ _ (by have := lng_in x.i.o; omega) h
        · rw [plc_much hw he (by omega)]; simp
      · replace he : emp x.lab = false := by simpa using he
        by_cases ht : hasA A x.lab.toList = true
        · rw [plc_taken hw he ht]; simp
        · replace ht : hasA A x.lab.toList = false := by simpa using ht
          rw [plc_label hw he ht]
          refine plc_pos l _ _ _ hn fun p hp => ?_
          rcases List.mem_append.1 hp with hp | hp
          · exact h p hp
          · simp at hp; subst hp; exact hn
    · rw [plc_bad hw]; simp
theorem atA_pos {A : Nmd} (h : ∀ p ∈ A, 0 ≤ p.2) (k : List UInt8) : 0 ≤ atA A k := by
  unfold atA
  split
  · rename_i p e; exact h p (List.mem_of_find?_eq_some e)
  · exact Int.le_refl _
theorem plcA_right {l : List Ln} (h : (plcA l).2.2.1 = 0) : l.length ≤ 40000 ∧ ∀ x ∈ l, wrgL x = 0 := by
  unfold plcA at h
  by_cases hm : l.length ≤ 40000
  · rw [if_pos hm] at h; exact ⟨hm, plc_right _ _ _ _ h⟩
  · rw [if_neg hm] at h; simp at h
theorem plcA_pos (l : List Ln) : ∀ p ∈ (plcA l).1, 0 ≤ p.2 := by
  unfold plcA
  by_cases hm : l.length ≤ 40000
  · rw [if_pos hm]; exact plc_pos _ _ _ _ (by decide) (by simp)
  · rw [if_neg hm]; simp
/-- Labels where A has them. -/
def fndA (A : Nmd) (s : Unit) (k : List UInt8) : Unit × Int × Bool := (s, atA A k, hasA A k)
/-- Assemble. -/
def asmA (l : List Ln) : List Int × Int × Nat :=
  if (plcA l).2.2.1 = 0 then (if (rsv (fndA (plcA l).1) l 0 () []).1.2.1 = 0 then ((encA (rsv (fndA (plcA l).1) l 0 () []).1.1).1, 0, 0) else ([], (rsv (fndA (plcA l).1) l 0 () []).1.2.1, (rsv (fndA (plcA l).1) l 0 () []).1.2.2)) else ([], (plcA l).2.2.1, (plcA l).2.2.2)

theorem asm1_any (x : ByteArray) (pb b : Nat) (A : Nmd) (u : World) (hB : Box u pb [.map (some b)]) (hM : Mp u b A) (hn : nm x = true) :
    Calls Tryd.prog 27 #[.string x, .pointer (some ⟨pb, 0, none⟩)] u fun e u' => e = .returned (.tuple #[.int .i64 (atA A x.toList), .bool (hasA A x.toList)]) ∧ u' = u := by
  have c0 := hB.2.1 0 _ rfl
  have hsz : x.size ≤ maxLen := Nat.le_trans (nm_size hn).1 (by unfold maxLen; omega)
  have HM := hideI hM
  clear hB hM hn
  go_enter Tryd.func27, Tryd.ntmps27
  go_wp2_with (at_lookup; refine wpList_look_ok rfl (.tmp 8) (.tmp 9) rfl b A rfl (unhideI HM) x rfl hsz ?_)
  go_ret2
  exact ⟨rfl, rfl⟩

set_option maxRecDepth 100000 in
set_option maxHeartbeats 2000000 in
theorem asm_any (l : List Ln) (v : Value) (w : World) (hl : Lns w v l) :
    Calls Tryd.prog 10 #[v] w fun e w' => ∃ vi, e = .returned (.tuple #[vi, .agg #[.int .i64 (asmA l).2.1, .int .i64 (asmA l).2.2]]) ∧ Ints w' vi (asmA l).1 ∧ (∀ k, vi.ownBlock = some k → w.heap.size ≤ k) ∧ Below w.heap.size w w' := by
  have HL := hideI hl
  obtain ⟨ao, cap, rfl, hmax, hat⟩ := hl.at
  have hvb : ∀ b, (Value.slice ao l.length cap).ownBlock = some b → l ≠ [] → b < w.heap.size := by
    intro b hb hne
    obtain ⟨b', off, rfl, h1, _⟩ := hat hne
    cases hb; exact h1
  clear hl hat
  have PA := fun u h => places_any l (.slice ao l.length cap) u h
  by_cases h1 : (plcA l).2.2.1 = 0
  · obtain ⟨hmuch, hright⟩ := plcA_right h1
    have hpos := plcA_pos l
    have hR : asmA l = if (rsv (fndA (plcA l).1) l 0 () []).1.2.1 = 0 then ((encA (rsv (fndA (plcA l).1) l 0 () []).1.1).1, 0, 0) else ([], (rsv (fndA (plcA l).1) l 0 () []).1.2.1, (rsv (fndA (plcA l).1) l 0 () []).1.2.2) := by unfold asmA; rw [if_pos h1]
    generalize asmA l = R at *
    generalize plcA l = P at *
    obtain ⟨A, n, e1, n1⟩ := P
    unfold PlcRet at PA
    dsimp only at *
    subst h1
    have F0 := hideI (Box.new w #[.int .i64 0, .int .i64 0] 31)
    have HP := hideI hpos
    have HRT := hideI hright
    have RA := fun pb b w' => resolveA_any (fun (_ : Unit) (_ : Unit) u => Box u pb [.map (some b)] ∧ Mp u b A) (fun _ k => k = pb ∨ k = b) (fndA A) pb (fun _ _ u k h hk => by rcases hk with rfl | rfl; exact h.1.1; exact h.2.lt) (fun _ _ u u' h hk => ⟨h.1.kpt hk (fun hx => hx (.inl rfl)), h.2.kpt hk (fun hx => hx (.inr rfl))⟩) (fun _ _ u x h hn => (asm1_any x pb b A u h.1 h.2 hn).mono (fun e u' ⟨he, hu⟩ => by subst hu; exact ⟨he, atA_pos hpos _, (), h, Kpt.refl _ _, fun _ hk => .inl hk⟩)) l (.slice ao l.length cap) w' () ()
    unfold RsvRet at RA
    have EA := fun L v w h => encode_any L v w h
    clear hpos hright
    generalize rsv (fndA A) l 0 () [] = S at *
    obtain ⟨⟨L, e2, n2⟩, su⟩ := S
    replace EA := EA L
    dsimp only at *
    generalize encA L = Z at *
    obtain ⟨zs, ze, zn⟩ := Z
    dsimp only at *
    go_enter Tryd.func10, Tryd.ntmps10
    go_wp2_with fail
    refine (PA _ ((unhideI HL).step (below_a _ _))).mono ?_
    rintro e w1 ⟨u, rfl, m, rfl, hm, -, k1⟩
    obtain ⟨b, rfl, hb, M1⟩ := hm trivial
    clear hm
    have lb := M1.lt
    rw [World.size_alloc] at hb
    have K1 := hideI (((bt (below_a w (.cells #[.int .i64 0, .int .i64 0] 31)) k1).alloc (by have := lt1 k1; omega) (.cells #[.map (some b)] 54)).alloc (by have := lt1 k1; simp; omega) (.cells #[.int .i64 0, .int .i64 n1] 31))
    have F1 := hideI ((((unhideI F0).step k1).step (below_a w1 (.cells #[.map (some b)] 54))).step (below_a _ (.cells #[.int .i64 0, .int .i64 n1] 31)))
    have G1 := hideI (Box.new (w1.alloc (.cells #[.map (some b)] 54)) #[.int .i64 0, .int .i64 n1] 31)
    have B1 := hideI ((Box.new w1 #[.map (some b)] 54).step (below_a _ (.cells #[.int .i64 0, .int .i64 n1] 31)))
    have M2 := hideI ((M1.step (below_a w1 (.cells #[.map (some b)] 54))).step (below_a _ (.cells #[.int .i64 0, .int .i64 n1] 31)))
    have s1 := lt1 k1
    have sz2 : ((w1.alloc (.cells #[.map (some b)] 54)).alloc (.cells #[.int .i64 0, .int .i64 n1] 31)).heap.size = w1.heap.size + 1 + 1 := by simp
    simp only [World.size_alloc] at G1
    clear k1 M1 F0
    go_wp2_with fail
    generalize (w1.alloc (.cells #[.map (some b)] 54)).alloc (.cells #[.int .i64 0, .int .i64 n1] 31) = w2 at *
    refine (RA w1.heap.size b w2 ((unhideI HL).step (unhideI K1)) (unhideI HRT) hmuch ⟨unhideI B1, unhideI M2⟩ (fun b' hb' hne hx => by have := hvb b' hb' hne; omega)).mono ?_
    rintro e w3 ⟨vi, -, rfl, i3, o3, -, k3, -⟩
    have F3 := hideI ((unhideI F1).kpt k3 (by omega))
    have G3 := hideI ((unhideI G1).kpt k3 (by omega))
    have K3 := hideI ((unhideI K1).trans (k3.below (by omega) (fun c hc => by omega)))
    have I3 := hideI i3
    have O3 := hideI o3
    have s3 := k3.size
    clear i3 o3 k3 RA PA F1 G1 B1 M2
    obtain ⟨g0, g1⟩ := (unhideI G3).at2
    have g2 := (unhideI G3).2.2
    have F4 := hideI (((unhideI F3).other (b' := w1.heap.size + 1) (j := 0) (u := .int .i64 e2) (by omega)).other (b' := w1.heap.size + 1) (j := 1) (u := .int .i64 n2) (by omega))
    have G4 := hideI (((unhideI G3).set (j := 0) (u := .int .i64 e2) (by simp)).set (j := 1) (u := .int .i64 n2) (by simp))
    have K4 := hideI (((unhideI K3).setCell (p := ⟨w1.heap.size + 1, 0, none⟩) (by show w.heap.size ≤ w1.heap.size + 1; omega) (.int .i64 e2)).setCell (p := ⟨w1.heap.size + 1, 1, none⟩) (by show w.heap.size ≤ w1.heap.size + 1; omega) (.int .i64 n2))
    have I4 : Hid (Inss _ vi L) := hideI (((unhideI I3).other (b := w1.heap.size + 1) (j := 0) (u := .int .i64 e2) (fun c hc => by have := ((unhideI O3) c hc).1; omega)).other (b := w1.heap.size + 1) (j := 1) (u := .int .i64 n2) (fun c hc => by have := ((unhideI O3) c hc).1; omega))
    obtain ⟨f0, f1⟩ := (unhideI F4).at2
    have f2 := (unhideI F4).2.2
    have hw1 := (unhideI F4).1
    clear F3 G3 K3 I3
    by_cases h2 : e2 = 0
    · subst h2
      rw [if_pos rfl] at hR
      obtain ⟨q0, q1⟩ := (unhideI G4).at2
      go_wp2_with fail
      generalize (w3.setCell ⟨w1.heap.size + 1, 0, none⟩ (.int .i64 0)).setCell ⟨w1.heap.size + 1, 1, none⟩ (.int .i64 n2) = w4 at *
      refine (EA _ _ (unhideI I4)).mono ?_
      rintro e w5 ⟨v5, rfl, i5, o5, k5⟩
      subst hR
      have K5 := hideI (bt (bt (unhideI K4) k5) (below_a w5 (.cells #[.int .i64 ze, .int .i64 zn] 31)))
      have F5 := hideI (((unhideI F4).step k5).step (below_a w5 (.cells #[.int .i64 ze, .int .i64 zn] 31)))
      have I5 := hideI (i5.step (below_a w5 (.cells #[.int .i64 ze, .int .i64 zn] 31)))
      have O5 := hideI o5
      clear f0 f1 f2 i5 o5
      obtain ⟨f0, f1⟩ := (unhideI F5).at2
      have f2 := (unhideI F5).2.2
      have s5 := k5.size
      clear k5
      go_wp2_with fail
      exact bodyPost_ret (v := .tuple #[v5, .agg #[.int .i64 0, .int .i64 0]]) (by simp [results, Tryd.results10, go_sem, f0, f1, f2]) rfl ⟨_, rfl, ((unhideI I5).other (b := w.heap.size) (fun c hc => by have := (unhideI O5) c hc; omega)).other (b := w.heap.size) (fun c hc => by have := (unhideI O5) c hc; omega), (fun c hc => by have := (unhideI O5) c hc; omega), (by repeat (first | exact unhideI K5 | refine Below.setCell ?_ (by first | exact Nat.le_refl _ | (simp; done) | omega | (simp; omega)) _ | refine Below.alloc ?_ (by first | (simp; done) | omega | (simp; omega)) _))⟩
    · rw [if_neg h2] at hR
      have h3 : (e2 != 0) = true := by simpa using h2
      obtain ⟨q0, q1⟩ := (unhideI G4).at2
      subst hR
      clear EA
      go_wp2_with fail
      go_region_with fail
      all_goals
        go_wp2_with fail
        exact bodyPost_ret (v := .tuple #[.slice none 0 0, .agg #[.int .i64 e2, .int .i64 n2]]) (by simp [results, Tryd.results10, go_sem, f0, f1, f2]) rfl ⟨_, rfl, Lies.nil _ _, (fun _ h => by cases h), Below.drew (by repeat (first | exact unhideI K4 | refine Below.setCell ?_ (by first | exact Nat.le_refl _ | (simp; done) | omega | (simp; omega)) _ | refine Below.alloc ?_ (by first | (simp; done) | omega | (simp; omega)) _))⟩
  · have hR : asmA l = ([], (plcA l).2.2.1, (plcA l).2.2.2) := by unfold asmA; rw [if_neg h1]
    rw [hR]
    generalize plcA l = P at *
    obtain ⟨A, n, e1, n1⟩ := P
    have h2 : (e1 != 0) = true := by simpa using h1
    unfold PlcRet at PA
    dsimp only at *
    have F0 := hideI (Box.new w #[.int .i64 0, .int .i64 0] 31)
    go_enter Tryd.func10, Tryd.ntmps10
    go_wp2_with fail
    refine (PA _ ((unhideI HL).step (below_a _ _))).mono ?_
    rintro e w1 ⟨u, rfl, m, rfl, -, hm, k1⟩
    obtain rfl := hm h1
    have K1 := hideI (((bt (below_a w (.cells #[.int .i64 0, .int .i64 0] 31)) k1).alloc (by have := lt1 k1; omega) (.cells #[.map none] 54)).alloc (by have := lt1 k1; simp; omega) (.cells #[.int .i64 e1, .int .i64 n1] 31))
    have F1 := hideI ((((unhideI F0).step k1).step (below_a w1 (.cells #[.map none] 54))).step (below_a _ (.cells #[.int .i64 e1, .int .i64 n1] 31)))
    have G1 := hideI (Box.new (w1.alloc (.cells #[.map none] 54)) #[.int .i64 e1, .int .i64 n1] 31)
    simp only [World.size_alloc] at G1
    obtain ⟨f0, f1⟩ := (unhideI F1).at2
    have f2 := (unhideI F1).2.2
    obtain ⟨g0, g1⟩ := (unhideI G1).at2
    have s1 := lt1 k1
    have s2 := (unhideI F1).1
    clear k1 F0
    go_wp2_with fail
    generalize (w1.alloc (.cells #[.map none] 54)).alloc (.cells #[.int .i64 e1, .int .i64 n1] 31) = w2 at *
    go_region_with fail
    all_goals
      go_wp2_with fail
      exact bodyPost_ret (v := .tuple #[.slice none 0 0, .agg #[.int .i64 e1, .int .i64 n1]]) (by simp [results, Tryd.results10, go_sem, f0, f1, f2]) rfl ⟨_, rfl, Lies.nil _ _, (fun _ h => by cases h), Below.drew (by repeat (first | exact unhideI K1 | refine Below.setCell ?_ (by first | exact Nat.le_refl _ | (simp; done) | omega | (simp; omega)) _ | refine Below.alloc ?_ (by first | (simp; done) | omega | (simp; omega)) _))⟩
end Go.Proofs.YtoopgkbefhoeiaaDoor
