/-
  asm.Places, by its loop.
-/
import Derived.Test.YtodfjomglgmffaaGreatDoorAsP0
namespace Go.Proofs.YtodfjomglgmffaaGreatDoor
open Go.RowKit Go.Maps
set_option linter.unusedSimpArgs false
set_option linter.unusedVariables false

theorem plc_bad {x : Ln} {l : List Ln} {k : Nat} {A : Nmd} {n : Int} (h : wrgL x ≠ 0) : plc (x :: l) k A n = ([], 0, wrgL x, k) := by rw [plc, if_neg h]
theorem plc_taken {x : Ln} {l : List Ln} {k : Nat} {A : Nmd} {n : Int} (h : wrgL x = 0) (e : emp x.lab = false) (t : hasA A x.lab.toList = true) : plc (x :: l) k A n = ([], 0, 7, k) := by rw [plc, if_pos h, if_neg (by simp [e]), if_pos t]
theorem plc_label {x : Ln} {l : List Ln} {k : Nat} {A : Nmd} {n : Int} (h : wrgL x = 0) (e : emp x.lab = false) (t : hasA A x.lab.toList = false) : plc (x :: l) k A n = plc l (k + 1) (A ++ [(x.lab.toList, n)]) n := by rw [plc, if_pos h, if_neg (by simp [e]), if_neg (by simp [t])]
theorem plc_ins {x : Ln} {l : List Ln} {k : Nat} {A : Nmd} {n : Int} (h : wrgL x = 0) (e : emp x.lab = true) (t : n + lng x.i.o ≤ 65536) : plc (x :: l) k A n = plc l (k + 1) A (n + lng x.i.o) := by rw [plc, if_pos h, if_pos e, if_pos t]
theorem plc_much {x : Ln} {l : List Ln} {k : Nat} {A : Nmd} {n : Int} (h : wrgL x = 0) (e : emp x.lab = true) (t : 65536 < n + lng x.i.o) : plc (x :: l) k A n = ([], 0, 4, k) := by rw [plc, if_pos h, if_pos e, if_neg (by omega)]

/-- What Places hands back. -/
def PlcRet (w w' : World) (v : Value) (R : Nmd × Int × Int × Nat) : Prop := ∃ m, v = .tuple #[m, .int .i64 R.2.1, .agg #[.int .i64 R.2.2.1, .int .i64 R.2.2.2]] ∧ (R.2.2.1 = 0 → ∃ b, m = .map (some b) ∧ w.heap.size ≤ b ∧ Mp w' b R.1) ∧ (R.2.2.1 ≠ 0 → m = .map none) ∧ Below w.heap.size w w'

set_option maxRecDepth 100000 in
set_option maxHeartbeats 4000000 in
theorem places_any (l : List Ln) (v : Value) (w : World) (hl : Lns w v l) :
    Calls Tryz.prog 45 #[v] w fun e w' => ∃ u, e = .returned u ∧ PlcRet w w' u (plcA l) := by
  obtain ⟨ao, cap, rfl, hmax, hat⟩ := hl.at
  clear hl
  have HA := hideI hat
  clear hat
  unfold maxLen at hmax
  have hmm := @run_makeMap Tryz.prog
  by_cases hmuch : l.length ≤ 40000
  · generalize hR : plcA l = R
    have HR : Hid (R = plc (l.drop 0) 0 [] 0) := by show R = _; rw [← hR]; unfold plcA; rw [if_pos hmuch]; rfl
    clear hR
    have hmu : decide (40000 < (l.length : Int)) = false := decide_eq_false (by omega)
    go_enter Tryz.func45, Tryz.ntmps45
    go_wp2_with fail
    clear hmm hmu
    go_loopg [6, 21] l.length (fun g n i wr => ∃ (k : Nat) (A : Nmd) (nn : Int), k ≤ l.length ∧ g = l.length - k ∧ n = .int .i64 nn ∧ i = .int .i64 k ∧ 0 ≤ nn ∧ nn ≤ 65536 ∧ A.length ≤ k ∧ Hid (Mp wr (w.heap.size + 1) A) ∧ Hid (Below (w.heap.size + 1) (w.alloc (.cells #[.int .i64 0, .int .i64 0] 32)) wr) ∧ Hid (R = plc (l.drop k) k A nn))
    case atStart => exact ⟨0, [], 0, Nat.zero_le _, rfl, rfl, rfl, by decide, by decide, Nat.le_refl _, by have := Mp.made (w.alloc (.cells #[.int .i64 0, .int .i64 0] 32)); simp only [World.size_alloc] at this; exact this, (Below.refl _ _).alloc (by simp) _, unhideI HR⟩
    case round =>
      obtain ⟨k, A, nn, hk, hg, rfl, rfl, hn0, hn1, hAl, HM, HB, HE⟩ := hrel
      obtain ⟨f0, f1, f2, f3, f4⟩ := fault0 (unhideI HB)
      by_cases hlt : k < l.length
      · have hne : l ≠ [] := by intro h; rw [h] at hlt; simp at hlt
        obtain ⟨b, off, rfl, hbw, hc⟩ := (unhideI HA) hne
        have hbs := (seen (unhideI HB))
        obtain ⟨c0, c1, c2, c3, c4, c5⟩ := hc k hlt
        replace c0 := cell_keep hbs hbw c0
        replace c1 := cell_keep hbs hbw c1
        replace c2 := cell_keep hbs hbw c2
        replace c3 := cell_keep hbs hbw c3
        replace c4 := cell_keep hbs hbw c4
        replace c5 := cell_keep hbs hbw c5
        have hd := hideI (drop_at l k hlt)
        generalize l[k] = x at *
        obtain ⟨lab, ⟨o, d, s, m⟩, ref⟩ := x
        clear hc hbs hne
        dsimp only at *
        have WA := fun w => wrongL_any ⟨lab, ⟨o, d, s, m⟩, ref⟩ w
        unfold aggL at WA
        dsimp only at WA
        have BX := hideI (Box.new wr #[.string lab, .int .i64 o, .int .i64 d, .int .i64 s, .int .i64 m, .string ref] 40)
        by_cases hw : wrgL ⟨lab, ⟨o, d, s, m⟩, ref⟩ = 0
        · rw [hw] at WA
          by_cases he : lab.toList.isEmpty = true
          · obtain ⟨hwi, -⟩ := wrgL_ins hw he
            obtain ⟨hkn, -⟩ := wr_zero hwi
            have LO := fun w => long_ok o w
            rw [ke_yes hkn, if_pos hkn] at LO
            obtain ⟨q1, q2⟩ := lng_in o
            by_cases ht : nn + lng o ≤ 65536
            · have HE2 : Hid (R = plc (l.drop (k + 1)) (k + 1) A (nn + lng o)) := by show R = _; rw [unhideI HE, unhideI hd, plc_ins hw he ht]
              clear HE hd hw hkn hwi
              generalize lng o = q at *
              go_wp2_with fail
              refine (WA _).mono ?_
              rintro e w1 ⟨rfl, k1⟩
              have B1 := hideI ((unhideI BX).step k1)
              have K1 := hideI ((unhideI HB).trans ((bt (below_a _ _) k1).mono (by omega)))
              have M1 := hideI (((unhideI HM).step (below_a wr (.cells #[.string lab, .int .i64 o, .int .i64 d, .int .i64 s, .int .i64 m, .string ref] 40))).step k1)
              have s1 := lt1 k1
              obtain ⟨g0, g1, g2, g3, g4⟩ := fault0 (unhideI K1)
              have p0 := (unhideI B1).2.1 0 _ rfl
              have p1 := (unhideI B1).2.1 1 _ rfl
              have p2 := (unhideI B1).2.1 2 _ rfl
              have p3 := (unhideI B1).2.1 3 _ rfl
              have p4 := (unhideI B1).2.1 4 _ rfl
              have p5 := (unhideI B1).2.1 5 _ rfl
              clear k1 f0 f1 f2 f3 f4 c0 c1 c2 c3 c4 c5
              go_wp2_with fail
              refine (LO _).mono ?_
              rintro e w2 ⟨rfl, k2⟩
              have K2 := hideI ((unhideI K1).trans (k2.mono (by omega)))
              have M2 := hideI ((unhideI M1).step k2)
              clear k2 g0 g1 g2 g3 g4 p0 p1 p2 p3 p4 p5
              go_wp2_with fail
              go_roundg (l.length - (k + 1))
              case measure => omega
              case rel => exact ⟨k + 1, A, nn + q, by omega, rfl, rfl, by go_num, by omega, ht, by omega, M2, K2, HE2⟩
            · obtain rfl : R = ([], 0, 4, k) := by rw [unhideI HE, unhideI hd, plc_much hw he (by show 65536 < nn + lng o; omega)]
              have ht2 : 65536 < nn + lng o := by omega
              clear HE hd hw hkn hwi ht
              generalize lng o = q at *
              go_wp2_with fail
              refine (WA _).mono ?_
              rintro e w1 ⟨rfl, k1⟩
              have B1 := hideI ((unhideI BX).step k1)
              have K1 := hideI ((unhideI HB).trans ((bt (below_a _ _) k1).mono (by omega)))
              have M1 := hideI (((unhideI HM).step (below_a wr (.cells #[.string lab, .int .i64 o, .int .i64 d, .int .i64 s, .int .i64 m, .string ref] 40))).step k1)
              have s1 := lt1 k1
              obtain ⟨g0, g1, g2, g3, g4⟩ := fault0 (unhideI K1)
              have p0 := (unhideI B1).2.1 0 _ rfl
              have p1 := (unhideI B1).2.1 1 _ rfl
              have p2 := (unhideI B1).2.1 2 _ rfl
              have p3 := (unhideI B1).2.1 3 _ rfl
              have p4 := (unhideI B1).2.1 4 _ rfl
              have p5 := (unhideI B1).2.1 5 _ rfl
              clear k1 f0 f1 f2 f3 f4 c0 c1 c2 c3 c4 c5
              go_wp2_with fail
              refine (LO _).mono ?_
              rintro e w2 ⟨rfl, k2⟩
              have K2 := hideI ((unhideI K1).trans (k2.mono (by omega)))
              clear k2 g0 g1 g2 g3 g4 p0 p1 p2 p3 p4 p5
              obtain ⟨g0, g1, g2, g3, g4⟩ := fault0 (unhideI K2)
              go_wp2_with fail
              exact bodyPost_ret (v := .tuple #[.map none, .int .i64 0, .agg #[.int .i64 4, .int .i64 k]]) (by simp [results, Tryz.results45, go_sem, g0, g1, g2, g3, g4]) rfl ⟨_, rfl, _, rfl, fun h => (by simp at h), fun _ => rfl, (by repeat (first | exact seen (unhideI K2) | refine Below.setCell ?_ (by first | exact Nat.le_refl _ | (simp; done) | omega | (simp; omega)) _ | refine Below.alloc ?_ (by first | (simp; done) | omega | (simp; omega)) _))⟩
          · replace he : lab.toList.isEmpty = false := by simpa using he
            obtain ⟨hnm, -, -⟩ := wrgL_lab hw he
            have hsz : lab.size ≤ maxLen := Nat.le_trans (nm_size hnm).1 (by unfold maxLen; omega)
            clear hnm
            by_cases ht : hasA A lab.toList = true
            · obtain rfl : R = ([], 0, 7, k) := by rw [unhideI HE, unhideI hd, plc_taken hw he ht]
              clear HE hd hw
              go_wp2_with fail
              refine (WA _).mono ?_
              rintro e w1 ⟨rfl, k1⟩
              have B1 := hideI ((unhideI BX).step k1)
              have K1 := hideI ((unhideI HB).trans ((bt (below_a _ _) k1).mono (by omega)))
              have M1 := hideI (((unhideI HM).step (below_a wr (.cells #[.string lab, .int .i64 o, .int .i64 d, .int .i64 s, .int .i64 m, .string ref] 40))).step k1)
              have s1 := lt1 k1
              obtain ⟨g0, g1, g2, g3, g4⟩ := fault0 (unhideI K1)
              have p0 := (unhideI B1).2.1 0 _ rfl
              have p1 := (unhideI B1).2.1 1 _ rfl
              have p2 := (unhideI B1).2.1 2 _ rfl
              have p3 := (unhideI B1).2.1 3 _ rfl
              have p4 := (unhideI B1).2.1 4 _ rfl
              have p5 := (unhideI B1).2.1 5 _ rfl
              clear k1 f0 f1 f2 f3 f4 c0 c1 c2 c3 c4 c5
              go_wp2_with (at_lookup; refine wpList_look_ok rfl (.tmp 37) (.tmp 39) rfl (w.heap.size + 1) A rfl (unhideI M1) lab rfl hsz ?_)
              exact bodyPost_ret (v := .tuple #[.map none, .int .i64 0, .agg #[.int .i64 7, .int .i64 k]]) (by simp [results, Tryz.results45, go_sem, g0, g1, g2, g3, g4]) rfl ⟨_, rfl, _, rfl, fun h => (by simp at h), fun _ => rfl, (by repeat (first | exact seen (unhideI K1) | refine Below.setCell ?_ (by first | exact Nat.le_refl _ | (simp; done) | omega | (simp; omega)) _ | refine Below.alloc ?_ (by first | (simp; done) | omega | (simp; omega)) _))⟩
            · replace ht : hasA A lab.toList = false := by simpa using ht
              have HE2 : Hid (R = plc (l.drop (k + 1)) (k + 1) (A ++ [(lab.toList, nn)]) nn) := by show R = _; rw [unhideI HE, unhideI hd, plc_label hw he ht]
              clear HE hd hw
              go_wp2_with fail
              refine (WA _).mono ?_
              rintro e w1 ⟨rfl, k1⟩
              have B1 := hideI ((unhideI BX).step k1)
              have K1 := hideI ((unhideI HB).trans ((bt (below_a _ _) k1).mono (by omega)))
              have M1 := hideI (((unhideI HM).step (below_a wr (.cells #[.string lab, .int .i64 o, .int .i64 d, .int .i64 s, .int .i64 m, .string ref] 40))).step k1)
              have s1 := lt1 k1
              obtain ⟨g0, g1, g2, g3, g4⟩ := fault0 (unhideI K1)
              have p0 := (unhideI B1).2.1 0 _ rfl
              have p1 := (unhideI B1).2.1 1 _ rfl
              have p2 := (unhideI B1).2.1 2 _ rfl
              have p3 := (unhideI B1).2.1 3 _ rfl
              have p4 := (unhideI B1).2.1 4 _ rfl
              have p5 := (unhideI B1).2.1 5 _ rfl
              clear k1 f0 f1 f2 f3 f4 c0 c1 c2 c3 c4 c5
              go_wp2_with (first | (at_lookup; refine wpList_look_ok rfl (.tmp 37) (.tmp 39) rfl (w.heap.size + 1) A rfl (unhideI M1) lab rfl hsz ?_) | (at_mapUpdate; refine wpList_put rfl (.tmp 46) (.tmp 48) (.tmp 49) rfl (w.heap.size + 1) A rfl (unhideI M1) (by unfold maxLen; omega) lab rfl hsz nn rfl (WalkArith.wf_i64 (by omega)) ht ?_; intro w2 m2 r2; have M2 := hideI m2; have K2 := hideI ((unhideI K1).grown r2 (by omega) (fun j hj => by cases hj; exact Nat.le_refl _)); clear m2 r2 g0 g1 g2 g3 g4 p0 p1 p2 p3 p4 p5))
              go_roundg (l.length - (k + 1))
              case measure => omega
              case rel => exact ⟨k + 1, _, nn, by omega, rfl, rfl, by go_num, hn0, hn1, by simp; omega, M2, K2, HE2⟩
        · have HW := hideI hw
          have hw1 : (wrgL ⟨lab, ⟨o, d, s, m⟩, ref⟩ != 0) = true := by simp [hw]
          have hRq : R = ([], 0, wrgL ⟨lab, ⟨o, d, s, m⟩, ref⟩, k) := by rw [unhideI HE, unhideI hd, plc_bad hw]
          clear HE hd hw
          generalize wrgL ⟨lab, ⟨o, d, s, m⟩, ref⟩ = q at *
          subst hRq
          go_wp2_with fail
          refine (WA _).mono ?_
          rintro e w1 ⟨rfl, k1⟩
          have B1 := hideI ((unhideI BX).step k1)
          have K1 := hideI ((unhideI HB).trans ((bt (below_a _ _) k1).mono (by omega)))
          have M1 := hideI (((unhideI HM).step (below_a wr (.cells #[.string lab, .int .i64 o, .int .i64 d, .int .i64 s, .int .i64 m, .string ref] 40))).step k1)
          have s1 := lt1 k1
          obtain ⟨g0, g1, g2, g3, g4⟩ := fault0 (unhideI K1)
          have p0 := (unhideI B1).2.1 0 _ rfl
          have p1 := (unhideI B1).2.1 1 _ rfl
          have p2 := (unhideI B1).2.1 2 _ rfl
          have p3 := (unhideI B1).2.1 3 _ rfl
          have p4 := (unhideI B1).2.1 4 _ rfl
          have p5 := (unhideI B1).2.1 5 _ rfl
          clear k1 f0 f1 f2 f3 f4 c0 c1 c2 c3 c4 c5
          go_wp2_with fail
          exact bodyPost_ret (v := .tuple #[.map none, .int .i64 0, .agg #[.int .i64 q, .int .i64 k]]) (by simp [results, Tryz.results45, go_sem, g0, g1, g2, g3, g4]) rfl ⟨_, rfl, _, rfl, fun h => absurd h (unhideI HW), fun _ => rfl, (by repeat (first | exact seen (unhideI K1) | refine Below.setCell ?_ (by first | exact Nat.le_refl _ | (simp; done) | omega | (simp; omega)) _ | refine Below.alloc ?_ (by first | (simp; done) | omega | (simp; omega)) _))⟩
      · have hkl : k = l.length := by omega
        go_wp2_with fail
        obtain rfl : R = (A, nn, 0, 0) := by rw [unhideI HE, hkl, List.drop_length]; rfl
        exact bodyPost_ret (v := .tuple #[.map (some (w.heap.size + 1)), .int .i64 nn, .agg #[.int .i64 0, .int .i64 0]]) (by simp [results, Tryz.results45, go_sem, f0, f1, f2, f3, f4]) rfl ⟨_, rfl, _, rfl, fun _ => ⟨_, rfl, by omega, ((unhideI HM).setCell (by omega)).setCell (by omega)⟩, fun h => absurd rfl h, (by repeat (first | exact seen (unhideI HB) | refine Below.setCell ?_ (by first | exact Nat.le_refl _ | (simp; done) | omega | (simp; omega)) _ | refine Below.alloc ?_ (by first | (simp; done) | omega | (simp; omega)) _))⟩
  · have hmu : decide (40000 < (l.length : Int)) = true := decide_eq_true (by omega)
    have hR : plcA l = ([], 0, 5, 0) := by unfold plcA; rw [if_neg hmuch]
    rw [hR]
    go_enter Tryz.func45, Tryz.ntmps45
    go_wp2_with fail
    exact bodyPost_ret (v := .tuple #[.map none, .int .i64 0, .agg #[.int .i64 5, .int .i64 0]]) (by simp [results, Tryz.results45, go_sem]) rfl ⟨_, rfl, _, rfl, fun h => absurd h (by decide), fun _ => rfl, (by repeat (first | exact below_a _ _ | refine Below.setCell ?_ (by first | exact Nat.le_refl _ | (simp; done) | omega | (simp; omega)) _ | refine Below.alloc ?_ (by first | (simp; done) | omega | (simp; omega)) _))⟩
end Go.Proofs.YtodfjomglgmffaaGreatDoor
