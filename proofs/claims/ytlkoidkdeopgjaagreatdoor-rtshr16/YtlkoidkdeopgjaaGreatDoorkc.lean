/-
  AsN, InsE, InsE2, Four.
-/
import Derived.Test.YtlkoidkdeopgjaaGreatDoorka
import Derived.Test.YtlkoidkdeopgjaaGreatDoorChecked
import Derived.Laws.IdiomStrings
import Derived.Deep.LoopGhost
import Derived.Test.YtlkoidkdeopgjaaGreatDoorkb
set_option maxHeartbeats 4000000
set_option maxRecDepth 100000
namespace Go.Proofs.YtlkoidkdeopgjaaGreatDoor
open Go.RowKit
set_option linter.unusedSimpArgs false
set_option linter.unusedVariables false
theorem fitsName_any (c : Int) (f : Bool) (w : World) : Calls Tryz.prog 169 #[.int .u8 c, .bool f] w fun e w' => e = .returned (.bool (fitC c f)) ∧ w' = w := by
 by_cases h1 : 97 ≤ c
 · by_cases h2 : c ≤ 122
   · have : fitC c f = true := by unfold fitC; simp [h1, h2]
     rw [this]
     clear this
     go_enter Tryz.func169, Tryz.ntmps169
     go_wp2
     go_ret
     exact ⟨rfl, rfl⟩
   · have : fitC c f = false := by unfold fitC; simp; refine ⟨⟨?_, ?_⟩, ?_⟩ <;> omega
     have h3 : (c == 95) = false := by simp; omega
     have h4 : (c == 46) = false := by simp; omega
     have h5 : decide (c ≤ 57) = false := decide_eq_false (by omega)
     rw [this]
     clear this
     go_enter Tryz.func169, Tryz.ntmps169
     go_wp2
     go_ret
     exact ⟨rfl, rfl⟩
 · by_cases h3 : c = 95
   · have : fitC c f = true := by unfold fitC; simp [h3]
     subst h3
     rw [this]
     clear this
     go_enter Tryz.func169, Tryz.ntmps169
     go_wp2
     go_ret
     exact ⟨rfl, rfl⟩
   · have h3' : (c == 95) = false := by simp; omega
     by_cases h4 : 48 ≤ c ∧ c ≤ 57
     · obtain ⟨h5, h6⟩ := h4
       have : fitC c f = !f := by
         unfold fitC
         have e1 : decide (97 ≤ c ∧ c ≤ 122) = false := decide_eq_false (by omega)
         have e2 : decide (c = 46) = false := decide_eq_false (by omega)
         have e3 : decide (48 ≤ c ∧ c ≤ 57) = true := decide_eq_true (by omega)
         have e4 : decide (c = 95) = false := decide_eq_false h3
         rw [e1, e2, e3, e4]; simp
       rw [this]
       clear this
       go_enter Tryz.func169, Tryz.ntmps169
       go_wp2
       go_ret
       exact ⟨rfl, rfl⟩
     · by_cases h5 : c = 46
       · have : fitC c f = f := by subst h5; cases f <;> decide
         subst h5
         rw [this]
         clear this
         go_enter Tryz.func169, Tryz.ntmps169
         go_wp2
         go_ret
         exact ⟨rfl, rfl⟩
       · have : fitC c f = false := by
           unfold fitC
           have e1 : decide (97 ≤ c ∧ c ≤ 122) = false := decide_eq_false (by omega)
           have e2 : decide (c = 46) = false := decide_eq_false (by omega)
           have e3 : decide (48 ≤ c ∧ c ≤ 57) = false := decide_eq_false (by omega)
           have e4 : decide (c = 95) = false := decide_eq_false h3
           rw [e1, e2, e3, e4]; simp
         have h5' : (c == 46) = false := by simp; omega
         by_cases h6 : 48 ≤ c
         · have h7 : decide (c ≤ 57) = false := decide_eq_false (by omega)
           rw [this]
           clear this
           go_enter Tryz.func169, Tryz.ntmps169
           go_wp2
           go_ret
           exact ⟨rfl, rfl⟩
         · skip
           rw [this]
           clear this
           go_enter Tryz.func169, Tryz.ntmps169
           go_wp2
           go_ret
           exact ⟨rfl, rfl⟩
theorem named_any (s : ByteArray) (w : World) : Calls Tryz.prog 112 #[.string s] w fun e w' => e = .returned (.bool (nm s)) ∧ w' = w := by
 by_cases h1 : s.toList.isEmpty = true
 · have : nm s = false := by unfold nm; rw [h1]; rfl
   rw [this]
   go_enter Tryz.func112, Tryz.ntmps112
   go_wp2_with fail
   go_ret
   exact ⟨rfl, rfl⟩
 · replace h1 : s.toList.isEmpty = false := by simpa using h1
   by_cases h2 : (s.toList == [46]) = true
   · have : nm s = false := by unfold nm; rw [h2]; simp
     rw [this]
     go_enter Tryz.func112, Tryz.ntmps112
     go_wp2_with fail
     go_ret
     exact ⟨rfl, rfl⟩
   · replace h2 : (s.toList == [46]) = false := by simpa using h2
     by_cases h3 : s.size ≤ 32
     · have hn : nm s = fits s s.size 0 := by unfold nm; rw [h1, h2, decide_eq_true h3]; rfl
       rw [hn]
       generalize hR : fits s s.size 0 = R
       have HR := zH hR
       have h4 : decide (32 < (s.size : Int)) = false := decide_eq_false (by omega)
       clear hn hR
       go_enter Tryz.func112, Tryz.ntmps112
       go_wp2_with fail
       go_loopg [17] s.size (fun g t wr => ∃ k : Nat, k ≤ s.size ∧ g = s.size - k ∧ t = .int .i64 k ∧ wr = w ∧ Hid (fits s (s.size - k) k = R))
       case atStart => exact ⟨0, Nat.zero_le _, rfl, rfl, rfl, uI HR⟩
       case round =>
         obtain ⟨k, hk, hg, rfl, rfl, hF⟩ := hrel
         by_cases hlt : k < s.size
         · have e0 : (((k : Nat) : Int) == 0) = (k == 0) := by cases k <;> rfl
           have hs := uI hF
           rw [show s.size - k = (s.size - (k + 1)) + 1 by omega] at hs
           simp only [fits] at hs
           rw [byt_at hlt] at hs
           have FA := fun w => fitsName_any ((s[k].toNat : Nat) : Int) (k == 0) w
           by_cases hc : fitC ((s[k].toNat : Nat) : Int) (k == 0) = true
           · rw [hc] at FA hs
             rw [Bool.true_and] at hs
             have HS := zH hs
             clear hs hF
             go_wp2_with fail
             refine (FA _).mono ?_
             rintro e w1 ⟨rfl, hw⟩
             subst w1
             go_wp2_with fail
             go_roundg (s.size - (k + 1))
             case measure => omega
             case rel => exact ⟨k + 1, by omega, rfl, by go_num, rfl, HS⟩
           · replace hc : fitC ((s[k].toNat : Nat) : Int) (k == 0) = false := by simpa using hc
             rw [hc] at FA hs
             rw [Bool.false_and] at hs
             subst hs
             clear hF
             go_wp2_with fail
             refine (FA _).mono ?_
             rintro e w1 ⟨rfl, hw⟩
             subst w1
             go_wp2_with fail
             go_ret
             exact ⟨rfl, rfl⟩
         · have hs := uI hF
           rw [show s.size - k = 0 by omega] at hs
           simp only [fits] at hs
           subst hs
           go_wp2_with fail
           go_ret
           exact ⟨rfl, rfl⟩
     · have : nm s = false := by unfold nm; rw [decide_eq_false h3]; simp
       rw [this]
       have h4 : decide (32 < (s.size : Int)) = true := decide_eq_true (by omega)
       go_enter Tryz.func112, Tryz.ntmps112
       go_wp2_with fail
       go_ret
       exact ⟨rfl, rfl⟩
end Go.Proofs.YtlkoidkdeopgjaaGreatDoor
namespace Go.Proofs.YtlkoidkdeopgjaaGreatDoor
open Go.RowKit
set_option linter.unusedSimpArgs false
set_option linter.unusedVariables false
theorem Tryz.infoInt : (Tryz.prog.info? 3).map (fun i => (i.zero, i.size, i.bytes)) = some (some (.int .i64 0), 1, 8) := by kernel_rfl
def cells4 (i : Ins) : List Value := [.int .i64 i.o, .int .i64 i.d, .int .i64 i.s, .int .i64 i.m]
def Inss (w : World) (v : Value) (l : List Ins) : Prop := Lies w 4 v l.length (l.flatMap cells4)
theorem Inss.step {w w' : World} {v : Value} {l : List Ins} (h : Inss w v l) (k : Below w.heap.size w w') : Inss w' v l := Lies.step h k
theorem flat4 : ∀ (l : List Ins) (i : Nat) (h : i < l.length), (l.flatMap cells4)[i * 4]? = some (.int .i64 (l[i]'h).o) ∧ (l.flatMap cells4)[i * 4 + 1]? = some (.int .i64 (l[i]'h).d) ∧ (l.flatMap cells4)[i * 4 + 2]? = some (.int .i64 (l[i]'h).s) ∧ (l.flatMap cells4)[i * 4 + 3]? = some (.int .i64 (l[i]'h).m)
 | [], i, h => by simp at h
 | x :: l, 0, h => by simp [cells4]
 | x :: l, i + 1, h => by
   have ih := flat4 l i (by simpa using h)
   have e : ∀ j, ((x :: l).flatMap cells4)[(i + 1) * 4 + j]? = (l.flatMap cells4)[i * 4 + j]? := by
     intro j
     rw [List.flatMap_cons, List.getElem?_append_right (by simp [cells4]; omega)]
     congr 1
     simp [cells4]; omega
   have e0 := e 0
   rw [Nat.add_zero, Nat.add_zero] at e0
   rw [e0, e 1, e 2, e 3]
   simpa using ih
theorem Inss.at {w : World} {v : Value} {l : List Ins} (h : Inss w v l) : ∃ ao cap, v = .slice ao l.length cap ∧ l.length ≤ maxLen ∧ (l ≠ [] → ∃ b off, ao = some ⟨b, off, none⟩ ∧ b < w.heap.size ∧ ∀ j (hj : j < l.length), w.cell? ⟨b, off + j * 4, none⟩ = some (.int .i64 (l[j]'hj).o) ∧ w.cell? ⟨b, off + j * 4 + 1, none⟩ = some (.int .i64 (l[j]'hj).d) ∧ w.cell? ⟨b, off + j * 4 + 2, none⟩ = some (.int .i64 (l[j]'hj).s) ∧ w.cell? ⟨b, off + j * 4 + 3, none⟩ = some (.int .i64 (l[j]'hj).m)) := by
 obtain ⟨_, ao, cap, rfl, h3, h4, _, h5⟩ := h
 refine ⟨ao, cap, rfl, Nat.le_trans h3 h4, fun hn => ?_⟩
 obtain ⟨b, off, rfl, hb, hc⟩ := h5 (by intro h; exact hn (List.eq_nil_of_length_eq_zero h))
 refine ⟨b, off, rfl, hb, fun j hj => ?_⟩
 have f := flat4 l j hj
 refine ⟨?_, ?_, ?_, ?_⟩
 · rw [hc (j * 4) (by omega)]; exact f.1
 · rw [Nat.add_assoc, hc (j * 4 + 1) (by omega)]; exact f.2.1
 · rw [Nat.add_assoc, hc (j * 4 + 2) (by omega)]; exact f.2.2.1
 · rw [Nat.add_assoc, hc (j * 4 + 3) (by omega)]; exact f.2.2.2
theorem own_two {w : World} {B : Nat} {v : Value} {xs ys : List Int} {n : Nat} {cs : List Value} (h : w.ownsRow B 3 1 v n cs) (e : cs = (xs ++ ys).map int1) : w.ownsRow B 3 1 v (xs ++ ys).length ((xs ++ ys).map int1) := by
 have hn : n = (xs ++ ys).length := by have := h.1; rw [e] at this; simp at this ⊢; omega
 rw [← e, ← hn]; exact h
theorem aw_ok (i : Ins) (v : Value) (xs : List Int) (B : Nat) (w : World) (h : wrg i = 0) (hown : w.ownsRow B 3 1 v xs.length (xs.map int1)) (hl : xs.length ≤ 65536) (hB : B ≤ w.heap.size) :
   Calls Tryz.prog 120 #[v, agg i] w fun e w' => ∃ v', e = .returned v' ∧ w'.ownsRow B 3 1 v' (xs ++ ws i).length ((xs ++ ws i).map int1) ∧ Below B w w' := by
 obtain ⟨i0, hi, hz0, hz1, hz2⟩ := info_parts Tryz.infoInt
 have H := zH h
 have HO := zH hown
 clear h hown
 have FI := fun w => first_ok i w (uI H)
 by_cases hm : hI i.o = true
 · have hws : Hid (ws i = [fst i, i.m]) := by show ws i = _; unfold ws; rw [if_pos hm]
   obtain ⟨o, d, s, m⟩ := i
   generalize fst ⟨o, d, s, m⟩ = q at *
   generalize ws ⟨o, d, s, m⟩ = W at *
   unfold agg fag at *
   dsimp only at *
   rw [hm] at FI
   go_enter Tryz.func120, Tryz.ntmps120
   go_wp2_with (first | (go_at_call 123; refine (fo_any _ _).mono ?_; rintro e w1 ⟨rfl, k1⟩; unfold fo; obtain ⟨hcl, hf⟩ := bcell k1; have hlt := lt1 k1) | (go_at_call 125; refine (FI _).mono ?_; rintro e w2 ⟨rfl, k2⟩; obtain ⟨hcl2, hf2⟩ := bcell k2; have hlt2 := lt1 k2; have hlt3 : w.heap.size < w2.heap.size := (by omega); have kk := zH (bt (bt (bt ((Below.refl _ _).alloc (Nat.le_refl _) _) k1) ((Below.refl _ _).alloc (Nat.le_refl _) _)) k2)) | (at_builtin; refine wpList_append_own _ rfl (.tmp 13) (.tmp 17) 43 rfl B 3 i0 (.int .i64 0) 1 8 Tryz.underlying43 hi hz0 hz1 hz2 rfl (by decide) _ _ _ rfl ((own_step (uI HO) (uI kk)).alloc _) ⟨_, 0, none⟩ 1 1 [.int .i64 q] rfl rfl (one_c1 _ _ _) (one_c2 _ _) (by unfold maxLen; omega) (by omega) (by simp; omega) ?_; intro v3 w3 own3 grow3 _; obtain ⟨hc3, hf3⟩ := own_else (uI HO) grow3; have c3a := hc3 w1.heap.size 2 (by omega) (by simp; omega); have c3b := hc3 w.heap.size 3 (Nat.le_refl _) (by simp; omega); clear hc3 hf3; have b3 := zH (below_own ((uI kk).mono hB |>.alloc (by omega) _) (by simp; omega) ((own_step (uI HO) (uI kk)).alloc _) grow3); have sz3 : w2.heap.size < w3.heap.size := (by have := grow3.size; simp at this; omega); have O3 := zH own3; clear own3 grow3) | (at_builtin; refine wpList_append_own _ rfl (.tmp 21) (.tmp 24) 43 rfl B 3 i0 (.int .i64 0) 1 8 Tryz.underlying43 hi hz0 hz1 hz2 rfl (by decide) _ _ _ rfl ((uI O3).alloc _) ⟨_, 0, none⟩ 1 1 [.int .i64 m] rfl rfl (one_c1 _ _ _) (one_c2 _ _) (by unfold maxLen; omega) (by omega) (by simp; omega) ?_; intro v4 w4 own4 grow4 _; have b4 := zH (below_own ((uI b3).alloc (by omega) _) (by simp; omega) ((uI O3).alloc _) grow4); have O4 := zH own4; clear own4 grow4))
   go_ret
   refine ⟨_, rfl, own_two (uI O4) ?_, uI b4⟩
   rw [uI hws]; simp [int1]
 · have hm' : hI i.o = false := by simpa using hm
   clear hm
   have hws : Hid (ws i = [fst i]) := by show ws i = _; unfold ws; rw [if_neg (by simp [hm'])]
   obtain ⟨o, d, s, m⟩ := i
   generalize fst ⟨o, d, s, m⟩ = q at *
   generalize ws ⟨o, d, s, m⟩ = W at *
   unfold agg fag at *
   dsimp only at *
   rw [hm'] at FI
   go_enter Tryz.func120, Tryz.ntmps120
   go_wp2_with (first | (go_at_call 123; refine (fo_any _ _).mono ?_; rintro e w1 ⟨rfl, k1⟩; unfold fo; obtain ⟨hcl, hf⟩ := bcell k1; have hlt := lt1 k1) | (go_at_call 125; refine (FI _).mono ?_; rintro e w2 ⟨rfl, k2⟩; obtain ⟨hcl2, hf2⟩ := bcell k2; have hlt2 := lt1 k2; have hlt3 : w.heap.size < w2.heap.size := (by omega); have kk := zH (bt (bt (bt ((Below.refl _ _).alloc (Nat.le_refl _) _) k1) ((Below.refl _ _).alloc (Nat.le_refl _) _)) k2)) | (at_builtin; refine wpList_append_own _ rfl (.tmp 13) (.tmp 17) 43 rfl B 3 i0 (.int .i64 0) 1 8 Tryz.underlying43 hi hz0 hz1 hz2 rfl (by decide) _ _ _ rfl ((own_step (uI HO) (uI kk)).alloc _) ⟨_, 0, none⟩ 1 1 [.int .i64 q] rfl rfl (one_c1 _ _ _) (one_c2 _ _) (by unfold maxLen; omega) (by omega) (by simp; omega) ?_; intro v3 w3 own3 grow3 _; obtain ⟨hc3, hf3⟩ := own_else (uI HO) grow3; have c3a := hc3 w1.heap.size 2 (by omega) (by simp; omega); have c3b := hc3 w.heap.size 3 (Nat.le_refl _) (by simp; omega); clear hc3 hf3; have b3 := zH (below_own ((uI kk).mono hB |>.alloc (by omega) _) (by simp; omega) ((own_step (uI HO) (uI kk)).alloc _) grow3); have O3 := zH own3; clear own3 grow3))
   go_ret
   refine ⟨_, rfl, own_two (uI O3) ?_, uI b3⟩
   rw [uI hws]; simp [int1]
end Go.Proofs.YtlkoidkdeopgjaaGreatDoor
namespace Go.Proofs.YtlkoidkdeopgjaaGreatDoor
open Go.RowKit
set_option linter.unusedSimpArgs false
set_option linter.unusedVariables false
theorem own_slice {w : World} {B e s n : Nat} {v : Value} {cs : List Value} (h : w.ownsRow B e s v n cs) : ∃ ao cap, v = .slice ao n cap := by
 rcases h.2 with ⟨rfl, rfl⟩ | ⟨g, cap, _, rfl, _⟩
 · exact ⟨none, 0, rfl⟩
 · exact ⟨_, cap, rfl⟩
theorem drop_at {α : Type} (l : List α) (k : Nat) (h : k < l.length) : l.drop k = l[k] :: l.drop (k + 1) := List.drop_eq_getElem_cons h
theorem seen {w wr : World} {o : Obj} (k : Below (w.heap.size + 1) (w.alloc o) wr) : Below w.heap.size w wr :=
 ((Below.refl _ _).alloc (Nat.le_refl _) o).trans (k.mono (by omega))
theorem fault0 {w wr : World} {T : TypeId} {a b : Value} (k : Below (w.heap.size + 1) (w.alloc (.cells #[a, b] T)) wr) :
   wr.cell? ⟨w.heap.size, 0, none⟩ = some a ∧ wr.cell? ⟨w.heap.size, 1, none⟩ = some b ∧ wr.frozen? ⟨w.heap.size, 0, none⟩ = false ∧ wr.frozen? ⟨w.heap.size, 1, none⟩ = false ∧ w.heap.size < wr.heap.size := by
 refine ⟨?_, ?_, ?_, ?_, ?_⟩
 · rw [k.cell (p := ⟨w.heap.size, 0, none⟩) (by simp)]; simp [go_sem]
 · rw [k.cell (p := ⟨w.heap.size, 1, none⟩) (by simp)]; simp [go_sem]
 · rw [k.frozen (p := ⟨w.heap.size, 0, none⟩) (by simp)]; simp [go_sem]
 · rw [k.frozen (p := ⟨w.heap.size, 1, none⟩) (by simp)]; simp [go_sem]
 · have := k.size; simp at this; omega
theorem encode_any (l : List Ins) (v : Value) (w : World) (hl : Inss w v l) :
   Calls Tryz.prog 85 #[v] w fun e w' => ∃ v', e = .returned (.tuple #[v', .agg #[.int .i64 (encA l).2.1, .int .i64 (encA l).2.2]]) ∧ Ints w' v' (encA l).1 ∧ (∀ k, v'.ownBlock = some k → w.heap.size ≤ k) ∧ Below w.heap.size w w' := by
 obtain ⟨ao, cap, rfl, hmax, hat⟩ := hl.at
 clear hl
 have HA := zH hat
 clear hat
 unfold maxLen at hmax
 generalize hR : encA l = R
 have HR := zH hR
 clear hR
 go_enter Tryz.func85, Tryz.ntmps85
 go_wp2_with fail
 go_loopg [4, 10] l.length (fun g v i wr => ∃ (k : Nat) (acc : List Int), k ≤ l.length ∧ g = l.length - k ∧ i = .int .i64 k ∧ acc.length ≤ 65536 ∧ wr.ownsRow (w.heap.size + 1) 3 1 v acc.length (acc.map int1) ∧ Below (w.heap.size + 1) (w.alloc (.cells #[.int .i64 0, .int .i64 0] 83)) wr ∧ R = enc (l.drop k) k acc)
 case atStart => exact ⟨0, [], Nat.zero_le _, rfl, rfl, by simp, World.ownsRow_nil _ _ _ _, Below.refl _ _, (uI HR).symm⟩
 case round =>
   obtain ⟨k, acc, hk, rfl, rfl, ha, hown, hb, he⟩ := hrel
   have HE := zH he
   have HO := zH hown
   have HB := zH hb
   obtain ⟨f0, f1, f2, f3, f4⟩ := fault0 hb
   clear he hown hb
   by_cases hlt : k < l.length
   · have hne : l ≠ [] := by intro h; rw [h] at hlt; simp at hlt
     obtain ⟨b, off, rfl, hbw, hc⟩ := (uI HA) hne
     have hbs := (seen (uI HB))
     have c0 : wr.cell? ⟨b, off + k * 4, none⟩ = some (.int .i64 (l[k]).o) := by rw [hbs.cell (p := ⟨b, off + k * 4, none⟩) hbw]; exact (hc k hlt).1
     have c1 : wr.cell? ⟨b, off + k * 4 + 1, none⟩ = some (.int .i64 (l[k]).d) := by rw [hbs.cell (p := ⟨b, off + k * 4 + 1, none⟩) hbw]; exact (hc k hlt).2.1
     have c2 : wr.cell? ⟨b, off + k * 4 + 2, none⟩ = some (.int .i64 (l[k]).s) := by rw [hbs.cell (p := ⟨b, off + k * 4 + 2, none⟩) hbw]; exact (hc k hlt).2.2.1
     have c3 : wr.cell? ⟨b, off + k * 4 + 3, none⟩ = some (.int .i64 (l[k]).m) := by rw [hbs.cell (p := ⟨b, off + k * 4 + 3, none⟩) hbw]; exact (hc k hlt).2.2.2
     have hd := zH (drop_at l k hlt)
     generalize l[k] = i at *
     clear hc hbs hne
     by_cases hw : wrg i = 0
     · have hw0 : (wrg i != 0) = false := by simp [hw]
       have HW := zH hw
       clear hw
       by_cases hm : acc.length + (ws i).length ≤ 65536
       · go_wp2_with (first | (go_at_call 119; refine (wrong_any i _).mono ?_; rintro e w1 ⟨rfl, k1⟩; obtain ⟨hcl, hf⟩ := bcell k1; have hlt1 := lt1 k1; have kk := zH (bt ((Below.refl _ _).alloc (Nat.le_refl _) _) k1)) | (go_at_call 120; refine (aw_ok i _ acc (w.heap.size + 1) _ (uI HW) (own_step (uI HO) (uI kk)) ha (by omega)).mono ?_; rintro e w2 ⟨v2, rfl, own2, k2⟩; obtain ⟨ao2, cap2, rfl⟩ := own_slice own2; have O2 := zH own2; clear own2))
         go_roundg (l.length - (k + 1))
         case measure => omega
         case rel => exact ⟨k + 1, acc ++ ws i, by omega, rfl, by go_num, (by rw [List.length_append]; exact hm), (by have t := uI O2; rw [List.length_append] at t ⊢; exact t), ((uI HB).trans ((uI kk).mono (by omega))).trans k2, by rw [uI HE, uI hd, enc_next (uI HW) (by rw [List.length_append]; exact hm)]⟩
       · go_wp2_with (first | (go_at_call 119; refine (wrong_any i _).mono ?_; rintro e w1 ⟨rfl, k1⟩; obtain ⟨hcl, hf⟩ := bcell k1; have hlt1 := lt1 k1; have kk := zH (bt ((Below.refl _ _).alloc (Nat.le_refl _) _) k1)) | (go_at_call 120; refine (aw_ok i _ acc (w.heap.size + 1) _ (uI HW) (own_step (uI HO) (uI kk)) ha (by omega)).mono ?_; rintro e w2 ⟨v2, rfl, own2, k2⟩; obtain ⟨ao2, cap2, rfl⟩ := own_slice own2; obtain ⟨g0, g1, g2, g3, g4⟩ := fault0 (((uI HB).trans ((uI kk).mono (by omega))).trans k2); clear own2))
         obtain rfl : R = ([], 4, k) := by rw [uI HE, uI hd, enc_much (uI HW) (by rw [List.length_append]; omega)]
         exact bodyPost_ret (v := .tuple #[.slice none 0 0, .agg #[.int .i64 4, .int .i64 k]]) (by simp [results, Tryz.results85, go_sem, g0, g1, g2, g3, g4]) rfl ⟨_, rfl, Lies.nil _ _, (fun _ h => by cases h), ((seen (((uI HB).trans ((uI kk).mono (by omega))).trans k2)).setCell (Nat.le_refl _) _).setCell (Nat.le_refl _) _⟩
     · have hw1 : (wrg i != 0) = true := by simp [hw]
       have HW := zH hw
       clear hw
       go_wp2_with (go_at_call 119; refine (wrong_any i _).mono ?_; rintro e w1 ⟨rfl, k1⟩; obtain ⟨g0, g1, g2, g3, g4⟩ := fault0 ((uI HB).trans ((bt ((Below.refl _ _).alloc (Nat.le_refl _) _) k1).mono (by omega))); have kk := zH (bt ((Below.refl _ _).alloc (Nat.le_refl _) _) k1))
       obtain rfl : R = ([], wrg i, k) := by rw [uI HE, uI hd, enc_bad (uI HW)]
       exact bodyPost_ret (v := .tuple #[.slice none 0 0, .agg #[.int .i64 (wrg i), .int .i64 k]]) (by simp [results, Tryz.results85, go_sem, g0, g1, g2, g3, g4]) rfl ⟨_, rfl, Lies.nil _ _, (fun _ h => by cases h), ((seen ((uI HB).trans ((uI kk).mono (by omega)))).setCell (Nat.le_refl _) _).setCell (Nat.le_refl _) _⟩
   · have hkl : k = l.length := by omega
     go_wp2
     obtain rfl : R = (acc, 0, 0) := by rw [uI HE, hkl, List.drop_length]; rfl
     refine bodyPost_ret (v := .tuple #[u4, .agg #[.int .i64 0, .int .i64 0]]) (by simp [results, Tryz.results85, go_sem, f0, f1, f2, f3, f4]) rfl ⟨_, rfl, ?_, (fun c h => Nat.le_of_succ_le ((uI HO).lt c h).1), ((seen (uI HB)).setCell (Nat.le_refl _) _).setCell (Nat.le_refl _) _⟩
     exact Lies.owned (ownsRow_setCell_below (ownsRow_setCell_below (uI HO) (by simp) _) (by simp) _)
end Go.Proofs.YtlkoidkdeopgjaaGreatDoor
namespace Go.Proofs.YtlkoidkdeopgjaaGreatDoor
open Go.RowKit
set_option linter.unusedSimpArgs false
set_option linter.unusedVariables false
theorem Tryz.infoInstr : (Tryz.prog.info? 73).map (fun i => (i.zero, i.size, i.bytes)) = some (some (.agg #[.int .i64 0, .int .i64 0, .int .i64 0, .int .i64 0]), 4, 32) := by kernel_rfl
theorem four_c1 (u : World) (i : Ins) (T : TypeId) (B : Nat) (hB : B = u.heap.size) : ∀ j x, (cells4 i)[j]? = some x → (u.alloc (.cells #[.int .i64 i.o, .int .i64 i.d, .int .i64 i.s, .int .i64 i.m] T)).cell? ((⟨B, 0, none⟩ : Addr).add j) = some x := by
 subst hB
 unfold cells4
 intro j x hj
 match j, hj with
 | 0, hj => simp at hj; subst hj; simp [Addr.add]
 | 1, hj => simp at hj; subst hj; simp [Addr.add]
 | 2, hj => simp at hj; subst hj; simp [Addr.add]
 | 3, hj => simp at hj; subst hj; simp [Addr.add]
theorem four_c2 (i : Ins) : ∀ u ∈ cells4 i, u.oneCell' = true := by intro u hu; simp [cells4] at hu; rcases hu with rfl | rfl | rfl | rfl <;> rfl
theorem own_snoc {w : World} {B : Nat} {v : Value} {l : List Ins} {i : Ins} {n : Nat} {cs : List Value} (h : w.ownsRow B 73 4 v n cs) (e : cs = (l ++ [i]).flatMap cells4) (hn : n = l.length + 1) : w.ownsRow B 73 4 v (l ++ [i]).length ((l ++ [i]).flatMap cells4) := by
 have : (l ++ [i]).length = n := by rw [hn]; simp
 rw [← e, this]; exact h
end Go.Proofs.YtlkoidkdeopgjaaGreatDoor
