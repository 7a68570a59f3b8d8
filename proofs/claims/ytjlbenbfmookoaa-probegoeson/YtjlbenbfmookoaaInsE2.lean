/-
  instr.Encode, by its loop.
-/
import Derived.Test.YtjlbenbfmookoaaInsE
namespace Go.Proofs.Ytjlbenbfmookoaa
open Go.RowKit
set_option linter.unusedSimpArgs false
set_option linter.unusedVariables false

theorem own_slice {w : World} {B e s n : Nat} {v : Value} {cs : List Value} (h : w.ownsRow B e s v n cs) : ∃ ao cap, v = .slice ao n cap := by
  rcases h.2 with ⟨rfl, rfl⟩ | ⟨g, cap, _, rfl, _⟩
  · exact ⟨none, 0, rfl⟩
  · exact ⟨_, cap, rfl⟩
theorem drop_at {α : Type} (l : List α) (k : Nat) (h : k < l.length) : l.drop k = l[k] :: l.drop (k + 1) := List.drop_eq_getElem_cons h
/-- Behind the call's own first block nothing has turned. -/
theorem seen {w wr : World} {o : Obj} (k : Below (w.heap.size + 1) (w.alloc o) wr) : Below w.heap.size w wr :=
  ((Below.refl _ _).alloc (Nat.le_refl _) o).trans (k.mono (by omega))
theorem fault0 {w wr : World} {T : TypeId} {a b : Value} (k : Below (w.heap.size + 1) (w.alloc (.cells #[a, b] T)) wr) :
    wr.cell? ⟨w.heap.size, 0, none⟩ = some a ∧ wr.cell? ⟨w.heap.size, 1, none⟩ = some b ∧ wr.frozen? ⟨w.heap.size, 0, none⟩ = false ∧ wr.frozen? ⟨w.heap.size, 1, none⟩ = false ∧ w.heap.size < wr.heap.size := by
  refine ⟨?_, ?_, ?_, ?_, ?_⟩
  · rw [k.cell (p := ⟨w.heap.size, 0, none⟩) (by simp)]; simp [go_sem]
  · rw [k.cell (p := ⟨w.heap.size, 1, none⟩) (by simp)]; simp [go_sem]
  · rw [k.frozen (p := ⟨w.heap.size, 0, none⟩) (by simp)]; simp [go_sem]
  · rw [k.frozen (p := ⟨w.heap.size, 1, none⟩) (by simp)]; simp [go_sem]
  · have := k.size; simp at this; omega

set_option maxHeartbeats 2000000 in
theorem encode_any (l : List Ins) (v : Value) (w : World) (hl : Inss w v l) :
    Calls Try.prog 34 #[v] w fun e w' => ∃ v', e = .returned (.tuple #[v', .agg #[.int .i64 (encA l).2.1, .int .i64 (encA l).2.2]]) ∧ Ints w' v' (encA l).1 ∧ (∀ k, v'.ownBlock = some k → w.heap.size ≤ k) ∧ Below w.heap.size w w' := by
  obtain ⟨ao, cap, rfl, hmax, hat⟩ := hl.at
  clear hl
  have HA := hideI hat
  clear hat
  unfold maxLen at hmax
  generalize hR : encA l = R
  have HR := hideI hR
  clear hR
  go_enter Try.func34, Try.ntmps34
  go_wp2_with fail
  go_loopg [4, 10] l.length (fun g v i wr => ∃ (k : Nat) (acc : List Int), k ≤ l.length ∧ g = l.length - k ∧ i = .int .i64 k ∧ acc.length ≤ 65536 ∧ wr.ownsRow (w.heap.size + 1) 3 1 v acc.length (acc.map int1) ∧ Below (w.heap.size + 1) (w.alloc (.cells #[.int .i64 0, .int .i64 0] 74)) wr ∧ R = enc (l.drop k) k acc)
  case atStart => exact ⟨0, [], Nat.zero_le _, rfl, rfl, by simp, World.ownsRow_nil _ _ _ _, Below.refl _ _, (unhideI HR).symm⟩
  case round =>
    obtain ⟨k, acc, hk, rfl, rfl, ha, hown, hb, he⟩ := hrel
    have HE := hideI he
    have HO := hideI hown
    have HB := hideI hb
    obtain ⟨f0, f1, f2, f3, f4⟩ := fault0 hb
    clear he hown hb
    by_cases hlt : k < l.length
    · have hne : l ≠ [] := by intro h; rw [h] at hlt; simp at hlt
      obtain ⟨b, off, rfl, hbw, hc⟩ := (unhideI HA) hne
      have hbs := (seen (unhideI HB))
      have c0 : wr.cell? ⟨b, off + k * 4, none⟩ = some (.int .i64 (l[k]).o) := by rw [hbs.cell (p := ⟨b, off + k * 4, none⟩) hbw]; exact (hc k hlt).1
      have c1 : wr.cell? ⟨b, off + k * 4 + 1, none⟩ = some (.int .i64 (l[k]).d) := by rw [hbs.cell (p := ⟨b, off + k * 4 + 1, none⟩) hbw]; exact (hc k hlt).2.1
      have c2 : wr.cell? ⟨b, off + k * 4 + 2, none⟩ = some (.int .i64 (l[k]).s) := by rw [hbs.cell (p := ⟨b, off + k * 4 + 2, none⟩) hbw]; exact (hc k hlt).2.2.1
      have c3 : wr.cell? ⟨b, off + k * 4 + 3, none⟩ = some (.int .i64 (l[k]).m) := by rw [hbs.cell (p := ⟨b, off + k * 4 + 3, none⟩) hbw]; exact (hc k hlt).2.2.2
      have hd := hideI (drop_at l k hlt)
      generalize l[k] = i at *
      clear hc hbs hne
      by_cases hw : wrg i = 0
      · have hw0 : (wrg i != 0) = false := by simp [hw]
        have HW := hideI hw
        clear hw
        by_cases hm : acc.length + (ws i).length ≤ 65536
        · go_wp2_with (first | (go_at_call 38; refine (wrong_any i _).mono ?_; rintro e w1 ⟨rfl, k1⟩; obtain ⟨hcl, hf⟩ := bcell k1; have hlt1 := lt1 k1; have kk := hideI (bt ((Below.refl _ _).alloc (Nat.le_refl _) _) k1)) | (go_at_call 55; refine (aw_ok i _ acc (w.heap.size + 1) _ (unhideI HW) (own_step (unhideI HO) (unhideI kk)) ha (by omega)).mono ?_; rintro e w2 ⟨v2, rfl, own2, k2⟩; obtain ⟨ao2, cap2, rfl⟩ := own_slice own2; have O2 := hideI own2; clear own2))
          go_roundg (l.length - (k + 1))
          case measure => omega
          case rel => exact ⟨k + 1, acc ++ ws i, by omega, rfl, by go_num, (by rw [List.length_append]; exact hm), (by have t := unhideI O2; rw [List.length_append] at t ⊢; exact t), ((unhideI HB).trans ((unhideI kk).mono (by omega))).trans k2, by rw [unhideI HE, unhideI hd, enc_next (unhideI HW) (by rw [List.length_append]; exact hm)]⟩
        · go_wp2_with (first | (go_at_call 38; refine (wrong_any i _).mono ?_; rintro e w1 ⟨rfl, k1⟩; obtain ⟨hcl, hf⟩ := bcell k1; have hlt1 := lt1 k1; have kk := hideI (bt ((Below.refl _ _).alloc (Nat.le_refl _) _) k1)) | (go_at_call 55; refine (aw_ok i _ acc (w.heap.size + 1) _ (unhideI HW) (own_step (unhideI HO) (unhideI kk)) ha (by omega)).mono ?_; rintro e w2 ⟨v2, rfl, own2, k2⟩; obtain ⟨ao2, cap2, rfl⟩ := own_slice own2; obtain ⟨g0, g1, g2, g3, g4⟩ := fault0 (((unhideI HB).trans ((unhideI kk).mono (by omega))).trans k2); clear own2))
          obtain rfl : R = ([], 4, k) := by rw [unhideI HE, unhideI hd, enc_much (unhideI HW) (by rw [List.length_append]; omega)]
          exact bodyPost_ret (v := .tuple #[.slice none 0 0, .agg #[.int .i64 4, .int .i64 k]]) (by simp [results, Try.results34, go_sem, g0, g1, g2, g3, g4]) rfl ⟨_, rfl, Lies.nil _ _, (fun _ h => by cases h), ((seen (((unhideI HB).trans ((unhideI kk).mono (by omega))).trans k2)).setCell (Nat.le_refl _) _).setCell (Nat.le_refl _) _⟩
      · have hw1 : (wrg i != 0) = true := by simp [hw]
        have HW := hideI hw
        clear hw
        go_wp2_with (go_at_call 38; refine (wrong_any i _).mono ?_; rintro e w1 ⟨rfl, k1⟩; obtain ⟨g0, g1, g2, g3, g4⟩ := fault0 ((unhideI HB).trans ((bt ((Below.refl _ _).alloc (Nat.le_refl _) _) k1).mono (by omega))); have kk := hideI (bt ((Below.refl _ _).alloc (Nat.le_refl _) _) k1))
        obtain rfl : R = ([], wrg i, k) := by rw [unhideI HE, unhideI hd, enc_bad (unhideI HW)]
        exact bodyPost_ret (v := .tuple #[.slice none 0 0, .agg #[.int .i64 (wrg i), .int .i64 k]]) (by simp [results, Try.results34, go_sem, g0, g1, g2, g3, g4]) rfl ⟨_, rfl, Lies.nil _ _, (fun _ h => by cases h), ((seen ((unhideI HB).trans ((unhideI kk).mono (by omega)))).setCell (Nat.le_refl _) _).setCell (Nat.le_refl _) _⟩
    · have hkl : k = l.length := by omega
      go_wp2
      obtain rfl : R = (acc, 0, 0) := by rw [unhideI HE, hkl, List.drop_length]; rfl
      refine bodyPost_ret (v := .tuple #[u4, .agg #[.int .i64 0, .int .i64 0]]) (by simp [results, Try.results34, go_sem, f0, f1, f2, f3, f4]) rfl ⟨_, rfl, ?_, (fun c h => Nat.le_of_succ_le ((unhideI HO).lt c h).1), ((seen (unhideI HB)).setCell (Nat.le_refl _) _).setCell (Nat.le_refl _) _⟩
      exact Lies.owned (ownsRow_setCell_below (ownsRow_setCell_below (unhideI HO) (by simp) _) (by simp) _)
end Go.Proofs.Ytjlbenbfmookoaa
