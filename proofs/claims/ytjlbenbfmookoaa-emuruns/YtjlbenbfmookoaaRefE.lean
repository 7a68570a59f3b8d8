/-
  pairlegalref2.Encode, by its loop.
-/
import Derived.Test.YtjlbenbfmookoaaRefW
import Derived.Test.YtjlbenbfmookoaaRefB
import Derived.Test.YtjlbenbfmookoaaInsE2
namespace Go.Proofs.Ytjlbenbfmookoaa
open Go.RowKit
set_option linter.unusedSimpArgs false
set_option linter.unusedVariables false

theorem one_c1' (u : World) (q : Value) (T : TypeId) (B : Nat) (hB : B = u.heap.size) : ∀ j x, [q][j]? = some x → (u.alloc (.cells #[q] T)).cell? ((⟨B, 0, none⟩ : Addr).add j) = some x := by
  subst hB; exact one_c1 u q T

theorem Box.grown {w u u' : World} {B e s n b : Nat} {v : Value} {cs bs : List Value} (h : Box u b bs) (ho : w.ownsRow B e s v n cs) (hg : u.grownBy u' v.ownBlock) (hb : w.heap.size ≤ b) : Box u' b bs := by
  obtain ⟨h1, h2⟩ := own_else ho hg
  exact ⟨Nat.lt_of_lt_of_le h.1 hg.size, fun j x hx => by rw [h1 b j hb h.1]; exact h.2.1 j x hx, fun j => by rw [h2 b j hb h.1]; exact h.2.2 j⟩

set_option maxRecDepth 100000 in
set_option maxHeartbeats 4000000 in
theorem rencode_any (l : List Ins) (v : Value) (w : World) (hl : Inss w v l) :
    Calls Try.prog 54 #[v] w fun e w' => ∃ v', e = .returned (.tuple #[v', .agg #[.int .i64 (encA l).2.1, .int .i64 (encA l).2.2]]) ∧ Ints w' v' (encA l).1 ∧ (∀ k, v'.ownBlock = some k → w.heap.size ≤ k) ∧ Below w.heap.size w w' := by
  obtain ⟨i0, hi, hz0, hz1, hz2⟩ := info_parts Try.infoInt
  obtain ⟨ao, cap, rfl, hmax, hat⟩ := hl.at
  clear hl
  have HA := hideI hat
  clear hat
  unfold maxLen at hmax
  generalize hR : encA l = R
  have HR := hideI hR
  clear hR
  go_enter Try.func54, Try.ntmps54
  go_wp2_with fail
  go_loopg [4, 11] l.length (fun g v i wr => ∃ (k : Nat) (acc : List Int), k ≤ l.length ∧ g = l.length - k ∧ i = .int .i64 k ∧ acc.length ≤ 65536 ∧ wr.ownsRow (w.heap.size + 1) 3 1 v acc.length (acc.map int1) ∧ Below (w.heap.size + 1) (w.alloc (.cells #[.int .i64 0, .int .i64 0] 74)) wr ∧ R = enc (l.drop k) k acc)
  case atStart => exact ⟨0, [], Nat.zero_le _, rfl, rfl, by simp, World.ownsRow_nil _ _ _ _, Below.refl _ _, (unhideI HR).symm⟩
  case round =>
    obtain ⟨k, acc, hk, rfl, rfl, ha, hown, hb, he⟩ := hrel
    have HE := hideI he
    have HO := hideI hown
    have HB := hideI hb
    obtain ⟨f0, f1, f2, f3, f4⟩ := fault0 hb
    clear he hown hb
    by_cases hlt : k < l.length
    · have hne : l ≠ [] := by intro h; rw [h] at hlt; simp at hlt
      obtain ⟨b, off, rfl, hbw, hc⟩ := (unhideI HA) hne
      have hbs := (seen (unhideI HB))
      have c0 := cell_keep hbs hbw (hc k hlt).1
      have c1 := cell_keep hbs hbw (hc k hlt).2.1
      have c2 := cell_keep hbs hbw (hc k hlt).2.2.1
      have c3 := cell_keep hbs hbw (hc k hlt).2.2.2
      have hd := hideI (drop_at l k hlt)
      generalize l[k] = i at *
      clear hc hbs hne
      have WA := fun w => rwrong_any i w
      have BA := fun w => bare_any i w
      have BX := hideI (Box.new wr #[.int .i64 i.o, .int .i64 i.d, .int .i64 i.s, .int .i64 i.m] 49)
      unfold agg at WA BA
      by_cases hw : wrg i = 0
      · rw [hw] at WA
        have HW := hideI hw
        obtain ⟨q0, q1, _⟩ := wr_fields hw
        obtain ⟨q2, q3, q4, q5, q6, q7⟩ := bare_in hw
        have hf := hideI (show fst i = i.o * 1024 + (bare i).d * 128 + (bare i).s * 16 from rfl)
        have ho := bare_o i
        rw [ho] at BA
        clear ho
        have HM := among_i i.o
        have HN := hideI (show hI i.o = true → (bare i).m = i.m from fun h => by unfold bare; dsimp only; rw [if_pos h])
        clear hw
        generalize bare i = j at *
        by_cases hm : hI i.o = true
        · have hws : Hid (ws i = [fst i, i.m]) := by show ws i = _; unfold ws; rw [if_pos hm]
          have hjm := (unhideI HN) hm
          rw [hjm] at BA
          by_cases hlen : acc.length ≤ 65534
          · have HL := hideI hlen
            have HA2 := hideI ha
            clear hlen ha
            go_wp2_with fail
            refine (WA _).mono ?_
            rintro e w1 ⟨rfl, k1⟩
            have B1 := hideI ((unhideI BX).step k1)
            obtain ⟨p0, p1, p2, p3⟩ := (unhideI B1).at4
            have K1 := hideI (bt (below_a _ _) k1)
            have s1 := lt1 k1
            go_wp2_with fail
            clear p0 p1 p2 p3
            refine (BA _).mono ?_
            rintro e w2 ⟨rfl, k2⟩
            have B2 := hideI ((unhideI B1).step k2)
            have K2 := hideI (bt (unhideI K1) k2)
            have s2 : wr.heap.size < w2.heap.size := Nat.lt_of_lt_of_le s1 k2.size
            clear k1 k2
            have C2 := hideI ((Box.new w2 #[.int .i64 i.o, .int .i64 j.d, .int .i64 j.s, .int .i64 i.m] 49).step (below_a _ (.cells #[.int .i64 (i.o * 1024 + j.d * 128 + j.s * 16)] 3)))
            have D2 := hideI (((unhideI B2).step (below_a _ (.cells #[.int .i64 i.o, .int .i64 j.d, .int .i64 j.s, .int .i64 i.m] 49))).step (below_a _ (.cells #[.int .i64 (i.o * 1024 + j.d * 128 + j.s * 16)] 3)))
            have OW := hideI (((own_step (unhideI HO) (unhideI K2)).alloc (.cells #[.int .i64 i.o, .int .i64 j.d, .int .i64 j.s, .int .i64 i.m] 49)).alloc (.cells #[.int .i64 (i.o * 1024 + j.d * 128 + j.s * 16)] 3))
            have KW := hideI (((unhideI HB).trans ((unhideI K2).mono (by omega))).trans ((bt (below_a _ (.cells #[.int .i64 i.o, .int .i64 j.d, .int .i64 j.s, .int .i64 i.m] 49)) (below_a _ (.cells #[.int .i64 (i.o * 1024 + j.d * 128 + j.s * 16)] 3))).mono (by omega)))
            go_wp2_with (at_builtin; refine wpList_append_own _ rfl (.tmp 25) (.tmp 37) 22 rfl (w.heap.size + 1) 3 i0 (.int .i64 0) 1 8 Try.underlying22 hi hz0 hz1 hz2 rfl (by decide) _ _ _ rfl (unhideI OW) ⟨_, 0, none⟩ 1 1 [.int .i64 (i.o * 1024 + j.d * 128 + j.s * 16)] rfl rfl (one_c1' _ _ _ _ (by simp)) (one_c2 _ _) (by have h1 := unhideI HL; have h2 := unhideI HA2; unfold maxLen; omega) (by have h1 := unhideI HL; have h2 := unhideI HA2; omega) (by have h1 := unhideI HL; have h2 := unhideI HA2; simp; omega) ?_; intro v3 w3 own3 grow3 hx3; clear hx3; have B3 := hideI ((unhideI D2).grown (unhideI HO) grow3 (Nat.le_refl _)); have C3 := hideI ((unhideI C2).grown (unhideI HO) grow3 (Nat.le_of_lt s2)); have K3 := hideI (below_own (unhideI KW) (by simp; omega) (unhideI OW) grow3); have s3 := (unhideI K3).size; simp at s3; have O3 := hideI own3; clear own3 grow3; obtain ⟨p0, p1, p2, p3⟩ := (unhideI B3).at4; obtain ⟨r0, r1, r2, r3⟩ := (unhideI C3).at4)
            refine (has_any _ _ _).mono ?_
            rintro e w4 ⟨rfl, k4⟩
            have B4 := hideI ((unhideI B3).step k4)
            have C4 := hideI ((unhideI C3).step k4)
            have O4 := hideI (own_step (unhideI O3) k4)
            have K4 := hideI ((unhideI K3).trans (k4.mono (by omega)))
            have s4 := k4.size
            clear WA BA k4 s1 s2
            clear p0 p1 p2 p3 r0 r1 r2 r3
            obtain ⟨p0, p1, p2, p3⟩ := (unhideI B4).at4
            obtain ⟨r0, r1, r2, r3⟩ := (unhideI C4).at4
            go_wp2_with (at_builtin; refine wpList_append_own _ rfl (.tmp 42) (.tmp 45) 22 rfl (w.heap.size + 1) 3 i0 (.int .i64 0) 1 8 Try.underlying22 hi hz0 hz1 hz2 rfl (by decide) _ _ _ rfl ((unhideI O4).alloc _) ⟨_, 0, none⟩ 1 1 [.int .i64 i.m] rfl rfl (one_c1' _ _ _ _ (by simp)) (one_c2 _ _) (by have h1 := unhideI HL; have h2 := unhideI HA2; unfold maxLen; omega) (by have h1 := unhideI HL; have h2 := unhideI HA2; omega) (by have h1 := unhideI HL; have h2 := unhideI HA2; simp; omega) ?_; intro v5 w5 own5 grow5 hx5; clear hx5; have K5 := hideI (below_own ((unhideI K4).alloc (by omega) _) (by simp; omega) ((unhideI O4).alloc _) grow5); obtain ⟨ao5, cap5, rfl⟩ := own_slice own5; have O5 := hideI own5; clear own5 grow5; obtain ⟨g0, g1, g2, g3, g4⟩ := fault0 (unhideI K5); obtain ⟨z, hz⟩ : ∃ z, z = acc.length + 1 + 1 := ⟨_, rfl⟩; rw [← hz]; have hL6 : z ≤ 65536 := (by have h1 := unhideI HL; omega); have HZ := hideI hz; clear hz)
            go_roundg (l.length - (k + 1))
            case measure => omega
            case rel => exact ⟨k + 1, acc ++ ws i, by omega, rfl, by go_num, (by have h1 := unhideI HL; rw [unhideI hws]; simp; omega), (by rw [unhideI HZ]; have t := own_two (xs := acc) (ys := ws i) (unhideI O5) (by rw [unhideI hws, unhideI hf]; simp [int1]); rw [unhideI hws] at t ⊢; simpa using t), unhideI K5, by rw [unhideI HE, unhideI hd, enc_next (unhideI HW) (by have h1 := unhideI HL; rw [unhideI hws]; simp; omega)]⟩
          · have HL := hideI hlen
            have HA2 := hideI ha
            clear hlen ha
            go_wp2_with fail
            refine (WA _).mono ?_
            rintro e w1 ⟨rfl, k1⟩
            have B1 := hideI ((unhideI BX).step k1)
            obtain ⟨p0, p1, p2, p3⟩ := (unhideI B1).at4
            have K1 := hideI (bt (below_a _ _) k1)
            have s1 := lt1 k1
            go_wp2_with fail
            clear p0 p1 p2 p3
            refine (BA _).mono ?_
            rintro e w2 ⟨rfl, k2⟩
            have B2 := hideI ((unhideI B1).step k2)
            have K2 := hideI (bt (unhideI K1) k2)
            have s2 : wr.heap.size < w2.heap.size := Nat.lt_of_lt_of_le s1 k2.size
            clear k1 k2
            have C2 := hideI ((Box.new w2 #[.int .i64 i.o, .int .i64 j.d, .int .i64 j.s, .int .i64 i.m] 49).step (below_a _ (.cells #[.int .i64 (i.o * 1024 + j.d * 128 + j.s * 16)] 3)))
            have D2 := hideI (((unhideI B2).step (below_a _ (.cells #[.int .i64 i.o, .int .i64 j.d, .int .i64 j.s, .int .i64 i.m] 49))).step (below_a _ (.cells #[.int .i64 (i.o * 1024 + j.d * 128 + j.s * 16)] 3)))
            have OW := hideI (((own_step (unhideI HO) (unhideI K2)).alloc (.cells #[.int .i64 i.o, .int .i64 j.d, .int .i64 j.s, .int .i64 i.m] 49)).alloc (.cells #[.int .i64 (i.o * 1024 + j.d * 128 + j.s * 16)] 3))
            have KW := hideI (((unhideI HB).trans ((unhideI K2).mono (by omega))).trans ((bt (below_a _ (.cells #[.int .i64 i.o, .int .i64 j.d, .int .i64 j.s, .int .i64 i.m] 49)) (below_a _ (.cells #[.int .i64 (i.o * 1024 + j.d * 128 + j.s * 16)] 3))).mono (by omega)))
            go_wp2_with (at_builtin; refine wpList_append_own _ rfl (.tmp 25) (.tmp 37) 22 rfl (w.heap.size + 1) 3 i0 (.int .i64 0) 1 8 Try.underlying22 hi hz0 hz1 hz2 rfl (by decide) _ _ _ rfl (unhideI OW) ⟨_, 0, none⟩ 1 1 [.int .i64 (i.o * 1024 + j.d * 128 + j.s * 16)] rfl rfl (one_c1' _ _ _ _ (by simp)) (one_c2 _ _) (by have h1 := unhideI HL; have h2 := unhideI HA2; unfold maxLen; omega) (by have h1 := unhideI HL; have h2 := unhideI HA2; omega) (by have h1 := unhideI HL; have h2 := unhideI HA2; simp; omega) ?_; intro v3 w3 own3 grow3 hx3; clear hx3; have B3 := hideI ((unhideI D2).grown (unhideI HO) grow3 (Nat.le_refl _)); have C3 := hideI ((unhideI C2).grown (unhideI HO) grow3 (Nat.le_of_lt s2)); have K3 := hideI (below_own (unhideI KW) (by simp; omega) (unhideI OW) grow3); have s3 := (unhideI K3).size; simp at s3; have O3 := hideI own3; clear own3 grow3; obtain ⟨p0, p1, p2, p3⟩ := (unhideI B3).at4; obtain ⟨r0, r1, r2, r3⟩ := (unhideI C3).at4)
            refine (has_any _ _ _).mono ?_
            rintro e w4 ⟨rfl, k4⟩
            have B4 := hideI ((unhideI B3).step k4)
            have C4 := hideI ((unhideI C3).step k4)
            have O4 := hideI (own_step (unhideI O3) k4)
            have K4 := hideI ((unhideI K3).trans (k4.mono (by omega)))
            have s4 := k4.size
            clear WA BA k4 s1 s2
            clear p0 p1 p2 p3 r0 r1 r2 r3
            obtain ⟨p0, p1, p2, p3⟩ := (unhideI B4).at4
            obtain ⟨r0, r1, r2, r3⟩ := (unhideI C4).at4
            go_wp2_with (at_builtin; refine wpList_append_own _ rfl (.tmp 42) (.tmp 45) 22 rfl (w.heap.size + 1) 3 i0 (.int .i64 0) 1 8 Try.underlying22 hi hz0 hz1 hz2 rfl (by decide) _ _ _ rfl ((unhideI O4).alloc _) ⟨_, 0, none⟩ 1 1 [.int .i64 i.m] rfl rfl (one_c1' _ _ _ _ (by simp)) (one_c2 _ _) (by have h1 := unhideI HL; have h2 := unhideI HA2; unfold maxLen; omega) (by have h1 := unhideI HL; have h2 := unhideI HA2; omega) (by have h1 := unhideI HL; have h2 := unhideI HA2; simp; omega) ?_; intro v5 w5 own5 grow5 hx5; clear hx5; have K5 := hideI (below_own ((unhideI K4).alloc (by omega) _) (by simp; omega) ((unhideI O4).alloc _) grow5); obtain ⟨ao5, cap5, rfl⟩ := own_slice own5; have O5 := hideI own5; clear own5 grow5; obtain ⟨g0, g1, g2, g3, g4⟩ := fault0 (unhideI K5); obtain ⟨z, hz⟩ : ∃ z, z = acc.length + 1 + 1 := ⟨_, rfl⟩; rw [← hz]; have hL6 : 65536 < z := (by have h1 := unhideI HL; omega); have HZ := hideI hz; clear hz)
            obtain rfl : R = ([], 4, k) := by rw [unhideI HE, unhideI hd, enc_much (unhideI HW) (by have h1 := unhideI HL; rw [unhideI hws]; simp; omega)]
            exact bodyPost_ret (v := .tuple #[.slice none 0 0, .agg #[.int .i64 4, .int .i64 k]]) (by simp [results, Try.results54, go_sem, g0, g1, g2, g3, g4]) rfl ⟨_, rfl, Lies.nil _ _, (fun _ h => by cases h), (by repeat (first | exact seen (unhideI K5) | refine Below.setCell ?_ (by first | exact Nat.le_refl _ | (simp; done) | omega | (simp; omega)) _ | refine Below.alloc ?_ (by first | (simp; done) | omega | (simp; omega)) _))⟩
        · have hm' : hI i.o = false := by simpa using hm
          clear hm
          have hws : Hid (ws i = [fst i]) := by show ws i = _; unfold ws; rw [if_neg (by simp [hm'])]
          by_cases hlen : acc.length ≤ 65535
          · have HL := hideI hlen
            have HA2 := hideI ha
            clear hlen ha
            go_wp2_with fail
            refine (WA _).mono ?_
            rintro e w1 ⟨rfl, k1⟩
            have B1 := hideI ((unhideI BX).step k1)
            obtain ⟨p0, p1, p2, p3⟩ := (unhideI B1).at4
            have K1 := hideI (bt (below_a _ _) k1)
            have s1 := lt1 k1
            go_wp2_with fail
            clear p0 p1 p2 p3
            refine (BA _).mono ?_
            rintro e w2 ⟨rfl, k2⟩
            have B2 := hideI ((unhideI B1).step k2)
            have K2 := hideI (bt (unhideI K1) k2)
            have s2 : wr.heap.size < w2.heap.size := Nat.lt_of_lt_of_le s1 k2.size
            clear k1 k2
            have C2 := hideI ((Box.new w2 #[.int .i64 i.o, .int .i64 j.d, .int .i64 j.s, .int .i64 j.m] 49).step (below_a _ (.cells #[.int .i64 (i.o * 1024 + j.d * 128 + j.s * 16)] 3)))
            have D2 := hideI (((unhideI B2).step (below_a _ (.cells #[.int .i64 i.o, .int .i64 j.d, .int .i64 j.s, .int .i64 j.m] 49))).step (below_a _ (.cells #[.int .i64 (i.o * 1024 + j.d * 128 + j.s * 16)] 3)))
            have OW := hideI (((own_step (unhideI HO) (unhideI K2)).alloc (.cells #[.int .i64 i.o, .int .i64 j.d, .int .i64 j.s, .int .i64 j.m] 49)).alloc (.cells #[.int .i64 (i.o * 1024 + j.d * 128 + j.s * 16)] 3))
            have KW := hideI (((unhideI HB).trans ((unhideI K2).mono (by omega))).trans ((bt (below_a _ (.cells #[.int .i64 i.o, .int .i64 j.d, .int .i64 j.s, .int .i64 j.m] 49)) (below_a _ (.cells #[.int .i64 (i.o * 1024 + j.d * 128 + j.s * 16)] 3))).mono (by omega)))
            go_wp2_with (at_builtin; refine wpList_append_own _ rfl (.tmp 25) (.tmp 37) 22 rfl (w.heap.size + 1) 3 i0 (.int .i64 0) 1 8 Try.underlying22 hi hz0 hz1 hz2 rfl (by decide) _ _ _ rfl (unhideI OW) ⟨_, 0, none⟩ 1 1 [.int .i64 (i.o * 1024 + j.d * 128 + j.s * 16)] rfl rfl (one_c1' _ _ _ _ (by simp)) (one_c2 _ _) (by have h1 := unhideI HL; have h2 := unhideI HA2; unfold maxLen; omega) (by have h1 := unhideI HL; have h2 := unhideI HA2; omega) (by have h1 := unhideI HL; have h2 := unhideI HA2; simp; omega) ?_; intro v3 w3 own3 grow3 hx3; clear hx3; have B3 := hideI ((unhideI D2).grown (unhideI HO) grow3 (Nat.le_refl _)); have C3 := hideI ((unhideI C2).grown (unhideI HO) grow3 (Nat.le_of_lt s2)); have K3 := hideI (below_own (unhideI KW) (by simp; omega) (unhideI OW) grow3); have s3 := (unhideI K3).size; simp at s3; have O3 := hideI own3; clear own3 grow3; obtain ⟨p0, p1, p2, p3⟩ := (unhideI B3).at4; obtain ⟨r0, r1, r2, r3⟩ := (unhideI C3).at4)
            refine (has_any _ _ _).mono ?_
            rintro e w4 ⟨rfl, k4⟩
            have B4 := hideI ((unhideI B3).step k4)
            have C4 := hideI ((unhideI C3).step k4)
            have O4 := hideI (own_step (unhideI O3) k4)
            have K4 := hideI ((unhideI K3).trans (k4.mono (by omega)))
            have s4 := k4.size
            clear WA BA k4 s1 s2
            clear p0 p1 p2 p3 r0 r1 r2 r3
            obtain ⟨p0, p1, p2, p3⟩ := (unhideI B4).at4
            obtain ⟨r0, r1, r2, r3⟩ := (unhideI C4).at4
            have s9 := own_slice (unhideI O4)
            obtain ⟨ao5, cap5, rfl⟩ := s9
            obtain ⟨z, hz⟩ : ∃ z, z = acc.length + 1 := ⟨_, rfl⟩
            rw [← hz]
            have hL6 : z ≤ 65536 := (by have h1 := unhideI HL; omega)
            have HZ := hideI hz
            clear hz
            obtain ⟨g0, g1, g2, g3, g4⟩ := fault0 (unhideI K4)
            go_wp2_with fail
            go_roundg (l.length - (k + 1))
            case measure => omega
            case rel => exact ⟨k + 1, acc ++ ws i, by omega, rfl, by go_num, (by have h1 := unhideI HL; rw [unhideI hws]; simp; omega), (by rw [unhideI HZ]; have t := own_two (xs := acc) (ys := ws i) (unhideI O4) (by rw [unhideI hws, unhideI hf]; simp [int1]); rw [unhideI hws] at t ⊢; simpa using t), unhideI K4, by rw [unhideI HE, unhideI hd, enc_next (unhideI HW) (by have h1 := unhideI HL; rw [unhideI hws]; simp; omega)]⟩
          · have HL := hideI hlen
            have HA2 := hideI ha
            clear hlen ha
            go_wp2_with fail
            refine (WA _).mono ?_
            rintro e w1 ⟨rfl, k1⟩
            have B1 := hideI ((unhideI BX).step k1)
            obtain ⟨p0, p1, p2, p3⟩ := (unhideI B1).at4
            have K1 := hideI (bt (below_a _ _) k1)
            have s1 := lt1 k1
            go_wp2_with fail
            clear p0 p1 p2 p3
            refine (BA _).mono ?_
            rintro e w2 ⟨rfl, k2⟩
            have B2 := hideI ((unhideI B1).step k2)
            have K2 := hideI (bt (unhideI K1) k2)
            have s2 : wr.heap.size < w2.heap.size := Nat.lt_of_lt_of_le s1 k2.size
            clear k1 k2
            have C2 := hideI ((Box.new w2 #[.int .i64 i.o, .int .i64 j.d, .int .i64 j.s, .int .i64 j.m] 49).step (below_a _ (.cells #[.int .i64 (i.o * 1024 + j.d * 128 + j.s * 16)] 3)))
            have D2 := hideI (((unhideI B2).step (below_a _ (.cells #[.int .i64 i.o, .int .i64 j.d, .int .i64 j.s, .int .i64 j.m] 49))).step (below_a _ (.cells #[.int .i64 (i.o * 1024 + j.d * 128 + j.s * 16)] 3)))
            have OW := hideI (((own_step (unhideI HO) (unhideI K2)).alloc (.cells #[.int .i64 i.o, .int .i64 j.d, .int .i64 j.s, .int .i64 j.m] 49)).alloc (.cells #[.int .i64 (i.o * 1024 + j.d * 128 + j.s * 16)] 3))
            have KW := hideI (((unhideI HB).trans ((unhideI K2).mono (by omega))).trans ((bt (below_a _ (.cells #[.int .i64 i.o, .int .i64 j.d, .int .i64 j.s, .int .i64 j.m] 49)) (below_a _ (.cells #[.int .i64 (i.o * 1024 + j.d * 128 + j.s * 16)] 3))).mono (by omega)))
            go_wp2_with (at_builtin; refine wpList_append_own _ rfl (.tmp 25) (.tmp 37) 22 rfl (w.heap.size + 1) 3 i0 (.int .i64 0) 1 8 Try.underlying22 hi hz0 hz1 hz2 rfl (by decide) _ _ _ rfl (unhideI OW) ⟨_, 0, none⟩ 1 1 [.int .i64 (i.o * 1024 + j.d * 128 + j.s * 16)] rfl rfl (one_c1' _ _ _ _ (by simp)) (one_c2 _ _) (by have h1 := unhideI HL; have h2 := unhideI HA2; unfold maxLen; omega) (by have h1 := unhideI HL; have h2 := unhideI HA2; omega) (by have h1 := unhideI HL; have h2 := unhideI HA2; simp; omega) ?_; intro v3 w3 own3 grow3 hx3; clear hx3; have B3 := hideI ((unhideI D2).grown (unhideI HO) grow3 (Nat.le_refl _)); have C3 := hideI ((unhideI C2).grown (unhideI HO) grow3 (Nat.le_of_lt s2)); have K3 := hideI (below_own (unhideI KW) (by simp; omega) (unhideI OW) grow3); have s3 := (unhideI K3).size; simp at s3; have O3 := hideI own3; clear own3 grow3; obtain ⟨p0, p1, p2, p3⟩ := (unhideI B3).at4; obtain ⟨r0, r1, r2, r3⟩ := (unhideI C3).at4)
            refine (has_any _ _ _).mono ?_
            rintro e w4 ⟨rfl, k4⟩
            have B4 := hideI ((unhideI B3).step k4)
            have C4 := hideI ((unhideI C3).step k4)
            have O4 := hideI (own_step (unhideI O3) k4)
            have K4 := hideI ((unhideI K3).trans (k4.mono (by omega)))
            have s4 := k4.size
            clear WA BA k4 s1 s2
            clear p0 p1 p2 p3 r0 r1 r2 r3
            obtain ⟨p0, p1, p2, p3⟩ := (unhideI B4).at4
            obtain ⟨r0, r1, r2, r3⟩ := (unhideI C4).at4
            have s9 := own_slice (unhideI O4)
            obtain ⟨ao5, cap5, rfl⟩ := s9
            obtain ⟨z, hz⟩ : ∃ z, z = acc.length + 1 := ⟨_, rfl⟩
            rw [← hz]
            have hL6 : 65536 < z := (by have h1 := unhideI HL; omega)
            have HZ := hideI hz
            clear hz
            obtain ⟨g0, g1, g2, g3, g4⟩ := fault0 (unhideI K4)
            go_wp2_with fail
            obtain rfl : R = ([], 4, k) := by rw [unhideI HE, unhideI hd, enc_much (unhideI HW) (by have h1 := unhideI HL; rw [unhideI hws]; simp; omega)]
            exact bodyPost_ret (v := .tuple #[.slice none 0 0, .agg #[.int .i64 4, .int .i64 k]]) (by simp [results, Try.results54, go_sem, g0, g1, g2, g3, g4]) rfl ⟨_, rfl, Lies.nil _ _, (fun _ h => by cases h), (by repeat (first | exact seen (unhideI K4) | refine Below.setCell ?_ (by first | exact Nat.le_refl _ | (simp; done) | omega | (simp; omega)) _ | refine Below.alloc ?_ (by first | (simp; done) | omega | (simp; omega)) _))⟩
      · have hw1 : (wrg i != 0) = true := by simp [hw]
        have HW := hideI hw
        clear hw BA
        generalize hq : wrg i = q at *
        have HQ := hideI hq
        clear hq
        go_wp2_with fail
        refine (WA _).mono ?_
        rintro e w1 ⟨rfl, k1⟩
        have K1 := hideI ((unhideI HB).trans ((bt (below_a _ _) k1).mono (by omega)))
        obtain ⟨g0, g1, g2, g3, g4⟩ := fault0 (unhideI K1)
        go_wp2_with fail
        obtain rfl : R = ([], q, k) := by rw [unhideI HE, unhideI hd, enc_bad (by rw [unhideI HQ]; exact unhideI HW), unhideI HQ]
        exact bodyPost_ret (v := .tuple #[.slice none 0 0, .agg #[.int .i64 q, .int .i64 k]]) (by simp [results, Try.results54, go_sem, g0, g1, g2, g3, g4]) rfl ⟨_, rfl, Lies.nil _ _, (fun _ h => by cases h), (by repeat (first | exact seen (unhideI K1) | refine Below.setCell ?_ (by first | exact Nat.le_refl _ | (simp; done) | omega | (simp; omega)) _ | refine Below.alloc ?_ (by first | (simp; done) | omega | (simp; omega)) _))⟩
    · have hkl : k = l.length := by omega
      go_wp2
      obtain rfl : R = (acc, 0, 0) := by rw [unhideI HE, hkl, List.drop_length]; rfl
      refine bodyPost_ret (v := .tuple #[u4, .agg #[.int .i64 0, .int .i64 0]]) (by simp [results, Try.results54, go_sem, f0, f1, f2, f3, f4]) rfl ⟨_, rfl, ?_, (fun c h => Nat.le_of_succ_le ((unhideI HO).lt c h).1), (by repeat (first | exact seen (unhideI HB) | refine Below.setCell ?_ (by first | exact Nat.le_refl _ | (simp; done) | omega | (simp; omega)) _ | refine Below.alloc ?_ (by first | (simp; done) | omega | (simp; omega)) _))⟩
      exact Lies.owned (ownsRow_setCell_below (ownsRow_setCell_below (unhideI HO) (by simp) _) (by simp) _)
end Go.Proofs.Ytjlbenbfmookoaa
