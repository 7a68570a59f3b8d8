/-
  What is wrong with a program: the program's own looker: expressions, all the way down.
-/
import Derived.Test.YtaidefdbjcgcbaaGreatTrKz
namespace Go.Proofs.YtaidefdbjcgcbaaGreat
open Go.RowKit
set_option linter.unusedSimpArgs false
set_option linter.unusedVariables false

/-- What the looker says of an expression, wherever it lies. -/
def LEx (x : Ex) : Prop := ∀ (B lb c d : Nat) (kv : Value) (w : World), Box w lb [.int .i64 (c : Int)] → B ≤ lb → c ≤ 20000 → d ≤ 101 → ExL B w kv x.kids → ExF x →
  Calls Tryz.prog 119 #[.pointer (some ⟨lb, 0, none⟩), .agg #[.int .i64 x.k, .int .u64 x.n, .int .i64 x.b, .bool x.s, .string x.nm, kv], .int .i64 (d : Int)] w fun e w' => e = .returned (.int .i64 (lkE x d c).1) ∧ Ctd w w' lb (lkE x d c).2
set_option maxHeartbeats 1000000 in
theorem lexprs_any (xs : List Ex) (IH : ∀ x ∈ xs, LEx x) (B lb c d : Nat) (v : Value) (w : World) (hb : Box w lb [.int .i64 (c : Int)]) (hB : B ≤ lb) (hc : c ≤ 20000) (hd : d ≤ 101) (hx : ExL B w v xs) :
    Calls Tryz.prog 82 #[.pointer (some ⟨lb, 0, none⟩), v, .int .i64 (d : Int)] w fun e w' => e = .returned (.int .i64 (lkEs xs d c).1) ∧ Ctd w w' lb (lkEs xs d c).2 := by
  obtain ⟨ao, cap, rfl, hmax, -⟩ := hx.at
  have HX := hideI hx
  have HB := hideI hb
  have hlb := hb.1
  clear hb hx
  generalize hR : lkEs xs d c = R
  unfold maxLen at hmax
  go_enter Tryz.func82, Tryz.ntmps82
  go_wp2_with fail
  go_loopg [12] xs.length (fun g t wr => ∃ (i ci : Nat), i ≤ xs.length ∧ g = xs.length - i ∧ t = .int .i64 (i : Int) ∧ ci ≤ 20000 ∧ Hid (Ctd w wr lb ci) ∧ Hid (lkEs (xs.drop i) d ci = R))
  case atStart => exact ⟨0, c, Nat.zero_le _, rfl, rfl, hc, ⟨unhideI HB, Kb.refl _ _⟩, hR⟩
  case round =>
    obtain ⟨i, ci, hi, hg, rfl, hci, HC, HE⟩ := hrel
    generalize wr = W0 at *
    have hsz := (unhideI HC).kb.size
    by_cases hlt : i < xs.length
    · have hn : xs ≠ [] := by intro h; rw [h] at hlt; simp at hlt
      have hxw : ExL B W0 (.slice ao xs.length cap) xs := (unhideI HX).step ((unhideI HC).kb.below (by omega) hB)
      obtain ⟨ao', cap', e1, -, hat⟩ := hxw.at
      injection e1 with e1 _ e2
      subst e1 e2
      obtain ⟨b1, o1, rfl, hb1, hbw, hc1⟩ := hat hn
      obtain ⟨kv, hk, hf, x0, x1, x2, x3, x4, x5⟩ := hc1 i hlt
      obtain ⟨ak, ck, rfl, -, -⟩ := hk.at
      have hiI : (i : Int) < (xs.length : Int) := by omega
      have hi0 : (0 : Int) ≤ (i : Int) := by omega
      have HD := hideI (show xs.drop i = xs[i] :: xs.drop (i + 1) from List.drop_eq_getElem_cons hlt)
      have HIH := hideI (IH xs[i] (List.getElem_mem hlt))
      have ka := below_a W0 (.cells #[.int .i64 xs[i].k, .int .u64 xs[i].n, .int .i64 xs[i].b, .bool xs[i].s, .string xs[i].nm, .slice ak xs[i].kids.length ck] 57)
      have CA := hideI (unhideI HIH B lb ci d _ _ ((unhideI HC).box.step ka) hB hci hd (hk.step (ka.mono (by omega))) hf)
      have KA := hideI (Kb.of (b := lb) ka)
      have LE := hideI (lkE_le xs[i] d ci hci)
      rw [unhideI HD, lkEs_cons] at HE
      clear hat hc1 hxw hk HIH ka HD hf
      generalize xs[i] = y at *
      generalize lkE y d ci = ry at *
      obtain ⟨er, cn⟩ := ry
      dsimp only at CA LE HE
      go_wp2_with fail
      refine (unhideI CA).mono ?_
      rintro e w1 ⟨rfl, k1⟩
      have K1 := hideI (show Ctd w w1 lb cn from ⟨k1.box, ((unhideI HC).kb.trans (unhideI KA)).trans k1.kb⟩)
      clear CA k1 KA HC
      by_cases he : er = 0
      · subst he
        go_wp2_with fail
        go_roundg (xs.length - (i + 1))
        case measure => omega
        case rel =>
          have h2 := unhideI HE
          rw [if_neg (by simp)] at h2
          exact ⟨i + 1, cn, by omega, rfl, by go_num, unhideI LE (by simp), K1, h2⟩
      · have ee : (er == 0) = false := beq_eq_false_iff_ne.2 he
        have h2 := unhideI HE
        rw [if_pos he] at h2
        subst h2
        go_wp2_with fail
        go_ret
        exact ⟨rfl, unhideI K1⟩
    · have hiI : ¬ (i : Int) < (xs.length : Int) := by omega
      have h2 := unhideI HE
      rw [List.drop_eq_nil_of_le (by omega), lkEs] at h2
      subst h2
      go_wp2_with fail
      go_ret
      exact ⟨rfl, unhideI HC⟩
set_option maxHeartbeats 1000000 in
theorem lexpr_any : ∀ x, LEx x := by
  apply Ex.ind
  intro x IH B lb c d kv w hb hB hc hd hk hf
  have ka := below_a w (.cells #[.int .i64 x.k, .int .u64 x.n, .int .i64 x.b, .bool x.s, .string x.nm, kv] 57)
  have BX := Box.new w #[.int .i64 x.k, .int .u64 x.n, .int .i64 x.b, .bool x.s, .string x.nm, kv] 57
  have hlb := hb.1
  have NA := hideI (lnode_any lb c d _ (hb.step ka) hc hd)
  have WA := hideI (fun W => swexpr_any x kv W hf)
  have KI := hideI (fun W => lkids_any x.k W)
  have HK := hideI (hk.step (ka.mono (by omega)))
  have KA := hideI (Kb.of (b := lb) ka)
  have HBX := hideI BX
  obtain ⟨ao, cap, rfl, hmax, -⟩ := hk.at
  have EX := hideI (fun W c' hb' hc' hd' hx' => lexprs_any x.kids IH B lb c' (d + 1) (.slice ao x.kids.length cap) W hb' hB hc' hd' hx')
  clear hb ka BX hk hf IH
  unfold maxLen at hmax
  obtain ⟨k, n, b, s, nm, l⟩ := x
  simp only [Ex.k, Ex.n, Ex.b, Ex.s, Ex.nm, Ex.kids] at *
  have EQ : Hid (lkE (.mk k n b s nm l) d c = if nodeW d c ≠ 0 then (nodeW d c, c + 1) else if k < 1 ∨ 26 < k then (1, c + 1) else if wExF k n b s nm ≠ 0 then (wExF k n b s nm, c + 1) else if l.length < kidLo k ∨ kidHi k < l.length then (5, c + 1) else lkEs l (d + 1) (c + 1)) := by show _ = _; rw [lkE]
  generalize lkE (.mk k n b s nm l) d c = R at *
  have HN := hideI (fun h => nodeW_ok (d := d) (c := c) h)
  generalize nodeW d c = nw at *
  generalize wExF k n b s nm = we at *
  generalize kidLo k = lo at *
  generalize kidHi k = hi at *
  go_enter Tryz.func119, Tryz.ntmps119
  go_wp2_with fail
  refine (unhideI NA).mono ?_
  rintro e w1 ⟨rfl, k1⟩
  have C1 := hideI (show Ctd w w1 lb (c + 1) from ⟨k1.box, (unhideI KA).trans k1.kb⟩)
  have HK1 := hideI ((unhideI HK).step (k1.kb.below (by simp; omega) hB))
  have BX1 := (unhideI HBX).kb k1.kb (by omega)
  obtain ⟨q0, q1, q2, q3, q4, q5⟩ := six_at BX1
  have HBX1 := hideI BX1
  have hw1 : w.heap.size < w1.heap.size := BX1.1
  clear NA k1 HK HBX KA BX1
  by_cases h1 : nw = 0
  · subst h1
    obtain ⟨hc1, hd1⟩ := unhideI HN rfl
    clear HN
    have E1 := unhideI EQ
    rw [if_neg (by simp)] at E1
    clear EQ
    by_cases h2 : k < 1
    · rw [if_pos (.inl h2)] at E1
      subst E1
      go_wp2_with fail
      go_ret
      exact ⟨rfl, unhideI C1⟩
    · by_cases h3 : 26 < k
      · rw [if_pos (.inr h3)] at E1
        subst E1
        go_wp2_with fail
        go_ret
        exact ⟨rfl, unhideI C1⟩
      · rw [if_neg (by omega)] at E1
        have E2 := hideI E1
        clear E1
        go_wp2_with fail
        refine (unhideI WA _).mono ?_
        rintro e w2 ⟨rfl, k2⟩
        have C2 := hideI (show Ctd w w2 lb (c + 1) from (unhideI C1).trans (Ctd.of (unhideI C1).box k2))
        have HK2 := hideI ((unhideI HK1).step (k2.mono (by omega)))
        have BX2 := (unhideI HBX1).step k2
        obtain ⟨r0, r1, r2, r3, r4, r5⟩ := six_at BX2
        have hw2 : w.heap.size < w2.heap.size := BX2.1
        have hlb2 := (unhideI C2).box.1
        clear WA k2 C1 HK1 HBX1 BX2 q0 q1 q2 q3 q4 q5
        by_cases h4 : we = 0
        · subst h4
          have E3 := unhideI E2
          rw [if_neg (by simp)] at E3
          clear E2
          have E4 := hideI E3
          clear E3
          go_wp2_with fail
          refine (unhideI KI _).mono ?_
          rintro e w3 ⟨rfl, hw3⟩
          subst w3
          by_cases h5 : l.length < lo
          · have h5I : (l.length : Int) < (lo : Int) := by omega
            have E5 := unhideI E4
            rw [if_pos (.inl h5)] at E5
            subst E5
            go_wp2_with fail
            go_ret
            exact ⟨rfl, unhideI C2⟩
          · have h5I : ¬ (l.length : Int) < (lo : Int) := by omega
            by_cases h6 : hi < l.length
            · have h6I : (hi : Int) < (l.length : Int) := by omega
              have E5 := unhideI E4
              rw [if_pos (.inr h6)] at E5
              subst E5
              go_wp2_with fail
              go_ret
              exact ⟨rfl, unhideI C2⟩
            · have h6I : ¬ (hi : Int) < (l.length : Int) := by omega
              have E5 := unhideI E4
              rw [if_neg (by omega)] at E5
              have CE := hideI (unhideI EX _ (c + 1) (unhideI C2).box hc1 (by omega) (unhideI HK2))
              rw [← E5] at CE
              clear E5 E4 EX
              go_wp2_with fail
              refine (unhideI CE).mono ?_
              rintro e w4 ⟨rfl, k4⟩
              go_wp2_with fail
              go_ret
              exact ⟨rfl, (unhideI C2).trans k4⟩
        · have e4 : (we == 0) = false := beq_eq_false_iff_ne.2 h4
          have E3 := unhideI E2
          rw [if_pos h4] at E3
          subst E3
          go_wp2_with fail
          go_ret
          exact ⟨rfl, unhideI C2⟩
  · have e1 : (nw == 0) = false := beq_eq_false_iff_ne.2 h1
    have E1 := unhideI EQ
    rw [if_pos h1] at E1
    subst E1
    go_wp2_with fail
    go_ret
    exact ⟨rfl, unhideI C1⟩
end Go.Proofs.YtaidefdbjcgcbaaGreat

/-
  Constant expressions: what is right with their types.
-/
namespace Go.Proofs.YtaidefdbjcgcbaaGreat
open Go.RowKit
set_option linter.unusedSimpArgs false
set_option linter.unusedVariables false

theorem lit_isW {n : Int} {u : Bool} (h : (lit n u).2.2 = 0) : IsW (lit n u).1 := by
  unfold lit at *
  repeat' split
  · exact .inr (.inl rfl)
  · exact .inr (.inr (.inl rfl))
  · exact .inr (.inr (.inr rfl))
  · rename_i h1 h2 h3
    rw [if_neg h1, if_neg h2, if_neg h3] at h
    cases h
theorem isWB_of {b : Int} (h : isWB b = true) : IsW b := by
  unfold isWB at h
  unfold IsW
  exact of_decide_eq_true h
/-- Its kind, its kids' number and its types are right, in all of it. -/
inductive TvE : Ex → Prop
  | mk (x : Ex) (lo : 1 ≤ x.k) (hi : x.k ≤ 26) (kl : kidLo x.k ≤ x.kids.length) (kh : x.kids.length ≤ kidHi x.k) (num : x.k = 1 → IsW x.b) (cast : x.k = 5 → IsW x.b) (kids : ∀ y ∈ x.kids, TvE y) : TvE x
theorem tvE_of : ∀ (x : Ex) (d c : Nat), (lkE x d c).1 = 0 → TvE x := by
  apply Ex.ind
  intro x IH d c h
  obtain ⟨k, n, b, s, nm, kids⟩ := x
  rw [lkE] at h
  split at h
  · rename_i h1; exact absurd h h1
  · split at h
    · cases h
    · rename_i h2
      split at h
      · rename_i h3; exact absurd h h3
      · rename_i h3
        have h3 : wExF k n b s nm = 0 := by simpa using h3
        split at h
        · cases h
        · rename_i h4
          have all : ∀ (l : List Ex), (∀ y ∈ l, ∀ d c, (lkE y d c).1 = 0 → TvE y) → ∀ d c, (lkEs l d c).1 = 0 → ∀ y ∈ l, TvE y := by
            intro l
            induction l with
            | nil => intro _ _ _ _ y hy; simp at hy
            | cons a l ih =>
              intro I d c h y hy
              rw [lkEs] at h
              by_cases e : (lkE a d c).1 = 0
              · rw [if_neg (by simpa using e)] at h
                rcases List.mem_cons.1 hy with rfl | hy
                · exact I _ List.mem_cons_self d c e
                · exact ih (fun z hz => I z (List.mem_cons_of_mem _ hz)) d _ h y hy
              · rw [if_pos e] at h; exact absurd h e
          refine .mk _ (by show 1 ≤ k; omega) (by show k ≤ 26; omega) (by show kidLo k ≤ kids.length; omega) (by show kids.length ≤ kidHi k; omega) (fun e => ?_) (fun e => ?_) (all kids IH _ _ h)
          · have e : k = 1 := e
            unfold wExF at h3
            rw [if_pos e] at h3
            split at h3
            · rename_i h5
              show IsW b
              rw [← h5.2.1]
              exact lit_isW h5.1
            · cases h3
          · have e : k = 5 := e
            unfold wExF at h3
            rw [if_neg (by omega), if_neg (by omega), if_pos e] at h3
            split at h3
            · rename_i h5; exact isWB_of h5
            · cases h3
end Go.Proofs.YtaidefdbjcgcbaaGreat
