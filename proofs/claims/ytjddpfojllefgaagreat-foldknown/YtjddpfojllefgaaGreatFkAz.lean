/-
  What is known is worked out: which expressions come out of it.
-/
import Derived.Test.YtjddpfojllefgaaGreatCcPz
import Derived.Test.YtjddpfojllefgaaGreatTyLz
import Derived.Test.YtjddpfojllefgaaGreatLwCz
namespace Go.Proofs.YtjddpfojllefgaaGreat
open Go.RowKit
set_option linter.unusedSimpArgs false
set_option linter.unusedVariables false

/-- Nothing is wrong with it by itself, in all of it. -/
inductive OkX : Ex → Prop
  | mk (x : Ex) (lo : 1 ≤ x.k) (hi : x.k ≤ 26) (fld : wExF x.k x.n x.b x.s x.nm = 0) (kl : kidLo x.k ≤ x.kids.length) (kh : x.kids.length ≤ kidHi x.k) (kids : ∀ y ∈ x.kids, OkX y) : OkX x
theorem okX_of : ∀ (x : Ex) (d c : Nat), (lkE x d c).1 = 0 → OkX x := by
  apply Ex.ind
  intro x IH d c h
  obtain ⟨k, n, b, s, nm, kids⟩ := x
  rw [lkE] at h
  split at h
  · rename_i h1; exact absurd h h1
  · split at h
    · cases h
    · rename_i h2
      split at h
      · rename_i h3; exact absurd h h3
      · rename_i h3
        have h3 : wExF k n b s nm = 0 := by simpa using h3
        split at h
        · cases h
        · rename_i h4
          have all : ∀ (l : List Ex), (∀ y ∈ l, ∀ d c, (lkE y d c).1 = 0 → OkX y) → ∀ d c, (lkEs l d c).1 = 0 → ∀ y ∈ l, OkX y := by
            intro l
            induction l with
            | nil => intro _ _ _ _ y hy; simp at hy
            | cons a l ih =>
              intro I d c h y hy
              rw [lkEs] at h
              by_cases e : (lkE a d c).1 = 0
              · rw [if_neg (by simpa using e)] at h
                rcases List.mem_cons.1 hy with rfl | hy
                · exact I _ List.mem_cons_self d c e
                · exact ih (fun z hz => I z (List.mem_cons_of_mem _ hz)) d _ h y hy
              · rw [if_pos e] at h; exact absurd h e
          exact .mk _ (by show 1 ≤ k; omega) (by show k ≤ 26; omega) h3 (by show kidLo k ≤ kids.length; omega) (by show kids.length ≤ kidHi k; omega) (all kids IH _ _ h)
theorem isWB_to {b : Int} (h : IsW b) : isWB b = true := by
  unfold isWB
  exact decide_eq_true h
theorem fld_num {V b : Int} {s : Bool} {nm : ByteArray} (h : wExF 1 V b s nm = 0) : (lit V (!s)).2.2 = 0 ∧ (lit V (!s)).1 = b ∧ (lit V (!s)).2.1 = s := by
  unfold wExF at h
  rw [if_pos rfl] at h
  split at h
  · rename_i h1; exact h1
  · cases h
theorem gr_lt {b V : Int} (s : Bool) (hb : b = 16 ∨ b = 32 ∨ b = 64) (h0 : 0 ≤ V) (h : V ≤ gr b s) : cut b V = V := by
  refine cut_of h0 ?_
  rcases hb with rfl | rfl | rfl <;> cases s <;> simp [gr, md] at * <;> omega
theorem lit_fit {V : Int} {u : Bool} (hU : U V) (h : (lit V u).2.2 = 0) : cut (lit V u).1 V = V ∧ IsW (lit V u).1 ∧ (lit V u).2.1 = !u := by
  unfold lit at *
  by_cases h1 : V ≤ gr 16 (!u)
  · rw [if_pos h1]
    exact ⟨gr_lt _ (.inl rfl) hU.1 h1, .inr (.inl rfl), rfl⟩
  · rw [if_neg h1] at *
    by_cases h2 : V ≤ gr 32 (!u)
    · rw [if_pos h2]
      exact ⟨gr_lt _ (.inr (.inl rfl)) hU.1 h2, .inr (.inr (.inl rfl)), rfl⟩
    · rw [if_neg h2] at *
      by_cases h3 : V ≤ gr 64 (!u)
      · rw [if_pos h3]
        exact ⟨gr_lt _ (.inr (.inr rfl)) hU.1 h3, .inr (.inr (.inr rfl)), rfl⟩
      · rw [if_neg h3] at h
        cases h
theorem lit_u {V : Int} (hU : U V) : (lit V true).2.2 = 0 := by
  unfold lit
  repeat' split
  · rfl
  · rfl
  · rfl
  · rename_i h
    exact absurd hU.2 (by simpa [gr] using h)
/-- A known one: a number, or one that is cast. -/
inductive KnE : Ex → Int → Int → Bool → Prop
  | num (V b : Int) (s : Bool) (nm : ByteArray) (h : wExF 1 V b s nm = 0) (hU : U V) (hn : nm.size ≤ maxLen) : KnE (.mk 1 V b s nm []) V b s
  | cast (V b : Int) (s : Bool) (hU : U V) (hb : IsW b) (hf : cut b V = V) : KnE (.mk 5 0 b s ⟨#[]⟩ [.mk 1 V (lit V true).1 (lit V true).2.1 ⟨#[]⟩ []]) V b s
theorem lk_num (V b : Int) (s : Bool) (nm : ByteArray) (d c : Nat) (h : wExF 1 V b s nm = 0) (hd : d ≤ 100) (hc : c + 1 ≤ 20000) : lkE (.mk 1 V b s nm []) d c = (0, c + 1) := by
  have hn : nodeW d c = 0 := if_neg (by omega)
  rw [lkE, if_neg (by rw [hn]; simp), if_neg (by omega), if_neg (by rw [h]; simp), if_neg (by decide), lkEs]
theorem lk_cast (V b lb : Int) (s ls : Bool) (n : Int) (nm nm' : ByteArray) (d c : Nat) (hb : IsW b) (h : wExF 1 V lb ls nm' = 0) (hd : d ≤ 99) (hc : c + 2 ≤ 20000) : lkE (.mk 5 n b s nm [.mk 1 V lb ls nm' []]) d c = (0, c + 2) := by
  have hn : nodeW d c = 0 := if_neg (by omega)
  have hw : wExF 5 n b s nm = 0 := by
    unfold wExF
    rw [if_neg (by decide), if_neg (by decide), if_pos rfl, if_pos (isWB_to hb)]
  rw [lkE, if_neg (by rw [hn]; simp), if_neg (by omega), if_neg (by rw [hw]; simp), if_neg (by simp [kidLo, kidHi]), lkEs, lk_num V lb ls nm' (d + 1) (c + 1) h (by omega) (by omega), if_neg (by simp), lkEs]
theorem fld_lit {V : Int} (nm : ByteArray) (hU : U V) : wExF 1 V (lit V true).1 (lit V true).2.1 nm = 0 := by
  have h0 := lit_u hU
  have h1 := (lit_fit hU h0).2.2
  unfold wExF
  rw [if_pos rfl, h1]
  exact if_pos ⟨h0, rfl, h1⟩
theorem KnE.lk {y : Ex} {V b : Int} {s : Bool} (h : KnE y V b s) (d c : Nat) (hd : d ≤ 99) (hc : c + 2 ≤ 20000) : ∃ m, m ≤ 2 ∧ lkE y d c = (0, c + m) := by
  cases h with
  | num V b s nm h hU hn => exact ⟨1, by omega, lk_num V b s nm d c h (by omega) (by omega)⟩
  | cast V b s hU hb hf => exact ⟨2, by omega, lk_cast V b _ s _ 0 _ _ d c hb (fld_lit _ hU) hd hc⟩
theorem KnE.exF {y : Ex} {V b : Int} {s : Bool} (h : KnE y V b s) : ExF y := by
  cases h with
  | num V b s nm h hU hn => exact ⟨hU, hn⟩
  | cast V b s hU hb hf => exact ⟨⟨Int.le_refl 0, (by decide : (0 : Int) ≤ 18446744073709551615)⟩, Nat.zero_le _⟩
theorem KnE.wk {y : Ex} {V b : Int} {s : Bool} (h : KnE y V b s) : WkC y V b s 0 := by
  cases h with
  | num V b s nm h hU hn => exact wk_num (.mk 1 V b s nm []) rfl
  | cast V b s hU hb hf =>
    have h0 := lit_u hU
    obtain ⟨h1, h2, h3⟩ := lit_fit hU h0
    have hc : conv V (lit V true).1 (lit V true).2.1 b = V := by
      unfold conv
      rw [h3]
      show cut b (cut (lit V true).1 V) = V
      rw [h1, hf]
    refine wk_one _ (.mk 1 V (lit V true).1 (lit V true).2.1 ⟨#[]⟩ []) V (lit V true).1 V b (lit V true).2.1 s (by show (5 : Int) ≤ 5; decide) rfl (wk_num _ rfl) (fun ka kl kc w => ?_)
    exact wone_cast 0 b V (lit V true).1 V s (lit V true).2.1 ⟨#[]⟩ ka kl kc (fun w => by
      have := convert_any V (lit V true).1 (lit V true).2.1 b s w h2 hb hU
      rw [hc] at this
      exact this) w
/-- The same with other kids. -/
def Ex.with (x : Ex) (l : List Ex) : Ex := .mk x.k x.n x.b x.s x.nm l
theorem lk_with1 (x y : Ex) {V b : Int} {s : Bool} (lo : 5 ≤ x.k) (hi : x.k ≤ 8) (fld : wExF x.k x.n x.b x.s x.nm = 0) (h : KnE y V b s) : (lkE (x.with [y]) 1 0).1 = 0 := by
  obtain ⟨m, hm, e⟩ := h.lk 2 1 (by omega) (by omega)
  have h1 : kidLo x.k = 1 := by unfold kidLo; rw [if_neg (by omega), if_pos (by omega)]
  have h2 : kidHi x.k = 1 := by unfold kidHi; rw [if_neg (by omega), if_neg (by omega), if_pos (by omega)]
  unfold Ex.with
  rw [lkE, if_neg (by decide), if_neg (by omega), if_neg (by rw [fld]; simp), if_neg (by rw [h1, h2]; simp), lkEs, e, if_neg (by simp), lkEs]
theorem lk_with2 (x y z : Ex) {V b V' b' : Int} {s s' : Bool} (lo : 9 ≤ x.k) (hi : x.k ≤ 26) (fld : wExF x.k x.n x.b x.s x.nm = 0) (h : KnE y V b s) (h' : KnE z V' b' s') : (lkE (x.with [y, z]) 1 0).1 = 0 := by
  obtain ⟨m, hm, e⟩ := h.lk 2 1 (by omega) (by omega)
  obtain ⟨m', hm', e'⟩ := h'.lk 2 (1 + m) (by omega) (by omega)
  have h1 : kidLo x.k = 2 := by unfold kidLo; rw [if_neg (by omega), if_neg (by omega)]
  have h2 : kidHi x.k = 2 := by unfold kidHi; rw [if_neg (by omega), if_neg (by omega), if_neg (by omega)]
  unfold Ex.with
  rw [lkE, if_neg (by decide), if_neg (by omega), if_neg (by rw [fld]; simp), if_neg (by rw [h1, h2]; simp), lkEs, e, if_neg (by simp)]
  dsimp only
  rw [lkEs, e', if_neg (by simp), lkEs]
/-- What a number of a type is written as. -/
def wrE (V b : Int) (s : Bool) : Ex := if (lit V (!s)).2.2 = 0 ∧ (lit V (!s)).1 = b ∧ (lit V (!s)).2.1 = s then .mk 1 V b s ⟨#[]⟩ [] else .mk 5 0 b s ⟨#[]⟩ [.mk 1 V (lit V true).1 (lit V true).2.1 ⟨#[]⟩ []]
theorem wrE_kn {V b : Int} {s : Bool} (hb : IsW b) (hf : cut b V = V) : KnE (wrE V b s) V b s := by
  have hU := u_ft hb hf
  unfold wrE
  split
  · rename_i h
    exact .num V b s _ (by unfold wExF; rw [if_pos rfl, if_pos h]) hU (Nat.zero_le _)
  · exact .cast V b s hU hb hf
end Go.Proofs.YtjddpfojllefgaaGreat

/-
  What is known is worked out: known, ready, written.
-/
namespace Go.Proofs.YtjddpfojllefgaaGreat
open Go.RowKit
set_option linter.unusedSimpArgs false
set_option linter.unusedVariables false

set_option maxRecDepth 100000 in
set_option maxHeartbeats 1000000 in
theorem known_any {y : Ex} {V b : Int} {s : Bool} (hK : KnE y V b s) (B : Nat) (kv : Value) (w : World) (hx : ExL B w kv y.kids) (hB : B ≤ w.heap.size) : Calls Tryz.prog 44 #[.agg #[.int .i64 y.k, .int .u64 y.n, .int .i64 y.b, .bool y.s, .string y.nm, kv]] w fun e w' => e = .returned (.bool true) ∧ Below w.heap.size w w' := by
  cases hK with
  | num V b s nm h hU hn =>
    obtain ⟨ao, cap, rfl, -, -⟩ := hx.at
    simp only [Ex.k, Ex.n, Ex.b, Ex.s, Ex.nm, Ex.kids, List.length_nil]
    clear hx
    go_enter Tryz.func44, Tryz.ntmps44
    go_wp2_with fail
    go_ret
    exact ⟨rfl, below_a _ _⟩
  | cast V b s hU hb hf =>
    have ka := fun cs => below_a w (.cells cs 27)
    have hx1 := fun cs => hx.step ((ka cs).mono hB)
    obtain ⟨ao, cap, rfl, -, hat⟩ := hx.at
    simp only [Ex.k, Ex.n, Ex.b, Ex.s, Ex.nm, Ex.kids, List.length_cons, List.length_nil, Nat.zero_add] at *
    obtain ⟨bk, off, rfl, hbk, hbw, hc1⟩ := hat (by simp)
    obtain ⟨kv', -, -, c0, -⟩ := hc1 0 (by simp)
    simp only [Nat.zero_mul, Nat.add_zero, List.getElem_cons_zero, Ex.k] at c0
    clear hx hat hc1 hx1 ka
    go_enter Tryz.func44, Tryz.ntmps44
    go_wp2_with fail
    go_ret
    exact ⟨rfl, below_a _ _⟩
set_option maxRecDepth 100000 in
set_option maxHeartbeats 1000000 in
theorem ready_no (x : Ex) (hk : x.kids = []) (B : Nat) (kv : Value) (w : World) (hx : ExL B w kv x.kids) : Calls Tryz.prog 27 #[.agg #[.int .i64 x.k, .int .u64 x.n, .int .i64 x.b, .bool x.s, .string x.nm, kv]] w fun e w' => e = .returned (.bool false) ∧ Below w.heap.size w w' := by
  obtain ⟨ao, cap, rfl, -, -⟩ := hx.at
  have hl : x.kids.length = 0 := by rw [hk]; rfl
  rw [hl]
  clear hx hk hl
  go_enter Tryz.func27, Tryz.ntmps27
  go_wp2_with fail
  go_ret
  exact ⟨rfl, below_a _ _⟩
set_option maxRecDepth 100000 in
set_option maxHeartbeats 1000000 in
theorem ready_yes (x : Ex) (hne : x.kids ≠ []) (h3 : (x.k == 3) = false) (h4 : (x.k == 4) = false) (hall : ∀ y ∈ x.kids, ∃ V b s, KnE y V b s) (B : Nat) (kv : Value) (w : World) (hx : ExL B w kv x.kids) (hB : B ≤ w.heap.size) : Calls Tryz.prog 27 #[.agg #[.int .i64 x.k, .int .u64 x.n, .int .i64 x.b, .bool x.s, .string x.nm, kv]] w fun e w' => e = .returned (.bool true) ∧ Below w.heap.size w w' := by
  obtain ⟨ao, cap, rfl, hmax, -⟩ := hx.at
  have hl : ((x.kids.length : Int) == 0) = false := beq_eq_false_iff_ne.2 (by have := len_ne hne; omega)
  have hl2 : (x.kids.length == 0) = false := beq_eq_false_iff_ne.2 (len_ne hne)
  have ka := below_a w (.cells #[.int .i64 x.k, .int .u64 x.n, .int .i64 x.b, .bool x.s, .string x.nm, .slice ao x.kids.length cap] 27)
  have BX := Box.new w #[.int .i64 x.k, .int .u64 x.n, .int .i64 x.b, .bool x.s, .string x.nm, .slice ao x.kids.length cap] 27
  have HX := hideI hx
  have HA := hideI hall
  have K0 := hideI ka
  obtain ⟨q0, q1, q2, q3, q4, q5⟩ := BX.six8
  have hs0 := BX.1
  clear hx hall ka hne BX
  unfold maxLen at hmax
  generalize hxs : x.kids = xs at *
  generalize hW0 : w.alloc (.cells #[.int .i64 x.k, .int .u64 x.n, .int .i64 x.b, .bool x.s, .string x.nm, .slice ao xs.length cap] 27) = W0 at *
  go_enter Tryz.func27, Tryz.ntmps27
  go_wp2_with fail
  clear q0 q1 q2 q3 q4 q5 hs0 hl hl2
  go_loopg [22] xs.length (fun g t wr => ∃ (i : Nat), i ≤ xs.length ∧ g = xs.length - i ∧ t = .int .i64 (i : Int) ∧ Hid (Below w.heap.size w wr))
  case atStart => exact ⟨0, Nat.zero_le _, rfl, rfl, K0⟩
  case round =>
    clear K0 hW0
    obtain ⟨i, hi, hg, rfl, HC⟩ := hrel
    generalize wr = W1 at *
    by_cases hlt : i < xs.length
    · have hn : xs ≠ [] := by intro h; rw [h] at hlt; simp at hlt
      have hsz := (unhideI HC).size
      have hxw : ExL B W1 (.slice ao xs.length cap) xs := (unhideI HX).step ((unhideI HC).mono hB)
      obtain ⟨ao', cap', e1, -, hat⟩ := hxw.at
      injection e1 with e1 _ e2
      subst e1 e2
      obtain ⟨b1, o1, rfl, hb1, hbw, hc1⟩ := hat hn
      obtain ⟨kv, hk, hf, x0, x1, x2, x3, x4, x5⟩ := hc1 i hlt
      obtain ⟨ak, ck, rfl, -, -⟩ := hk.at
      have hiI : (i : Int) < (xs.length : Int) := by omega
      have hi0 : (0 : Int) ≤ (i : Int) := by omega
      obtain ⟨V, b, s, hK⟩ := unhideI HA xs[i] (List.getElem_mem hlt)
      have ka := below_a W1 (.cells #[.int .i64 xs[i].k, .int .u64 xs[i].n, .int .i64 xs[i].b, .bool xs[i].s, .string xs[i].nm, .slice ak xs[i].kids.length ck] 27)
      have CA := hideI (known_any hK B _ _ (hk.step (ka.mono (by omega))) (by have := ka.size; omega))
      have K1 := hideI ((unhideI HC).trans (ka.mono hsz))
      clear hat hc1 hxw hk ka hf hK HC
      generalize xs[i] = y at *
      go_wp2_with fail
      refine (unhideI CA).mono ?_
      rintro e w1 ⟨rfl, k1⟩
      have K2 := hideI ((unhideI K1).trans (k1.mono (unhideI K1).size))
      clear CA k1 K1
      go_wp2_with fail
      go_roundg (xs.length - (i + 1))
      case measure => omega
      case rel => exact ⟨i + 1, by omega, rfl, by go_num, K2⟩
    · have hiI : ¬ (i : Int) < (xs.length : Int) := by omega
      go_wp2_with fail
      go_ret
      exact ⟨rfl, unhideI HC⟩
end Go.Proofs.YtjddpfojllefgaaGreat
