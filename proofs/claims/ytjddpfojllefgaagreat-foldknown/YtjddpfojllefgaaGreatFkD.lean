/-
  What is known is worked out: a list of expressions, one by one.
-/
import Derived.Test.YtjddpfojllefgaaGreatFkAz
import Derived.Laws.AppendOwnNone
namespace Go.Proofs.YtjddpfojllefgaaGreat
open Go.RowKit
set_option linter.unusedSimpArgs false
set_option linter.unusedVariables false

def FxR (w : World) (Q : Ex → Prop) (e : Ending) (w' : World) : Prop := ∃ (y : Ex) (ao : Option Addr) (n c : Nat), e = .returned (.agg #[.int .i64 y.k, .int .u64 y.n, .int .i64 y.b, .bool y.s, .string y.nm, .slice ao n c]) ∧ Below w.heap.size w w' ∧ ExP (w.heap.size ≤ ·) w' (.slice ao n c) y.kids ∧ ExF y ∧ Q y
/-- What becomes of a list of them. -/
def EacR (w : World) (xs : List Ex) (Q : Ex → Ex → Prop) (e : Ending) (w' : World) : Prop := ∃ (v' : Value) (ys : List Ex), e = .returned v' ∧ Below w.heap.size w w' ∧ ExP (w.heap.size ≤ ·) w' v' ys ∧ ys.length = xs.length ∧ (∀ y ∈ ys, ExF y) ∧ ∀ i (h : i < xs.length) (h' : i < ys.length), Q xs[i] ys[i]
/-- What becomes of an expression, wherever it lies: one of which Q holds, its kids in new memory. -/
def FxC (x : Ex) (Q : Ex → Prop) : Prop := ∀ (B : Nat) (kv : Value) (w : World), ExL B w kv x.kids → B ≤ w.heap.size → ExF x →
  Calls Tryz.prog 15 #[.agg #[.int .i64 x.k, .int .u64 x.n, .int .i64 x.b, .bool x.s, .string x.nm, kv]] w fun e w' => FxR w Q e w'
theorem append_lies9 {P : Program} {w : World} {ops : Array Oper} {rest : List Oper} {o : Oper} {a : Act} {Q : Exit → Act → World → Prop} (hgd : o.guard = none) (s x : Operand) (t : TypeId)
    (ho : o.op = .call { callee := .builtin .append, args := #[s, x], argTypes := #[t, t] })
    (base : Nat) (e : TypeId) (i : TypeInfo) (z : Value) (size bytes : Nat) (ht : P.underlying t = some (.slice e)) (hi : P.info? e = some i) (hz : i.zero = some z)
    (hsize : i.size = size) (hby : i.bytes = bytes) (hzs : z.cells.size = size) (hsz : 0 < size)
    (v : Value) (n : Nat) (xs : List Value) (hs : a.eval s = v) (hown : w.ownsRow base e size v n xs)
    (vx : Value) (m : Nat) (news : List Value) (hx : a.eval x = vx) (hl : Lies w size vx m news) (h1 : ∀ u ∈ news, u.oneCell' = true)
    (h63 : n + m ≤ maxLen) (hbytes : (n + m) * bytes ≤ 140737488355328) (hbase : base ≤ w.heap.size)
    (h : ∀ v' w', w'.ownsRow base e size v' (n + m) (xs ++ news) → w.grownBy w' v.ownBlock → (v'.ownBlock = v.ownBlock ∨ v'.ownBlock = some w.heap.size) → wpList P ops Q rest (a.put o.dst v') w') : wpList P ops Q (o :: rest) a w := by
  rcases hl.src with ⟨rfl, rfl, rfl⟩ | ⟨ad, cap, rfl, hlen, hc⟩
  · exact wpList_append_own_none hgd s x t ho base e i size ht hi v n xs hs hown hx (h v w (by simpa using hown) (World.grownBy.refl _ _) (.inl rfl))
  · exact wpList_append_own_at w hgd s x t ho base e i z size bytes ht hi hz hsize hby hzs hsz v n xs hs hown ad m cap news hx hlen hc h1 h63 hbytes hbase fun v' w' k1 k2 _ k4 => h v' w' k1 k2 k4
theorem exC_one (y : Ex) (kv : Value) (hk : ∃ a n c, kv = .slice a n c) : ∀ u ∈ exC y kv, u.oneCell' = true := by
  obtain ⟨a, n, c, rfl⟩ := hk
  intro u hu
  simp [exC] at hu
  rcases hu with rfl | rfl | rfl | rfl | rfl | rfl <;> rfl
theorem lies_box6 {w : World} {b : Nat} {z : Ex} {kv : Value} (h : Box w b (exC z kv)) : Lies w 6 (.slice (some ⟨b, 0, none⟩) 1 1) 1 (exC z kv) :=
  ⟨rfl, some ⟨b, 0, none⟩, 1, rfl, Nat.le_refl _, by unfold maxLen; omega, (fun h => by cases h), fun _ => ⟨b, 0, rfl, h.1, fun j hj => by
    have h6 : (exC z kv).length = 6 := rfl
    rw [Nat.zero_add, List.getElem?_eq_getElem (by omega)]
    exact h.2.1 j _ (List.getElem?_eq_getElem (by omega))⟩⟩
theorem Tryz.infoExpr : (Tryz.prog.info? 27).map (fun i => (i.zero, i.size, i.bytes)) = some (some (.agg #[.int .i64 0, .int .u64 0, .int .i64 0, .bool false, .string ⟨#[]⟩, .slice none 0 0]), 6, 72) := by kernel_rfl
theorem info_parts9 {i? : Option TypeInfo} {z : Value} {s b : Nat} (h : i?.map (fun i => (i.zero, i.size, i.bytes)) = some (some z, s, b)) : ∃ i, i? = some i ∧ i.zero = some z ∧ i.size = s ∧ i.bytes = b := by
  cases i? with
  | none => cases h
  | some i =>
    simp only [Option.map_some, Option.some.injEq, Prod.mk.injEq] at h
    exact ⟨i, rfl, h.1, h.2.1, h.2.2⟩
/-- Expressions, one by one, so far. -/
structure Eac (w W : World) (vo : Value) (xs : List Ex) (Q : Ex → Ex → Prop) (i : Nat) (ys : List Ex) (ks : List Value) : Prop where
  ny : ys.length = i
  nk : ks.length = i
  own : W.ownsRow w.heap.size 27 6 vo i (exCs ys ks)
  d : Below w.heap.size w W
  kids : ∀ j (h : j < ys.length), ExP (fun c => w.heap.size ≤ c ∧ some c ≠ vo.ownBlock) W (ks[j]'(by omega)) ys[j].kids
  ok : ∀ y ∈ ys, ExF y
  q : ∀ j (h : j < ys.length) (h' : j < xs.length), Q xs[j] ys[j]
theorem Eac.start (w : World) (xs : List Ex) (Q : Ex → Ex → Prop) : Eac w w (.slice none 0 0) xs Q 0 [] [] :=
  ⟨rfl, rfl, World.ownsRow_nil _ _ _ _, Below.refl _ _, fun j h => by simp at h, fun y h => (by cases h), fun j h => by simp at h⟩
theorem Eac.end {w W : World} {vo : Value} {xs ys : List Ex} {ks : List Value} {Q : Ex → Ex → Prop} {i : Nat} (h : Eac w W vo xs Q i ys ks) : ExP (w.heap.size ≤ ·) W vo ys := by
  refine .mk vo ys ks (by rw [h.ny, h.nk]) (fun c hc _ => (h.own.lt c hc).1) ?_ h.ok (fun j hj => (h.kids j hj).mono fun c _ hx => hx.1)
  have := Lies.owned h.own
  rwa [← h.ny] at this
/-- Ahead of the append. -/
theorem Eac.next {w W W' : World} {vo : Value} {xs ys : List Ex} {ks : List Value} {Q : Ex → Ex → Prop} {i : Nat} (h : Eac w W vo xs Q i ys ks) (k : Below W.heap.size W W') : Eac w W' vo xs Q i ys ks :=
  ⟨h.ny, h.nk, own_step h.own k, h.d.trans (k.mono h.d.size), fun j hj => (h.kids j hj).next k, h.ok, h.q⟩
theorem exCs_push (ys : List Ex) (ks : List Value) (y : Ex) (kv : Value) (h : ks.length = ys.length) : exCs (ys ++ [y]) (ks ++ [kv]) = exCs ys ks ++ exC y kv := by
  unfold exCs
  rw [List.zip_append h.symm, List.flatMap_append]
  simp
theorem Eac.push {w W W' W5 : World} {vo v5 kv' : Value} {xs ys : List Ex} {ks : List Value} {Q : Ex → Ex → Prop} {i S : Nat} {y : Ex} (h : Eac w W vo xs Q i ys ks) (k : Below W.heap.size W W')
    (hS : W.heap.size ≤ S) (hi : i < xs.length) (hk : ExP (S ≤ ·) W' kv' y.kids) (hF : ExF y) (hQ : Q xs[i] y)
    (own5 : W5.ownsRow w.heap.size 27 6 v5 (i + 1) (exCs ys ks ++ exC y kv')) (g : W'.grownBy W5 vo.ownBlock) (hb : v5.ownBlock = vo.ownBlock ∨ v5.ownBlock = some W'.heap.size) : Eac w W5 v5 xs Q (i + 1) (ys ++ [y]) (ks ++ [kv']) := by
  have h' := h.next k
  have hne : ∀ c, c < W'.heap.size → some c ≠ vo.ownBlock → some c ≠ v5.ownBlock := fun c hc hx e => by
    rcases hb with e1 | e1
    · exact hx (e.trans e1)
    · rw [e1] at e; injection e with e; omega
  have hge : ∀ c, S ≤ c → some c ≠ vo.ownBlock := fun c hc e => by
    have := (h.own.lt c e.symm).2
    omega
  have key : ∀ {X : Nat → Prop} (v : Value) (l : List Ex), ExP X W' v l → (∀ c, c < W'.heap.size → X c → w.heap.size ≤ c ∧ some c ≠ vo.ownBlock) → ExP (fun c => w.heap.size ≤ c ∧ some c ≠ v5.ownBlock) W5 v l := fun {X} v l hp hX => by
    have q := hp.mono (X' := fun c => w.heap.size ≤ c ∧ some c ≠ vo.ownBlock ∧ some c ≠ v5.ownBlock) fun c hc hx => ⟨(hX c hc hx).1, (hX c hc hx).2, hne c hc (hX c hc hx).2⟩
    exact (q.step g.size fun c hc hx => g.block c hc hx.2.1).mono fun c _ hx => ⟨hx.1, hx.2.2⟩
  refine ⟨by simp [h.ny], by simp [h.nk], ?_, below_own h'.d h'.d.size h'.own g, fun j hj => ?_, fun z hz => ?_, fun j hj hj' => ?_⟩
  · rw [exCs_push _ _ _ _ (by rw [h.ny, h.nk])]; exact own5
  · have hj : j < ys.length + 1 := by simpa using hj
    by_cases e : j < ys.length
    · rw [List.getElem_append_left e, List.getElem_append_left (by rw [h.nk, ← h.ny]; exact e)]
      exact key _ _ (h'.kids j e) fun c _ hx => hx
    · obtain rfl : j = ys.length := by omega
      rw [List.getElem_append_right (Nat.le_refl _), List.getElem_append_right (by rw [h.nk, ← h.ny]; exact Nat.le_refl _)]
      simp only [Nat.sub_self, h.nk, h.ny, List.getElem_singleton]
      exact key _ _ hk fun c _ hx => ⟨Nat.le_trans h.d.size (Nat.le_trans hS hx), hge c hx⟩
  · rcases List.mem_append.1 hz with hz | hz
    · exact h.ok z hz
    · simp at hz; subst hz; exact hF
  · have hj : j < ys.length + 1 := by simpa using hj
    by_cases e : j < ys.length
    · rw [List.getElem_append_left e]; exact h.q j e hj'
    · obtain rfl : j = i := by have := h.ny; omega
      rw [List.getElem_append_right (by omega)]
      simp only [h.ny, Nat.sub_self, List.getElem_singleton]
      exact hQ
set_option maxRecDepth 100000 in
set_option maxHeartbeats 1000000 in
theorem each_any (xs : List Ex) (Q : Ex → Ex → Prop) (B : Nat) (v : Value) (w : World) (IH : ∀ i (h : i < xs.length), FxC xs[i] (Q xs[i])) (hlen : xs.length ≤ 100) (hx : ExL B w v xs) (hB : B ≤ w.heap.size) : Calls Tryz.prog 26 #[v, .func (.func 15) #[] #[]] w fun e w' => EacR w xs Q e w' := by
  obtain ⟨i0, hi0, hz0, hz1, hz2⟩ := info_parts9 Tryz.infoExpr
  obtain ⟨ao, cap, rfl, hmax, -⟩ := hx.at
  have HX := hideI hx
  have HI := hideI IH
  clear hx IH
  unfold maxLen at hmax
  have E0 := hideI (Eac.start w xs Q)
  go_enter Tryz.func26, Tryz.ntmps26
  go_wp2_with fail
  go_loopg [5, 10] xs.length (fun g vo t wr => ∃ (i : Nat) (ys : List Ex) (ks : List Value), i ≤ xs.length ∧ g = xs.length - i ∧ t = .int .i64 (i : Int) ∧ Hid (Eac w wr vo xs Q i ys ks))
  case atStart => exact ⟨0, [], [], Nat.zero_le _, rfl, rfl, E0⟩
  case round =>
    clear E0
    obtain ⟨i, ys, ks, hi, hg, rfl, HC⟩ := hrel
    generalize wr = W1 at *
    by_cases hlt : i < xs.length
    · have hn : xs ≠ [] := by intro h; rw [h] at hlt; simp at hlt
      have hsz := (unhideI HC).d.size
      have hxw : ExL B W1 (.slice ao xs.length cap) xs := (unhideI HX).step ((unhideI HC).d.mono hB)
      obtain ⟨ao', cap', e1, -, hat⟩ := hxw.at
      injection e1 with e1 _ e2
      subst e1 e2
      obtain ⟨b1, o1, rfl, hb1, hbw, hc1⟩ := hat hn
      obtain ⟨kv, hk, hf, x0, x1, x2, x3, x4, x5⟩ := hc1 i hlt
      obtain ⟨ak, ck, rfl, -, -⟩ := hk.at
      have hiI : (i : Int) < (xs.length : Int) := by omega
      have hi0' : (0 : Int) ≤ (i : Int) := by omega
      have ka := below_a W1 (.cells #[.int .i64 xs[i].k, .int .u64 xs[i].n, .int .i64 xs[i].b, .bool xs[i].s, .string xs[i].nm, .slice ak xs[i].kids.length ck] 27)
      have CA := hideI (unhideI HI i hlt B _ _ (hk.step (ka.mono (by omega))) (by have := ka.size; omega) hf)
      have K1 := hideI ka
      have S1 := hideI (show (W1.alloc (.cells #[.int .i64 xs[i].k, .int .u64 xs[i].n, .int .i64 xs[i].b, .bool xs[i].s, .string xs[i].nm, .slice ak xs[i].kids.length ck] 27)).heap.size = W1.heap.size + 1 by simp)
      clear hat hc1 hxw hk ka hf
      go_wp2_with fail
      refine (unhideI CA).mono ?_
      rintro e w2 ⟨y, ya, yn, yc, rfl, k2, hp, hfy, hq⟩
      have kB := below_a w2 (.cells #[.int .i64 y.k, .int .u64 y.n, .int .i64 y.b, .bool y.s, .string y.nm, .slice ya yn yc] 27)
      have BN := hideI (Box.new w2 #[.int .i64 y.k, .int .u64 y.n, .int .i64 y.b, .bool y.s, .string y.nm, .slice ya yn yc] 27)
      have K2 := hideI (((unhideI K1).trans (k2.mono (by have := unhideI S1; omega))).trans (kB.mono (by have := k2.size; have := unhideI S1; omega)))
      have HP := hideI (hp.next kB)
      have HFQ := hideI (And.intro hfy hq)
      have HSZ := hideI (show W1.heap.size + 1 ≤ w2.heap.size by have := k2.size; have := unhideI S1; omega)
      have HOW := hideI ((unhideI HC).next (unhideI K2)).own
      rw [unhideI S1] at HP
      clear k2 kB hp hfy hq CA K1 S1
      go_wp2_with (at_builtin; refine append_lies9 rfl (.tmp 14) (.tmp 18) 25 rfl w.heap.size 27 i0 _ 6 72 Tryz.underlying25 hi0 hz0 hz1 hz2 rfl (by decide) _ _ _ rfl (unhideI HOW) _ 1 (exC y (.slice ya yn yc)) rfl (lies_box6 (unhideI BN)) (exC_one _ _ ⟨_, _, _, rfl⟩) (by unfold maxLen; omega) (by omega) (by have := unhideI HSZ; simp; omega) ?_; intro v5 w5 own5 grow5 at5; have E5 := hideI ((unhideI HC).push (unhideI K2) (S := W1.heap.size + 1) (by omega) hlt (unhideI HP) (unhideI HFQ).1 (unhideI HFQ).2 own5 grow5 at5); clear own5 grow5 at5 HP HFQ HOW K2 BN HSZ)
      go_roundg (xs.length - (i + 1))
      case measure => omega
      case rel => exact ⟨i + 1, _, _, by omega, rfl, by go_num, E5⟩
    · have hiI : ¬ (i : Int) < (xs.length : Int) := by omega
      obtain rfl : i = xs.length := by omega
      go_wp2_with fail
      go_ret
      exact ⟨_, _, rfl, (unhideI HC).d, (unhideI HC).end, (unhideI HC).ny, (unhideI HC).ok, fun j h h' => (unhideI HC).q j h' h⟩
end Go.Proofs.YtjddpfojllefgaaGreat
