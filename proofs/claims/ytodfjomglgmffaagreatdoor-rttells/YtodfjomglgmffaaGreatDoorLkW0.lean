/-
  (*linker).words: what it makes; the words that have come so far.
-/
import Derived.Test.YtodfjomglgmffaaGreatDoorLkFz
import Derived.Test.YtodfjomglgmffaaGreatDoorReg
import Derived.Maps.AppendAt
import Derived.Laws.AppendOwnNone
namespace Go.Proofs.YtodfjomglgmffaaGreatDoor
open Go.RowKit Go.Maps
set_option linter.unusedSimpArgs false
set_option linter.unusedVariables false

/-- Units are put one behind the other, as they are spoken of. -/
def wrdL (us : List Un) (O : Nmd) : Nat → Nat → Ls → List Int → (List Int × Int × Int) × Ls
  | 0, _, s, out => ((out, 0, 0), s)
  | f + 1, i, s, out =>
    match s.order[i]? with
    | none => ((out, 0, 0), s)
    | some m =>
      match s.P[m.toNat]?, us[m.toNat]? with
      | some p, some u =>
        if p.1.start + p.1.n ≤ 65536 then
          (if (rsv (fndL O m.toNat) u.lines 0 s []).1.2.1 = 0 then wrdL us O f (i + 1) (rsv (fndL O m.toNat) u.lines 0 s []).2 (out ++ (encA (rsv (fndL O m.toNat) u.lines 0 s []).1.1).1)
          else (([], (rsv (fndL O m.toNat) u.lines 0 s []).1.2.1, m), (rsv (fndL O m.toNat) u.lines 0 s []).2))
        else (([], 4, m), s)
      | _, _ => ((out, 0, 0), s)
section
variable {us : List Un} {O : Nmd} {f i m : Nat} {s : Ls} {out : List Int}
theorem wrd_end (h : s.order.length ≤ i) : wrdL us O f i s out = ((out, 0, 0), s) := by
  cases f with
  | zero => rfl
  | succ f => rw [wrdL, List.getElem?_eq_none h]
theorem wrd_much (hi : s.order[i]? = some (m : Int)) (hp : m < s.P.length) (hu : m < us.length) (h : 65536 < (s.P[m]'hp).1.start + (s.P[m]'hp).1.n) : wrdL us O (f + 1) i s out = (([], 4, (m : Int)), s) := by
  rw [wrdL, hi]
  simp only [Int.toNat_natCast]
  rw [List.getElem?_eq_getElem hp, List.getElem?_eq_getElem hu]
  dsimp only
  rw [if_neg (by omega)]
theorem wrd_bad (hi : s.order[i]? = some (m : Int)) (hp : m < s.P.length) (hu : m < us.length) (h : (s.P[m]'hp).1.start + (s.P[m]'hp).1.n ≤ 65536) (hr : (rsv (fndL O m) (us[m]'hu).lines 0 s []).1.2.1 ≠ 0) : wrdL us O (f + 1) i s out = (([], (rsv (fndL O m) (us[m]'hu).lines 0 s []).1.2.1, (m : Int)), (rsv (fndL O m) (us[m]'hu).lines 0 s []).2) := by
  rw [wrdL, hi]
  simp only [Int.toNat_natCast]
  rw [List.getElem?_eq_getElem hp, List.getElem?_eq_getElem hu]
  dsimp only
  rw [if_pos h, if_neg hr]
theorem wrd_next (hi : s.order[i]? = some (m : Int)) (hp : m < s.P.length) (hu : m < us.length) (h : (s.P[m]'hp).1.start + (s.P[m]'hp).1.n ≤ 65536) (hr : (rsv (fndL O m) (us[m]'hu).lines 0 s []).1.2.1 = 0) : wrdL us O (f + 1) i s out = wrdL us O f (i + 1) (rsv (fndL O m) (us[m]'hu).lines 0 s []).2 (out ++ (encA (rsv (fndL O m) (us[m]'hu).lines 0 s []).1.1).1) := by
  rw [wrdL, hi]
  simp only [Int.toNat_natCast]
  rw [List.getElem?_eq_getElem hp, List.getElem?_eq_getElem hu]
  dsimp only
  rw [if_pos h, if_pos hr]
end
theorem append_lies_at {P : Program} {w : World} {ops : Array Oper} {rest : List Oper} {o : Oper} {a : Act} {Q : Exit → Act → World → Prop} (hgd : o.guard = none) (s x : Operand) (t : TypeId)
    (ho : o.op = .call { callee := .builtin .append, args := #[s, x], argTypes := #[t, t] })
    (base : Nat) (e : TypeId) (i : TypeInfo) (z : Value) (size bytes : Nat) (ht : P.underlying t = some (.slice e)) (hi : P.info? e = some i) (hz : i.zero = some z)
    (hsize : i.size = size) (hby : i.bytes = bytes) (hzs : z.cells.size = size) (hsz : 0 < size)
    (v : Value) (n : Nat) (xs : List Value) (hs : a.eval s = v) (hown : w.ownsRow base e size v n xs)
    (vx : Value) (m : Nat) (news : List Value) (hx : a.eval x = vx) (hl : Lies w size vx m news) (h1 : ∀ u ∈ news, u.oneCell' = true)
    (h63 : n + m ≤ maxLen) (hbytes : (n + m) * bytes ≤ 140737488355328) (hbase : base ≤ w.heap.size)
    (h : ∀ v' w', w'.ownsRow base e size v' (n + m) (xs ++ news) → w.grownBy w' v.ownBlock → (v'.ownBlock = v.ownBlock ∨ v'.ownBlock = some w.heap.size) → wpList P ops Q rest (a.put o.dst v') w') : wpList P ops Q (o :: rest) a w := by
  rcases hl.src with ⟨rfl, rfl, rfl⟩ | ⟨ad, cap, rfl, hlen, hc⟩
  · exact wpList_append_own_none hgd s x t ho base e i size ht hi v n xs hs hown hx (h v w (by simpa using hown) (World.grownBy.refl _ _) (.inl rfl))
  · exact wpList_append_own_at w hgd s x t ho base e i z size bytes ht hi hz hsize hby hzs hsz v n xs hs hown ad m cap news hx hlen hc h1 h63 hbytes hbase fun v' w' k1 k2 _ k4 => h v' w' k1 k2 k4
/-- What comes of the linker behind Resolve: the list, where the fault goes to, and the world. -/
structure MetW (c : Lf) (bs : List Nat) (B0 : Nat) (w : World) (vo : Value) (R : (List Ins × Int × Nat) × Ls) (vi vo' : Value) (fb : Nat) (W : World) : Prop where
  ins : Inss W vi R.1.1
  lk : LkAt c R.2 vo' W
  good : Good R.2 c.O
  bsn : R.2.P.map (·.2) = bs
  kpt : Kpt (FFoot c c.pk c.pk bs vo) w W
  foot : ∀ k, FFoot c c.pk c.pk bs vo' k → FFoot c c.pk c.pk bs vo k ∨ w.heap.size ≤ k
  box : Box W fb [.int .i64 0, .int .i64 0]
  fb0 : w.heap.size ≤ fb
  fbn : ¬ FFoot c c.pk c.pk bs vo' fb
  fbi : ∀ k, vi.ownBlock = some k → R.1.1 ≠ [] → k ≠ fb
end Go.Proofs.YtodfjomglgmffaaGreatDoor
