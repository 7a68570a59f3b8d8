/-
  append of a slice that lies somewhere, nil or not, onto a row of the call's own.
-/
import Derived.Test.YtjddpfojllefgaaGreatMem
import Derived.Laws.AppendOwnNone
import Derived.OwnWalk
import Derived.Test.YtjddpfojllefgaaGreatBig4
namespace Go.Proofs.YtjddpfojllefgaaGreat
open Go.RowKit
set_option linter.unusedSimpArgs false
set_option linter.unusedVariables false

theorem append_lies {P : Program} {w : World} {ops : Array Oper} {rest : List Oper} {o : Oper} {a : Act} {Q : Exit → Act → World → Prop} (hgd : o.guard = none) (s x : Operand) (t : TypeId)
    (ho : o.op = .call { callee := .builtin .append, args := #[s, x], argTypes := #[t, t] })
    (base : Nat) (e : TypeId) (i : TypeInfo) (z : Value) (size bytes : Nat) (ht : P.underlying t = some (.slice e)) (hi : P.info? e = some i) (hz : i.zero = some z)
    (hsize : i.size = size) (hby : i.bytes = bytes) (hzs : z.cells.size = size) (hsz : 0 < size)
    (v : Value) (n : Nat) (xs : List Value) (hs : a.eval s = v) (hown : w.ownsRow base e size v n xs)
    (vx : Value) (m : Nat) (news : List Value) (hx : a.eval x = vx) (hl : Lies w size vx m news) (h1 : ∀ u ∈ news, u.oneCell' = true)
    (h63 : n + m ≤ maxLen) (hbytes : (n + m) * bytes ≤ 140737488355328) (hbase : base ≤ w.heap.size)
    (h : ∀ v' w', w'.ownsRow base e size v' (n + m) (xs ++ news) → w.grownBy w' v.ownBlock → wpList P ops Q rest (a.put o.dst v') w') : wpList P ops Q (o :: rest) a w := by
  rcases hl.src with ⟨rfl, rfl, rfl⟩ | ⟨ad, cap, rfl, hlen, hc⟩
  · exact wpList_append_own_none hgd s x t ho base e i size ht hi v n xs hs hown hx (h v w (by simpa using hown) (World.grownBy.refl _ _))
  · exact wpList_append_own w hgd s x t ho base e i z size bytes ht hi hz hsize hby hzs hsz v n xs hs hown ad m cap news hx hlen hc h1 h63 hbytes hbase fun v' w' k1 k2 _ => h v' w' k1 k2
end Go.Proofs.YtjddpfojllefgaaGreat

/-
  cmp and twin.
-/
namespace Go.Proofs.YtjddpfojllefgaaGreat
open Go.RowKit
set_option linter.unusedSimpArgs false
set_option linter.unusedVariables false

/-- -1, 0 or 1. -/
def cm (a b : Int) : Int := if a < b then -1 else if a = b then 0 else 1
theorem vl_parts (L : List Int) (m : Nat) : vl L = vl (L.take m) + 4294967296 ^ m * L.getD m 0 + 4294967296 ^ (m + 1) * vl (L.drop (m + 1)) := by
  have e := vl_app (L.take (m + 1)) (L.drop (m + 1))
  rw [List.take_append_drop, vl_take] at e
  by_cases h : m + 1 ≤ L.length
  · rw [List.length_take, Nat.min_eq_left h] at e; exact e
  · rw [List.drop_eq_nil_of_le (by omega)] at e ⊢
    simpa [vl] using e
theorem drop_eq {A B : List Int} {k : Nat} (hl : A.length = B.length) (h : ∀ j, k ≤ j → A.getD j 0 = B.getD j 0) : A.drop k = B.drop k := by
  apply List.ext_getElem? 
  intro j
  rw [List.getElem?_drop, List.getElem?_drop]
  by_cases hj : k + j < A.length
  · rw [getD_of_lt hj, getD_of_lt (by omega), h _ (by omega)]
  · rw [List.getElem?_eq_none (by omega), List.getElem?_eq_none (by omega)]
theorem cm_at {A B : List Int} {m : Nat} (hA : Wds A) (hB : Wds B) (hl : A.length = B.length) (hm : m < A.length) (h : ∀ j, m + 1 ≤ j → A.getD j 0 = B.getD j 0) (hx : A.getD m 0 < B.getD m 0) : vl A < vl B := by
  have a := vl_parts A m
  have b := vl_parts B m
  rw [drop_eq hl h] at a
  have ta := vl_hi (hA.take m)
  have tb := vl_lo (hB.take m)
  rw [List.length_take, Nat.min_eq_left (by omega)] at ta
  have g : (4294967296 : Int) ^ m * (A.getD m 0 + 1) ≤ 4294967296 ^ m * B.getD m 0 := Int.mul_le_mul_of_nonneg_left (by omega) (Int.le_of_lt (bp_pos m))
  rw [Int.mul_add, Int.mul_one] at g
  omega
theorem cm_len {A B : List Int} {n m : Int} (hA : Is A n) (hB : Is B m) (h : A.length < B.length) : n < m := by
  have a := hA.hi
  have b := is_top hB (k := B.length - 1) (by omega)
  have c := bp_le (a := A.length) (b := B.length - 1) (by omega)
  omega
theorem drew_e1 (w : World) (a : Nat) : ∃ q, w.drewN a = w.drewN q := ⟨a, rfl⟩
theorem drew_e2 (w : World) (a b : Nat) : ∃ q, (w.drewN a).drewN b = w.drewN q := ⟨a + b, by rw [World.drewN_drewN]⟩
theorem drew_e3 (w : World) (a b c : Nat) : ∃ q, ((w.drewN a).drewN b).drewN c = w.drewN q := ⟨a + (b + c), by rw [World.drewN_drewN, World.drewN_drewN]⟩
set_option maxHeartbeats 1000000 in
theorem cmp_any (v1 v2 : Value) (n1 n2 : Int) (w : World) (h1 : Dg w v1 n1) (h2 : Dg w v2 n2) (hn1 : n1 < 4294967296 ^ 8) (hn2 : n2 < 4294967296 ^ 8) :
    Calls Tryz.prog 33 #[v1, v2] w fun e w' => (∃ q, w' = w.drewN q) ∧ e = .returned (.int .i64 (cm n1 n2)) := by
  obtain ⟨LA, rA, iA⟩ := h1
  obtain ⟨LB, rB, iB⟩ := h2
  have lA := iA.len 8 hn1
  have lB := iB.len 8 hn2
  obtain ⟨aoA, capA, rfl, _, _, _, hA4, hA5, hA6⟩ := rA.at
  obtain ⟨aoB, capB, rfl, _, _, _, hB4, hB5, hB6⟩ := rB.at
  have HRA := hide (fun d (he : aoA = some ⟨d, 0, none⟩) => And.intro (hA4 d 0 none he).2.2 (hA6 d he))
  have HRB := hide (fun d (he : aoB = some ⟨d, 0, none⟩) => And.intro (hB4 d 0 none he).2.2 (hB6 d he))
  have HA5 := hide hA5
  have HB5 := hide hB5
  have IA := hide iA
  have IB := hide iB
  clear hA4 hA5 hA6 hB4 hB5 hB6 rA rB iA iB
  by_cases hne : LA.length = LB.length
  · have hE : ((LA.length : Int) != (LB.length : Int)) = false := by rw [hne]; simp
    have HN := hide hne
    clear hne
    go_enter Tryz.func33, Tryz.ntmps33
    go_wp2_with fail
    clear hE
    go_loopg [5] LA.length (fun g t wr => ∃ (k : Nat), k ≤ LA.length ∧ g = k ∧ t = .int .i64 ((k : Int) - 1) ∧ (∃ q, wr = w.drewN q) ∧ Hid (∀ j, k ≤ j → LA.getD j 0 = LB.getD j 0))
    case atStart =>
      refine ⟨LA.length, Nat.le_refl _, rfl, by go_num, ⟨0, rfl⟩, fun j hj => ?_⟩
      rw [List.getD_eq_getElem?_getD, List.getD_eq_getElem?_getD, List.getElem?_eq_none hj, List.getElem?_eq_none (by have := unhide HN; omega)]
    case round =>
      obtain ⟨k, hk, hg, rfl, ⟨q, rfl⟩, hz⟩ := hrel
      by_cases k0 : k = 0
      · subst k0
        have hv : cm n1 n2 = 0 := by
          have e := drop_eq (k := 0) (unhide HN) (unhide hz)
          rw [List.drop_zero, List.drop_zero] at e
          have : n1 = n2 := by rw [← (unhide IA).2.2, ← (unhide IB).2.2, e]
          simp [cm, this]
        have HV := hide hv
        clear hv
        go_wp2_with fail
        go_ret
        exact ⟨by first | exact drew_e1 _ _ | exact drew_e2 _ _ _ | exact drew_e3 _ _ _ _, congrArg (fun z => Ending.returned (Value.int .i64 z)) (unhide HV).symm⟩
      · obtain ⟨m, rfl⟩ : ∃ m, k = m + 1 := ⟨k - 1, by omega⟩
        obtain ⟨dA, rfl⟩ := unhide HA5 (by omega)
        obtain ⟨hdA, hcA⟩ := unhide HRA dA rfl
        have cA := hcA m (by omega)
        obtain ⟨dB, rfl⟩ := unhide HB5 (by have := unhide HN; omega)
        obtain ⟨hdB, hcB⟩ := unhide HRB dB rfl
        have cB := hcB m (by have := unhide HN; omega)
        have e1 : (((m + 1 : Nat) : Int) - 1) = (m : Int) := by omega
        have hm0 : (0 : Int) ≤ (m : Int) := by omega
        have hmA : (m : Int) < (LA.length : Int) := by omega
        have hmB : (m : Int) < (LB.length : Int) := by have := unhide HN; omega
        clear hcA hcB
        rcases Int.lt_trichotomy (LA.getD m 0) (LB.getD m 0) with hx | hx | hx
        · have hv : cm n1 n2 = -1 := by
            have := cm_at (unhide IA).1 (unhide IB).1 (unhide HN) (by omega) (unhide hz) hx
            rw [(unhide IA).2.2, (unhide IB).2.2] at this
            simp [cm, this]
          have HV := hide hv
          clear hv
          have hb1 : (LA.getD m 0 != LB.getD m 0) = true := bne_iff_ne.2 (by omega)
          have hb2 : decide (LA.getD m 0 < LB.getD m 0) = true := decide_eq_true hx
          clear hx
          generalize LA.getD m 0 = x at *
          generalize LB.getD m 0 = y at *
          go_wp2_with fail
          go_quiet (fail)
          go_wp2_with fail
          go_quiet (fail)
          go_wp2_with fail
          go_ret
          exact ⟨by first | exact drew_e1 _ _ | exact drew_e2 _ _ _ | exact drew_e3 _ _ _ _, congrArg (fun z => Ending.returned (Value.int .i64 z)) (unhide HV).symm⟩
        · have hb1 : (LA.getD m 0 != LB.getD m 0) = false := by rw [hx]; exact bne_self_eq_false _
          have HX := hide hx
          clear hx
          generalize hx' : LA.getD m 0 = x at *
          generalize hy' : LB.getD m 0 = y at *
          have HX' := hide hx'
          have HY' := hide hy'
          clear hx' hy'
          go_wp2_with fail
          go_quiet (fail)
          go_wp2_with fail
          go_roundg m
          case measure => omega
          case rel => exact ⟨m, by omega, rfl, by go_num, by first | exact drew_e1 _ _ | exact drew_e2 _ _ _ | exact drew_e3 _ _ _ _, fun j hj => by
            by_cases e : j = m
            · rw [e, unhide HX', unhide HY']; exact unhide HX
            · exact unhide hz j (by omega)⟩
        · have hv : cm n1 n2 = 1 := by
            have := cm_at (unhide IB).1 (unhide IA).1 (unhide HN).symm (by have := unhide HN; omega) (fun j hj => (unhide hz j hj).symm) hx
            rw [(unhide IA).2.2, (unhide IB).2.2] at this
            have a1 : ¬ n1 < n2 := by omega
            have a2 : ¬ n1 = n2 := by omega
            simp [cm, a1, a2]
          have HV := hide hv
          clear hv
          have hb1 : (LA.getD m 0 != LB.getD m 0) = true := bne_iff_ne.2 (by omega)
          have hb2 : decide (LA.getD m 0 < LB.getD m 0) = false := decide_eq_false (by omega)
          clear hx
          generalize LA.getD m 0 = x at *
          generalize LB.getD m 0 = y at *
          go_wp2_with fail
          go_quiet (fail)
          go_wp2_with fail
          go_quiet (fail)
          go_wp2_with fail
          go_ret
          exact ⟨by first | exact drew_e1 _ _ | exact drew_e2 _ _ _ | exact drew_e3 _ _ _ _, congrArg (fun z => Ending.returned (Value.int .i64 z)) (unhide HV).symm⟩
  · have hE : ((LA.length : Int) != (LB.length : Int)) = true := by simp; omega
    by_cases hlt : LA.length < LB.length
    · have hb : decide ((LA.length : Int) < (LB.length : Int)) = true := by simp; omega
      have hv : cm n1 n2 = -1 := by have := cm_len (unhide IA) (unhide IB) hlt; simp [cm, this]
      rw [hv]
      go_enter Tryz.func33, Tryz.ntmps33
      go_wp2_with fail
      go_ret
      exact ⟨⟨0, rfl⟩, rfl⟩
    · have hb : decide ((LA.length : Int) < (LB.length : Int)) = false := by simp; omega
      have hv : cm n1 n2 = 1 := by
        have := cm_len (unhide IB) (unhide IA) (by omega)
        have a1 : ¬ n1 < n2 := by omega
        have a2 : ¬ n1 = n2 := by omega
        simp [cm, a1, a2]
      rw [hv]
      go_enter Tryz.func33, Tryz.ntmps33
      go_wp2_with fail
      go_ret
      exact ⟨⟨0, rfl⟩, rfl⟩
def u32v (x : Int) : Value := .int .u32 x
theorem Row.lies {w : World} {v : Value} {L : List Int} (h : Row w v L) : Lies w 1 v L.length (L.map u32v) := by
  refine ⟨by simp, ?_⟩
  rcases h with ⟨rfl, rfl⟩ | ⟨d, cap, cs, fz, rfl, h2, h3, h4, h5⟩
  · exact ⟨none, 0, rfl, Nat.le_refl _, Nat.zero_le _, fun _ => rfl, fun h => absurd rfl h⟩
  · refine ⟨_, cap, rfl, h2, h3, (fun h => by cases h), fun _ => ⟨d, 0, rfl, (Array.getElem?_eq_some_iff.1 h4).1, fun j hj => ?_⟩⟩
    have hj' : j < L.length := by omega
    have := h5 j hj'
    rw [Nat.zero_add, List.getElem?_map, getD_of_lt hj']
    simp only [World.cell?, h4, this, Option.map_some]
    rfl
theorem own_row {w : World} {B : Nat} {v : Value} {L : List Int} (h : w.ownsRow B 91 1 v L.length (L.map u32v)) : Row w v L := by
  obtain ⟨h1, h2⟩ := h
  rcases h2 with ⟨rfl, h3⟩ | ⟨g, cap, cur, rfl, hb, hg, hn, hm, hs, ht⟩
  · exact .inl ⟨rfl, List.eq_nil_of_length_eq_zero h3⟩
  · refine .inr ⟨g, cap, cur, _, rfl, hn, hm, hg, fun j hj => ?_⟩
    have e : (cur.toList.take (L.length * 1))[j]? = (L.map u32v)[j]? := by rw [ht]
    rw [List.getElem?_take, if_pos (by omega), List.getElem?_map, getD_of_lt hj, Array.getElem?_toList] at e
    exact e
theorem u32_one (L : List Int) : ∀ u ∈ L.map u32v, u.oneCell' = true := by
  intro u hu
  obtain ⟨x, _, rfl⟩ := List.mem_map.1 hu
  rfl
theorem twin_any (v : Value) (n : Int) (w : World) (h : Dg w v n) (hn : n < 4294967296 ^ 8) :
    Calls Tryz.prog 106 #[v] w fun e w' => Below w.heap.size w w' ∧ ∃ v', e = .returned v' ∧ Dg w' v' n := by
  obtain ⟨L, hr, hI⟩ := h
  have hl := hI.len 8 hn
  obtain ⟨i0, hi, hz0, hz1, hz2⟩ := info_parts Tryz.infoU32
  have HR := hide hr
  have II := hide hI
  clear hr hI
  go_enter Tryz.func106, Tryz.ntmps106
  go_wp2_with (at_builtin; refine append_lies rfl (.const (.slice none 0 0)) (.tmp 3) 67 rfl w.heap.size 91 i0 (.int .u32 0) 1 4 Tryz.underlying67 hi hz0 hz1 hz2 rfl (by decide) _ 0 [] rfl (World.ownsRow_nil _ _ _ _) _ _ _ rfl (unhide HR).lies (u32_one _) (by unfold maxLen; omega) (by omega) (Nat.le_refl _) ?_; intro v3 w3 own3 grow3; rw [Nat.zero_add, List.nil_append] at own3; have R3 := hide (own_row own3); have K3 := hide ((Below.refl w.heap.size w).grown grow3 (Nat.le_refl _) (fun k hk => nomatch (show (none : Option Nat) = some k from hk))); clear own3 grow3)
  go_ret
  exact ⟨unhide K3, _, rfl, L, unhide R3, unhide II⟩
end Go.Proofs.YtjddpfojllefgaaGreat
