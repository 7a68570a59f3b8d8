/-
  Routines: all units.
-/
import Derived.Test.YtodfjomglgmffaaGreatDoorRtG2
import Derived.Test.YtodfjomglgmffaaGreatDoorRdA
import Derived.Test.YtodfjomglgmffaaGreatDoorLkO
import Derived.Test.YtodfjomglgmffaaGreatDoorLkW0
namespace Go.Proofs.YtodfjomglgmffaaGreatDoor
open Go.RowKit Go.Maps
set_option linter.unusedSimpArgs false
set_option linter.unusedVariables false

/-- All routines, as units. -/
def unL : List Un := nmL.map fun s => ⟨sb s, (readA (rtxt s).1).1⟩
def nmAt (j : Nat) : List UInt8 := nmL.getD j []
def lnAt (j : Nat) : List Ln := (readA (rtxt (nmAt j)).1).1
def ucs (k : Nat) (f : Nat → Value) : List Value := (List.range k).flatMap fun j => [.string (sb (nmAt j)), f j]
theorem ucs_succ (k : Nat) (f f' : Nat → Value) (h : ∀ j, j < k → f' j = f j) : ucs (k + 1) f' = ucs k f ++ [.string (sb (nmAt k)), f' k] := by
  unfold ucs
  rw [List.range_succ, List.flatMap_append]
  congr 1
  · simp only [List.flatMap]
    congr 1
    exact List.map_congr_left fun j hj => by rw [h j (List.mem_range.1 hj)]
theorem ucs_len (k : Nat) (f : Nat → Value) : (ucs k f).length = k * 2 := by
  induction k with
  | zero => rfl
  | succ k ih => rw [ucs_succ k f f (fun _ _ => rfl), List.length_append, ih]; simp; omega
theorem ucs_at (f : Nat → Value) : ∀ (k j : Nat), j < k → (ucs k f)[j * 2]? = some (.string (sb (nmAt j))) ∧ (ucs k f)[j * 2 + 1]? = some (f j)
  | 0, j, h => by omega
  | k + 1, j, h => by
    rw [ucs_succ k f f (fun _ _ => rfl)]
    by_cases e : j = k
    · subst e
      have := ucs_len j f
      rw [List.getElem?_append_right (by omega), List.getElem?_append_right (by omega), this]
      simp
    · obtain ⟨h1, h2⟩ := ucs_at f k j (by omega)
      have := ucs_len k f
      rw [List.getElem?_append_left (by omega), List.getElem?_append_left (by omega)]
      exact ⟨h1, h2⟩
theorem nmL_len : nmL.length = 24 := by rfl
theorem nmAt_len (j : Nat) : (nmAt j).length ≤ 10 := by
  have h : ∀ j, j < 24 → (nmAt j).length ≤ 10 := by decide +kernel
  by_cases hj : j < 24
  · exact h j hj
  · unfold nmAt; rw [List.getD_eq_getElem?_getD, List.getElem?_eq_none (by rw [nmL_len]; omega)]; simp
theorem Tryz.infoUnit : (Tryz.prog.info? 36).map (fun i => (i.zero, i.size, i.bytes)) = some (some (.agg #[.string ⟨#[]⟩, .slice none 0 0]), 2, 40) := by kernel_rfl
theorem two_c1 (u : World) (x y : Value) (T : TypeId) (B : Nat) (hB : B = u.heap.size) : ∀ (j : Nat) z, [x, y][j]? = some z → (u.alloc (.cells #[x, y] T)).cell? ((⟨B, 0, none⟩ : Addr).add j) = some z := by
  subst hB
  intro j z hj
  match j, hj with
  | 0, hj => simp at hj; subst hj; simp [Addr.add]
  | 1, hj => simp at hj; subst hj; simp [Addr.add]
/-- What lies in package variables that the routines want. -/
structure Ga (w : World) : Prop where
  z : Gz w
  l : Gl w
theorem Ga.step {w w' : World} (h : Ga w) (k : Below w.heap.size w w') : Ga w' := ⟨h.z.step k, h.l.step k⟩
/-- The first k units in memory. -/
structure UnAt (w : World) (B : Nat) (v : Value) (k : Nat) (f : Nat → Value) : Prop where
  own : w.ownsRow B 36 2 v k (ucs k f)
  lns : ∀ j, j < k → Lns w (f j) (lnAt j)
  far : ∀ j, j < k → (lnAt j).length ≠ 0 → ∀ c, (f j).ownBlock = some c → c < w.heap.size ∧ v.ownBlock ≠ some c
theorem UnAt.step {w w' : World} {B k : Nat} {v : Value} {f : Nat → Value} (h : UnAt w B v k f) (b : Below w.heap.size w w') : UnAt w' B v k f :=
  ⟨own_step h.own b, fun j hj => Lies.step (h.lns j hj) b, fun j hj hz c hc => ⟨Nat.lt_of_lt_of_le (h.far j hj hz c hc).1 b.size, (h.far j hj hz c hc).2⟩⟩
theorem UnAt.low {w : World} {B B' k : Nat} {v : Value} {f : Nat → Value} (h : UnAt w B v k f) (hB : B' ≤ B) : UnAt w B' v k f := by
  refine ⟨⟨h.own.1, ?_⟩, h.lns, h.far⟩
  rcases h.own.2 with hn | ⟨g, cap, cur, hv, hb, r⟩
  · exact .inl hn
  · exact .inr ⟨g, cap, cur, hv, Nat.le_trans hB hb, r⟩
theorem lies_grown {w w' : World} {s n : Nat} {v : Value} {cs : List Value} {row : Option Nat} (h : Lies w s v n cs) (k : w.grownBy w' row) (hx : n ≠ 0 → ∀ b, v.ownBlock = some b → row ≠ some b) : Lies w' s v n cs := by
  obtain ⟨h1, ao, cap, h2, h3, h4, h6, h5⟩ := h
  refine ⟨h1, ao, cap, h2, h3, h4, h6, fun hn => ?_⟩
  obtain ⟨b, off, e, hb, hc⟩ := h5 hn
  refine ⟨b, off, e, Nat.lt_of_lt_of_le hb k.size, fun j hj => ?_⟩
  rw [← hc j hj]
  have hne : some b ≠ row := fun e2 => hx hn b (by rw [h2, e]; rfl) e2.symm
  have := k.block b hb hne
  unfold World.cell?
  simp only [this]
theorem un_put {w w' : World} {B k : Nat} {v v' x : Value} {f : Nat → Value} (h : UnAt w B v k f) (g : w.grownBy w' v.ownBlock) (ho : w'.ownsRow B 36 2 v' (k + 1) (ucs k f ++ [.string (sb (nmAt k)), x])) (hv : v'.ownBlock = v.ownBlock ∨ v'.ownBlock = some w.heap.size) (hl : Lns w x (lnAt k)) (hxo : (lnAt k).length ≠ 0 → ∀ c, x.ownBlock = some c → c < w.heap.size ∧ v.ownBlock ≠ some c) : UnAt w' B v' (k + 1) (fun j => if j = k then x else f j) := by
  have fr : ∀ c, c < w.heap.size → v.ownBlock ≠ some c → v'.ownBlock ≠ some c := fun c hc hn e => by
    rcases hv with h1 | h1
    · rw [h1] at e; exact hn e
    · rw [h1] at e; injection e with e; omega
  refine ⟨?_, fun j hj => ?_, fun j hj hz c hc => ?_⟩
  · rw [ucs_succ k f (fun j => if j = k then x else f j) (fun j hj => if_neg (by omega))]
    simpa using ho
  · by_cases e : j = k
    · subst e; simp only [if_true]; exact lies_grown hl g (fun hz b hb => (hxo hz b hb).2)
    · simp only [if_neg e]; exact lies_grown (h.lns j (by omega)) g (fun hz b hb => (h.far j (by omega) hz b hb).2)
  · by_cases e : j = k
    · subst e
      simp only [if_true] at hc
      exact ⟨Nat.lt_of_lt_of_le (hxo hz c hc).1 g.size, fr c (hxo hz c hc).1 (hxo hz c hc).2⟩
    · simp only [if_neg e] at hc
      have q := h.far j (by omega) hz c hc
      exact ⟨Nat.lt_of_lt_of_le q.1 g.size, fr c q.1 q.2⟩
theorem lies_lt {w : World} {s n : Nat} {v : Value} {cs : List Value} (h : Lies w s v n cs) : ∀ c, v.ownBlock = some c → n ≠ 0 → c < w.heap.size := by
  obtain ⟨h1, ao, cap, rfl, h3, h4, h6, h5⟩ := h
  intro c hc hn
  obtain ⟨b, off, rfl, hb, -⟩ := h5 hn
  simp [Value.ownBlock] at hc
  omega
set_option maxRecDepth 100000 in
set_option maxHeartbeats 4000000 in
theorem units_any (w : World) (G : Ga w) : Calls Tryz.prog 8 #[] w fun e w' => ∃ v f, e = .returned v ∧ UnAt w' w.heap.size v 24 f ∧ Below w.heap.size w w' := by
  obtain ⟨i0, hi, hz0, hz1, hz2⟩ := info_parts Tryz.infoUnit
  have NA := hideI (names_any w G.z)
  have HG := hideI G
  clear G
  go_enter Tryz.func8, Tryz.ntmps8
  go_wp2_with fail
  refine (unhideI NA).mono ?_
  rintro e w1 ⟨v, rfl, ln, k1, -⟩
  rw [nmL_len] at ln
  have LN := hideI ln
  have K1 := hideI k1
  have HG1 := hideI ((unhideI HG).step k1)
  obtain ⟨-, ao, cap, rfl, hc1, hc2, -, hat⟩ := ln
  have HAT := hideI hat
  have hs1 := k1.size
  clear NA k1 hat
  go_wp2_with fail
  go_loopg [1, 10] 24 (fun gm vu t wr => ∃ (k : Nat) (f : Nat → Value), k ≤ 24 ∧ gm = 24 - k ∧ t = .int .i64 (k : Int) ∧ Hid (UnAt wr w1.heap.size vu k f) ∧ Hid (Below w1.heap.size w1 wr))
  case atStart => exact ⟨0, fun _ => .nilFunc, Nat.zero_le _, rfl, rfl, ⟨World.ownsRow_nil _ _ _ _, fun j hj => by omega, fun j hj => by omega⟩, Below.refl _ _⟩
  case round =>
    obtain ⟨k, f, hk, hgm, rfl, HU, HB⟩ := hrel
    by_cases hlt : k < 24
    · obtain ⟨nb, no, rfl, hnb, hcell⟩ := unhideI HAT (by omega)
      have cn : wr.cell? ⟨nb, no + k, none⟩ = some (.string (sb (nmAt k))) := by
        refine cell_keep (unhideI HB) hnb ?_
        rw [hcell k (by omega), List.getElem?_map]
        unfold nmAt
        rw [List.getD_eq_getElem?_getD, List.getElem?_eq_getElem (show k < nmL.length by rw [nmL_len]; omega)]
        rfl
      have hkI : (k : Int) < 24 := by omega
      have hk0 : (0 : Int) ≤ (k : Int) := by omega
      have hnI : nb < w1.heap.size := hnb
      have GW := (unhideI HG1).step (unhideI HB)
      have TX := hideI (text_any (nmAt k) wr GW.z (by have := nmAt_len k; unfold maxLen; omega))
      have HGW := hideI GW
      clear hcell GW
      generalize wr = W0 at *
      have LA := hideI (show lnAt k = (readA (rtxt (nmAt k)).1).1 from rfl)
      go_wp2_with fail
      refine (unhideI TX).mono ?_
      rintro e w2 ⟨rfl, k2⟩
      have RD := hideI (read_any (sb (rtxt (nmAt k)).1) w2 ((unhideI HGW).step k2).l)
      rw [sb_list] at RD
      have K2 := hideI k2
      clear TX k2 cn
      generalize rtxt (nmAt k) = tx at *
      generalize readA tx.1 = rd at *
      obtain ⟨ls, er, ef⟩ := rd
      dsimp only at RD LA
      go_wp2_with fail
      refine (unhideI RD).mono ?_
      rintro e w3 ⟨v3, rfl, l3, o3, k3⟩
      have ka := below_a w3 (.cells #[.int .i64 er, .int .i64 ef] 32)
      have kA := btR (btR (unhideI K2) k3) ka
      have U4 := hideI ((unhideI HU).step kA)
      have L4 : Hid (Lns (w3.alloc (.cells #[.int .i64 er, .int .i64 ef] 32)) v3 (lnAt k)) := by rw [unhideI LA]; exact Lies.step l3 ka
      have hvb : (lnAt k).length ≠ 0 → ∀ c, v3.ownBlock = some c → c < (w3.alloc (.cells #[.int .i64 er, .int .i64 ef] 32)).heap.size ∧ u1.ownBlock ≠ some c := fun hz c hc => by
        rw [unhideI LA] at hz
        have q1 := o3 c hc
        have q2 := (unhideI K2).size
        refine ⟨?_, fun e => ?_⟩
        · have := lies_lt l3 c hc hz
          simp; omega
        · have := ((unhideI HU).own.lt c e).2
          omega
      have HVB := hideI hvb
      have B4 := hideI ((unhideI HB).trans (kA.mono (unhideI HB).size))
      have hs4 : w.heap.size ≤ (w3.alloc (.cells #[.int .i64 er, .int .i64 ef] 32)).heap.size := Nat.le_trans hs1 (unhideI B4).size
      have hs3 : w1.heap.size ≤ w3.heap.size := by have a := k3.size; have b := (unhideI K2).size; have c := (unhideI HB).size; omega
      obtain ⟨-, a3, c3, rfl, -⟩ := l3
      clear RD o3 k3 ka kA hvb HU K2 HGW
      go_wp2_with (at_builtin; (refine wpList_append_own_at _ rfl (.tmp 24) (.tmp 28) 28 rfl w1.heap.size 36 i0 (.agg #[.string ⟨#[]⟩, .slice none 0 0]) 2 40 Tryz.underlying28 hi hz0 hz1 hz2 rfl (by decide) _ _ _ rfl ((unhideI U4).own.alloc _) ⟨_, 0, none⟩ 1 1 [.string (sb (nmAt k)), .slice a3 ls.length c3] rfl rfl (two_c1 _ _ _ _ _ (by simp)) (by intro u hu; simp at hu; rcases hu with rfl | rfl <;> rfl) (by unfold maxLen; omega) (by omega) (by simp; omega) ?_; intro v5 w5 own5 grow5 _ at5; have N5 := hideI (un_put ((unhideI U4).step (below_a _ _)) grow5 own5 at5 (Lies.step (unhideI L4) (below_a _ _)) (fun hz c hc => ⟨Nat.lt_of_lt_of_le ((unhideI HVB) hz c hc).1 (by simp), ((unhideI HVB) hz c hc).2⟩)); have K5 := hideI (below_own ((unhideI B4).alloc (by have := (unhideI B4).size; omega) _) (by simp; omega) ((unhideI U4).own.alloc _) grow5); clear own5 grow5 at5))
      go_roundg (24 - (k + 1))
      case measure => omega
      case rel => exact ⟨k + 1, _, by omega, rfl, by go_num, N5, K5⟩
    · have hkI : ¬ (k : Int) < 24 := by omega
      have HKE := hideI (show k = 24 by omega)
      go_wp2_with fail
      go_ret
      refine ⟨_, rfl, ⟨f, ?_⟩, btR (unhideI K1) (unhideI HB)⟩
      have := unhideI HU
      rw [unhideI HKE] at this
      exact this.low hs1
end Go.Proofs.YtodfjomglgmffaaGreatDoor

/-
  Routines: units in memory, one more behind them.
-/
namespace Go.Proofs.YtodfjomglgmffaaGreatDoor
open Go.RowKit Go.Maps
set_option linter.unusedSimpArgs false
set_option linter.unusedVariables false

theorem Tryz.infoLn6 : (Tryz.prog.info? 40).map (fun i => (i.zero, i.size, i.bytes)) = some (some (.agg #[.string ⟨#[]⟩, .int .i64 0, .int .i64 0, .int .i64 0, .int .i64 0, .string ⟨#[]⟩]), 6, 64) := by kernel_rfl
theorem own_new (u : World) (cs : Array Value) (T : TypeId) (s n : Nat) (h : cs.size = n * s) (hn : n ≤ maxLen) : (u.alloc (.cells cs T)).ownsRow u.heap.size T s (.slice (some ⟨u.heap.size, 0, none⟩) n n) n cs.toList := by
  refine ⟨by simpa using h, .inr ⟨u.heap.size, n, cs, rfl, Nat.le_refl _, heapNewR _ _, Nat.le_refl _, hn, h, ?_⟩⟩
  rw [← h]
  exact List.take_of_length_le (by simp)
theorem six_cR (u : World) (a b c d e f : Value) (T : TypeId) (B : Nat) (hB : B = u.heap.size) : ∀ (j : Nat) z, [a, b, c, d, e, f][j]? = some z → (u.alloc (.cells #[a, b, c, d, e, f] T)).cell? ((⟨B, 0, none⟩ : Addr).add j) = some z := by
  subst hB
  intro j z hj
  match j, hj with
  | 0, hj => simp at hj; subst hj; simp [Addr.add]
  | 1, hj => simp at hj; subst hj; simp [Addr.add]
  | 2, hj => simp at hj; subst hj; simp [Addr.add]
  | 3, hj => simp at hj; subst hj; simp [Addr.add]
  | 4, hj => simp at hj; subst hj; simp [Addr.add]
  | 5, hj => simp at hj; subst hj; simp [Addr.add]
theorem unL_len : unL.length = 24 := by unfold unL; rw [List.length_map, nmL_len]
theorem unL_at (j : Nat) (h : j < 24) : unL[j]? = some ⟨sb (nmAt j), lnAt j⟩ := by
  unfold unL lnAt nmAt
  rw [List.getElem?_map, List.getD_eq_getElem?_getD, List.getElem?_eq_getElem (show j < nmL.length by rw [nmL_len]; omega)]
  rfl
theorem uns_all {W : World} {B : Nat} {v x : Value} {f : Nat → Value} {nm : ByteArray} {ls : List Ln} (ho : W.ownsRow B 36 2 v 25 (ucs 24 f ++ [.string nm, x])) (hl : ∀ j, j < 24 → Lns W (f j) (lnAt j)) (hx : Lns W x ls) : Uns W v (unL ++ [⟨nm, ls⟩]) := by
  have hlen : (unL ++ [(⟨nm, ls⟩ : Un)]).length = 25 := by rw [List.length_append, unL_len]; rfl
  obtain ⟨-, ao, cap, rfl, h3, h4, -, h5⟩ := Lies.owned ho
  refine ⟨ao, cap, by rw [hlen], by rw [hlen]; unfold maxLen; omega, fun _ => ?_⟩
  obtain ⟨b, off, rfl, hb, hc⟩ := h5 (by omega)
  refine ⟨b, off, fun j => if j = 24 then x else f j, rfl, hb, fun j hj => ?_⟩
  rw [hlen] at hj
  have hul := ucs_len 24 f
  by_cases e : j = 24
  · subst e
    have e1 : (unL ++ [(⟨nm, ls⟩ : Un)])[24]? = some ⟨nm, ls⟩ := by rw [List.getElem?_append_right (by rw [unL_len]; omega), unL_len]; rfl
    have e2 : (unL ++ [(⟨nm, ls⟩ : Un)])[24]'(by rw [hlen]; omega) = ⟨nm, ls⟩ := by rw [List.getElem?_eq_getElem (by rw [hlen]; omega)] at e1; exact Option.some.inj e1
    rw [e2]
    refine ⟨?_, ?_, by simpa using hx⟩
    · rw [hc (24 * 2) (by omega), List.getElem?_append_right (by omega), hul]; rfl
    · rw [Nat.add_assoc, hc (24 * 2 + 1) (by omega), List.getElem?_append_right (by omega), hul]; rfl
  · have hj2 : j < 24 := by omega
    have e1 : (unL ++ [(⟨nm, ls⟩ : Un)])[j]? = some ⟨sb (nmAt j), lnAt j⟩ := by rw [List.getElem?_append_left (by rw [unL_len]; omega)]; exact unL_at j hj2
    have e2 : (unL ++ [(⟨nm, ls⟩ : Un)])[j]'(by rw [hlen]; omega) = ⟨sb (nmAt j), lnAt j⟩ := by rw [List.getElem?_eq_getElem (by rw [hlen]; omega)] at e1; exact Option.some.inj e1
    rw [e2]
    obtain ⟨q1, q2⟩ := ucs_at f 24 j hj2
    refine ⟨?_, ?_, by show Lns W (if j = 24 then x else f j) (lnAt j); rw [if_neg e]; exact hl j hj2⟩
    · rw [hc (j * 2) (by omega), List.getElem?_append_left (by omega)]; exact q1
    · rw [Nat.add_assoc, hc (j * 2 + 1) (by omega), List.getElem?_append_left (by omega)]; show _ = some (if j = 24 then x else f j); rw [if_neg e]; exact q2
theorem own_sliceR {w : World} {B e s n : Nat} {v : Value} {cs : List Value} (h : w.ownsRow B e s v n cs) : ∃ ao cap, v = .slice ao n cap := by
  rcases h.2 with ⟨hv, h0⟩ | ⟨g, cap, cur, hv, _⟩
  · exact ⟨none, 0, by rw [hv, h0]⟩
  · exact ⟨_, _, hv⟩
theorem main_list : (⟨#[109, 97, 105, 110]⟩ : ByteArray).toList = [109, 97, 105, 110] := by rw [ByteArray.toList_eq]
end Go.Proofs.YtodfjomglgmffaaGreatDoor
