/-
  Writing: numbers; what stands ahead of a kid.
-/
import Derived.Test.YtbakhengcgclmaaGreatDoorSwCz
import Derived.Test.YtbakhengcgclmaaGreatDoorRows
import Derived.Lib.LaidTab
import Derived.Lib.LaidU8
import Derived.LaidSub
import Derived.MakeChecks
import Derived.OpenShut
import Derived.Defers
namespace Go.Proofs.YtbakhengcgclmaaGreatDoor
open Go.RowKit Go.Lib
set_option linter.unusedSimpArgs false
set_option linter.unusedVariables false

/-- What must lie in package variables, while a writer writes. -/
structure Gw (B : Nat) (w : World) : Prop where
  tab : ∃ t fr, w.heap[1]? = some (.cells ((Lib.pow10Tab.map fun z => Value.int .u64 z).toArray) t fr)
  lt : 1 < B
theorem Gw.step {B : Nat} {w w' : World} (h : Gw B w) (k : Below B w w') : Gw B w' := by
  obtain ⟨⟨t, fr, hh⟩, hl⟩ := h
  exact ⟨⟨t, fr, (k.block _ hl).trans hh⟩, hl⟩
theorem gPow8 : Tryz.prog.globalNamed "internal/strconv.uint64pow10" = some 1 := by kernel_rfl
theorem Gw.tabIs {B : Nat} {w : World} (h : Gw B w) : Lib.TabIs Tryz.prog w "internal/strconv.uint64pow10" .u64 Lib.pow10Tab := by
  obtain ⟨⟨t, fr, hh⟩, hl⟩ := h
  unfold Lib.TabIs World.var?
  simp only [gPow8, Option.bind_some, hh]
theorem decDigits_le (u : Nat) (hu : u < 18446744073709551616) : (Lib.decDigits u).length ≤ 20 := by
  rw [Lib.decDigits_length]
  by_cases h : u < 10
  · rw [Lib.nDigits_small h]; decide
  · have := Lib.numDigits_eq u (by omega) hu
    split at this <;> omega
set_option maxRecDepth 100000 in
set_option maxHeartbeats 1000000 in
theorem wnumber_any (B b n : Nat) (mv : Value) (t : List UInt8) (x : Ex) (ka : Option Addr) (kc : Nat) (w : World) (h : Wz w B b mv n t) (G : Gw B w) (hx : ExF x) (hlen : t.length + 21 ≤ 1099511627776) (hBw : B ≤ w.heap.size) : Calls Tryz.prog 107 #[.pointer (some ⟨b, 0, none⟩), .agg #[.int .i64 x.k, .int .u64 x.n, .int .i64 x.b, .bool x.s, .string x.nm, .slice ka x.kids.length kc]] w fun e w' => e = .returned (.tuple #[]) ∧ Wz w' B b mv n (t ++ (Lib.decDigits x.n.toNat ++ if x.s = true then [] else [117])) ∧ Wd B b w w' := by
  have hal := below_a w (.cells #[.int .i64 x.k, .int .u64 x.n, .int .i64 x.b, .bool x.s, .string x.nm, .slice ka x.kids.length kc] 56)
  have hlt := h.lt
  have hge := h.ge
  obtain ⟨⟨hn0, hn1⟩, -⟩ := hx
  obtain ⟨u, hu⟩ : ∃ u : Nat, x.n = (u : Int) := ⟨x.n.toNat, by omega⟩
  have hu64 : u < 18446744073709551616 := by omega
  have H := hideI (h.step hal)
  have KA := hideI (show Wd B b w (w.alloc (.cells #[.int .i64 x.k, .int .u64 x.n, .int .i64 x.b, .bool x.s, .string x.nm, .slice ka x.kids.length kc] 56)) from Wd.of hal hBw)
  have BX := (BoxT.new w #[.int .i64 x.k, .int .u64 x.n, .int .i64 x.b, .bool x.s, .string x.nm, .slice ka x.kids.length kc] 56 (by decide))
  have HG := hideI (G.step (hal.mono hBw))
  have hsz : (w.alloc (.cells #[.int .i64 x.k, .int .u64 x.n, .int .i64 x.b, .bool x.s, .string x.nm, .slice ka x.kids.length kc] 56)).heap.size = w.heap.size + 1 := by simp
  have HS := hideI hsz
  rw [hu] at *
  clear h hal G hsz
  have hdl := decDigits_le u hu64
  have eu : ((u : Nat) : Int).toNat = u := rfl
  rw [eu]
  generalize x.k = k at *
  generalize x.b = xb at *
  generalize x.s = xs at *
  generalize x.nm = nm at *
  generalize x.kids.length = kl at *
  have FU := hideI (fun W (q : Lib.TabIs Tryz.prog W "internal/strconv.uint64pow10" .u64 Lib.pow10Tab) => fmtUint_any u hu64 W q)
  generalize Lib.decDigits u = dd at *
  go_enter Tryz.func107, Tryz.ntmps107
  go_wp2_with fail
  generalize w.alloc (.cells #[.int .i64 k, .int .u64 (u : Int), .int .i64 xb, .bool xs, .string nm, .slice ka kl kc] 56) = w1 at *
  refine reg_start (fun W => W.cell? ⟨w.heap.size, 1, none⟩ = some (.int .u64 (u : Int))) (by kernel_rfl) ?_
  have HBX := hideI (show BoxT w1.drew w.heap.size #[.int .i64 k, .int .u64 (u : Int), .int .i64 xb, .bool xs, .string nm, .slice ka kl kc] 56 from BX)
  have H1 := hideI ((unhideI H).step (Below.drew (Below.refl _ _)))
  have K1 := hideI ((unhideI KA).drew)
  have G1 := hideI ((unhideI HG).step (Below.drew (Below.refl _ _)))
  have hs1 : w1.drew.heap.size = w.heap.size + 1 := unhideI HS
  clear BX H KA HS HG
  generalize w1.drew = w2 at *
  have CC := fun W (q : BoxT W w.heap.size #[.int .i64 k, .int .u64 (u : Int), .int .i64 xb, .bool xs, .string nm, .slice ka kl kc] 56) => q.box.2.1 1 _ rfl
  refine reg_seg 0 5 2 (by kernel_rfl) (by decide) (by kernel_rfl) (by kernel_rfl) (fun _ _ _ _ _ h => h) ?_
  simp only [List.take_succ_cons, List.take_zero, List.drop_succ_cons, List.drop_zero]
  repeat (refine wpSteady_step (fun K hK => ?_); go_simp; first | (refine steady_of ?_ (fun W hW => ?_) (hK _ ?_); rotate_left; (obtain y0 := hW; go_simp; first | done | rfl); clear hK K) | (refine hK _ ?_; clear hK K))
  refine wpSteady_nil ?_
  refine reg_one 5 1 (by kernel_rfl) (by kernel_rfl) (CC _ (unhideI HBX)) ?_
  simp only [List.take_succ_cons, List.take_zero, List.drop_succ_cons, List.drop_zero]
  go_wp2_with fail
  refine (unhideI FU w2 (unhideI G1).tabIs).mono ?_
  rintro e w3 ⟨rfl, k3⟩
  have H3 := hideI ((unhideI H1).step k3)
  have K3 := hideI ((unhideI K1).trans (Wd.of k3 (by omega)))
  have HB3 := hideI ((unhideI HBX).step k3)
  have hs3 : w.heap.size < w3.heap.size := (unhideI HB3).lt
  have WS := hideI (zstr_any B b n mv t ⟨dd.toArray⟩ w3 (unhideI H3) (show t.length + dd.length ≤ _ by omega) (by omega))
  clear k3 FU H1 K1 HBX H3 G1
  rw [show (⟨dd.toArray⟩ : ByteArray).data.toList = dd from rfl] at WS
  generalize (⟨dd.toArray⟩ : ByteArray) = ds at *
  go_wp2_with fail
  first | refine next_nil ?_ | refine next_go ?_
  refine reg_one 6 0 (by kernel_rfl) (by kernel_rfl) (CC _ (unhideI HB3)) ?_
  simp only [List.take_succ_cons, List.take_zero, List.drop_succ_cons, List.drop_zero]
  go_wp2_with fail
  refine (unhideI WS).mono ?_
  rintro e w4 ⟨⟨v, rfl⟩, z4, k4⟩
  have Z4 := hideI z4
  have K4 := hideI ((unhideI K3).trans k4)
  have HB4 := hideI ((unhideI HB3).wf k4.wf (by omega))
  have hs4 : w.heap.size < w4.heap.size := (unhideI HB4).lt
  have c3 := (unhideI HB4).box.2.1 3 _ rfl
  clear WS z4 k4 K3 HB3
  go_wp2_with fail
  first | refine next_nil ?_ | refine next_go ?_
  refine reg_end (by kernel_rfl) (CC _ (unhideI HB4)) ?_
  cases xs
  · have WB := hideI (zbyte_any B b n mv (t ++ dd) 117 w4 (unhideI Z4) (by simp; omega) (by omega))
    have hlt4 := (unhideI Z4).lt
    go_wp2_with fail
    refine (unhideI WB).mono ?_
    rintro e w5 ⟨⟨v, rfl⟩, z5, k5⟩
    have Z5 := hideI z5
    have K5 := hideI ((unhideI K4).trans k5)
    clear WB z5 k5
    go_wp2_with fail
    go_end0
    have z := unhideI Z5
    rw [List.append_assoc] at z
    exact ⟨rfl, z, unhideI K5⟩
  · go_wp2_with fail
    go_end0
    have z := unhideI Z4
    refine ⟨rfl, ?_, unhideI K4⟩
    simpa using z
theorem wheadOf_any (x : Ex) (kv : Value) (w : World) (hk : 5 ≤ x.k) (hk2 : x.k ≤ 8) : Calls Tryz.prog 109 #[.agg #[.int .i64 x.k, .int .u64 x.n, .int .i64 x.b, .bool x.s, .string x.nm, kv]] w fun e w' => (∃ s, e = .returned (.string s) ∧ s.data.toList = headT x.k x.b x.s ∧ s.size ≤ 12) ∧ Below w.heap.size w w' := by
  obtain ⟨k, n, b, s, nm, l⟩ := x
  simp only [Ex.k, Ex.n, Ex.b, Ex.s, Ex.nm] at *
  have k0 := below_a w (.cells #[.int .i64 k, .int .u64 n, .int .i64 b, .bool s, .string nm, kv] 56)
  have hc : k = 5 ∨ k = 6 ∨ k = 7 ∨ k = 8 := by omega
  have TN := hideI (fun W => tname_any b s W)
  have hyl := tyN_len b s
  have HT := hideI (show headT 5 b s = [40] ++ (tyN b s).data.toList ++ [41] from rfl)
  rcases hc with rfl | rfl | rfl | rfl
  rotate_left
  · go_enter Tryz.func109, Tryz.ntmps109
    go_wp2_with fail
    go_ret
    exact ⟨⟨_, rfl, rfl, by decide⟩, k0⟩
  · go_enter Tryz.func109, Tryz.ntmps109
    go_wp2_with fail
    go_ret
    exact ⟨⟨_, rfl, rfl, by decide⟩, k0⟩
  · go_enter Tryz.func109, Tryz.ntmps109
    go_wp2_with fail
    go_ret
    exact ⟨⟨_, rfl, rfl, by decide⟩, k0⟩
  · generalize tyN b s = ty at *
    have hz1 : ¬ 9223372036854775807 < 1 + ty.size := by omega
    have hz2 : ¬ 9223372036854775807 < 1 + ty.size + 1 := by omega
    go_enter Tryz.func109, Tryz.ntmps109
    go_wp2_with fail
    refine (unhideI TN _).mono ?_
    rintro e w1 ⟨rfl, k1⟩
    have K1 := hideI (bT k0 k1)
    clear TN k1 k0
    go_wp2_with fail
    go_ret
    refine ⟨⟨_, rfl, ?_, ?_⟩, unhideI K1⟩
    · rw [unhideI HT, cat_list, cat_list]
    · rw [ByteArray.size_append, ByteArray.size_append]
      have : (⟨#[40]⟩ : ByteArray).size = 1 := rfl
      have : (⟨#[41]⟩ : ByteArray).size = 1 := rfl
      omega
end Go.Proofs.YtbakhengcgclmaaGreatDoor

/-
  Writing: what the row's list gives.
-/
namespace Go.Proofs.YtbakhengcgclmaaGreatDoor
open Go.RowKit
set_option linter.unusedSimpArgs false
set_option linter.unusedVariables false

theorem heap_of_var8 {P : Program} {w : World} {n : String} {g : Nat} {cs : Array Value} (hg : P.globalNamed n = some g) (h : w.var? P n = some cs) : ∃ t fr, w.heap[g]? = some (.cells cs t fr) := by
  simp only [World.var?, hg, Option.bind_some] at h
  split at h
  · rename_i c t fr hh
    injection h with h
    subst h
    exact ⟨_, _, hh⟩
  · cases h
theorem flat_rows {α : Type} {f : α → List Value} {n : Nat} (hf : ∀ x, (f x).length = n) : ∀ (L : List α) (cs : List Value), cs.length = L.length * n → (∀ i (h : i < L.length), (cs.drop (i * n)).take n = f L[i]) → cs = L.flatMap f
  | [], cs, hl, _ => by simpa using hl
  | q :: L, cs, hl, hr => by
    have h0 := hr 0 (by simp)
    simp only [Nat.zero_mul, List.drop_zero, List.getElem_cons_zero] at h0
    have ih := flat_rows hf L (cs.drop n) (by rw [List.length_drop, hl, List.length_cons, Nat.add_mul]; omega) (fun i hi => by
      have := hr (i + 1) (by simpa using hi)
      rw [List.drop_drop]
      rw [show n + i * n = (i + 1) * n by rw [Nat.add_mul]; omega]
      simpa using this)
    rw [List.flatMap_cons, ← ih, ← h0, List.take_append_drop]
theorem cOp : Tryz.prog.cellsOf 73 = 3 := by kernel_rfl
theorem cOps : Tryz.prog.cellsOf 74 = 54 := by kernel_rfl
theorem cS8 : Tryz.prog.cellsOf 9 = 1 := by kernel_rfl
theorem cI8 : Tryz.prog.cellsOf 3 = 1 := by kernel_rfl
theorem cU8 : Tryz.prog.cellsOf 54 = 1 := by kernel_rfl
theorem cP8 : Tryz.prog.cellsOf 150 = 20 := by kernel_rfl
/-- How an operator reads. -/
def opD {H : Type} (r : List UInt8 × Int × Int) : DataW H := .agg [.lit (.string r.1), .lit (.int .i64 r.2.1), .lit (.int .i64 r.2.2)]
set_option maxRecDepth 100000 in
theorem op_of_trod {H : Type} {enc : TypeId × Value → H} {w : World} {base : Nat} {sp : Nat → Bool} {held : Bool} {fuel : Nat} {cs : List Value} {r : List UInt8 × Int × Int} {p : List MemPlace}
    (h : DataW.trod enc Tryz.prog w base sp held fuel 73 cs = some (opD r, p)) : cs = [.string ⟨r.1.toArray⟩, .int .i64 r.2.1, .int .i64 r.2.2] := by
  obtain ⟨xs, k, _, hx, hlen, hxl, hf⟩ := DataW.trod_struct Tryz.underlying73 h
  rw [cOp] at hlen
  match xs, hxl, cs, hlen with
  | [y0, y1, y2], _, [v0, v1, v2], _ =>
    have g0 := hf 0 _ rfl
    have g1 := hf 1 _ rfl
    have g2 := hf 2 _ rfl
    simp [cS8, cI8] at g0 g1 g2
    obtain ⟨z0, e0, d0, _⟩ := DataW.trod_string Tryz.underlying9 g0
    obtain ⟨z1, e1, d1, _⟩ := DataW.trod_int Tryz.underlying3 g1
    obtain ⟨z2, e2, d2, _⟩ := DataW.trod_int Tryz.underlying3 g2
    simp at e0 e1 e2
    subst e0 e1 e2 d0 d1 d2
    have h1 := congrArg Prod.fst hx
    simp [opD] at h1
    obtain ⟨q0, q1, q2⟩ := h1
    rw [q0, q1, q2]
theorem cells_of_ops {H : Type} {enc : TypeId × Value → H} {w : World} {base : Nat} {sp : Nat → Bool} {held : Bool} {fuel : Nat} {cs : List Value} {L : List (List UInt8 × Int × Int)} {p : List MemPlace}
    (h : DataW.trod enc Tryz.prog w base sp held fuel 74 cs = some (.agg (L.map opD), p)) : cs = L.flatMap fun r => [.string ⟨r.1.toArray⟩, .int .i64 r.2.1, .int .i64 r.2.2] := by
  obtain ⟨xs, m, -, hx, hl, hxl, hat⟩ := DataW.trod_array Tryz.underlying74 h
  have hxs : xs.map (·.1) = L.map fun r => (opD r : DataW H) := by
    have := congrArg Prod.fst hx
    simpa using this.symm
  have hll : L.length = 18 := by
    have := congrArg List.length hxs
    simp at this; omega
  rw [cOps] at hl
  refine flat_rows (n := 3) (fun _ => rfl) L cs (by omega) (fun i hi => ?_)
  have h1 := hat i (by omega)
  have hix : i < xs.length := by omega
  rw [List.getElem?_eq_getElem hix, cOp] at h1
  have h3 : (xs[i]).1 = opD L[i] := by
    have := congrArg (·[i]?) hxs
    simp only [List.getElem?_map, List.getElem?_eq_getElem hix, List.getElem?_eq_getElem hi, Option.map_some, Option.some.injEq] at this
    exact this
  generalize xs[i] = q at *
  obtain ⟨q1, q2⟩ := q
  dsimp only at h3
  subst h3
  exact op_of_trod h1
theorem gOps : Tryz.prog.globalNamed "pairlegal/source.operators" = some 0 := by kernel_rfl
theorem tOps : (Tryz.prog.globals[0]?).map (·.type) = some 74 := by kernel_rfl
theorem tPow8 : (Tryz.prog.globals[1]?).map (·.type) = some 150 := by kernel_rfl
theorem gop_of {L : List (String × DataW Unit)} {W : World} (hL : laidMet Tryz.prog L W) (m : ("pairlegal/source.operators", .agg (opR.map opD)) ∈ L) : Gop W := by
  obtain ⟨g, t, cs, fuel, p, a1, a2, a3, a4⟩ := Lib.laidMet.reads hL m
  obtain rfl := Option.some.inj (gOps.symm.trans a1)
  obtain rfl := Option.some.inj (tOps.symm.trans a2)
  have h := cells_of_ops a4
  obtain ⟨tk, fr, hh⟩ := heap_of_var8 gOps a3
  have e : cs = opA := Array.ext' (by rw [h]; rfl)
  exact ⟨tk, fr, by rw [hh, e]⟩
theorem gw_of {L : List (String × DataW Unit)} {W : World} (hL : laidMet Tryz.prog L W) (m : ("internal/strconv.uint64pow10", Lib.tabData .u64 Lib.pow10Tab) ∈ L) : Gw W.heap.size W := by
  obtain ⟨g, t, cs, fuel, p, a1, a2, a3, a4⟩ := Lib.laidMet.reads hL m
  obtain rfl := Option.some.inj (gPow8.symm.trans a1)
  obtain rfl := Option.some.inj (tPow8.symm.trans a2)
  have h := Lib.cells_of_tab Tryz.underlying150 Tryz.underlying54 cU8 cP8 a4
  obtain ⟨tk, fr, hh⟩ := heap_of_var8 gPow8 a3
  have e : cs = (Lib.pow10Tab.map fun z => Value.int .u64 z).toArray := Array.ext' (by rw [h])
  exact ⟨⟨tk, fr, by rw [hh, e]⟩, (Array.getElem?_eq_some_iff.1 hh).1⟩
end Go.Proofs.YtbakhengcgclmaaGreatDoor

/-
  Writing: expressions where any may stand; lists of them.
-/
namespace Go.Proofs.YtbakhengcgclmaaGreatDoor
open Go.RowKit Go.Lib
set_option linter.unusedSimpArgs false
set_option linter.unusedVariables false

/-- What an expression's kind asks of its parts. -/
structure OkX (x : Ex) : Prop where
  lo : 1 ≤ x.k
  hi : x.k ≤ 26
  kl : kidLo x.k ≤ x.kids.length
  kh : x.kids.length ≤ kidHi x.k
  nm : x.k = 2 ∨ x.k = 3 ∨ x.k = 4 → x.nm.size ≤ 32
inductive OkE : Ex → Prop
  | mk (x : Ex) (h : OkX x) (kids : ∀ y ∈ x.kids, OkE y) : OkE x
theorem OkE.x {x : Ex} (h : OkE x) : OkX x := by cases h; assumption
theorem OkE.kids {x : Ex} (h : OkE x) : ∀ y ∈ x.kids, OkE y := by cases h; assumption
theorem wName_ok {nm : ByteArray} (h : wName nm = 0) : nm.size ≤ 32 := by
  unfold wName at h
  split at h
  · rename_i hn
    unfold namN at hn
    simp at hn
    omega
  · cases h
theorem okE_of : ∀ (x : Ex) (d c : Nat), (lkE x d c).1 = 0 → OkE x := by
  apply Ex.ind
  intro x IH d c h
  rw [lkE_eq] at h
  split at h
  · rename_i h1; exact absurd h h1
  · split at h
    · cases h
    · rename_i h2
      split at h
      · rename_i h3; exact absurd h h3
      · rename_i h3
        split at h
        · cases h
        · rename_i h4
          refine .mk x ⟨by omega, by omega, by omega, by omega, fun hk => ?_⟩ ?_
          · apply wName_ok
            have h3' : wExF x.k x.n x.b x.s x.nm = 0 := by simpa using h3
            unfold wExF at h3'
            rw [if_neg (by omega), if_pos hk] at h3'
            exact h3'
          · have all : ∀ (l : List Ex), (∀ y ∈ l, ∀ d c, (lkE y d c).1 = 0 → OkE y) → ∀ d c, (lkEs l d c).1 = 0 → ∀ y ∈ l, OkE y := by
              intro l
              induction l with
              | nil => intro _ _ _ _ y hy; simp at hy
              | cons a l ih =>
                intro hI d c h y hy
                rw [lkEs_cons] at h
                by_cases e : (lkE a d c).1 = 0
                · rw [if_neg (by simpa using e)] at h
                  rcases List.mem_cons.1 hy with rfl | hy
                  · exact hI _ List.mem_cons_self _ _ e
                  · exact ih (fun z hz => hI z (List.mem_cons_of_mem _ hz)) _ _ h y hy
                · rw [if_pos e] at h; exact absurd h e
            exact all x.kids (fun y hy d c => IH y hy d c) _ _ h
/-- While a writer writes: package variables, the map of operators. -/
structure Env (B b mb : Nat) (w : World) : Prop where
  g : Gw B w
  m : w.heap[mb]? = some (.map (opE 18) 18)
  ne : mb ≠ b
  le : B ≤ w.heap.size
theorem Env.step {B b mb : Nat} {w w' : World} (h : Env B b mb w) (k : Wd B b w w') : Env B b mb w' :=
  ⟨h.g.step k.below, k.wf.block mb _ h.m h.ne (fun _ _ e => by cases e), h.ne, Nat.le_trans h.le k.wf.size⟩
theorem Env.below {B b mb : Nat} {w w' : World} (h : Env B b mb w) (k : Below w.heap.size w w') : Env B b mb w' := h.step (Wd.of k h.le)
/-- What the writer makes of an expression, wherever it lies. -/
def WEx (x : Ex) : Prop := ∀ (B b n mb least : Nat) (t : List UInt8) (kv : Value) (w : World), Wz w B b (.map (some mb)) n t → Env B b mb w → ExL B w kv x.kids → ExF x → OkE x → t.length + (shE x least).length ≤ 1000000000000 →
  Calls Tryz.prog 85 #[.pointer (some ⟨b, 0, none⟩), .agg #[.int .i64 x.k, .int .u64 x.n, .int .i64 x.b, .bool x.s, .string x.nm, kv], .int .i64 (least : Int)] w fun e w' => e = .returned (.tuple #[]) ∧ Wz w' B b (.map (some mb)) n (t ++ shE x least) ∧ Wd B b w w'
set_option maxRecDepth 100000 in
theorem wwhole_any (x : Ex) (IH : WEx x) (B b n mb : Nat) (t : List UInt8) (kv : Value) (w : World) (h : Wz w B b (.map (some mb)) n t) (E : Env B b mb w) (hk : ExL B w kv x.kids) (hf : ExF x) (ho : OkE x) (hl : t.length + (shE x 1).length ≤ 1000000000000) :
    Calls Tryz.prog 65 #[.pointer (some ⟨b, 0, none⟩), .agg #[.int .i64 x.k, .int .u64 x.n, .int .i64 x.b, .bool x.s, .string x.nm, kv]] w fun e w' => e = .returned (.tuple #[]) ∧ Wz w' B b (.map (some mb)) n (t ++ shE x 1) ∧ Wd B b w w' := by
  obtain ⟨ka, kc, rfl⟩ := hk.slice
  have hal := below_a w (.cells #[.int .i64 x.k, .int .u64 x.n, .int .i64 x.b, .bool x.s, .string x.nm, .slice ka x.kids.length kc] 56)
  have CA := hideI (IH B b n mb 1 t _ _ (h.step hal) (E.below hal) (hk.step (hal.mono E.le)) hf ho hl)
  have KA := hideI (show Wd B b w (w.alloc (.cells #[.int .i64 x.k, .int .u64 x.n, .int .i64 x.b, .bool x.s, .string x.nm, .slice ka x.kids.length kc] 56)) from Wd.of hal E.le)
  clear h E hk hf ho hl hal
  generalize shE x 1 = R at *
  go_enter Tryz.func65, Tryz.ntmps65
  go_wp2_with fail
  refine (unhideI CA).mono ?_
  rintro e w1 ⟨rfl, z1, k1⟩
  have Z1 := hideI z1
  have K1 := hideI ((unhideI KA).trans k1)
  clear CA z1 k1
  go_wp2_with fail
  go_end0
  exact ⟨rfl, unhideI Z1, unhideI K1⟩
set_option maxRecDepth 100000 in
set_option maxHeartbeats 1000000 in
theorem wplace_any (x : Ex) (IH : WEx x) (B b n mb : Nat) (t : List UInt8) (kv : Value) (w : World) (h : Wz w B b (.map (some mb)) n t) (E : Env B b mb w) (hk : ExL B w kv x.kids) (hf : ExF x) (ho : OkE x) (hl : t.length + (shE x 1).length + 2 ≤ 1000000000000) :
    Calls Tryz.prog 108 #[.pointer (some ⟨b, 0, none⟩), .agg #[.int .i64 x.k, .int .u64 x.n, .int .i64 x.b, .bool x.s, .string x.nm, kv]] w fun e w' => e = .returned (.tuple #[]) ∧ Wz w' B b (.map (some mb)) n (t ++ ([91] ++ shE x 1 ++ [93])) ∧ Wd B b w w' := by
  obtain ⟨ka, kc, rfl⟩ := hk.slice
  have hal := below_a w (.cells #[.int .i64 x.k, .int .u64 x.n, .int .i64 x.b, .bool x.s, .string x.nm, .slice ka x.kids.length kc] 56)
  have hlt := h.lt
  have hbt : b < w.heap.size := h.lt
  have W1 := hideI (zbyte_any B b n _ t 91 _ (h.step hal) (by omega) (E.below hal).le)
  have E1 := hideI (E.below hal)
  have KA := hideI (show Wd B b w (w.alloc (.cells #[.int .i64 x.k, .int .u64 x.n, .int .i64 x.b, .bool x.s, .string x.nm, .slice ka x.kids.length kc] 56)) from Wd.of hal E.le)
  have BX := hideI (BoxT.new w #[.int .i64 x.k, .int .u64 x.n, .int .i64 x.b, .bool x.s, .string x.nm, .slice ka x.kids.length kc] 56 (by decide))
  have HK := hideI (hk.step (hal.mono E.le))
  have WH := hideI (fun W t' hz hE hk' hl' => wwhole_any x IH B b n mb t' (.slice ka x.kids.length kc) W hz hE hk' hf ho hl')
  clear h E hk hf ho hal
  go_enter Tryz.func108, Tryz.ntmps108
  go_wp2_with fail
  refine (unhideI W1).mono ?_
  rintro e w1 ⟨⟨v, rfl⟩, z1, k1⟩
  have K1 := hideI ((unhideI KA).trans k1)
  have BX1 := hideI ((unhideI BX).wf k1.wf (by omega))
  have E2 := hideI ((unhideI E1).step k1)
  have CA := hideI (unhideI WH w1 (t ++ [91]) z1 (unhideI E2) ((unhideI HK).step k1.below) (by simp; omega))
  obtain ⟨q0, q1, q2, q3, q4, q5⟩ := six_at (unhideI BX1).box
  have hs1 : w.heap.size < w1.heap.size := (unhideI BX1).lt
  clear W1 z1 k1 KA BX E1 HK WH
  go_wp2_with fail
  refine (unhideI CA).mono ?_
  rintro e w2 ⟨rfl, z2, k2⟩
  have K2 := hideI ((unhideI K1).trans k2)
  have hlt2 := z2.lt
  have W3 := hideI (zbyte_any B b n _ _ 93 w2 z2 (by simp; omega) ((unhideI E2).step k2).le)
  clear CA z2 k2 K1 BX1 E2 q0 q1 q2 q3 q4 q5
  go_wp2_with fail
  refine (unhideI W3).mono ?_
  rintro e w3 ⟨⟨v, rfl⟩, z3, k3⟩
  have Z3 := hideI z3
  have K3 := hideI ((unhideI K2).trans k3)
  clear W3 z3 k3 K2
  go_wp2_with fail
  go_end0
  have z := unhideI Z3
  refine ⟨rfl, ?_, unhideI K3⟩
  simpa using z
end Go.Proofs.YtbakhengcgclmaaGreatDoor

/-
  Writing: lists of expressions.
-/
namespace Go.Proofs.YtbakhengcgclmaaGreatDoor
open Go.RowKit Go.Lib
set_option linter.unusedSimpArgs false
set_option linter.unusedVariables false

theorem joinC_snoc : ∀ (l : List (List UInt8)) (x : List UInt8), joinC (l ++ [x]) = joinC l ++ (if l.length = 0 then [] else [44, 32]) ++ x
  | [], x => by simp [joinC]
  | [y], x => by simp [joinC]
  | y :: z :: l, x => by
    have ih := joinC_snoc (z :: l) x
    show y ++ [44, 32] ++ joinC (z :: l ++ [x]) = _
    rw [ih]
    simp [joinC]
theorem joinC_pre (l : List (List UInt8)) : ∀ m : List (List UInt8), (joinC l).length ≤ (joinC (l ++ m)).length := by
  intro m
  induction m generalizing l with
  | nil => simp
  | cons a m ih =>
    have h := ih (l ++ [a])
    rw [List.append_assoc] at h
    have h2 := joinC_snoc l a
    have h3 : (joinC l).length ≤ (joinC (l ++ [a])).length := by rw [h2]; simp only [List.length_append]; omega
    exact Nat.le_trans h3 h
/-- Expressions with commas between. -/
def shC (xs : List Ex) : List UInt8 := joinC (xs.map fun x => shE x 1)
theorem shC_take (xs : List Ex) (i : Nat) (h : i < xs.length) : shC (xs.take (i + 1)) = shC (xs.take i) ++ (if i = 0 then [] else [44, 32]) ++ shE xs[i] 1 := by
  unfold shC
  rw [List.take_succ_eq_append_getElem h, List.map_append, List.map_singleton, joinC_snoc]
  simp [Nat.min_eq_left (Nat.le_of_lt h)]
theorem shC_le (xs : List Ex) (i : Nat) : (shC (xs.take i)).length ≤ (shC xs).length := by
  unfold shC
  have h := joinC_pre ((xs.take i).map fun x => shE x 1) ((xs.drop i).map fun x => shE x 1)
  rw [← List.map_append, List.take_append_drop] at h
  exact h
set_option maxRecDepth 100000 in
set_option maxHeartbeats 1000000 in
theorem wexprs_any (xs : List Ex) (IH : ∀ x ∈ xs, WEx x) (B b n mb : Nat) (t : List UInt8) (v : Value) (w : World) (h : Wz w B b (.map (some mb)) n t) (E : Env B b mb w) (hx : ExL B w v xs) (ho : ∀ x ∈ xs, OkE x) (hl : t.length + (shC xs).length ≤ 1000000000000) :
    Calls Tryz.prog 47 #[.pointer (some ⟨b, 0, none⟩), v] w fun e w' => e = .returned (.tuple #[]) ∧ Wz w' B b (.map (some mb)) n (t ++ shC xs) ∧ Wd B b w w' := by
  obtain ⟨ao, cap, rfl, hmax, -⟩ := hx.at
  have HX := hideI hx
  have HZ := hideI h
  have HE := hideI E
  have hlt := h.lt
  have HL := hideI hl
  clear h E hx
  unfold maxLen at hmax
  go_enter Tryz.func47, Tryz.ntmps47
  go_wp2_with fail
  go_loopg [8] xs.length (fun g y wr => ∃ (i : Nat), i ≤ xs.length ∧ g = xs.length - i ∧ y = .int .i64 (i : Int) ∧ Hid (Wz wr B b (.map (some mb)) n (t ++ shC (xs.take i))) ∧ Hid (Wd B b w wr))
  case atStart => exact ⟨0, Nat.zero_le _, rfl, rfl, by simpa [shC, joinC] using HZ, Wd.refl _ _ _⟩
  case round =>
    obtain ⟨i, hi, hg, rfl, Z0, K0⟩ := hrel
    generalize wr = W0 at *
    have hsz := (unhideI K0).wf.size
    by_cases hlt2 : i < xs.length
    · have hn : xs ≠ [] := by intro e; rw [e] at hlt2; simp at hlt2
      have hxw : ExL B W0 (.slice ao xs.length cap) xs := (unhideI HX).step (unhideI K0).below
      obtain ⟨ao', cap', e1, -, hat⟩ := hxw.at
      injection e1 with e1 _ e2
      subst e1 e2
      obtain ⟨b1, o1, rfl, hb1, hbw, hc1⟩ := hat hn
      obtain ⟨kv, hk, hf, x0, x1, x2, x3, x4, x5⟩ := hc1 i hlt2
      obtain ⟨ak, ck, rfl⟩ := hk.slice
      have hiI : (i : Int) < (xs.length : Int) := by omega
      have hi0 : (0 : Int) ≤ (i : Int) := by omega
      have hal := below_a W0 (.cells #[.int .i64 xs[i].k, .int .u64 xs[i].n, .int .i64 xs[i].b, .bool xs[i].s, .string xs[i].nm, .slice ak xs[i].kids.length ck] 56)
      have E0 := (unhideI HE).step (unhideI K0)
      have hlen := unhideI HL
      have ht1 := shC_le xs (i + 1)
      have ET := hideI (shC_take xs i hlt2)
      have htl : (shC (xs.take (i + 1))).length = (shC (xs.take i)).length + (if i = 0 then [] else [44, 32] : List UInt8).length + (shE xs[i] 1).length := by rw [unhideI ET]; simp only [List.length_append]
      have CM := hideI (wcomma_any B b n (.map (some mb)) (t ++ shC (xs.take i)) i _ ((unhideI Z0).step hal) (by simp; omega) (E0.below hal).le)
      have KA := hideI (show Wd B b W0 (W0.alloc (.cells #[.int .i64 xs[i].k, .int .u64 xs[i].n, .int .i64 xs[i].b, .bool xs[i].s, .string xs[i].nm, .slice ak xs[i].kids.length ck] 56)) from Wd.of hal E0.le)
      have BX := hideI (BoxT.new W0 #[.int .i64 xs[i].k, .int .u64 xs[i].n, .int .i64 xs[i].b, .bool xs[i].s, .string xs[i].nm, .slice ak xs[i].kids.length ck] 56 (by decide))
      have HK := hideI (hk.step (hal.mono E0.le))
      have E1 := hideI (E0.below hal)
      have WH := hideI (fun (W : World) (t' : List UInt8) (hz : Wz W B b (.map (some mb)) n t') (hE : Env B b mb W) (hk' : ExL B W (.slice ak xs[i].kids.length ck) xs[i].kids) (hl' : t'.length + (shE xs[i] 1).length ≤ 1000000000000) => wwhole_any xs[i] (IH xs[i] (List.getElem_mem hlt2)) B b n mb t' (.slice ak xs[i].kids.length ck) W hz hE hk' hf (ho xs[i] (List.getElem_mem hlt2)) hl')
      have hbW : b < W0.heap.size := (unhideI Z0).lt
      clear hat hc1 hxw hk hf hal E0 hn
      generalize xs[i] = y at *
      generalize shE y 1 = sy at *
      generalize shC (xs.take i) = sp at *
      go_wp2_with fail
      refine (unhideI CM).mono ?_
      rintro e w1 ⟨rfl, z1, k1⟩
      have K1 := hideI ((unhideI KA).trans k1)
      have BX1 := hideI ((unhideI BX).wf k1.wf (by omega))
      have E2 := hideI ((unhideI E1).step k1)
      have CA := hideI (unhideI WH w1 _ z1 (unhideI E2) ((unhideI HK).step k1.below) (by simp only [List.length_append]; omega))
      obtain ⟨q0, q1, q2, q3, q4, q5⟩ := six_at (unhideI BX1).box
      have hs1 : W0.heap.size < w1.heap.size := (unhideI BX1).lt
      clear CM z1 k1 KA BX E1 HK WH x0 x1 x2 x3 x4 x5
      go_wp2_with fail
      refine (unhideI CA).mono ?_
      rintro e w2 ⟨rfl, z2, k2⟩
      have Z2 := hideI z2
      have K2 := hideI ((unhideI K0).trans ((unhideI K1).trans k2))
      clear CA z2 k2 K1 BX1 E2 q0 q1 q2 q3 q4 q5
      go_wp2_with fail
      go_roundg (xs.length - (i + 1))
      case measure => omega
      case rel =>
        refine ⟨i + 1, by omega, rfl, by go_num, ?_, K2⟩
        rw [unhideI ET]
        have z := unhideI Z2
        simp only [List.append_assoc] at z ⊢
        exact z
    · have hiI : ¬ (i : Int) < (xs.length : Int) := by omega
      go_wp2_with fail
      go_end0
      have z := unhideI Z0
      rw [List.take_of_length_le (by omega)] at z
      exact ⟨rfl, z, unhideI K0⟩
end Go.Proofs.YtbakhengcgclmaaGreatDoor

/-
  Writing: a byte that is written at last (a deferred call).
-/
namespace Go.Proofs.YtbakhengcgclmaaGreatDoor
open Go.RowKit
set_option linter.unusedSimpArgs false
set_option linter.unusedVariables false

set_option maxHeartbeats 2000000 in
set_option maxRecDepth 100000 in
theorem wwriteByteD_any (B b n : Nat) (mv : Value) (t : List UInt8) (g : Option Nat) (c : UInt8) (u : FrameMode) (w : World) (h : Ww w B b mv n t g) (hlen : t.length + 1 ≤ 1099511627776) (hBw : B ≤ w.heap.size) : CallsD Tryz.prog 28 #[.pointer (some ⟨b, 0, none⟩), .int .u8 ((c.toNat : Nat) : Int)] u w fun e u' w' => u' = u ∧ ((∃ v, e = .returned v) ∧ (∃ g', Ww w' B b mv n (t ++ [c]) g') ∧ Below B w w' ∧ Kq (fun k => k = b ∨ g = some k) w w') := by
  obtain ⟨i0, hi, hz0, hz1, hz2⟩ := info_parts Tryz.infoBtw
  have CC := hideI (wcopyCheck_any B b n mv t g w h)
  go_enter_d Tryz.func28, Tryz.ntmps28
  go_wp2_with fail
  refine (unhideI CC).mono ?_
  rintro e w1 ⟨rfl, h1, k1, q1, s1, c0⟩
  have hBw1 : B ≤ w1.heap.size := by omega
  clear s1
  have HK1 := hideI k1
  have HQ1 := hideI q1
  have hlt := h1.lt
  obtain ⟨v, c1, f1, hown, hvg, hne, hB, p, hbk, hp⟩ := h1.buf
  subst hvg
  have HO := hideI hown
  have HKB := hideI hbk
  have hbl : (Lib.byteCells t).length = t.length := by simp [Lib.byteCells]
  clear CC k1 q1 h1 hown hbk h
  go_wp2_with (at_builtin; refine wpList_append_own _ rfl _ _ 34 rfl B 5 i0 (.int .u8 0) 1 1 Tryz.underlying34 hi hz0 hz1 hz2 rfl (by decide) _ _ _ rfl ((unhideI HO).alloc _) ⟨w1.heap.size, 0, none⟩ 1 1 [.int .u8 ((c.toNat : Nat) : Int)] rfl rfl (sbt_c1 _ _ _) (sbt_c2 _) (by unfold maxLen; omega) (by omega) (by simp; omega) ?_; intro v' w2 hown' hgrow _; have O2 := hideI hown'; have G2 := hideI hgrow; have hb2 : w2.heap[b]? = some (.cells #[p, v, mv, .int .i64 (n : Int)] 38 (0, 0)) := (by rw [hgrow.block b (by simp; omega) (fun e => hne e.symm), Lib.alloc_old w1 _ b hlt]; exact unhideI HKB); have d1 : w2.cell? ⟨b, 1, none⟩ = some v := (by rw [Lib.cell_of_heap hb2]; rfl); have f1 : w2.frozen? ⟨b, 1, none⟩ = false := Lib.frozen_of_heap hb2 1; have HB2 := hideI hb2; obtain ⟨ao, n', cap, rfl⟩ : ∃ ao n' cap, v' = .slice ao n' cap := (by rcases hown'.2 with ⟨hv, _⟩ | ⟨g, cap, cur, hv, _⟩; exact ⟨_, _, _, hv⟩; exact ⟨_, _, _, hv⟩); clear hown' hgrow hb2)
  go_ret
  have hk := heap_setCellw (j := 1) (x := Value.slice ao n' cap) (unhideI HB2)
  have hx := unhideI O2
  have hnb : (Value.slice ao n' cap).ownBlock ≠ some b := fun e => by
    rcases hx.2 with ⟨hv, _⟩ | ⟨g, cap', cur, hv, _, hg, _⟩
    · rw [hv] at e; simp [Value.ownBlock] at e
    · rw [hv] at e; simp [Value.ownBlock] at e; subst e
      rw [unhideI HB2] at hg
      injection hg with hg
      injection hg with _ hg _
      exact absurd hg (by decide)
  refine ⟨⟨_, rfl⟩, ⟨_, p, _, hB, hk, hp, ?_, rfl, hnb⟩, ?_, ?_⟩
  · have := own_setRw (j := 1) (x := Value.slice ao n' cap) hx hnb
    have e1 : Lib.byteCells (t ++ [c]) = Lib.byteCells t ++ [.int .u8 ((c.toNat : Nat) : Int)] := by simp [Lib.byteCells]
    have e2 : (t ++ [c]).length = t.length + 1 := by simp
    rw [e1, e2]
    exact this
  · exact (((unhideI HK1).alloc (by omega) _).grown (unhideI G2) (by simp; omega) (fun k hk => ((unhideI HO).lt k hk).1)).setCell (p := ⟨b, 1, none⟩) hB _
  · exact ((((unhideI HQ1).trans (Kq.of (X := fun _ => False) (below_a _ _)) (Z := fun k => k = b) (fun _ h => h) (fun _ h _ => h.elim)).trans (Kq.grown (X := fun k => v.ownBlock = some k) (unhideI G2) (fun _ h => h)) (Z := fun k => k = b ∨ v.ownBlock = some k) (fun _ h => .inl h) (fun _ h _ => .inr h)).trans (Kq.setCell (X := fun k => k = b) _ _ rfl) (fun _ h => h) (fun _ h _ => .inl h))
theorem zbyteD_any (B b n : Nat) (mv : Value) (t : List UInt8) (c : UInt8) (u : FrameMode) (w : World) (h : Wz w B b mv n t) (hlen : t.length + 1 ≤ 1099511627776) (hBw : B ≤ w.heap.size) : CallsD Tryz.prog 28 #[.pointer (some ⟨b, 0, none⟩), .int .u8 ((c.toNat : Nat) : Int)] u w fun e u' w' => u' = u ∧ ((∃ v, e = .returned v) ∧ Wz w' B b mv n (t ++ [c]) ∧ Wd B b w w') := by
  obtain ⟨g, h⟩ := h
  exact (wwriteByteD_any B b n mv t g c u w h hlen hBw).mono fun e u' w' ⟨h0, h1, h2, h3, h4⟩ => ⟨h0, h1, h2, h3, wf_of_kq h h4⟩
end Go.Proofs.YtbakhengcgclmaaGreatDoor
