/-
  probe.Trace: the first steps of a run.
-/
import Derived.Test.YtjlbenbfmookoaaEmuY
import Derived.Test.YtjlbenbfmookoaaPrM
import Derived.Maps.AppendAt
namespace Go.Proofs.Ytjlbenbfmookoaa
open Go.RowKit
set_option linter.unusedSimpArgs false
set_option linter.unusedVariables false

theorem Try.infoShot : (Try.prog.info? 51).map (fun i => (i.zero, i.size, i.bytes)) = some (some (.agg #[.int .i64 0, .int .i64 0, .int .i64 0, .int .i64 0, .int .i64 0, .int .i64 0, .int .i64 0, .int .i64 0, .int .i64 0, .int .i64 0, .int .i64 0, .int .i64 0, .int .i64 0, .bool false, .bool false, .bool false, .bool false]), 17, 112) := by kernel_rfl
def shC (s : Sht) : List Value := s.cells.toList
theorem shC_one (s : Sht) : ∀ u ∈ shC s, u.oneCell' = true := by
  intro u hu
  simp only [shC, Sht.cells, List.mem_cons, List.not_mem_nil, or_false] at hu
  rcases hu with rfl | rfl | rfl | rfl | rfl | rfl | rfl | rfl | rfl | rfl | rfl | rfl | rfl | rfl | rfl | rfl | rfl <;> rfl
theorem cells_c16 (u : World) (l : List Value) (T : TypeId) (B : Nat) (hB : B = u.heap.size) : ∀ j x, l[j]? = some x → (u.alloc (.cells l.toArray T)).cell? ((⟨B, 0, none⟩ : Addr).add j) = some x := by
  intro j x hx
  subst hB
  have e : ((⟨u.heap.size, 0, none⟩ : Addr).add j) = ⟨u.heap.size, j, none⟩ := by unfold Addr.add; split <;> simp_all
  rw [e]
  exact (Box.new u l.toArray T).2.1 j x (by simpa using hx)
/-- The steps in memory: their row v in block b, the number in block bm. -/
structure InvT (b bm mo : Nat) (l : List Sht) (v : Value) (w : World) : Prop where
  box : Box w b [v]
  bmx : Box w bm [.int .i64 mo]
  ne : b ≠ bm
  own : w.ownsRow 0 51 17 v l.length (l.flatMap shC)
  hv : ∀ k, v.ownBlock = some k → k ≠ b ∧ k ≠ bm
  len : l.length ≤ 10000
def FootT (b bm : Nat) (v : Value) (k : Nat) : Prop := k = b ∨ k = bm ∨ v.ownBlock = some k
theorem own_lt16 {w : World} {B e s n : Nat} {v : Value} {cs : List Value} (h : w.ownsRow B e s v n cs) : ∀ k, v.ownBlock = some k → k < w.heap.size := fun k hk => by
  rcases h.2 with ⟨rfl, -⟩ | ⟨g, cap, cur, rfl, -, hg, -⟩
  · cases hk
  · have e : g = k := by simpa [Value.ownBlock] using hk
    subst e
    exact (Array.getElem?_eq_some_iff.1 hg).1
theorem InvT.keep {b bm mo : Nat} {l : List Sht} {v : Value} {u u' : World} (h : InvT b bm mo l v u) (k : Kpw (fun k => ¬ FootT b bm v k) u u') : InvT b bm mo l v u' :=
  ⟨k.box h.box (fun h => h (.inl rfl)), k.box h.bmx (fun h => h (.inr (.inl rfl))), h.ne, k.own h.own (fun c hc h => h (.inr (.inr hc))), h.hv, h.len⟩

theorem InvT.push {b bm mo : Nat} {l : List Sht} {v v3 : Value} {U w3 : World} (h : InvT b bm mo l v U) (y : Sht) (own3 : w3.ownsRow 0 51 17 v3 (l.length + 1) (l.flatMap shC ++ shC y)) (g : U.grownBy w3 v.ownBlock) (hat : v3.ownBlock = v.ownBlock ∨ v3.ownBlock = some U.heap.size) (hl : l.length < mo) (hmo : mo ≤ 10000) :
    InvT b bm mo (l ++ [y]) v3 (w3.setCell ⟨b, 0, none⟩ v3) ∧ Kpw (FootT b bm v) U (w3.setCell ⟨b, 0, none⟩ v3) ∧ (∀ k, FootT b bm v3 k → FootT b bm v k ∨ U.heap.size ≤ k) ∧ w3.cell? ⟨b, 0, none⟩ = some v ∧ w3.frozen? ⟨b, 0, none⟩ = false ∧ b < w3.heap.size := by
  have kg : Kpw (fun k => v.ownBlock = some k) U w3 := Kpw.grown g fun k h => h
  have hbv : ¬ v.ownBlock = some b := fun e => (h.hv b e).1 rfl
  have hmv : ¬ v.ownBlock = some bm := fun e => (h.hv bm e).2 rfl
  have bx := kg.box h.box hbv
  have bmx := kg.box h.bmx hmv
  have hne : ∀ k, v3.ownBlock = some k → k ≠ b ∧ k ≠ bm := fun k hk => by
    rcases hat with e | e
    · exact h.hv k (by rw [← e]; exact hk)
    · rw [e] at hk
      have e1 : U.heap.size = k := by simpa using hk
      have := h.box.1
      have := h.bmx.1
      omega
  have e1 : (l ++ [y]).flatMap shC = l.flatMap shC ++ shC y := by simp
  have e2 : (l ++ [y]).length = l.length + 1 := by simp
  refine ⟨⟨?_, bmx.other (Ne.symm h.ne), h.ne, ?_, hne, by rw [e2]; omega⟩, ?_, fun k hk => ?_, bx.2.1 0 _ rfl, bx.2.2 0, bx.1⟩
  · have := bx.set (j := 0) (u := v3) (by simp)
    exact this
  · rw [e1, e2]
    exact own_set own3 fun k hk => (hne k hk).1
  · exact (kg.mono fun k h => .inr (.inr h)).trans (Kpw.setCell (Y := FootT b bm v) w3 v3 (.inl rfl)) (fun _ h => h) fun _ h _ => h
  · rcases hk with rfl | rfl | hk
    · exact .inl (.inl rfl)
    · exact .inl (.inr (.inl rfl))
    · rcases hat with e | e
      · exact .inl (.inr (.inr (by rw [← e]; exact hk)))
      · rw [e] at hk
        have e1 : U.heap.size = k := by simpa using hk
        exact .inr (by omega)

set_option maxRecDepth 100000 in
set_option maxHeartbeats 2000000 in
theorem note_any {b bm mo : Nat} {l : List Sht} {v : Value} {u : World} (h : InvT b bm mo l v u) (x : Sht) (bb : Bool) (hmo : mo ≤ 10000) :
    Calls Try.prog 26 (#[.agg x.cells, .bool bb] ++ #[.pointer (some ⟨b, 0, none⟩), .pointer (some ⟨bm, 0, none⟩)]) u fun e u' => e = .returned (.tuple #[]) ∧ ∃ v', InvT b bm mo (tkT mo l x bb) v' u' ∧ Kpw (FootT b bm v) u u' ∧ ∀ k, FootT b bm v' k → FootT b bm v k ∨ u.heap.size ≤ k := by
  obtain ⟨i0, hi0, hz0, hz1, hz2⟩ := info_parts Try.infoShot
  have HI := hideI h
  clear h
  show Calls Try.prog 26 #[.agg x.cells, .bool bb, .pointer (some ⟨b, 0, none⟩), .pointer (some ⟨bm, 0, none⟩)] u _
  by_cases hq : bb = true ∧ l.length < mo
  · have he : tkT mo l x bb = l ++ [x] := by unfold tkT; rw [if_pos hq]
    rw [he]
    obtain ⟨rfl, hlt⟩ := hq
    have hd : decide ((l.length : Int) < (mo : Int)) = true := by simp; omega
    obtain ⟨xa, xi, xr, xc, xz, xn, xv⟩ := x
    have hB := (unhideI HI).box
    have hbl := hB.1
    have hml := (unhideI HI).bmx.1
    have s1 := hideI ((unhideI HI).keep (Kpw.of (below_a u (.cells #[.int .i64 xa, .int .i64 xi.o, .int .i64 xi.d, .int .i64 xi.s, .int .i64 xi.m, .int .i64 (xr 0), .int .i64 (xr 1), .int .i64 (xr 2), .int .i64 (xr 3), .int .i64 (xr 4), .int .i64 (xr 5), .int .i64 (xr 6), .int .i64 (xr 7), .bool xc, .bool xz, .bool xn, .bool xv] 51))))
    have ka := hideI (below_a u (.cells #[.int .i64 xa, .int .i64 xi.o, .int .i64 xi.d, .int .i64 xi.s, .int .i64 xi.m, .int .i64 (xr 0), .int .i64 (xr 1), .int .i64 (xr 2), .int .i64 (xr 3), .int .i64 (xr 4), .int .i64 (xr 5), .int .i64 (xr 6), .int .i64 (xr 7), .bool xc, .bool xz, .bool xn, .bool xv] 51))
    have sb := hideI (Box.new u #[.int .i64 xa, .int .i64 xi.o, .int .i64 xi.d, .int .i64 xi.s, .int .i64 xi.m, .int .i64 (xr 0), .int .i64 (xr 1), .int .i64 (xr 2), .int .i64 (xr 3), .int .i64 (xr 4), .int .i64 (xr 5), .int .i64 (xr 6), .int .i64 (xr 7), .bool xc, .bool xz, .bool xn, .bool xv] 51)
    have hvl := hideI (own_lt16 (unhideI HI).own)
    have hlen := (unhideI HI).len
    have hne := (unhideI HI).ne
    clear HI hB
    generalize hU1 : u.alloc (.cells #[.int .i64 xa, .int .i64 xi.o, .int .i64 xi.d, .int .i64 xi.s, .int .i64 xi.m, .int .i64 (xr 0), .int .i64 (xr 1), .int .i64 (xr 2), .int .i64 (xr 3), .int .i64 (xr 4), .int .i64 (xr 5), .int .i64 (xr 6), .int .i64 (xr 7), .bool xc, .bool xz, .bool xn, .bool xv] 51) = u1 at *
    have c0 := (unhideI s1).box.2.1 0 _ rfl
    have f0 := (unhideI s1).box.2.2
    have l0 := (unhideI s1).box.1
    have d0 := (unhideI s1).bmx.2.1 0 _ rfl
    have l1 := (unhideI s1).bmx.1
    have SBF := fun j y h => (unhideI sb).2.1 j y h
    have e0 := SBF 0 _ rfl
    have e1 := SBF 1 _ rfl
    have e2 := SBF 2 _ rfl
    have e3 := SBF 3 _ rfl
    have e4 := SBF 4 _ rfl
    have e5 := SBF 5 _ rfl
    have e6 := SBF 6 _ rfl
    have e7 := SBF 7 _ rfl
    have e8 := SBF 8 _ rfl
    have e9 := SBF 9 _ rfl
    have e10 := SBF 10 _ rfl
    have e11 := SBF 11 _ rfl
    have e12 := SBF 12 _ rfl
    have e13 := SBF 13 _ rfl
    have e14 := SBF 14 _ rfl
    have e15 := SBF 15 _ rfl
    have e16 := SBF 16 _ rfl
    clear SBF
    obtain ⟨ao, cap, rfl⟩ := own_slc (unhideI s1).own
    have s2 := hideI ((unhideI s1).keep (Kpw.of (below_a u1 (.cells (shC (⟨xa, xi, xr, xc, xz, xn, xv⟩ : Sht)).toArray 51))))
    unfold Sht.cells
    go_enter Try.func26, Try.ntmps26
    go_wp2_with (at_builtin; (refine wpList_append_own_at _ rfl (.tmp 13) (.tmp 15) 31 rfl 0 51 i0 (.agg #[.int .i64 0, .int .i64 0, .int .i64 0, .int .i64 0, .int .i64 0, .int .i64 0, .int .i64 0, .int .i64 0, .int .i64 0, .int .i64 0, .int .i64 0, .int .i64 0, .int .i64 0, .bool false, .bool false, .bool false, .bool false]) 17 112 Try.underlying31 hi0 hz0 hz1 hz2 rfl (by decide) (.slice ao l.length cap) l.length (l.flatMap shC) rfl ((unhideI s2).own) ⟨_, 0, none⟩ 1 1 (shC (⟨xa, xi, xr, xc, xz, xn, xv⟩ : Sht)) rfl rfl (cells_c16 _ (shC (⟨xa, xi, xr, xc, xz, xn, xv⟩ : Sht)) _ _ (by simp)) (shC_one _) (by unfold maxLen; omega) (by omega) (Nat.zero_le _) ?_; intro v3 w3 own3 grow3 _ hat3; obtain ⟨a3, c3, rfl⟩ := own_slc own3; have PU := (unhideI s2).push (⟨xa, xi, xr, xc, xz, xn, xv⟩ : Sht) own3 grow3 hat3 hlt hmo; have P1 := hideI PU.1; have P2 := hideI PU.2.1; have P3 := hideI PU.2.2.1; obtain ⟨cb, fb, lb⟩ := PU.2.2.2; clear own3 grow3 hat3 PU))
    go_end0
    exact ⟨rfl, _, unhideI P1, (Kpw.of (bt (unhideI ka) (below_a _ _))).trans (unhideI P2) (fun _ h => h) fun _ h _ => h, fun k hk => (unhideI P3 k hk).imp id fun h => Nat.le_trans (bt (unhideI ka) (below_a _ _)).size h⟩
  · have he : tkT mo l x bb = l := by unfold tkT; rw [if_neg hq]
    rw [he]
    have hend : ∀ v u1, InvT b bm mo l v u1 → Below u.heap.size u u1 → ∃ v', InvT b bm mo l v' u1 ∧ Kpw (FootT b bm v) u u1 ∧ ∀ k, FootT b bm v' k → FootT b bm v k ∨ u.heap.size ≤ k := fun v u1 h k => ⟨v, h, Kpw.of k, fun _ h => .inl h⟩
    cases bb with
    | false =>
      obtain ⟨xa, xi, xr, xc, xz, xn, xv⟩ := x
      have hB := (unhideI HI).box
      have hbl := hB.1
      have hml := (unhideI HI).bmx.1
      have s1 := hideI ((unhideI HI).keep (Kpw.of (below_a u (.cells #[.int .i64 xa, .int .i64 xi.o, .int .i64 xi.d, .int .i64 xi.s, .int .i64 xi.m, .int .i64 (xr 0), .int .i64 (xr 1), .int .i64 (xr 2), .int .i64 (xr 3), .int .i64 (xr 4), .int .i64 (xr 5), .int .i64 (xr 6), .int .i64 (xr 7), .bool xc, .bool xz, .bool xn, .bool xv] 51))))
      have ka := hideI (below_a u (.cells #[.int .i64 xa, .int .i64 xi.o, .int .i64 xi.d, .int .i64 xi.s, .int .i64 xi.m, .int .i64 (xr 0), .int .i64 (xr 1), .int .i64 (xr 2), .int .i64 (xr 3), .int .i64 (xr 4), .int .i64 (xr 5), .int .i64 (xr 6), .int .i64 (xr 7), .bool xc, .bool xz, .bool xn, .bool xv] 51))
      have sb := hideI (Box.new u #[.int .i64 xa, .int .i64 xi.o, .int .i64 xi.d, .int .i64 xi.s, .int .i64 xi.m, .int .i64 (xr 0), .int .i64 (xr 1), .int .i64 (xr 2), .int .i64 (xr 3), .int .i64 (xr 4), .int .i64 (xr 5), .int .i64 (xr 6), .int .i64 (xr 7), .bool xc, .bool xz, .bool xn, .bool xv] 51)
      have hvl := hideI (own_lt16 (unhideI HI).own)
      have hlen := (unhideI HI).len
      have hne := (unhideI HI).ne
      clear HI hB
      generalize hU1 : u.alloc (.cells #[.int .i64 xa, .int .i64 xi.o, .int .i64 xi.d, .int .i64 xi.s, .int .i64 xi.m, .int .i64 (xr 0), .int .i64 (xr 1), .int .i64 (xr 2), .int .i64 (xr 3), .int .i64 (xr 4), .int .i64 (xr 5), .int .i64 (xr 6), .int .i64 (xr 7), .bool xc, .bool xz, .bool xn, .bool xv] 51) = u1 at *
      have c0 := (unhideI s1).box.2.1 0 _ rfl
      have f0 := (unhideI s1).box.2.2
      have l0 := (unhideI s1).box.1
      have d0 := (unhideI s1).bmx.2.1 0 _ rfl
      have l1 := (unhideI s1).bmx.1
      have SBF := fun j y h => (unhideI sb).2.1 j y h
      have e0 := SBF 0 _ rfl
      have e1 := SBF 1 _ rfl
      have e2 := SBF 2 _ rfl
      have e3 := SBF 3 _ rfl
      have e4 := SBF 4 _ rfl
      have e5 := SBF 5 _ rfl
      have e6 := SBF 6 _ rfl
      have e7 := SBF 7 _ rfl
      have e8 := SBF 8 _ rfl
      have e9 := SBF 9 _ rfl
      have e10 := SBF 10 _ rfl
      have e11 := SBF 11 _ rfl
      have e12 := SBF 12 _ rfl
      have e13 := SBF 13 _ rfl
      have e14 := SBF 14 _ rfl
      have e15 := SBF 15 _ rfl
      have e16 := SBF 16 _ rfl
      clear SBF
      obtain ⟨ao, cap, rfl⟩ := own_slc (unhideI s1).own
      unfold Sht.cells
      go_enter Try.func26, Try.ntmps26
      go_wp2_with fail
      go_end0
      exact ⟨rfl, hend _ _ (unhideI s1) (unhideI ka)⟩
    | true =>
      have hlt : ¬ l.length < mo := fun h => hq ⟨rfl, h⟩
      have hd : decide ((l.length : Int) < (mo : Int)) = false := by simp; omega
      obtain ⟨xa, xi, xr, xc, xz, xn, xv⟩ := x
      have hB := (unhideI HI).box
      have hbl := hB.1
      have hml := (unhideI HI).bmx.1
      have s1 := hideI ((unhideI HI).keep (Kpw.of (below_a u (.cells #[.int .i64 xa, .int .i64 xi.o, .int .i64 xi.d, .int .i64 xi.s, .int .i64 xi.m, .int .i64 (xr 0), .int .i64 (xr 1), .int .i64 (xr 2), .int .i64 (xr 3), .int .i64 (xr 4), .int .i64 (xr 5), .int .i64 (xr 6), .int .i64 (xr 7), .bool xc, .bool xz, .bool xn, .bool xv] 51))))
      have ka := hideI (below_a u (.cells #[.int .i64 xa, .int .i64 xi.o, .int .i64 xi.d, .int .i64 xi.s, .int .i64 xi.m, .int .i64 (xr 0), .int .i64 (xr 1), .int .i64 (xr 2), .int .i64 (xr 3), .int .i64 (xr 4), .int .i64 (xr 5), .int .i64 (xr 6), .int .i64 (xr 7), .bool xc, .bool xz, .bool xn, .bool xv] 51))
      have sb := hideI (Box.new u #[.int .i64 xa, .int .i64 xi.o, .int .i64 xi.d, .int .i64 xi.s, .int .i64 xi.m, .int .i64 (xr 0), .int .i64 (xr 1), .int .i64 (xr 2), .int .i64 (xr 3), .int .i64 (xr 4), .int .i64 (xr 5), .int .i64 (xr 6), .int .i64 (xr 7), .bool xc, .bool xz, .bool xn, .bool xv] 51)
      have hvl := hideI (own_lt16 (unhideI HI).own)
      have hlen := (unhideI HI).len
      have hne := (unhideI HI).ne
      clear HI hB
      generalize hU1 : u.alloc (.cells #[.int .i64 xa, .int .i64 xi.o, .int .i64 xi.d, .int .i64 xi.s, .int .i64 xi.m, .int .i64 (xr 0), .int .i64 (xr 1), .int .i64 (xr 2), .int .i64 (xr 3), .int .i64 (xr 4), .int .i64 (xr 5), .int .i64 (xr 6), .int .i64 (xr 7), .bool xc, .bool xz, .bool xn, .bool xv] 51) = u1 at *
      have c0 := (unhideI s1).box.2.1 0 _ rfl
      have f0 := (unhideI s1).box.2.2
      have l0 := (unhideI s1).box.1
      have d0 := (unhideI s1).bmx.2.1 0 _ rfl
      have l1 := (unhideI s1).bmx.1
      have SBF := fun j y h => (unhideI sb).2.1 j y h
      have e0 := SBF 0 _ rfl
      have e1 := SBF 1 _ rfl
      have e2 := SBF 2 _ rfl
      have e3 := SBF 3 _ rfl
      have e4 := SBF 4 _ rfl
      have e5 := SBF 5 _ rfl
      have e6 := SBF 6 _ rfl
      have e7 := SBF 7 _ rfl
      have e8 := SBF 8 _ rfl
      have e9 := SBF 9 _ rfl
      have e10 := SBF 10 _ rfl
      have e11 := SBF 11 _ rfl
      have e12 := SBF 12 _ rfl
      have e13 := SBF 13 _ rfl
      have e14 := SBF 14 _ rfl
      have e15 := SBF 15 _ rfl
      have e16 := SBF 16 _ rfl
      clear SBF
      obtain ⟨ao, cap, rfl⟩ := own_slc (unhideI s1).own
      unfold Sht.cells
      go_enter Try.func26, Try.ntmps26
      go_wp2_with fail
      go_end0
      exact ⟨rfl, hend _ _ (unhideI s1) (unhideI ka)⟩
end Go.Proofs.Ytjlbenbfmookoaa
