/-
  probe.Hits: how often each word was come to.
-/
import Derived.Test.YtjlbenbfmookoaaEmuY
import Derived.Test.YtjlbenbfmookoaaPrM
namespace Go.Proofs.Ytjlbenbfmookoaa
open Go.RowKit
set_option linter.unusedSimpArgs false
set_option linter.unusedVariables false

/-- The numbers in memory: the slice in block b, its row rb. -/
structure InvH (b rb n : Nat) (l : List Int) (w : World) : Prop where
  box : Box w b [.slice (some ⟨rb, 0, none⟩) n n]
  row : Box w rb (l.map int1)
  ne : b ≠ rb
  len : l.length = n
  max : n ≤ 65536
def FootH (b rb : Nat) (k : Nat) : Prop := k = b ∨ k = rb
theorem InvH.keep {b rb n : Nat} {l : List Int} {u u' : World} (h : InvH b rb n l u) (k : Kpw (fun k => ¬ FootH b rb k) u u') : InvH b rb n l u' :=
  ⟨k.box h.box (fun h => h (.inl rfl)), k.box h.row (fun h => h (.inr rfl)), h.ne, h.len, h.max⟩
theorem InvH.set {b rb n k : Nat} {l : List Int} {u : World} (h : InvH b rb n l u) (hk : k < n) (y : Int) : InvH b rb n (l.set k y) (u.setCell ⟨rb, k, none⟩ (.int .i64 y)) := by
  refine ⟨h.box.other h.ne, ?_, h.ne, by simp [h.len], h.max⟩
  have := h.row.set (j := k) (u := .int .i64 y) (by simp [h.len, hk])
  rw [List.map_set]
  exact this

set_option maxRecDepth 100000 in
set_option maxHeartbeats 2000000 in
theorem count_any {b rb n : Nat} {l : List Int} {u : World} (h : InvH b rb n l u) (x : Sht) (bb : Bool) (hx : wd x.a) :
    Calls Try.prog 30 (#[.agg x.cells, .bool bb] ++ #[.pointer (some ⟨b, 0, none⟩)]) u fun e u' => e = .returned (.tuple #[]) ∧ InvH b rb n (tkH l x bb) u' ∧ Kpw (FootH b rb) u u' := by
  have HI := hideI h
  show Calls Try.prog 30 #[.agg x.cells, .bool bb, .pointer (some ⟨b, 0, none⟩)] u _
  have hlen := h.len
  have hmax := h.max
  have hbl := h.box.1
  clear h
  obtain ⟨xa, xi, xr, xc, xz, xn, xv⟩ := x
  unfold wd at hx
  dsimp only at hx
  obtain ⟨k, rfl⟩ : ∃ k : Nat, xa = k := ⟨xa.toNat, by omega⟩
  have s1 := hideI ((unhideI HI).keep (Kpw.of (below_a u (.cells #[.int .i64 (k : Int), .int .i64 xi.o, .int .i64 xi.d, .int .i64 xi.s, .int .i64 xi.m, .int .i64 (xr 0), .int .i64 (xr 1), .int .i64 (xr 2), .int .i64 (xr 3), .int .i64 (xr 4), .int .i64 (xr 5), .int .i64 (xr 6), .int .i64 (xr 7), .bool xc, .bool xz, .bool xn, .bool xv] 51))))
  have ka := hideI (below_a u (.cells #[.int .i64 (k : Int), .int .i64 xi.o, .int .i64 xi.d, .int .i64 xi.s, .int .i64 xi.m, .int .i64 (xr 0), .int .i64 (xr 1), .int .i64 (xr 2), .int .i64 (xr 3), .int .i64 (xr 4), .int .i64 (xr 5), .int .i64 (xr 6), .int .i64 (xr 7), .bool xc, .bool xz, .bool xn, .bool xv] 51))
  have sb := hideI (Box.new u #[.int .i64 (k : Int), .int .i64 xi.o, .int .i64 xi.d, .int .i64 xi.s, .int .i64 xi.m, .int .i64 (xr 0), .int .i64 (xr 1), .int .i64 (xr 2), .int .i64 (xr 3), .int .i64 (xr 4), .int .i64 (xr 5), .int .i64 (xr 6), .int .i64 (xr 7), .bool xc, .bool xz, .bool xn, .bool xv] 51)
  clear HI
  unfold Sht.cells
  generalize hU1 : u.alloc (.cells #[.int .i64 (k : Int), .int .i64 xi.o, .int .i64 xi.d, .int .i64 xi.s, .int .i64 xi.m, .int .i64 (xr 0), .int .i64 (xr 1), .int .i64 (xr 2), .int .i64 (xr 3), .int .i64 (xr 4), .int .i64 (xr 5), .int .i64 (xr 6), .int .i64 (xr 7), .bool xc, .bool xz, .bool xn, .bool xv] 51) = u1 at *
  have c0 := (unhideI s1).box.2.1 0 _ rfl
  have d0 := (unhideI sb).2.1 0 _ rfl
  have d1 := (unhideI sb).1
  have l0 := (unhideI s1).box.1
  by_cases hk : k < n
  · have he : tkH l ⟨k, xi, xr, xc, xz, xn, xv⟩ bb = l.set k (IntKind.i64.wrap (l.getD k 0 + 1)) := by unfold tkH; rw [if_pos (by show (0 : Int) ≤ k ∧ (k : Int) < l.length; omega)]; rfl
    rw [he]
    have hd : decide ((k : Int) < (n : Int)) = true := by simp; omega
    have r0 : u1.cell? ⟨rb, k, none⟩ = some (.int .i64 (l.getD k 0)) := by
      refine (unhideI s1).row.2.1 k _ ?_
      rw [List.getElem?_map, List.getD_eq_getElem?_getD, List.getElem?_eq_getElem (by omega)]; rfl
    have r1 := (unhideI s1).row.2.2
    have r2 := (unhideI s1).row.1
    generalize l.getD k 0 = y at *
    have S2 := hideI ((unhideI s1).set hk (IntKind.i64.wrap (y + 1)))
    have KK : Hid (Kpw (FootH b rb) u (u1.setCell ⟨rb, k, none⟩ (.int .i64 (IntKind.i64.wrap (y + 1))))) := (Kpw.of (unhideI ka)).trans (Kpw.setCell (Y := FootH b rb) u1 _ (.inr rfl)) (fun _ h => h) fun _ h _ => h
    generalize hY : IntKind.i64.wrap (y + 1) = Y at *
    have hY2 : wrap64 (y + 1) = Y := by rw [← hY, IntKind.wrap_i64]; first | rfl | (unfold wrap64; rfl)
    go_enter Try.func30, Try.ntmps30
    go_wp2_with fail
    go_end0
    exact ⟨rfl, unhideI S2, unhideI KK⟩
  · have he : tkH l ⟨k, xi, xr, xc, xz, xn, xv⟩ bb = l := by unfold tkH; rw [if_neg (by show ¬ ((0 : Int) ≤ k ∧ (k : Int) < l.length); omega)]
    rw [he]
    have hd : decide ((k : Int) < (n : Int)) = false := by simp; omega
    go_enter Try.func30, Try.ntmps30
    go_wp2_with fail
    go_end0
    exact ⟨rfl, unhideI s1, Kpw.of (unhideI ka)⟩
theorem looks_hits (b rb n : Nat) : Looks (σ := List Int) (γ := Unit) (fun l _ w => InvH b rb n l w) (fun _ => FootH b rb) (fun _ => false) tkH .nilFunc (.func (.func 30) #[] #[.pointer (some ⟨b, 0, none⟩)]) where
  lt := fun _ _ _ _ h hk => by rcases hk with rfl | rfl; exact h.box.1; exact h.row.1
  keep := fun _ _ _ _ h k => h.keep k
  stops := .inl ⟨rfl, fun _ => rfl⟩
  took := .inr ⟨_, _, rfl, fun _ _ => by kernel_rfl, fun s g u a b ha h => (count_any h a b ha).mono fun e u' ⟨h1, h2, h3⟩ => ⟨h1, (), h2, h3, fun _ h => .inl h⟩⟩
end Go.Proofs.Ytjlbenbfmookoaa
