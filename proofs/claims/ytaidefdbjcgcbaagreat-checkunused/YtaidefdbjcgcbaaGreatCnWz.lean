/-
  Constant expressions: what check.worked tells of them, as a plain function.
-/
import Derived.Test.YtaidefdbjcgcbaaGreatCcPz
import Derived.Test.YtaidefdbjcgcbaaGreatCcCz
import Derived.Test.YtaidefdbjcgcbaaGreatTyGz
import Derived.Test.YtaidefdbjcgcbaaGreatTyUz
import Derived.Test.YtaidefdbjcgcbaaGreatR7Hz
import Derived.Test.YtaidefdbjcgcbaaGreatClCz
namespace Go.Proofs.YtaidefdbjcgcbaaGreat
open Go.RowKit
set_option linter.unusedSimpArgs false
set_option linter.unusedVariables false

theorem u_bits9 (op : BinOp) (a b : Int) : U (bits op .u64 a b) := by
  have h := bits_within op .u64 a b
  have h1 : IntKind.u64.min = 0 := rfl
  have h2 : IntKind.u64.max = 18446744073709551615 := rfl
  unfold U
  omega
theorem u_09 : U 0 := ⟨by decide, by decide⟩
theorem u_b19 (c : Bool) : U (b1 c) := by cases c <;> exact ⟨by decide, by decide⟩
theorem u_wrk9 {k n : Int} (s : Bool) (a b : Int) (hn : IsW n) : U (wrk k s n a b).1 := by
  unfold wrk
  repeat' split
  all_goals first | exact u_cut hn _ | exact u_09 | (dsimp only; exact u_bits9 _ _ _)
theorem u_shf9 {k n : Int} (s : Bool) (a m : Int) (hn : IsW n) : U (shf k s n a m) := by
  unfold shf
  split <;> exact u_cut hn _
theorem isW_169 : IsW 16 := .inr (.inl rfl)
theorem isW_rb9 {k a b : Int} (ha : IsW a) (hb : IsW b) : IsW (rb k a b) := by
  unfold rb
  repeat' split
  · exact isW_p ha
  · exact isW_169
  · exact isW_c ha hb
theorem binP_w {k a b x : Int} {s : Bool} {y : Int} {t : Bool} (h : k ≠ 14 ∧ k ≠ 15 ∧ ¬ (16 ≤ k ∧ k ≤ 21)) : binP k a b x s y t = wrk k (cs x s y t) (cb x y) (conv a x s (cb x y)) (conv b y t (cb x y)) := by
  unfold binP
  rw [if_neg (by omega), if_neg (by omega)]
theorem binP_s {k a b x : Int} {s : Bool} {y : Int} {t : Bool} (h : k = 14 ∨ k = 15) : binP k a b x s y t = (shf k (ps x s) (pb x) (conv a x s (pb x)) (conv b y t 16), 0) := if_pos h
theorem binP_c {k a b x : Int} {s : Bool} {y : Int} {t : Bool} (h : 16 ≤ k ∧ k ≤ 21) : binP k a b x s y t = (b1 (hld k (cs x s y t) (cb x y) (conv a x s (cb x y)) (conv b y t (cb x y))), 0) := by
  unfold binP
  rw [if_neg (by omega), if_pos h]
def WdP (k a b x : Int) (s : Bool) (y : Int) (t : Bool) (r : Int × Int) : Prop := (∀ w : World, Calls Tryz.prog 88 #[.int .i64 k, .int .u64 a, .int .u64 b, .agg #[.int .i64 x, .bool s], .agg #[.int .i64 y, .bool t]] w fun e w' => e = .returned (.tuple #[.int .u64 r.1, .int .i64 r.2]) ∧ Below w.heap.size w w') ∧ U r.1
theorem wdP (k a b x : Int) (s : Bool) (y : Int) (t : Bool) (lo : 9 ≤ k) (hi : k ≤ 24) (hx : IsW x) (hy : IsW y) (ha : U a) (hb : U b) : WdP k a b x s y t (binP k a b x s y t) := by
  by_cases h1 : k = 14 ∨ k = 15
  · rw [binP_s h1]
    exact ⟨fun w => binary_shift k a b x y s t w h1 hx hy ha hb, u_shf9 (n := pb x) (ps x s) (conv a x s (pb x)) (conv b y t 16) (isW_p hx)⟩
  by_cases h2 : 16 ≤ k ∧ k ≤ 21
  · rw [binP_c h2]
    exact ⟨fun w => binary_cmp k a b x y s t w h2 hx hy ha hb, u_b19 _⟩
  · rw [binP_w (by omega)]
    exact ⟨fun w => binary_work k a b x y s t w (by unfold wkB; omega) hx hy ha hb, u_wrk9 _ _ _ (isW_c hx hy)⟩
def WdQ (k a x : Int) (s : Bool) (r : Int × Int × Bool) : Prop := (∀ w : World, Calls Tryz.prog 86 #[.int .i64 k, .int .u64 a, .agg #[.int .i64 x, .bool s]] w fun e w' => e = .returned (.tuple #[.int .u64 r.1, .agg #[.int .i64 r.2.1, .bool r.2.2], .int .i64 0]) ∧ Below w.heap.size w w') ∧ U r.1 ∧ IsW r.2.1
theorem wdQ (k a x : Int) (s : Bool) (hk : k = 6 ∨ k = 7 ∨ k = 8) (hx : IsW x) (ha : U a) : WdQ k a x s (unP k a x s) := by
  rcases hk with rfl | rfl | rfl
  · rw [show unP 6 a x s = (cut (pb x) (-conv a x s (pb x)), pb x, ps x s) from if_pos rfl]
    exact ⟨fun w => unary_neg a x s w hx ha, u_cut (isW_p hx) _, isW_p hx⟩
  · rw [show unP 7 a x s = (cut (pb x) (-conv a x s (pb x) - 1), pb x, ps x s) from by unfold unP; rw [if_neg (by decide), if_pos rfl]]
    exact ⟨fun w => unary_not a x s w hx ha, u_cut (isW_p hx) _, isW_p hx⟩
  · rw [show unP 8 a x s = (b1 (conv a x s (pb x) == 0), 16, true) from by unfold unP; rw [if_neg (by decide), if_neg (by decide)]]
    exact ⟨fun w => unary_log a x s w hx ha, u_b19 _, isW_169⟩
/-- check.worked tells this. -/
def WfC (x : Ex) (R : Int × Int × Bool × Int) : Prop :=
  (∃ V b s, WkC x V b s R.2.2.2 ∧ (R.2.2.2 = 0 → V = R.1 ∧ b = R.2.1 ∧ s = R.2.2.1)) ∧ (R.2.2.2 = 0 → U R.1 ∧ IsW R.2.1)
theorem wf_un (x x0 : Ex) (V b : Int) (s : Bool) (lo : 5 ≤ x.k) (hi : x.k ≤ 8) (cast : x.k = 5 → IsW x.b) (hk : x.kids = [x0]) (h1 : WkC x0 V b s 0) (hU : U V) (hW : IsW b) : WfC x (cnO x.k x.b x.s [(V, b, s)]) := by
  by_cases hc : x.k = 5
  · rw [show cnO x.k x.b x.s [(V, b, s)] = (conv V b s x.b, x.b, x.s, 0) from if_pos hc]
    exact ⟨⟨_, _, _, wk_one x x0 _ _ _ _ _ _ lo hk h1 (fun ka kl kc w => by rw [hc]; exact wone_cast _ _ _ _ _ _ _ _ _ _ _ (fun w => convert_any V b s x.b x.s w hW (cast hc) hU) w), fun _ => ⟨rfl, rfl, rfl⟩⟩, fun _ => ⟨u_cut (cast hc) _, cast hc⟩⟩
  · obtain ⟨q1, q3, q4⟩ := wdQ x.k V b s (by omega) hW hU
    rw [show cnO x.k x.b x.s [(V, b, s)] = ((unP x.k V b s).1, (unP x.k V b s).2.1, (unP x.k V b s).2.2, 0) from if_neg hc]
    generalize unP x.k V b s = r at *
    exact ⟨⟨_, _, _, wk_one x x0 _ _ _ _ _ _ lo hk h1 (fun ka kl kc w => wone_un _ _ _ _ _ _ _ _ _ _ _ _ _ _ (beq_eq_false_iff_ne.2 hc) q1 w), fun _ => ⟨rfl, rfl, rfl⟩⟩, fun _ => ⟨q3, q4⟩⟩
theorem wf_two (x x0 x1 : Ex) (V b V1 b1 : Int) (s s1 : Bool) (lo : 9 ≤ x.k) (hi : x.k ≤ 26) (hk : x.kids = [x0, x1]) (h1 : WkC x0 V b s 0) (hU : U V) (hW : IsW b) (g1 : WkC x1 V1 b1 s1 0) (gU : U V1) (gW : IsW b1) : WfC x (cnO x.k x.b x.s [(V, b, s), (V1, b1, s1)]) := by
  by_cases h25 : x.k = 25
  · rw [show cnO x.k x.b x.s [(V, b, s), (V1, b1, s1)] = ((if ((V != 0) && (V1 != 0)) = true then 1 else 0), 16, true, 0) from if_pos h25]
    exact ⟨⟨_, _, _, wk_two x x0 x1 _ _ _ _ _ _ 0 _ _ _ (by omega) hk h1 g1 (fun w => by rw [h25]; exact wtwo_land V b V1 b1 s s1 _ _ rfl rfl w), fun _ => ⟨rfl, rfl, rfl⟩⟩, fun _ => ⟨by split; exact ⟨by decide, by decide⟩; exact u_09, isW_169⟩⟩
  · by_cases h26 : x.k = 26
    · rw [show cnO x.k x.b x.s [(V, b, s), (V1, b1, s1)] = ((if ((V != 0) || (V1 != 0)) = true then 1 else 0), 16, true, 0) from (if_neg h25).trans (if_pos h26)]
      exact ⟨⟨_, _, _, wk_two x x0 x1 _ _ _ _ _ _ 0 _ _ _ (by omega) hk h1 g1 (fun w => by rw [h26]; exact wtwo_lor V b V1 b1 s s1 _ _ rfl rfl w), fun _ => ⟨rfl, rfl, rfl⟩⟩, fun _ => ⟨by split; exact ⟨by decide, by decide⟩; exact u_09, isW_169⟩⟩
    · have n25 : (x.k == 25) = false := beq_eq_false_iff_ne.2 h25
      have n26 : (x.k == 26) = false := beq_eq_false_iff_ne.2 h26
      obtain ⟨q1, q3⟩ := wdP x.k V V1 b s b1 s1 lo (by omega) hW gW hU gU
      rw [show cnO x.k x.b x.s [(V, b, s), (V1, b1, s1)] = ((binP x.k V V1 b s b1 s1).1, rb x.k b b1, rs x.k b s b1 s1, (binP x.k V V1 b s b1 s1).2) from (if_neg h25).trans (if_neg h26)]
      generalize binP x.k V V1 b s b1 s1 = r at *
      obtain ⟨A, E⟩ := r
      by_cases he : E = 0
      · subst he
        exact ⟨⟨_, _, _, wk_two x x0 x1 _ _ _ _ _ _ 0 _ _ _ (by omega) hk h1 g1 (fun w => wtwo_ok x.k _ _ _ _ _ _ _ _ _ n25 n26 q1 (fun w => result_any x.k b s b1 s1 w) w), fun _ => ⟨rfl, rfl, rfl⟩⟩, fun _ => ⟨q3, isW_rb9 hW gW⟩⟩
      · exact ⟨⟨_, _, _, wk_two x x0 x1 _ _ _ _ _ _ E _ _ _ (by omega) hk h1 g1 (fun w => wtwo_bad x.k _ _ _ _ _ _ _ _ n25 n26 he q1 w), fun h => absurd h he⟩, fun h => absurd h he⟩
theorem cnE_num (x : Ex) (h : x.k = 1) : cnE x = (x.n, x.b, x.s, 0) := by
  obtain ⟨k, n, b, s, nm, kids⟩ := x
  rw [cnE]
  exact if_pos h
theorem cnE_no (x : Ex) (h : x.k = 2 ∨ x.k = 3 ∨ x.k = 4) : cnE x = (0, 0, false, 8) := by
  obtain ⟨k, n, b, s, nm, kids⟩ := x
  have h : k = 2 ∨ k = 3 ∨ k = 4 := h
  rw [cnE, if_neg (by omega), if_pos h]
theorem cnE_kids (x : Ex) (h : 5 ≤ x.k) : cnE x = if (cnEs x.kids).2 ≠ 0 then (0, 0, false, (cnEs x.kids).2) else cnO x.k x.b x.s (cnEs x.kids).1 := by
  obtain ⟨k, n, b, s, nm, kids⟩ := x
  have h : 5 ≤ k := h
  rw [cnE, if_neg (by omega), if_neg (by omega)]
  rfl
theorem cnEs_cons (x : Ex) (xs : List Ex) : cnEs (x :: xs) = if (cnE x).2.2.2 ≠ 0 then ([], (cnE x).2.2.2) else if (cnEs xs).2 ≠ 0 then ([], (cnEs xs).2) else (((cnE x).1, (cnE x).2.1, (cnE x).2.2.1) :: (cnEs xs).1, 0) := by rw [cnEs]
theorem cnEs_nil : cnEs [] = ([], 0) := by rw [cnEs]
theorem wfC : ∀ x : Ex, TvE x → NmE x → WfC x (cnE x) := by
  apply Ex.ind
  intro x IH ht hn
  obtain ⟨_, lo, hi, kl, kh, num, cast, kt⟩ := ht
  obtain ⟨_, hf, kn⟩ := hn
  by_cases h1 : x.k = 1
  · rw [cnE_num x h1]
    exact ⟨⟨_, _, _, wk_num x h1, fun _ => ⟨rfl, rfl, rfl⟩⟩, fun _ => ⟨hf.1, num h1⟩⟩
  by_cases h4 : x.k = 2 ∨ x.k = 3 ∨ x.k = 4
  · rw [cnE_no x h4]
    exact ⟨⟨_, _, _, wk_no x h4, fun h => by cases h⟩, fun h => by cases h⟩
  have h5 : 5 ≤ x.k := by omega
  rw [cnE_kids x h5]
  by_cases h8 : x.k ≤ 8
  · have hlen : x.kids.length = 1 := by
      unfold kidLo at kl
      unfold kidHi at kh
      rw [if_neg (by omega), if_pos (by omega)] at kl
      rw [if_neg (by omega), if_neg (by omega), if_pos (by omega)] at kh
      omega
    obtain ⟨x0, hk⟩ := one_of hlen
    have m0 : x0 ∈ x.kids := by rw [hk]; simp
    obtain ⟨⟨V', b', s', g1, e1⟩, g3⟩ := IH x0 m0 (kt x0 m0) (kn x0 m0)
    rw [hk, cnEs_cons, cnEs_nil]
    generalize cnE x0 = R0 at *
    obtain ⟨RV, Rb, Rs, er⟩ := R0
    dsimp only at *
    by_cases he : er = 0
    · subst he
      obtain ⟨rfl, rfl, rfl⟩ := e1 rfl
      obtain ⟨hU, hW⟩ := g3 rfl
      simpa using wf_un x x0 _ _ _ h5 h8 cast hk g1 hU hW
    · simp only [ne_eq, he, not_false_eq_true, if_true]
      exact ⟨⟨_, _, _, wk_bad0 x x0 [] _ _ er _ h5 hk g1 he, fun h => absurd h he⟩, fun h => absurd h he⟩
  · have hlen : x.kids.length = 2 := by
      unfold kidLo at kl
      unfold kidHi at kh
      rw [if_neg (by omega), if_neg (by omega)] at kl
      rw [if_neg (by omega), if_neg (by omega), if_neg (by omega)] at kh
      omega
    obtain ⟨x0, x1, hk⟩ := two_of hlen
    have m0 : x0 ∈ x.kids := by rw [hk]; simp
    have m1 : x1 ∈ x.kids := by rw [hk]; simp
    obtain ⟨⟨V', b', s', g1, e1⟩, g3⟩ := IH x0 m0 (kt x0 m0) (kn x0 m0)
    obtain ⟨⟨V1', b1', s1', f1, d1⟩, f3⟩ := IH x1 m1 (kt x1 m1) (kn x1 m1)
    rw [hk, cnEs_cons, cnEs_cons, cnEs_nil]
    generalize cnE x0 = R0 at *
    generalize cnE x1 = R1 at *
    obtain ⟨RV, Rb, Rs, er⟩ := R0
    obtain ⟨SV, Sb, Ss, es⟩ := R1
    dsimp only at *
    by_cases he : er = 0
    · subst he
      obtain ⟨rfl, rfl, rfl⟩ := e1 rfl
      obtain ⟨hU, hW⟩ := g3 rfl
      by_cases he : es = 0
      · subst he
        obtain ⟨rfl, rfl, rfl⟩ := d1 rfl
        obtain ⟨fU, fW⟩ := f3 rfl
        simpa using wf_two x x0 x1 _ _ _ _ _ _ (by omega) hi hk g1 hU hW f1 fU fW
      · simp only [ne_eq, he, not_true_eq_false, not_false_eq_true, if_true, if_false]
        exact ⟨⟨_, _, _, wk_bad1 x x0 x1 _ _ _ _ es _ _ h5 hk g1 f1 he, fun h => absurd h he⟩, fun h => absurd h he⟩
    · simp only [ne_eq, he, not_false_eq_true, if_true]
      exact ⟨⟨_, _, _, wk_bad0 x x0 [x1] _ _ er _ h5 hk g1 he, fun h => absurd h he⟩, fun h => absurd h he⟩
end Go.Proofs.YtaidefdbjcgcbaaGreat

/-
  Programs as a whole: a function's name, a variable of all.
-/
namespace Go.Proofs.YtaidefdbjcgcbaaGreat
open Go.RowKit Go.Maps Go.Great
set_option linter.unusedSimpArgs false
set_option linter.unusedVariables false

theorem BoxC.grown {w w' : World} {b fb n : Nat} {cs : Array Value} {T : TypeId} {q : ByteArray → Option Value} (h : BoxC w b cs T) (hM : Mv w fb n q) (g : w.grownBy w' (some fb)) : BoxC w' b cs T := by
  refine ⟨(g.block b h.lt (fun e => ?_)).trans h.1, h.2⟩
  injection e with e
  subst e
  obtain ⟨es, c, h1⟩ := hM.at
  rw [h.1] at h1
  cases h1

set_option maxRecDepth 100000 in
set_option maxHeartbeats 1000000 in
theorem addF_no {H : Nat} {w0 w : World} {nb vb fb nv nf : Nat} {E : Nev} {wd : Int} (h : Ng H w0 w nb vb fb nv nf E wd) (f : Fn8) (pa sa : Option Addr) (pc sc : Nat) (hn : f.nm.size ≤ maxLen) (ht : E.taken f.nm = true) :
    Calls Tryz.prog 12 #[.pointer (some ⟨nb, 0, none⟩), .agg #[.string f.nm, .int .i64 f.b, .bool f.s, .slice pa f.params.length pc, .slice sa f.body.length sc]] w fun e w' => e = .returned (.int .i64 7) ∧ Below H w0 w' := by
  have ka := below_a w (.cells #[.string f.nm, .int .i64 f.b, .bool f.s, .slice pa f.params.length pc, .slice sa f.body.length sc] 41)
  have S := hideI (h.step ka)
  have CT := taken_any (h.step ka) f.nm hn
  rw [ht] at CT
  have CT := hideI CT
  have hle := hideI h.le
  clear h ka ht
  go_enter Tryz.func12, Tryz.ntmps12
  go_wp2_with fail
  refine (unhideI CT).mono ?_
  rintro e w1 ⟨rfl, k1⟩
  have K := hideI ((unhideI S).step k1).k
  clear CT S k1
  go_wp2_with fail
  go_ret
  exact ⟨rfl, unhideI K⟩
set_option maxRecDepth 100000 in
set_option maxHeartbeats 1000000 in
theorem addF_yes {H : Nat} {w0 w : World} {nb vb fb nv nf : Nat} {E : Nev} {wd : Int} (h : Ng H w0 w nb vb fb nv nf E wd) (f : Fn8) (pa sa : Option Addr) (pc sc : Nat) (hn : f.nm.size ≤ maxLen) (hl : nf < maxLen) (ht : E.taken f.nm = false) :
    Calls Tryz.prog 12 #[.pointer (some ⟨nb, 0, none⟩), .agg #[.string f.nm, .int .i64 f.b, .bool f.s, .slice pa f.params.length pc, .slice sa f.body.length sc]] w fun e w' => e = .returned (.int .i64 0) ∧ Ng H w0 w' nb vb fb nv (nf + 1) (E.addF f) wd := by
  have ka := below_a w (.cells #[.string f.nm, .int .i64 f.b, .bool f.s, .slice pa f.params.length pc, .slice sa f.body.length sc] 41)
  have S := hideI (h.step ka)
  have BX := hideI (BoxC.new w #[.string f.nm, .int .i64 f.b, .bool f.s, .slice pa f.params.length pc, .slice sa f.body.length sc] 41 (by decide))
  have CT := taken_any (h.step ka) f.nm hn
  rw [ht] at CT
  have CT := hideI CT
  clear h ka ht
  go_enter Tryz.func12, Tryz.ntmps12
  go_wp2_with fail
  refine (unhideI CT).mono ?_
  rintro e w1 ⟨rfl, k1⟩
  have S1 := hideI ((unhideI S).step k1)
  have BX1 := hideI ((unhideI BX).step k1)
  clear CT S k1 BX
  go_wp2_with fail
  have S2 := hideI ((unhideI S1).step (Below.refl _ _).drew)
  have BX2 := hideI ((unhideI BX1).step (Below.refl _ _).drew)
  have hsb := (unhideI S1).bx.lt
  clear S1 BX1
  obtain ⟨q, hq1, hq2⟩ := (unhideI S2).f
  have a1 := box_cells (unhideI S2).bx 1 _ rfl
  obtain ⟨c0, c1, c2, c3, c4⟩ := five_at (unhideI BX2).box
  refine reg_start (fun W => W.cell? ⟨nb, 1, none⟩ = some (.map (some fb)) ∧ W.cell? ⟨w.heap.size, 0, none⟩ = some (.string f.nm) ∧ W.cell? ⟨w.heap.size, 1, none⟩ = some (.int .i64 f.b) ∧ W.cell? ⟨w.heap.size, 2, none⟩ = some (.bool f.s) ∧ W.cell? ⟨w.heap.size, 3, none⟩ = some (.slice pa f.params.length pc) ∧ W.cell? ⟨w.heap.size, 4, none⟩ = some (.slice sa f.body.length sc)) (by kernel_rfl) ?_
  generalize w1.drew = W8 at *
  have CL := hideI (show W8.cell? ⟨nb, 1, none⟩ = some (.map (some fb)) ∧ W8.cell? ⟨w.heap.size, 0, none⟩ = some (.string f.nm) ∧ W8.cell? ⟨w.heap.size, 1, none⟩ = some (.int .i64 f.b) ∧ W8.cell? ⟨w.heap.size, 2, none⟩ = some (.bool f.s) ∧ W8.cell? ⟨w.heap.size, 3, none⟩ = some (.slice pa f.params.length pc) ∧ W8.cell? ⟨w.heap.size, 4, none⟩ = some (.slice sa f.body.length sc) from ⟨a1, c0, c1, c2, c3, c4⟩)
  have HQ1 := hideI hq1
  have HQ2 := hideI hq2
  clear hq1 hq2
  clear a1 c0 c1 c2 c3 c4
  refine reg_seg 0 7 1 (by kernel_rfl) (by decide) (by kernel_rfl) (by kernel_rfl) (fun _ _ _ _ _ h => h) ?_
  simp only [List.take_succ_cons, List.take_zero, List.drop_succ_cons, List.drop_zero]
  repeat (refine wpSteady_step (fun K hK => ?_); go_simp; first | (refine steady_of ?_ (fun W hW => ?_) (hK _ ?_); rotate_left; (obtain ⟨d0, d1, d2, d3, d4, d5⟩ := hW; go_simp; first | done | rfl); clear hK K) | (refine hK _ ?_; clear hK K))
  refine wpSteady_nil ?_
  refine reg_one 7 0 (by kernel_rfl) (by kernel_rfl) (unhideI CL) ?_
  simp only [List.take_succ_cons, List.take_zero, List.drop_succ_cons, List.drop_zero]
  go_wp2_with (at_mapUpdate; refine wpList_putVv rfl (.tmp 12) (.tmp 14) (.tmp 15) 45 41 rfl Tryz.underlying45 fb nf _ rfl (unhideI HQ1) hl f.nm rfl hn (.agg #[.string f.nm, .int .i64 f.b, .bool f.s, .slice pa f.params.length pc, .slice sa f.body.length sc]) rfl ?_; intro w9 m9 g9; have S9 := hideI ((unhideI S2).addF (unhideI HQ2) m9 g9); have B9 := hideI ((unhideI BX2).grown (unhideI HQ1) g9); clear m9 g9)
  first | refine next_nil ?_ | refine next_go ?_
  have b1 := box_cells (unhideI S9).bx 1 _ rfl
  obtain ⟨e0, e1, e2, e3, e4⟩ := five_at (unhideI B9).box
  refine reg_end (by kernel_rfl) ⟨b1, e0, e1, e2, e3, e4⟩ ?_
  clear b1 e0 e1 e2 e3 e4
  go_wp2_with fail
  go_ret
  exact ⟨rfl, unhideI S9⟩
end Go.Proofs.YtaidefdbjcgcbaaGreat
