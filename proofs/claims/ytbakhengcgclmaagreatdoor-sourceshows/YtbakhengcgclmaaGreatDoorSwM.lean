/-
  Writing: expressions of no kid, of one, and calls.
-/
import Derived.Test.YtbakhengcgclmaaGreatDoorSwKz
namespace Go.Proofs.YtbakhengcgclmaaGreatDoor
open Go.RowKit
set_option linter.unusedSimpArgs false
set_option linter.unusedVariables false

def XGo (x : Ex) (least : Nat) : Prop := ∀ (B b n mb : Nat) (t : List UInt8) (ka : Option Addr) (kc : Nat) (w : World), Wz w B b (.map (some mb)) n t → Env B b mb w → ExL B w (.slice ka x.kids.length kc) x.kids → ExF x → OkE x → t.length + (shE x least).length ≤ 1000000000000 →
  Calls Tryz.prog 85 #[.pointer (some ⟨b, 0, none⟩), .agg #[.int .i64 x.k, .int .u64 x.n, .int .i64 x.b, .bool x.s, .string x.nm, .slice ka x.kids.length kc], .int .i64 (least : Int)] w fun e w' => e = .returned (.tuple #[]) ∧ Wz w' B b (.map (some mb)) n (t ++ shE x least) ∧ Wd B b w w'
theorem wex_of {x : Ex} (h : ∀ least, XGo x least) : WEx x := by
  intro B b n mb least t kv w hz E hk hf ho hl
  obtain ⟨ka, kc, rfl⟩ := hk.slice
  exact h least B b n mb t ka kc w hz E hk hf ho hl
theorem one_kid {x : Ex} (h : OkX x) (hk : x.k = 3 ∨ (5 ≤ x.k ∧ x.k ≤ 8)) : ∃ y, x.kids = [y] := by
  have h1 := h.kl
  have h2 := h.kh
  unfold kidLo at h1
  unfold kidHi at h2
  rw [if_neg (by omega), if_pos (by omega)] at h1
  rw [if_neg (by omega), if_neg (by omega), if_pos (by omega)] at h2
  match hm : x.kids, (show x.kids.length = 1 by omega) with
  | [y], _ => exact ⟨y, rfl⟩
/-- The one kid, read. -/
theorem Xn.kid {w W : World} {B b n mb : Nat} {x y : Ex} {ka : Option Addr} {kc : Nat} {t : List UInt8} (h : Xn w W B b n mb x ka kc t) (hy : x.kids = [y]) : ∃ kb ko a0 c0, ka = some ⟨kb, ko, none⟩ ∧ kb < B ∧ kb < W.heap.size ∧ ExL B W (.slice a0 y.kids.length c0) y.kids ∧ ExF y ∧ W.cell? ⟨kb, ko, none⟩ = some (.int .i64 y.k) ∧ W.cell? ⟨kb, ko + 1, none⟩ = some (.int .u64 y.n) ∧ W.cell? ⟨kb, ko + 2, none⟩ = some (.int .i64 y.b) ∧ W.cell? ⟨kb, ko + 3, none⟩ = some (.bool y.s) ∧ W.cell? ⟨kb, ko + 4, none⟩ = some (.string y.nm) ∧ W.cell? ⟨kb, ko + 5, none⟩ = some (.slice a0 y.kids.length c0) := by
  have hk := h.hk
  rw [hy] at hk
  obtain ⟨ao, cap, e1, -, hat⟩ := hk.at
  injection e1 with e1 _ e2
  subst e1 e2
  obtain ⟨kb, ko, rfl, hkB, hkw, hc⟩ := hat (by simp)
  obtain ⟨kv0, hk0, hf0, p0, p1, p2, p3, p4, p5⟩ := hc 0 (by simp)
  simp only [List.getElem_cons_zero, Nat.zero_mul, Nat.add_zero] at *
  obtain ⟨a0, c0, rfl⟩ := hk0.slice
  exact ⟨kb, ko, a0, c0, rfl, hkB, hkw, hk0, hf0, p0, p1, p2, p3, p4, p5⟩
set_option maxRecDepth 100000 in
set_option maxHeartbeats 1000000 in
theorem wx_num (x : Ex) (hk : x.k = 1) : WEx x := wex_of fun least => by
  intro B b n mb t ka kc w h E hkx hf ho hl
  have S0 := hideI (Xn.begin h E hkx)
  have hsh : shE x least = Lib.decDigits x.n.toNat ++ (if x.s = true then [] else [117]) := by rw [shE_eq]; unfold putE; rw [if_neg (by omega), if_pos hk]
  have NA := hideI (fun (W : World) (s : Xn w W B b n mb x ka kc t) => wnumber_any B b n (.map (some mb)) t x ka kc W s.z s.e.g hf (by omega) s.e.le)
  rw [← hsh] at NA
  rw [hk] at NA
  clear hsh hl hf ho
  generalize shE x least = R at *
  have CL := hideI (fun (W : World) (t : List UInt8) (s : Xn w W B b n mb x ka kc t) => s.cls)
  rw [opL_no (by omega)] at CL
  rw [hk] at CL
  clear hkx E h
  generalize hob : (#[.int .i64 x.k, .int .u64 x.n, .int .i64 x.b, .bool x.s, .string x.nm, .slice ka x.kids.length kc] : Array Value) = ob at *
  rw [hk] at hob
  subst hob
  go_enter Tryz.func85, Tryz.ntmps85
  go_wp2_with fail
  generalize w.alloc (.cells #[.int .i64 1, .int .u64 x.n, .int .i64 x.b, .bool x.s, .string x.nm, .slice ka x.kids.length kc] 56) = W0 at *
  refine reg_start (fun W => W.cell? ⟨b, 2, none⟩ = some (.map (some mb)) ∧ W.cell? ⟨w.heap.size, 0, none⟩ = some (.int .i64 1) ∧ (Instr.lookup 31 (.map (some mb)) (.int .i64 1) true).run Tryz.prog W = .ok (.tuple #[.agg #[.string ⟨#[]⟩, .int .i64 0, .int .i64 0], .bool false]) W) (by kernel_rfl) ?_
  have S1 := hideI ((unhideI S0).drew)
  clear S0
  generalize W0.drew = W1 at *
  refine reg_seg 0 10 3 (by kernel_rfl) (by decide) (by kernel_rfl) (by kernel_rfl) (fun _ _ _ _ _ h => h) ?_
  simp only [List.take_succ_cons, List.take_zero, List.drop_succ_cons, List.drop_zero]
  repeat (refine wpSteady_step (fun K hK => ?_); go_simp; first | (refine steady_of ?_ (fun W hW => ?_) (hK _ ?_); rotate_left; (obtain ⟨y0, y1, y2⟩ := hW; go_simp; first | done | rfl); clear hK K) | (refine hK _ ?_; clear hK K))
  refine wpSteady_nil ?_
  refine reg_one 10 2 (by kernel_rfl) (by kernel_rfl) (unhideI CL W1 _ (unhideI S1)) ?_
  simp only [List.take_succ_cons, List.take_zero, List.drop_succ_cons, List.drop_zero]
  have S3 := hideI ((unhideI S1).below (below_a W1 (.cells #[.string ⟨#[]⟩, .int .i64 0, .int .i64 0] 73)))
  go_wp2_with fail
  first | refine next_nil ?_ | refine next_go ?_
  refine reg_one 11 1 (by kernel_rfl) (by kernel_rfl) (unhideI CL _ _ (unhideI S3)) ?_
  simp only [List.take_succ_cons, List.take_zero, List.drop_succ_cons, List.drop_zero]
  go_wp2_with fail
  first | refine next_nil ?_ | refine next_go ?_
  refine reg_one 12 0 (by kernel_rfl) (by kernel_rfl) (unhideI CL _ _ (unhideI S3)) ?_
  simp only [List.take_succ_cons, List.take_zero, List.drop_succ_cons, List.drop_zero]
  go_wp2_with fail
  first | refine next_nil ?_ | refine next_go ?_
  refine reg_end (by kernel_rfl) (unhideI CL _ _ (unhideI S3)) ?_
  generalize W1.alloc (.cells #[.string ⟨#[]⟩, .int .i64 0, .int .i64 0] 73) = V0 at *
  obtain ⟨q0, q1, q2, q3, q4, q5⟩ := six_at (unhideI S3).bx.box
  rw [hk] at q0
  have hs3 : w.heap.size < V0.heap.size := (unhideI S3).bx.lt
  have hb3 : b < V0.heap.size := (unhideI S3).z.lt
  clear CL S1
  have J3 := hideI (unhideI NA _ (unhideI S3))
  go_wp2_with fail
  refine (unhideI J3).mono ?_
  rintro e W4 ⟨rfl, z4, k4⟩
  have Z4 := hideI z4
  have K4 := hideI ((unhideI S3).d.trans k4)
  clear J3 z4 k4
  go_wp2_with fail
  first | go_end0 | refine bodyPost_ret (results_none rfl _ _ _) rfl ?_
  exact ⟨rfl, unhideI Z4, unhideI K4⟩
set_option maxRecDepth 100000 in
set_option maxHeartbeats 1000000 in
theorem wx_var (x : Ex) (hk : x.k = 2) : WEx x := wex_of fun least => by
  intro B b n mb t ka kc w h E hkx hf ho hl
  have S0 := hideI (Xn.begin h E hkx)
  have hsh : shE x least = x.nm.data.toList := by rw [shE_eq]; unfold putE; rw [if_neg (by omega), if_neg (by omega), if_pos hk]
  have hn32 : x.nm.size ≤ 32 := ho.x.nm (by omega)
  rw [hsh] at hl ⊢
  clear hsh hf ho
  have CL := hideI (fun (W : World) (t : List UInt8) (s : Xn w W B b n mb x ka kc t) => s.cls)
  rw [opL_no (by omega)] at CL
  rw [hk] at CL
  clear hkx E h
  generalize hob : (#[.int .i64 x.k, .int .u64 x.n, .int .i64 x.b, .bool x.s, .string x.nm, .slice ka x.kids.length kc] : Array Value) = ob at *
  rw [hk] at hob
  subst hob
  go_enter Tryz.func85, Tryz.ntmps85
  go_wp2_with fail
  generalize w.alloc (.cells #[.int .i64 2, .int .u64 x.n, .int .i64 x.b, .bool x.s, .string x.nm, .slice ka x.kids.length kc] 56) = W0 at *
  refine reg_start (fun W => W.cell? ⟨b, 2, none⟩ = some (.map (some mb)) ∧ W.cell? ⟨w.heap.size, 0, none⟩ = some (.int .i64 2) ∧ (Instr.lookup 31 (.map (some mb)) (.int .i64 2) true).run Tryz.prog W = .ok (.tuple #[.agg #[.string ⟨#[]⟩, .int .i64 0, .int .i64 0], .bool false]) W) (by kernel_rfl) ?_
  have S1 := hideI ((unhideI S0).drew)
  clear S0
  generalize W0.drew = W1 at *
  refine reg_seg 0 10 3 (by kernel_rfl) (by decide) (by kernel_rfl) (by kernel_rfl) (fun _ _ _ _ _ h => h) ?_
  simp only [List.take_succ_cons, List.take_zero, List.drop_succ_cons, List.drop_zero]
  repeat (refine wpSteady_step (fun K hK => ?_); go_simp; first | (refine steady_of ?_ (fun W hW => ?_) (hK _ ?_); rotate_left; (obtain ⟨y0, y1, y2⟩ := hW; go_simp; first | done | rfl); clear hK K) | (refine hK _ ?_; clear hK K))
  refine wpSteady_nil ?_
  refine reg_one 10 2 (by kernel_rfl) (by kernel_rfl) (unhideI CL W1 _ (unhideI S1)) ?_
  simp only [List.take_succ_cons, List.take_zero, List.drop_succ_cons, List.drop_zero]
  have S3 := hideI ((unhideI S1).below (below_a W1 (.cells #[.string ⟨#[]⟩, .int .i64 0, .int .i64 0] 73)))
  go_wp2_with fail
  first | refine next_nil ?_ | refine next_go ?_
  refine reg_one 11 1 (by kernel_rfl) (by kernel_rfl) (unhideI CL _ _ (unhideI S3)) ?_
  simp only [List.take_succ_cons, List.take_zero, List.drop_succ_cons, List.drop_zero]
  go_wp2_with fail
  first | refine next_nil ?_ | refine next_go ?_
  refine reg_one 12 0 (by kernel_rfl) (by kernel_rfl) (unhideI CL _ _ (unhideI S3)) ?_
  simp only [List.take_succ_cons, List.take_zero, List.drop_succ_cons, List.drop_zero]
  go_wp2_with fail
  first | refine next_nil ?_ | refine next_go ?_
  refine reg_end (by kernel_rfl) (unhideI CL _ _ (unhideI S3)) ?_
  generalize W1.alloc (.cells #[.string ⟨#[]⟩, .int .i64 0, .int .i64 0] 73) = V0 at *
  obtain ⟨q0, q1, q2, q3, q4, q5⟩ := six_at (unhideI S3).bx.box
  rw [hk] at q0
  have hs3 : w.heap.size < V0.heap.size := (unhideI S3).bx.lt
  have hb3 : b < V0.heap.size := (unhideI S3).z.lt
  clear CL S1
  go_wp2_with fail
  refine reg_start (fun W => W.cell? ⟨w.heap.size, 4, none⟩ = some (.string x.nm)) (by kernel_rfl) ?_
  have S4 := hideI ((unhideI S3).drew)
  clear S3 q0 q1 q2 q3 q4 q5
  generalize V0.drew = V1 at *
  refine reg_seg 0 5 1 (by kernel_rfl) (by decide) (by kernel_rfl) (by kernel_rfl) (fun _ _ _ _ _ h => h) ?_
  simp only [List.take_succ_cons, List.take_zero, List.drop_succ_cons, List.drop_zero]
  repeat (refine wpSteady_step (fun K hK => ?_); go_simp; first | (refine steady_of ?_ (fun W hW => ?_) (hK _ ?_); rotate_left; (obtain y0 := hW; go_simp; first | done | rfl); clear hK K) | (refine hK _ ?_; clear hK K))
  refine wpSteady_nil ?_
  refine reg_one 5 0 (by kernel_rfl) (by kernel_rfl) ((unhideI S4).bx.box.2.1 4 _ rfl) ?_
  simp only [List.take_succ_cons, List.take_zero, List.drop_succ_cons, List.drop_zero]
  have hb4 : b < V1.heap.size := (unhideI S4).z.lt
  have WS := hideI (zstr_any B b n _ t x.nm V1 (unhideI S4).z (by omega) (unhideI S4).e.le)
  go_wp2_with fail
  refine (unhideI WS).mono ?_
  rintro e V2 ⟨⟨v, rfl⟩, z5, k5⟩
  have S5 := hideI ((unhideI S4).next k5 z5)
  clear WS z5 k5 S4
  go_wp2_with fail
  first | refine next_nil ?_ | refine next_go ?_
  refine reg_end (by kernel_rfl) ((unhideI S5).bx.box.2.1 4 _ rfl) ?_
  obtain ⟨q0, q1, q2, q3, q4, q5⟩ := six_at (unhideI S5).bx.box
  have hs5 : w.heap.size < V2.heap.size := (unhideI S5).bx.lt
  go_wp2_with fail
  first | go_end0 | refine bodyPost_ret (results_none rfl _ _ _) rfl ?_
  exact ⟨rfl, (unhideI S5).z, (unhideI S5).d⟩
set_option maxRecDepth 100000 in
set_option maxHeartbeats 1000000 in
theorem wx_at (x : Ex) (IH : ∀ y ∈ x.kids, WEx y) (hk : x.k = 3) : WEx x := wex_of fun least => by
  intro B b n mb t ka kc w h E hkx hf ho hl
  have S0 := hideI (Xn.begin h E hkx)
  obtain ⟨y, hy⟩ := one_kid ho.x (.inl hk)
  have hsh : shE x least = x.nm.data.toList ++ ([91] ++ shE y 1 ++ [93]) := by rw [shE_eq, hy, shL_cons]; unfold putE; rw [if_neg (by omega), if_neg (by omega), if_neg (by omega), if_pos hk]; simp [kidW, hk]
  have hn32 : x.nm.size ≤ 32 := ho.x.nm (by omega)
  have hoy := ho.kids y (by rw [hy]; simp)
  have IHy := IH y (by rw [hy]; simp)
  rw [hsh] at hl ⊢
  have hnl : x.nm.data.toList.length = x.nm.size := by simp
  have hl2 : t.length + (x.nm.size + (1 + (shE y 1).length + 1)) ≤ 1000000000000 := by rw [← hnl]; simpa only [List.length_append, List.length_singleton] using hl
  have HY := hideI hy
  clear hsh hf ho IH hl hy
  have CL := hideI (fun (W : World) (t : List UInt8) (s : Xn w W B b n mb x ka kc t) => s.cls)
  rw [opL_no (by omega)] at CL
  rw [hk] at CL
  clear hkx E h
  generalize hob : (#[.int .i64 x.k, .int .u64 x.n, .int .i64 x.b, .bool x.s, .string x.nm, .slice ka x.kids.length kc] : Array Value) = ob at *
  rw [hk] at hob
  subst hob
  go_enter Tryz.func85, Tryz.ntmps85
  go_wp2_with fail
  generalize w.alloc (.cells #[.int .i64 3, .int .u64 x.n, .int .i64 x.b, .bool x.s, .string x.nm, .slice ka x.kids.length kc] 56) = W0 at *
  refine reg_start (fun W => W.cell? ⟨b, 2, none⟩ = some (.map (some mb)) ∧ W.cell? ⟨w.heap.size, 0, none⟩ = some (.int .i64 3) ∧ (Instr.lookup 31 (.map (some mb)) (.int .i64 3) true).run Tryz.prog W = .ok (.tuple #[.agg #[.string ⟨#[]⟩, .int .i64 0, .int .i64 0], .bool false]) W) (by kernel_rfl) ?_
  have S1 := hideI ((unhideI S0).drew)
  clear S0
  generalize W0.drew = W1 at *
  refine reg_seg 0 10 3 (by kernel_rfl) (by decide) (by kernel_rfl) (by kernel_rfl) (fun _ _ _ _ _ h => h) ?_
  simp only [List.take_succ_cons, List.take_zero, List.drop_succ_cons, List.drop_zero]
  repeat (refine wpSteady_step (fun K hK => ?_); go_simp; first | (refine steady_of ?_ (fun W hW => ?_) (hK _ ?_); rotate_left; (obtain ⟨y0, y1, y2⟩ := hW; go_simp; first | done | rfl); clear hK K) | (refine hK _ ?_; clear hK K))
  refine wpSteady_nil ?_
  refine reg_one 10 2 (by kernel_rfl) (by kernel_rfl) (unhideI CL W1 _ (unhideI S1)) ?_
  simp only [List.take_succ_cons, List.take_zero, List.drop_succ_cons, List.drop_zero]
  have S3 := hideI ((unhideI S1).below (below_a W1 (.cells #[.string ⟨#[]⟩, .int .i64 0, .int .i64 0] 73)))
  go_wp2_with fail
  first | refine next_nil ?_ | refine next_go ?_
  refine reg_one 11 1 (by kernel_rfl) (by kernel_rfl) (unhideI CL _ _ (unhideI S3)) ?_
  simp only [List.take_succ_cons, List.take_zero, List.drop_succ_cons, List.drop_zero]
  go_wp2_with fail
  first | refine next_nil ?_ | refine next_go ?_
  refine reg_one 12 0 (by kernel_rfl) (by kernel_rfl) (unhideI CL _ _ (unhideI S3)) ?_
  simp only [List.take_succ_cons, List.take_zero, List.drop_succ_cons, List.drop_zero]
  go_wp2_with fail
  first | refine next_nil ?_ | refine next_go ?_
  refine reg_end (by kernel_rfl) (unhideI CL _ _ (unhideI S3)) ?_
  generalize W1.alloc (.cells #[.string ⟨#[]⟩, .int .i64 0, .int .i64 0] 73) = V0 at *
  obtain ⟨q0, q1, q2, q3, q4, q5⟩ := six_at (unhideI S3).bx.box
  rw [hk] at q0
  have hs3 : w.heap.size < V0.heap.size := (unhideI S3).bx.lt
  have hb3 : b < V0.heap.size := (unhideI S3).z.lt
  clear CL S1
  go_wp2_with fail
  refine reg_start (fun W => W.cell? ⟨w.heap.size, 4, none⟩ = some (.string x.nm)) (by kernel_rfl) ?_
  have S4 := hideI ((unhideI S3).drew)
  clear S3 q0 q1 q2 q3 q4 q5
  generalize V0.drew = V1 at *
  refine reg_seg 0 5 1 (by kernel_rfl) (by decide) (by kernel_rfl) (by kernel_rfl) (fun _ _ _ _ _ h => h) ?_
  simp only [List.take_succ_cons, List.take_zero, List.drop_succ_cons, List.drop_zero]
  repeat (refine wpSteady_step (fun K hK => ?_); go_simp; first | (refine steady_of ?_ (fun W hW => ?_) (hK _ ?_); rotate_left; (obtain y0 := hW; go_simp; first | done | rfl); clear hK K) | (refine hK _ ?_; clear hK K))
  refine wpSteady_nil ?_
  refine reg_one 5 0 (by kernel_rfl) (by kernel_rfl) ((unhideI S4).bx.box.2.1 4 _ rfl) ?_
  simp only [List.take_succ_cons, List.take_zero, List.drop_succ_cons, List.drop_zero]
  have hb4 : b < V1.heap.size := (unhideI S4).z.lt
  have WS := hideI (zstr_any B b n _ t x.nm V1 (unhideI S4).z (by omega) (unhideI S4).e.le)
  go_wp2_with fail
  refine (unhideI WS).mono ?_
  rintro e V2 ⟨⟨v, rfl⟩, z5, k5⟩
  have S5 := hideI ((unhideI S4).next k5 z5)
  clear WS z5 k5 S4
  go_wp2_with fail
  first | refine next_nil ?_ | refine next_go ?_
  refine reg_end (by kernel_rfl) ((unhideI S5).bx.box.2.1 4 _ rfl) ?_
  obtain ⟨q0, q1, q2, q3, q4, q5⟩ := six_at (unhideI S5).bx.box
  have hs5 : w.heap.size < V2.heap.size := (unhideI S5).bx.lt
  obtain ⟨kb, ko, a0, c0, hka, hkB, hkw, hk0, hf0, p0, p1, p2, p3, p4, p5⟩ := (unhideI S5).kid (unhideI HY)
  have PL := hideI (wplace_any y IHy B b n mb _ _ V2 (unhideI S5).z (unhideI S5).e hk0 hf0 hoy (by simp only [List.length_append]; omega))
  rw [unhideI HY, hka] at q5
  simp only [List.length_singleton] at q5
  clear hk0
  go_wp2_with fail
  refine (unhideI PL).mono ?_
  rintro e V3 ⟨rfl, z6, k6⟩
  have Z6 := hideI z6
  have K6 := hideI ((unhideI S5).d.trans k6)
  clear PL z6 k6
  go_wp2_with fail
  first | go_end0 | refine bodyPost_ret (results_none rfl _ _ _) rfl ?_
  have z := unhideI Z6
  rw [List.append_assoc] at z
  exact ⟨rfl, z, unhideI K6⟩
theorem shL_one (f : Nat → Nat) (hf : ∀ i, f i = 1) : ∀ (xs : List Ex) (i : Nat), shL f xs i = xs.map fun y => shE y 1
  | [], i => by rw [shL]; rfl
  | y :: xs, i => by rw [shL_cons, shL_one f hf xs (i + 1), hf]; rfl
set_option maxRecDepth 100000 in
set_option maxHeartbeats 1000000 in
theorem wx_call (x : Ex) (IH : ∀ y ∈ x.kids, WEx y) (hk : x.k = 4) : WEx x := wex_of fun least => by
  intro B b n mb t ka kc w h E hkx hf ho hl
  have S0 := hideI (Xn.begin h E hkx)
  have hsh : shE x least = x.nm.data.toList ++ [40] ++ shC x.kids ++ [41] := by rw [shE_eq]; unfold putE; rw [if_neg (by omega), if_neg (by omega), if_neg (by omega), if_neg (by omega), if_pos hk, shL_one _ (fun i => by simp [kidW, hk])]; rfl
  have hn32 : x.nm.size ≤ 32 := ho.x.nm (by omega)
  have hoy := ho.kids
  rw [hsh] at hl ⊢
  have hnl : x.nm.data.toList.length = x.nm.size := by simp
  have hl2 : t.length + (x.nm.size + 1 + (shC x.kids).length + 1) ≤ 1000000000000 := by rw [← hnl]; simpa only [List.length_append, List.length_singleton] using hl
  have hz1 : ¬ 9223372036854775807 < x.nm.size + 1 := by omega
  clear hsh hf ho hl
  have CL := hideI (fun (W : World) (t : List UInt8) (s : Xn w W B b n mb x ka kc t) => s.cls)
  rw [opL_no (by omega)] at CL
  rw [hk] at CL
  clear hkx E h
  generalize hob : (#[.int .i64 x.k, .int .u64 x.n, .int .i64 x.b, .bool x.s, .string x.nm, .slice ka x.kids.length kc] : Array Value) = ob at *
  rw [hk] at hob
  subst hob
  go_enter Tryz.func85, Tryz.ntmps85
  go_wp2_with fail
  generalize w.alloc (.cells #[.int .i64 4, .int .u64 x.n, .int .i64 x.b, .bool x.s, .string x.nm, .slice ka x.kids.length kc] 56) = W0 at *
  refine reg_start (fun W => W.cell? ⟨b, 2, none⟩ = some (.map (some mb)) ∧ W.cell? ⟨w.heap.size, 0, none⟩ = some (.int .i64 4) ∧ (Instr.lookup 31 (.map (some mb)) (.int .i64 4) true).run Tryz.prog W = .ok (.tuple #[.agg #[.string ⟨#[]⟩, .int .i64 0, .int .i64 0], .bool false]) W) (by kernel_rfl) ?_
  have S1 := hideI ((unhideI S0).drew)
  clear S0
  generalize W0.drew = W1 at *
  refine reg_seg 0 10 3 (by kernel_rfl) (by decide) (by kernel_rfl) (by kernel_rfl) (fun _ _ _ _ _ h => h) ?_
  simp only [List.take_succ_cons, List.take_zero, List.drop_succ_cons, List.drop_zero]
  repeat (refine wpSteady_step (fun K hK => ?_); go_simp; first | (refine steady_of ?_ (fun W hW => ?_) (hK _ ?_); rotate_left; (obtain ⟨y0, y1, y2⟩ := hW; go_simp; first | done | rfl); clear hK K) | (refine hK _ ?_; clear hK K))
  refine wpSteady_nil ?_
  refine reg_one 10 2 (by kernel_rfl) (by kernel_rfl) (unhideI CL W1 _ (unhideI S1)) ?_
  simp only [List.take_succ_cons, List.take_zero, List.drop_succ_cons, List.drop_zero]
  have S3 := hideI ((unhideI S1).below (below_a W1 (.cells #[.string ⟨#[]⟩, .int .i64 0, .int .i64 0] 73)))
  go_wp2_with fail
  first | refine next_nil ?_ | refine next_go ?_
  refine reg_one 11 1 (by kernel_rfl) (by kernel_rfl) (unhideI CL _ _ (unhideI S3)) ?_
  simp only [List.take_succ_cons, List.take_zero, List.drop_succ_cons, List.drop_zero]
  go_wp2_with fail
  first | refine next_nil ?_ | refine next_go ?_
  refine reg_one 12 0 (by kernel_rfl) (by kernel_rfl) (unhideI CL _ _ (unhideI S3)) ?_
  simp only [List.take_succ_cons, List.take_zero, List.drop_succ_cons, List.drop_zero]
  go_wp2_with fail
  first | refine next_nil ?_ | refine next_go ?_
  refine reg_end (by kernel_rfl) (unhideI CL _ _ (unhideI S3)) ?_
  generalize W1.alloc (.cells #[.string ⟨#[]⟩, .int .i64 0, .int .i64 0] 73) = V0 at *
  obtain ⟨q0, q1, q2, q3, q4, q5⟩ := six_at (unhideI S3).bx.box
  rw [hk] at q0
  have hs3 : w.heap.size < V0.heap.size := (unhideI S3).bx.lt
  have hb3 : b < V0.heap.size := (unhideI S3).z.lt
  clear CL S1
  go_wp2_with fail
  refine reg_start (fun W => W.cell? ⟨w.heap.size, 4, none⟩ = some (.string x.nm)) (by kernel_rfl) ?_
  have S4 := hideI ((unhideI S3).drew)
  clear S3 q0 q1 q2 q3 q4 q5
  generalize V0.drew = V1 at *
  refine reg_seg 0 6 1 (by kernel_rfl) (by decide) (by kernel_rfl) (by kernel_rfl) (fun _ _ _ _ _ h => h) ?_
  simp only [List.take_succ_cons, List.take_zero, List.drop_succ_cons, List.drop_zero]
  repeat (refine wpSteady_step (fun K hK => ?_); go_simp; first | (refine steady_of ?_ (fun W hW => ?_) (hK _ ?_); rotate_left; (obtain y0 := hW; go_simp; first | done | rfl); clear hK K) | (refine hK _ ?_; clear hK K))
  refine wpSteady_nil ?_
  refine reg_one 6 0 (by kernel_rfl) (by kernel_rfl) ((unhideI S4).bx.box.2.1 4 _ rfl) ?_
  simp only [List.take_succ_cons, List.take_zero, List.drop_succ_cons, List.drop_zero]
  have hb4 : b < V1.heap.size := (unhideI S4).z.lt
  have WS := hideI (zstr_any B b n _ t (x.nm ++ ⟨#[40]⟩) V1 (unhideI S4).z (by rw [ByteArray.size_append]; have : (⟨#[40]⟩ : ByteArray).size = 1 := rfl; omega) (unhideI S4).e.le)
  go_wp2_with fail
  refine (unhideI WS).mono ?_
  rintro e V2 ⟨⟨v, rfl⟩, z5, k5⟩
  have S5 := hideI ((unhideI S4).next k5 z5)
  clear WS z5 k5 S4
  go_wp2_with fail
  first | refine next_nil ?_ | refine next_go ?_
  refine reg_end (by kernel_rfl) ((unhideI S5).bx.box.2.1 4 _ rfl) ?_
  obtain ⟨q0, q1, q2, q3, q4, q5⟩ := six_at (unhideI S5).bx.box
  have hs5 : w.heap.size < V2.heap.size := (unhideI S5).bx.lt
  have CE := hideI (wexprs_any x.kids IH B b n mb _ _ V2 (unhideI S5).z (unhideI S5).e (unhideI S5).hk hoy (by rw [cat_list]; simp only [List.length_append]; show _ + (_ + 1) + _ ≤ _; omega))
  go_wp2_with fail
  refine (unhideI CE).mono ?_
  rintro e V3 ⟨rfl, z6, k6⟩
  have hb6 := z6.lt
  have K6 := hideI ((unhideI S5).d.trans k6)
  have WB := hideI (zbyte_any B b n _ _ 41 V3 z6 (by rw [cat_list]; simp only [List.length_append]; show _ + (_ + 1) + _ + 1 ≤ _; omega) ((unhideI S5).e.step k6).le)
  clear CE z6 k6
  go_wp2_with fail
  refine (unhideI WB).mono ?_
  rintro e V4 ⟨⟨v, rfl⟩, z7, k7⟩
  have Z7 := hideI z7
  have K7 := hideI ((unhideI K6).trans k7)
  clear WB z7 k7
  go_wp2_with fail
  first | go_end0 | refine bodyPost_ret (results_none rfl _ _ _) rfl ?_
  have z := unhideI Z7
  rw [cat_list] at z
  refine ⟨rfl, ?_, unhideI K7⟩
  simpa using z
set_option maxRecDepth 100000 in
set_option maxHeartbeats 1000000 in
theorem wx_head5 (x : Ex) (IH : ∀ y ∈ x.kids, WEx y) (hk : x.k = 5) : WEx x := wex_of fun least => by
  intro B b n mb t ka kc w h E hkx hf ho hl
  have S0 := hideI (Xn.begin h E hkx)
  obtain ⟨y, hy⟩ := one_kid ho.x (.inr (by omega))
  have hsh : shE x least = headT x.k x.b x.s ++ shE y 11 := by rw [shE_eq, hy, shL_cons]; unfold putE; rw [if_neg (by omega), if_neg (by omega), if_neg (by omega), if_neg (by omega), if_neg (by omega)]; simp [kidW, hk]
  have hoy := ho.kids y (by rw [hy]; simp)
  have IHy := IH y (by rw [hy]; simp)
  rw [hsh] at hl ⊢
  have hl2 : t.length + ((headT x.k x.b x.s).length + (shE y 11).length) ≤ 1000000000000 := by simpa only [List.length_append] using hl
  have HO := hideI (fun W => wheadOf_any x (.slice ka x.kids.length kc) W (by omega) (by omega))
  have HY := hideI hy
  clear hsh hf ho IH hl hy
  generalize headT x.k x.b x.s = hd at *
  rw [hk] at HO
  have CL := hideI (fun (W : World) (t : List UInt8) (s : Xn w W B b n mb x ka kc t) => s.cls)
  rw [opL_no (by omega)] at CL
  rw [hk] at CL
  clear hkx E h
  generalize hob : (#[.int .i64 x.k, .int .u64 x.n, .int .i64 x.b, .bool x.s, .string x.nm, .slice ka x.kids.length kc] : Array Value) = ob at *
  rw [hk] at hob
  subst hob
  go_enter Tryz.func85, Tryz.ntmps85
  go_wp2_with fail
  generalize w.alloc (.cells #[.int .i64 5, .int .u64 x.n, .int .i64 x.b, .bool x.s, .string x.nm, .slice ka x.kids.length kc] 56) = W0 at *
  refine reg_start (fun W => W.cell? ⟨b, 2, none⟩ = some (.map (some mb)) ∧ W.cell? ⟨w.heap.size, 0, none⟩ = some (.int .i64 5) ∧ (Instr.lookup 31 (.map (some mb)) (.int .i64 5) true).run Tryz.prog W = .ok (.tuple #[.agg #[.string ⟨#[]⟩, .int .i64 0, .int .i64 0], .bool false]) W) (by kernel_rfl) ?_
  have S1 := hideI ((unhideI S0).drew)
  clear S0
  generalize W0.drew = W1 at *
  refine reg_seg 0 10 3 (by kernel_rfl) (by decide) (by kernel_rfl) (by kernel_rfl) (fun _ _ _ _ _ h => h) ?_
  simp only [List.take_succ_cons, List.take_zero, List.drop_succ_cons, List.drop_zero]
  repeat (refine wpSteady_step (fun K hK => ?_); go_simp; first | (refine steady_of ?_ (fun W hW => ?_) (hK _ ?_); rotate_left; (obtain ⟨y0, y1, y2⟩ := hW; go_simp; first | done | rfl); clear hK K) | (refine hK _ ?_; clear hK K))
  refine wpSteady_nil ?_
  refine reg_one 10 2 (by kernel_rfl) (by kernel_rfl) (unhideI CL W1 _ (unhideI S1)) ?_
  simp only [List.take_succ_cons, List.take_zero, List.drop_succ_cons, List.drop_zero]
  have S3 := hideI ((unhideI S1).below (below_a W1 (.cells #[.string ⟨#[]⟩, .int .i64 0, .int .i64 0] 73)))
  go_wp2_with fail
  first | refine next_nil ?_ | refine next_go ?_
  refine reg_one 11 1 (by kernel_rfl) (by kernel_rfl) (unhideI CL _ _ (unhideI S3)) ?_
  simp only [List.take_succ_cons, List.take_zero, List.drop_succ_cons, List.drop_zero]
  go_wp2_with fail
  first | refine next_nil ?_ | refine next_go ?_
  refine reg_one 12 0 (by kernel_rfl) (by kernel_rfl) (unhideI CL _ _ (unhideI S3)) ?_
  simp only [List.take_succ_cons, List.take_zero, List.drop_succ_cons, List.drop_zero]
  go_wp2_with fail
  first | refine next_nil ?_ | refine next_go ?_
  refine reg_end (by kernel_rfl) (unhideI CL _ _ (unhideI S3)) ?_
  generalize W1.alloc (.cells #[.string ⟨#[]⟩, .int .i64 0, .int .i64 0] 73) = V0 at *
  obtain ⟨q0, q1, q2, q3, q4, q5⟩ := six_at (unhideI S3).bx.box
  rw [hk] at q0
  have hs3 : w.heap.size < V0.heap.size := (unhideI S3).bx.lt
  have hb3 : b < V0.heap.size := (unhideI S3).z.lt
  clear CL S1
  go_wp2_with fail
  refine reg_start (fun W => W.cell? ⟨w.heap.size, 0, none⟩ = some (.int .i64 5) ∧ W.cell? ⟨w.heap.size, 1, none⟩ = some (.int .u64 x.n) ∧ W.cell? ⟨w.heap.size, 2, none⟩ = some (.int .i64 x.b) ∧ W.cell? ⟨w.heap.size, 3, none⟩ = some (.bool x.s) ∧ W.cell? ⟨w.heap.size, 4, none⟩ = some (.string x.nm) ∧ W.cell? ⟨w.heap.size, 5, none⟩ = some (.slice ka x.kids.length kc)) (by kernel_rfl) ?_
  have CC := hideI (fun (W : World) (t' : List UInt8) (s : Xn w W B b n mb x ka kc t') => six_at s.bx.box)
  rw [hk] at CC
  have S4 := hideI ((unhideI S3).drew)
  clear S3 q0 q1 q2 q3 q4 q5
  generalize V0.drew = V1 at *
  refine reg_seg 0 4 2 (by kernel_rfl) (by decide) (by kernel_rfl) (by kernel_rfl) (fun _ _ _ _ _ h => h) ?_
  simp only [List.take_succ_cons, List.take_zero, List.drop_succ_cons, List.drop_zero]
  repeat (refine wpSteady_step (fun K hK => ?_); go_simp; first | (refine steady_of ?_ (fun W hW => ?_) (hK _ ?_); rotate_left; (obtain ⟨y0, y1, y2, y3, y4, y5⟩ := hW; go_simp; first | done | rfl); clear hK K) | (refine hK _ ?_; clear hK K))
  refine wpSteady_nil ?_
  refine reg_one 4 1 (by kernel_rfl) (by kernel_rfl) (unhideI CC _ _ (unhideI S4)) ?_
  simp only [List.take_succ_cons, List.take_zero, List.drop_succ_cons, List.drop_zero]
  have hb4 : b < V1.heap.size := (unhideI S4).z.lt
  go_wp2_with fail
  refine (unhideI HO _).mono ?_
  rintro e V2 ⟨⟨hs, rfl, hhs, hhl⟩, k5⟩
  have S5 := hideI ((unhideI S4).below k5)
  have WS := hideI (zstr_any B b n _ t hs V2 (unhideI S5).z (by omega) (unhideI S5).e.le)
  rw [hhs] at WS
  have hb5 : b < V2.heap.size := (unhideI S5).z.lt
  clear k5 S4 HO
  go_wp2_with fail
  first | refine next_nil ?_ | refine next_go ?_
  refine reg_one 5 0 (by kernel_rfl) (by kernel_rfl) (unhideI CC _ _ (unhideI S5)) ?_
  simp only [List.take_succ_cons, List.take_zero, List.drop_succ_cons, List.drop_zero]
  go_wp2_with fail
  refine (unhideI WS).mono ?_
  rintro e V3 ⟨⟨v, rfl⟩, z6, k6⟩
  have S6 := hideI ((unhideI S5).next k6 z6)
  clear WS z6 k6 S5
  go_wp2_with fail
  first | refine next_nil ?_ | refine next_go ?_
  refine reg_end (by kernel_rfl) (unhideI CC _ _ (unhideI S6)) ?_
  obtain ⟨q0, q1, q2, q3, q4, q5⟩ := six_at (unhideI S6).bx.box
  have hs6 : w.heap.size < V3.heap.size := (unhideI S6).bx.lt
  obtain ⟨kb, ko, a0, c0, hka, hkB, hkw, hk0, hf0, p0, p1, p2, p3, p4, p5⟩ := (unhideI S6).kid (unhideI HY)
  have PL := hideI (IHy B b n mb 11 _ _ V3 (unhideI S6).z (unhideI S6).e hk0 hf0 hoy (by simp only [List.length_append]; omega))
  rw [unhideI HY, hka] at q5
  simp only [List.length_singleton] at q5
  clear hk0
  go_wp2_with fail
  refine (unhideI PL).mono ?_
  rintro e V4 ⟨rfl, z7, k7⟩
  have Z7 := hideI z7
  have K7 := hideI ((unhideI S6).d.trans k7)
  clear PL z7 k7
  go_wp2_with fail
  first | go_end0 | refine bodyPost_ret (results_none rfl _ _ _) rfl ?_
  have z := unhideI Z7
  rw [List.append_assoc] at z
  exact ⟨rfl, z, unhideI K7⟩
set_option maxRecDepth 100000 in
set_option maxHeartbeats 1000000 in
theorem wx_head6 (x : Ex) (IH : ∀ y ∈ x.kids, WEx y) (hk : x.k = 6) : WEx x := wex_of fun least => by
  intro B b n mb t ka kc w h E hkx hf ho hl
  have S0 := hideI (Xn.begin h E hkx)
  obtain ⟨y, hy⟩ := one_kid ho.x (.inr (by omega))
  have hsh : shE x least = headT x.k x.b x.s ++ shE y 11 := by rw [shE_eq, hy, shL_cons]; unfold putE; rw [if_neg (by omega), if_neg (by omega), if_neg (by omega), if_neg (by omega), if_neg (by omega)]; simp [kidW, hk]
  have hoy := ho.kids y (by rw [hy]; simp)
  have IHy := IH y (by rw [hy]; simp)
  rw [hsh] at hl ⊢
  have hl2 : t.length + ((headT x.k x.b x.s).length + (shE y 11).length) ≤ 1000000000000 := by simpa only [List.length_append] using hl
  have HO := hideI (fun W => wheadOf_any x (.slice ka x.kids.length kc) W (by omega) (by omega))
  have HY := hideI hy
  clear hsh hf ho IH hl hy
  generalize headT x.k x.b x.s = hd at *
  rw [hk] at HO
  have CL := hideI (fun (W : World) (t : List UInt8) (s : Xn w W B b n mb x ka kc t) => s.cls)
  rw [opL_no (by omega)] at CL
  rw [hk] at CL
  clear hkx E h
  generalize hob : (#[.int .i64 x.k, .int .u64 x.n, .int .i64 x.b, .bool x.s, .string x.nm, .slice ka x.kids.length kc] : Array Value) = ob at *
  rw [hk] at hob
  subst hob
  go_enter Tryz.func85, Tryz.ntmps85
  go_wp2_with fail
  generalize w.alloc (.cells #[.int .i64 6, .int .u64 x.n, .int .i64 x.b, .bool x.s, .string x.nm, .slice ka x.kids.length kc] 56) = W0 at *
  refine reg_start (fun W => W.cell? ⟨b, 2, none⟩ = some (.map (some mb)) ∧ W.cell? ⟨w.heap.size, 0, none⟩ = some (.int .i64 6) ∧ (Instr.lookup 31 (.map (some mb)) (.int .i64 6) true).run Tryz.prog W = .ok (.tuple #[.agg #[.string ⟨#[]⟩, .int .i64 0, .int .i64 0], .bool false]) W) (by kernel_rfl) ?_
  have S1 := hideI ((unhideI S0).drew)
  clear S0
  generalize W0.drew = W1 at *
  refine reg_seg 0 10 3 (by kernel_rfl) (by decide) (by kernel_rfl) (by kernel_rfl) (fun _ _ _ _ _ h => h) ?_
  simp only [List.take_succ_cons, List.take_zero, List.drop_succ_cons, List.drop_zero]
  repeat (refine wpSteady_step (fun K hK => ?_); go_simp; first | (refine steady_of ?_ (fun W hW => ?_) (hK _ ?_); rotate_left; (obtain ⟨y0, y1, y2⟩ := hW; go_simp; first | done | rfl); clear hK K) | (refine hK _ ?_; clear hK K))
  refine wpSteady_nil ?_
  refine reg_one 10 2 (by kernel_rfl) (by kernel_rfl) (unhideI CL W1 _ (unhideI S1)) ?_
  simp only [List.take_succ_cons, List.take_zero, List.drop_succ_cons, List.drop_zero]
  have S3 := hideI ((unhideI S1).below (below_a W1 (.cells #[.string ⟨#[]⟩, .int .i64 0, .int .i64 0] 73)))
  go_wp2_with fail
  first | refine next_nil ?_ | refine next_go ?_
  refine reg_one 11 1 (by kernel_rfl) (by kernel_rfl) (unhideI CL _ _ (unhideI S3)) ?_
  simp only [List.take_succ_cons, List.take_zero, List.drop_succ_cons, List.drop_zero]
  go_wp2_with fail
  first | refine next_nil ?_ | refine next_go ?_
  refine reg_one 12 0 (by kernel_rfl) (by kernel_rfl) (unhideI CL _ _ (unhideI S3)) ?_
  simp only [List.take_succ_cons, List.take_zero, List.drop_succ_cons, List.drop_zero]
  go_wp2_with fail
  first | refine next_nil ?_ | refine next_go ?_
  refine reg_end (by kernel_rfl) (unhideI CL _ _ (unhideI S3)) ?_
  generalize W1.alloc (.cells #[.string ⟨#[]⟩, .int .i64 0, .int .i64 0] 73) = V0 at *
  obtain ⟨q0, q1, q2, q3, q4, q5⟩ := six_at (unhideI S3).bx.box
  rw [hk] at q0
  have hs3 : w.heap.size < V0.heap.size := (unhideI S3).bx.lt
  have hb3 : b < V0.heap.size := (unhideI S3).z.lt
  clear CL S1
  go_wp2_with fail
  refine reg_start (fun W => W.cell? ⟨w.heap.size, 0, none⟩ = some (.int .i64 6) ∧ W.cell? ⟨w.heap.size, 1, none⟩ = some (.int .u64 x.n) ∧ W.cell? ⟨w.heap.size, 2, none⟩ = some (.int .i64 x.b) ∧ W.cell? ⟨w.heap.size, 3, none⟩ = some (.bool x.s) ∧ W.cell? ⟨w.heap.size, 4, none⟩ = some (.string x.nm) ∧ W.cell? ⟨w.heap.size, 5, none⟩ = some (.slice ka x.kids.length kc)) (by kernel_rfl) ?_
  have CC := hideI (fun (W : World) (t' : List UInt8) (s : Xn w W B b n mb x ka kc t') => six_at s.bx.box)
  rw [hk] at CC
  have S4 := hideI ((unhideI S3).drew)
  clear S3 q0 q1 q2 q3 q4 q5
  generalize V0.drew = V1 at *
  refine reg_seg 0 4 2 (by kernel_rfl) (by decide) (by kernel_rfl) (by kernel_rfl) (fun _ _ _ _ _ h => h) ?_
  simp only [List.take_succ_cons, List.take_zero, List.drop_succ_cons, List.drop_zero]
  repeat (refine wpSteady_step (fun K hK => ?_); go_simp; first | (refine steady_of ?_ (fun W hW => ?_) (hK _ ?_); rotate_left; (obtain ⟨y0, y1, y2, y3, y4, y5⟩ := hW; go_simp; first | done | rfl); clear hK K) | (refine hK _ ?_; clear hK K))
  refine wpSteady_nil ?_
  refine reg_one 4 1 (by kernel_rfl) (by kernel_rfl) (unhideI CC _ _ (unhideI S4)) ?_
  simp only [List.take_succ_cons, List.take_zero, List.drop_succ_cons, List.drop_zero]
  have hb4 : b < V1.heap.size := (unhideI S4).z.lt
  go_wp2_with fail
  refine (unhideI HO _).mono ?_
  rintro e V2 ⟨⟨hs, rfl, hhs, hhl⟩, k5⟩
  have S5 := hideI ((unhideI S4).below k5)
  have WS := hideI (zstr_any B b n _ t hs V2 (unhideI S5).z (by omega) (unhideI S5).e.le)
  rw [hhs] at WS
  have hb5 : b < V2.heap.size := (unhideI S5).z.lt
  clear k5 S4 HO
  go_wp2_with fail
  first | refine next_nil ?_ | refine next_go ?_
  refine reg_one 5 0 (by kernel_rfl) (by kernel_rfl) (unhideI CC _ _ (unhideI S5)) ?_
  simp only [List.take_succ_cons, List.take_zero, List.drop_succ_cons, List.drop_zero]
  go_wp2_with fail
  refine (unhideI WS).mono ?_
  rintro e V3 ⟨⟨v, rfl⟩, z6, k6⟩
  have S6 := hideI ((unhideI S5).next k6 z6)
  clear WS z6 k6 S5
  go_wp2_with fail
  first | refine next_nil ?_ | refine next_go ?_
  refine reg_end (by kernel_rfl) (unhideI CC _ _ (unhideI S6)) ?_
  obtain ⟨q0, q1, q2, q3, q4, q5⟩ := six_at (unhideI S6).bx.box
  have hs6 : w.heap.size < V3.heap.size := (unhideI S6).bx.lt
  obtain ⟨kb, ko, a0, c0, hka, hkB, hkw, hk0, hf0, p0, p1, p2, p3, p4, p5⟩ := (unhideI S6).kid (unhideI HY)
  have PL := hideI (IHy B b n mb 11 _ _ V3 (unhideI S6).z (unhideI S6).e hk0 hf0 hoy (by simp only [List.length_append]; omega))
  rw [unhideI HY, hka] at q5
  simp only [List.length_singleton] at q5
  clear hk0
  go_wp2_with fail
  refine (unhideI PL).mono ?_
  rintro e V4 ⟨rfl, z7, k7⟩
  have Z7 := hideI z7
  have K7 := hideI ((unhideI S6).d.trans k7)
  clear PL z7 k7
  go_wp2_with fail
  first | go_end0 | refine bodyPost_ret (results_none rfl _ _ _) rfl ?_
  have z := unhideI Z7
  rw [List.append_assoc] at z
  exact ⟨rfl, z, unhideI K7⟩
set_option maxRecDepth 100000 in
set_option maxHeartbeats 1000000 in
theorem wx_head7 (x : Ex) (IH : ∀ y ∈ x.kids, WEx y) (hk : x.k = 7) : WEx x := wex_of fun least => by
  intro B b n mb t ka kc w h E hkx hf ho hl
  have S0 := hideI (Xn.begin h E hkx)
  obtain ⟨y, hy⟩ := one_kid ho.x (.inr (by omega))
  have hsh : shE x least = headT x.k x.b x.s ++ shE y 11 := by rw [shE_eq, hy, shL_cons]; unfold putE; rw [if_neg (by omega), if_neg (by omega), if_neg (by omega), if_neg (by omega), if_neg (by omega)]; simp [kidW, hk]
  have hoy := ho.kids y (by rw [hy]; simp)
  have IHy := IH y (by rw [hy]; simp)
  rw [hsh] at hl ⊢
  have hl2 : t.length + ((headT x.k x.b x.s).length + (shE y 11).length) ≤ 1000000000000 := by simpa only [List.length_append] using hl
  have HO := hideI (fun W => wheadOf_any x (.slice ka x.kids.length kc) W (by omega) (by omega))
  have HY := hideI hy
  clear hsh hf ho IH hl hy
  generalize headT x.k x.b x.s = hd at *
  rw [hk] at HO
  have CL := hideI (fun (W : World) (t : List UInt8) (s : Xn w W B b n mb x ka kc t) => s.cls)
  rw [opL_no (by omega)] at CL
  rw [hk] at CL
  clear hkx E h
  generalize hob : (#[.int .i64 x.k, .int .u64 x.n, .int .i64 x.b, .bool x.s, .string x.nm, .slice ka x.kids.length kc] : Array Value) = ob at *
  rw [hk] at hob
  subst hob
  go_enter Tryz.func85, Tryz.ntmps85
  go_wp2_with fail
  generalize w.alloc (.cells #[.int .i64 7, .int .u64 x.n, .int .i64 x.b, .bool x.s, .string x.nm, .slice ka x.kids.length kc] 56) = W0 at *
  refine reg_start (fun W => W.cell? ⟨b, 2, none⟩ = some (.map (some mb)) ∧ W.cell? ⟨w.heap.size, 0, none⟩ = some (.int .i64 7) ∧ (Instr.lookup 31 (.map (some mb)) (.int .i64 7) true).run Tryz.prog W = .ok (.tuple #[.agg #[.string ⟨#[]⟩, .int .i64 0, .int .i64 0], .bool false]) W) (by kernel_rfl) ?_
  have S1 := hideI ((unhideI S0).drew)
  clear S0
  generalize W0.drew = W1 at *
  refine reg_seg 0 10 3 (by kernel_rfl) (by decide) (by kernel_rfl) (by kernel_rfl) (fun _ _ _ _ _ h => h) ?_
  simp only [List.take_succ_cons, List.take_zero, List.drop_succ_cons, List.drop_zero]
  repeat (refine wpSteady_step (fun K hK => ?_); go_simp; first | (refine steady_of ?_ (fun W hW => ?_) (hK _ ?_); rotate_left; (obtain ⟨y0, y1, y2⟩ := hW; go_simp; first | done | rfl); clear hK K) | (refine hK _ ?_; clear hK K))
  refine wpSteady_nil ?_
  refine reg_one 10 2 (by kernel_rfl) (by kernel_rfl) (unhideI CL W1 _ (unhideI S1)) ?_
  simp only [List.take_succ_cons, List.take_zero, List.drop_succ_cons, List.drop_zero]
  have S3 := hideI ((unhideI S1).below (below_a W1 (.cells #[.string ⟨#[]⟩, .int .i64 0, .int .i64 0] 73)))
  go_wp2_with fail
  first | refine next_nil ?_ | refine next_go ?_
  refine reg_one 11 1 (by kernel_rfl) (by kernel_rfl) (unhideI CL _ _ (unhideI S3)) ?_
  simp only [List.take_succ_cons, List.take_zero, List.drop_succ_cons, List.drop_zero]
  go_wp2_with fail
  first | refine next_nil ?_ | refine next_go ?_
  refine reg_one 12 0 (by kernel_rfl) (by kernel_rfl) (unhideI CL _ _ (unhideI S3)) ?_
  simp only [List.take_succ_cons, List.take_zero, List.drop_succ_cons, List.drop_zero]
  go_wp2_with fail
  first | refine next_nil ?_ | refine next_go ?_
  refine reg_end (by kernel_rfl) (unhideI CL _ _ (unhideI S3)) ?_
  generalize W1.alloc (.cells #[.string ⟨#[]⟩, .int .i64 0, .int .i64 0] 73) = V0 at *
  obtain ⟨q0, q1, q2, q3, q4, q5⟩ := six_at (unhideI S3).bx.box
  rw [hk] at q0
  have hs3 : w.heap.size < V0.heap.size := (unhideI S3).bx.lt
  have hb3 : b < V0.heap.size := (unhideI S3).z.lt
  clear CL S1
  go_wp2_with fail
  refine reg_start (fun W => W.cell? ⟨w.heap.size, 0, none⟩ = some (.int .i64 7) ∧ W.cell? ⟨w.heap.size, 1, none⟩ = some (.int .u64 x.n) ∧ W.cell? ⟨w.heap.size, 2, none⟩ = some (.int .i64 x.b) ∧ W.cell? ⟨w.heap.size, 3, none⟩ = some (.bool x.s) ∧ W.cell? ⟨w.heap.size, 4, none⟩ = some (.string x.nm) ∧ W.cell? ⟨w.heap.size, 5, none⟩ = some (.slice ka x.kids.length kc)) (by kernel_rfl) ?_
  have CC := hideI (fun (W : World) (t' : List UInt8) (s : Xn w W B b n mb x ka kc t') => six_at s.bx.box)
  rw [hk] at CC
  have S4 := hideI ((unhideI S3).drew)
  clear S3 q0 q1 q2 q3 q4 q5
  generalize V0.drew = V1 at *
  refine reg_seg 0 4 2 (by kernel_rfl) (by decide) (by kernel_rfl) (by kernel_rfl) (fun _ _ _ _ _ h => h) ?_
  simp only [List.take_succ_cons, List.take_zero, List.drop_succ_cons, List.drop_zero]
  repeat (refine wpSteady_step (fun K hK => ?_); go_simp; first | (refine steady_of ?_ (fun W hW => ?_) (hK _ ?_); rotate_left; (obtain ⟨y0, y1, y2, y3, y4, y5⟩ := hW; go_simp; first | done | rfl); clear hK K) | (refine hK _ ?_; clear hK K))
  refine wpSteady_nil ?_
  refine reg_one 4 1 (by kernel_rfl) (by kernel_rfl) (unhideI CC _ _ (unhideI S4)) ?_
  simp only [List.take_succ_cons, List.take_zero, List.drop_succ_cons, List.drop_zero]
  have hb4 : b < V1.heap.size := (unhideI S4).z.lt
  go_wp2_with fail
  refine (unhideI HO _).mono ?_
  rintro e V2 ⟨⟨hs, rfl, hhs, hhl⟩, k5⟩
  have S5 := hideI ((unhideI S4).below k5)
  have WS := hideI (zstr_any B b n _ t hs V2 (unhideI S5).z (by omega) (unhideI S5).e.le)
  rw [hhs] at WS
  have hb5 : b < V2.heap.size := (unhideI S5).z.lt
  clear k5 S4 HO
  go_wp2_with fail
  first | refine next_nil ?_ | refine next_go ?_
  refine reg_one 5 0 (by kernel_rfl) (by kernel_rfl) (unhideI CC _ _ (unhideI S5)) ?_
  simp only [List.take_succ_cons, List.take_zero, List.drop_succ_cons, List.drop_zero]
  go_wp2_with fail
  refine (unhideI WS).mono ?_
  rintro e V3 ⟨⟨v, rfl⟩, z6, k6⟩
  have S6 := hideI ((unhideI S5).next k6 z6)
  clear WS z6 k6 S5
  go_wp2_with fail
  first | refine next_nil ?_ | refine next_go ?_
  refine reg_end (by kernel_rfl) (unhideI CC _ _ (unhideI S6)) ?_
  obtain ⟨q0, q1, q2, q3, q4, q5⟩ := six_at (unhideI S6).bx.box
  have hs6 : w.heap.size < V3.heap.size := (unhideI S6).bx.lt
  obtain ⟨kb, ko, a0, c0, hka, hkB, hkw, hk0, hf0, p0, p1, p2, p3, p4, p5⟩ := (unhideI S6).kid (unhideI HY)
  have PL := hideI (IHy B b n mb 11 _ _ V3 (unhideI S6).z (unhideI S6).e hk0 hf0 hoy (by simp only [List.length_append]; omega))
  rw [unhideI HY, hka] at q5
  simp only [List.length_singleton] at q5
  clear hk0
  go_wp2_with fail
  refine (unhideI PL).mono ?_
  rintro e V4 ⟨rfl, z7, k7⟩
  have Z7 := hideI z7
  have K7 := hideI ((unhideI S6).d.trans k7)
  clear PL z7 k7
  go_wp2_with fail
  first | go_end0 | refine bodyPost_ret (results_none rfl _ _ _) rfl ?_
  have z := unhideI Z7
  rw [List.append_assoc] at z
  exact ⟨rfl, z, unhideI K7⟩
set_option maxRecDepth 100000 in
set_option maxHeartbeats 1000000 in
theorem wx_head8 (x : Ex) (IH : ∀ y ∈ x.kids, WEx y) (hk : x.k = 8) : WEx x := wex_of fun least => by
  intro B b n mb t ka kc w h E hkx hf ho hl
  have S0 := hideI (Xn.begin h E hkx)
  obtain ⟨y, hy⟩ := one_kid ho.x (.inr (by omega))
  have hsh : shE x least = headT x.k x.b x.s ++ shE y 11 := by rw [shE_eq, hy, shL_cons]; unfold putE; rw [if_neg (by omega), if_neg (by omega), if_neg (by omega), if_neg (by omega), if_neg (by omega)]; simp [kidW, hk]
  have hoy := ho.kids y (by rw [hy]; simp)
  have IHy := IH y (by rw [hy]; simp)
  rw [hsh] at hl ⊢
  have hl2 : t.length + ((headT x.k x.b x.s).length + (shE y 11).length) ≤ 1000000000000 := by simpa only [List.length_append] using hl
  have HO := hideI (fun W => wheadOf_any x (.slice ka x.kids.length kc) W (by omega) (by omega))
  have HY := hideI hy
  clear hsh hf ho IH hl hy
  generalize headT x.k x.b x.s = hd at *
  rw [hk] at HO
  have CL := hideI (fun (W : World) (t : List UInt8) (s : Xn w W B b n mb x ka kc t) => s.cls)
  rw [opL_no (by omega)] at CL
  rw [hk] at CL
  clear hkx E h
  generalize hob : (#[.int .i64 x.k, .int .u64 x.n, .int .i64 x.b, .bool x.s, .string x.nm, .slice ka x.kids.length kc] : Array Value) = ob at *
  rw [hk] at hob
  subst hob
  go_enter Tryz.func85, Tryz.ntmps85
  go_wp2_with fail
  generalize w.alloc (.cells #[.int .i64 8, .int .u64 x.n, .int .i64 x.b, .bool x.s, .string x.nm, .slice ka x.kids.length kc] 56) = W0 at *
  refine reg_start (fun W => W.cell? ⟨b, 2, none⟩ = some (.map (some mb)) ∧ W.cell? ⟨w.heap.size, 0, none⟩ = some (.int .i64 8) ∧ (Instr.lookup 31 (.map (some mb)) (.int .i64 8) true).run Tryz.prog W = .ok (.tuple #[.agg #[.string ⟨#[]⟩, .int .i64 0, .int .i64 0], .bool false]) W) (by kernel_rfl) ?_
  have S1 := hideI ((unhideI S0).drew)
  clear S0
  generalize W0.drew = W1 at *
  refine reg_seg 0 10 3 (by kernel_rfl) (by decide) (by kernel_rfl) (by kernel_rfl) (fun _ _ _ _ _ h => h) ?_
  simp only [List.take_succ_cons, List.take_zero, List.drop_succ_cons, List.drop_zero]
  repeat (refine wpSteady_step (fun K hK => ?_); go_simp; first | (refine steady_of ?_ (fun W hW => ?_) (hK _ ?_); rotate_left; (obtain ⟨y0, y1, y2⟩ := hW; go_simp; first | done | rfl); clear hK K) | (refine hK _ ?_; clear hK K))
  refine wpSteady_nil ?_
  refine reg_one 10 2 (by kernel_rfl) (by kernel_rfl) (unhideI CL W1 _ (unhideI S1)) ?_
  simp only [List.take_succ_cons, List.take_zero, List.drop_succ_cons, List.drop_zero]
  have S3 := hideI ((unhideI S1).below (below_a W1 (.cells #[.string ⟨#[]⟩, .int .i64 0, .int .i64 0] 73)))
  go_wp2_with fail
  first | refine next_nil ?_ | refine next_go ?_
  refine reg_one 11 1 (by kernel_rfl) (by kernel_rfl) (unhideI CL _ _ (unhideI S3)) ?_
  simp only [List.take_succ_cons, List.take_zero, List.drop_succ_cons, List.drop_zero]
  go_wp2_with fail
  first | refine next_nil ?_ | refine next_go ?_
  refine reg_one 12 0 (by kernel_rfl) (by kernel_rfl) (unhideI CL _ _ (unhideI S3)) ?_
  simp only [List.take_succ_cons, List.take_zero, List.drop_succ_cons, List.drop_zero]
  go_wp2_with fail
  first | refine next_nil ?_ | refine next_go ?_
  refine reg_end (by kernel_rfl) (unhideI CL _ _ (unhideI S3)) ?_
  generalize W1.alloc (.cells #[.string ⟨#[]⟩, .int .i64 0, .int .i64 0] 73) = V0 at *
  obtain ⟨q0, q1, q2, q3, q4, q5⟩ := six_at (unhideI S3).bx.box
  rw [hk] at q0
  have hs3 : w.heap.size < V0.heap.size := (unhideI S3).bx.lt
  have hb3 : b < V0.heap.size := (unhideI S3).z.lt
  clear CL S1
  go_wp2_with fail
  refine reg_start (fun W => W.cell? ⟨w.heap.size, 0, none⟩ = some (.int .i64 8) ∧ W.cell? ⟨w.heap.size, 1, none⟩ = some (.int .u64 x.n) ∧ W.cell? ⟨w.heap.size, 2, none⟩ = some (.int .i64 x.b) ∧ W.cell? ⟨w.heap.size, 3, none⟩ = some (.bool x.s) ∧ W.cell? ⟨w.heap.size, 4, none⟩ = some (.string x.nm) ∧ W.cell? ⟨w.heap.size, 5, none⟩ = some (.slice ka x.kids.length kc)) (by kernel_rfl) ?_
  have CC := hideI (fun (W : World) (t' : List UInt8) (s : Xn w W B b n mb x ka kc t') => six_at s.bx.box)
  rw [hk] at CC
  have S4 := hideI ((unhideI S3).drew)
  clear S3 q0 q1 q2 q3 q4 q5
  generalize V0.drew = V1 at *
  refine reg_seg 0 4 2 (by kernel_rfl) (by decide) (by kernel_rfl) (by kernel_rfl) (fun _ _ _ _ _ h => h) ?_
  simp only [List.take_succ_cons, List.take_zero, List.drop_succ_cons, List.drop_zero]
  repeat (refine wpSteady_step (fun K hK => ?_); go_simp; first | (refine steady_of ?_ (fun W hW => ?_) (hK _ ?_); rotate_left; (obtain ⟨y0, y1, y2, y3, y4, y5⟩ := hW; go_simp; first | done | rfl); clear hK K) | (refine hK _ ?_; clear hK K))
  refine wpSteady_nil ?_
  refine reg_one 4 1 (by kernel_rfl) (by kernel_rfl) (unhideI CC _ _ (unhideI S4)) ?_
  simp only [List.take_succ_cons, List.take_zero, List.drop_succ_cons, List.drop_zero]
  have hb4 : b < V1.heap.size := (unhideI S4).z.lt
  go_wp2_with fail
  refine (unhideI HO _).mono ?_
  rintro e V2 ⟨⟨hs, rfl, hhs, hhl⟩, k5⟩
  have S5 := hideI ((unhideI S4).below k5)
  have WS := hideI (zstr_any B b n _ t hs V2 (unhideI S5).z (by omega) (unhideI S5).e.le)
  rw [hhs] at WS
  have hb5 : b < V2.heap.size := (unhideI S5).z.lt
  clear k5 S4 HO
  go_wp2_with fail
  first | refine next_nil ?_ | refine next_go ?_
  refine reg_one 5 0 (by kernel_rfl) (by kernel_rfl) (unhideI CC _ _ (unhideI S5)) ?_
  simp only [List.take_succ_cons, List.take_zero, List.drop_succ_cons, List.drop_zero]
  go_wp2_with fail
  refine (unhideI WS).mono ?_
  rintro e V3 ⟨⟨v, rfl⟩, z6, k6⟩
  have S6 := hideI ((unhideI S5).next k6 z6)
  clear WS z6 k6 S5
  go_wp2_with fail
  first | refine next_nil ?_ | refine next_go ?_
  refine reg_end (by kernel_rfl) (unhideI CC _ _ (unhideI S6)) ?_
  obtain ⟨q0, q1, q2, q3, q4, q5⟩ := six_at (unhideI S6).bx.box
  have hs6 : w.heap.size < V3.heap.size := (unhideI S6).bx.lt
  obtain ⟨kb, ko, a0, c0, hka, hkB, hkw, hk0, hf0, p0, p1, p2, p3, p4, p5⟩ := (unhideI S6).kid (unhideI HY)
  have PL := hideI (IHy B b n mb 11 _ _ V3 (unhideI S6).z (unhideI S6).e hk0 hf0 hoy (by simp only [List.length_append]; omega))
  rw [unhideI HY, hka] at q5
  simp only [List.length_singleton] at q5
  clear hk0
  go_wp2_with fail
  refine (unhideI PL).mono ?_
  rintro e V4 ⟨rfl, z7, k7⟩
  have Z7 := hideI z7
  have K7 := hideI ((unhideI S6).d.trans k7)
  clear PL z7 k7
  go_wp2_with fail
  first | go_end0 | refine bodyPost_ret (results_none rfl _ _ _) rfl ?_
  have z := unhideI Z7
  rw [List.append_assoc] at z
  exact ⟨rfl, z, unhideI K7⟩
/-- The writer writes any expression that is right. -/
theorem wexpr_any : ∀ x, OkE x → WEx x := by
  apply Ex.ind
  intro x IH ho
  have IH' : ∀ y ∈ x.kids, WEx y := fun y hy => IH y hy (ho.kids y hy)
  have h1 := ho.x.lo
  have h2 := ho.x.hi
  by_cases h9 : 9 ≤ x.k
  · exact wx_two x IH' h9
  · have hk : x.k = 1 ∨ x.k = 2 ∨ x.k = 3 ∨ x.k = 4 ∨ x.k = 5 ∨ x.k = 6 ∨ x.k = 7 ∨ x.k = 8 := by omega
    rcases hk with hk | hk | hk | hk | hk | hk | hk | hk
    · exact wx_num x hk
    · exact wx_var x hk
    · exact wx_at x IH' hk
    · exact wx_call x IH' hk
    · exact wx_head5 x IH' hk
    · exact wx_head6 x IH' hk
    · exact wx_head7 x IH' hk
    · exact wx_head8 x IH' hk
end Go.Proofs.YtbakhengcgclmaaGreatDoor
