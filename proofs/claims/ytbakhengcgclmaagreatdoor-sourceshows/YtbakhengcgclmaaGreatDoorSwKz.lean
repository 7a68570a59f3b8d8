/-
  Writing: two kids and what stands between them.
-/
import Derived.Test.YtbakhengcgclmaaGreatDoorSwGz
namespace Go.Proofs.YtbakhengcgclmaaGreatDoor
open Go.RowKit
set_option linter.unusedSimpArgs false
set_option linter.unusedVariables false

/-- On the way through joined: the operator's own block, the two kids, what is written. -/
structure Jn (w W : World) (B b n mb : Nat) (sg : ByteArray) (k : Int) (wt : Nat) (kb ko : Nat) (x0 x1 : Ex) (a0 a1 : Option Addr) (c0 c1 : Nat) (t : List UInt8) : Prop where
  z : Wz W B b (.map (some mb)) n t
  e : Env B b mb W
  d : Wd B b w W
  bx : BoxT W w.heap.size #[.string sg, .int .i64 k, .int .i64 (wt : Int)] 73
  bl : b < w.heap.size
  kl : kb < B
  h0 : ExL B W (.slice a0 x0.kids.length c0) x0.kids
  h1 : ExL B W (.slice a1 x1.kids.length c1) x1.kids
  cs : ∀ j u, (exC x0 (.slice a0 x0.kids.length c0) ++ exC x1 (.slice a1 x1.kids.length c1))[j]? = some u → W.cell? ⟨kb, ko + j, none⟩ = some u
theorem Jn.next {w W W' : World} {B b n mb : Nat} {sg : ByteArray} {k : Int} {wt kb ko : Nat} {x0 x1 : Ex} {a0 a1 : Option Addr} {c0 c1 : Nat} {t t' : List UInt8} (h : Jn w W B b n mb sg k wt kb ko x0 x1 a0 a1 c0 c1 t) (q : Wd B b W W') (z : Wz W' B b (.map (some mb)) n t') : Jn w W' B b n mb sg k wt kb ko x0 x1 a0 a1 c0 c1 t' :=
  ⟨z, h.e.step q, h.d.trans q, h.bx.wf q.wf (by have := h.bl; omega), h.bl, h.kl, h.h0.step q.below, h.h1.step q.below, fun j u hu => by rw [q.below.cell (p := ⟨kb, ko + j, none⟩) h.kl]; exact h.cs j u hu⟩
theorem Jn.drew {w W : World} {B b n mb : Nat} {sg : ByteArray} {k : Int} {wt kb ko : Nat} {x0 x1 : Ex} {a0 a1 : Option Addr} {c0 c1 : Nat} {t : List UInt8} (h : Jn w W B b n mb sg k wt kb ko x0 x1 a0 a1 c0 c1 t) : Jn w W.drew B b n mb sg k wt kb ko x0 x1 a0 a1 c0 c1 t :=
  h.next ((Wd.refl _ _ _).drew) (h.z.step (Below.drew (Below.refl _ _)))
theorem Jn.cls0 {w W : World} {B b n mb : Nat} {sg : ByteArray} {k : Int} {wt kb ko : Nat} {x0 x1 : Ex} {a0 a1 : Option Addr} {c0 c1 : Nat} {t : List UInt8} (h : Jn w W B b n mb sg k wt kb ko x0 x1 a0 a1 c0 c1 t) : W.cell? ⟨w.heap.size, 0, none⟩ = some (.string sg) ∧ W.cell? ⟨w.heap.size, 2, none⟩ = some (.int .i64 (wt : Int)) ∧ W.cell? ⟨kb, ko, none⟩ = some (.int .i64 x0.k) ∧ W.cell? ⟨kb, ko + 1, none⟩ = some (.int .u64 x0.n) ∧ W.cell? ⟨kb, ko + 2, none⟩ = some (.int .i64 x0.b) ∧ W.cell? ⟨kb, ko + 3, none⟩ = some (.bool x0.s) ∧ W.cell? ⟨kb, ko + 4, none⟩ = some (.string x0.nm) ∧ W.cell? ⟨kb, ko + 5, none⟩ = some (.slice a0 x0.kids.length c0) :=
  ⟨h.bx.box.2.1 0 _ rfl, h.bx.box.2.1 2 _ rfl, h.cs 0 _ rfl, h.cs 1 _ rfl, h.cs 2 _ rfl, h.cs 3 _ rfl, h.cs 4 _ rfl, h.cs 5 _ rfl⟩
theorem Jn.cls1 {w W : World} {B b n mb : Nat} {sg : ByteArray} {k : Int} {wt kb ko : Nat} {x0 x1 : Ex} {a0 a1 : Option Addr} {c0 c1 : Nat} {t : List UInt8} (h : Jn w W B b n mb sg k wt kb ko x0 x1 a0 a1 c0 c1 t) : W.cell? ⟨w.heap.size, 2, none⟩ = some (.int .i64 (wt : Int)) ∧ W.cell? ⟨kb, ko + 6, none⟩ = some (.int .i64 x1.k) ∧ W.cell? ⟨kb, ko + 6 + 1, none⟩ = some (.int .u64 x1.n) ∧ W.cell? ⟨kb, ko + 6 + 2, none⟩ = some (.int .i64 x1.b) ∧ W.cell? ⟨kb, ko + 6 + 3, none⟩ = some (.bool x1.s) ∧ W.cell? ⟨kb, ko + 6 + 4, none⟩ = some (.string x1.nm) ∧ W.cell? ⟨kb, ko + 6 + 5, none⟩ = some (.slice a1 x1.kids.length c1) :=
  ⟨h.bx.box.2.1 2 _ rfl, h.cs 6 _ rfl, h.cs 7 _ rfl, h.cs 8 _ rfl, h.cs 9 _ rfl, h.cs 10 _ rfl, h.cs 11 _ rfl⟩
set_option maxRecDepth 100000 in
set_option maxHeartbeats 400000 in
theorem wjoined_any (x0 x1 : Ex) (IH0 : WEx x0) (IH1 : WEx x1) (B b n mb least wt : Nat) (k : Int) (sg : ByteArray) (t : List UInt8) (v : Value) (w : World) (h : Wz w B b (.map (some mb)) n t) (E : Env B b mb w) (hx : ExL B w v [x0, x1]) (ho0 : OkE x0) (ho1 : OkE x1) (hsg : sg.size ≤ 2) (hwt : wt ≤ 20) (hl : t.length + (if wt < least then [40] ++ (shE x0 wt ++ ([32] ++ sg.data.toList ++ [32]) ++ shE x1 (wt + 1)) ++ [41] else shE x0 wt ++ ([32] ++ sg.data.toList ++ [32]) ++ shE x1 (wt + 1)).length ≤ 1000000000000) :
    Calls Tryz.prog 106 #[.pointer (some ⟨b, 0, none⟩), .agg #[.string sg, .int .i64 k, .int .i64 (wt : Int)], v, .int .i64 (least : Int)] w fun e w' => e = .returned (.tuple #[]) ∧ Wz w' B b (.map (some mb)) n (t ++ (if wt < least then [40] ++ (shE x0 wt ++ ([32] ++ sg.data.toList ++ [32]) ++ shE x1 (wt + 1)) ++ [41] else shE x0 wt ++ ([32] ++ sg.data.toList ++ [32]) ++ shE x1 (wt + 1))) ∧ Wd B b w w' := by
  obtain ⟨ao, cap, rfl, -, hat⟩ := hx.at
  obtain ⟨kb, ko, rfl, hkB, hkw, hc⟩ := hat (by simp)
  obtain ⟨kv0, hk0, hf0, p0, p1, p2, p3, p4, p5⟩ := hc 0 (by simp)
  obtain ⟨kv1, hk1, hf1, r0, r1, r2, r3, r4, r5⟩ := hc 1 (by simp)
  simp only [List.getElem_cons_zero, List.getElem_cons_succ, Nat.zero_mul, Nat.add_zero, Nat.one_mul] at *
  obtain ⟨a0, c0, rfl⟩ := hk0.slice
  obtain ⟨a1, c1, rfl⟩ := hk1.slice
  have hal := below_a w (.cells #[.string sg, .int .i64 k, .int .i64 (wt : Int)] 73)
  have hlt := h.lt
  have S0 : Hid (Jn w (w.alloc (.cells #[.string sg, .int .i64 k, .int .i64 (wt : Int)] 73)) B b n mb sg k wt kb ko x0 x1 a0 a1 c0 c1 t) :=
    ⟨h.step hal, E.below hal, Wd.of hal E.le, BoxT.new _ _ _ (by decide), h.lt, hkB, hk0.step (hal.mono E.le), hk1.step (hal.mono E.le), fun j u hu => by
      rw [hal.cell (p := ⟨kb, ko + j, none⟩) hkw]
      match j, hu with
      | 0, hu => simp [exC] at hu; subst hu; exact p0
      | 1, hu => simp [exC] at hu; subst hu; exact p1
      | 2, hu => simp [exC] at hu; subst hu; exact p2
      | 3, hu => simp [exC] at hu; subst hu; exact p3
      | 4, hu => simp [exC] at hu; subst hu; exact p4
      | 5, hu => simp [exC] at hu; subst hu; exact p5
      | 6, hu => simp [exC] at hu; subst hu; exact r0
      | 7, hu => simp [exC] at hu; subst hu; exact r1
      | 8, hu => simp [exC] at hu; subst hu; exact r2
      | 9, hu => simp [exC] at hu; subst hu; exact r3
      | 10, hu => simp [exC] at hu; subst hu; exact r4
      | 11, hu => simp [exC] at hu; subst hu; exact r5
      | j + 12, hu => simp [exC] at hu⟩
  have I0 := hideI (fun (W : World) (t' : List UInt8) (s : Jn w W B b n mb sg k wt kb ko x0 x1 a0 a1 c0 c1 t') (hl' : t'.length + (shE x0 wt).length ≤ 1000000000000) => (IH0 B b n mb wt t' _ W s.z s.e s.h0 hf0 ho0 hl').mono fun e W' ⟨h1, h2, h3⟩ => (⟨h1, s.next h3 h2⟩ : e = Ending.returned (.tuple #[]) ∧ Jn w W' B b n mb sg k wt kb ko x0 x1 a0 a1 c0 c1 (t' ++ shE x0 wt)))
  have I1 := hideI (fun (W : World) (t' : List UInt8) (s : Jn w W B b n mb sg k wt kb ko x0 x1 a0 a1 c0 c1 t') (hl' : t'.length + (shE x1 (wt + 1)).length ≤ 1000000000000) => (IH1 B b n mb (wt + 1) t' _ W s.z s.e s.h1 hf1 ho1 hl').mono fun e W' ⟨h1, h2, h3⟩ => (⟨h1, s.next h3 h2⟩ : e = Ending.returned (.tuple #[]) ∧ Jn w W' B b n mb sg k wt kb ko x0 x1 a0 a1 c0 c1 (t' ++ shE x1 (wt + 1))))
  simp only [show ((wt + 1 : Nat) : Int) = (wt : Int) + 1 from rfl] at I1
  have hwtI : (wt : Int) ≤ 20 := by omega
  have hz1 : ¬ 9223372036854775807 < 1 + sg.size := by omega
  have hz2 : ¬ 9223372036854775807 < 1 + sg.size + 1 := by omega
  have hsl : sg.data.toList.length = sg.size := by simp
  clear hat hc p0 p1 p2 p3 p4 p5 r0 r1 r2 r3 r4 r5 hk0 hk1 hf0 hf1 hx E hal h ho0 ho1
  generalize shE x0 wt = e0 at *
  generalize shE x1 (wt + 1) = e1 at *
  by_cases hw : wt < least
  · rw [if_pos hw]
    rw [if_pos hw] at hl
    have hl2 : t.length + (1 + (e0.length + (1 + sg.data.toList.length + 1) + e1.length) + 1) ≤ 1000000000000 := by simpa only [List.length_append, List.length_singleton] using hl
    clear hl
    have hwI : (wt : Int) < (least : Int) := by omega
    have WB := hideI (zbyte_any B b n _ t 40 _ (unhideI S0).z (by omega) (unhideI S0).e.le)
    go_enter_defers Tryz.func106, Tryz.ntmps106
    go_wp2_with fail
    refine (unhideI WB).mono ?_
    rintro e W1 ⟨⟨v, rfl⟩, z1, k1⟩
    have S1 := hideI ((unhideI S0).next k1 z1)
    have hl40 : (t ++ [40]).length = t.length + 1 := by simp
    clear WB z1 k1 S0
    generalize hT0 : (t ++ [40]) = t0 at S1 hl40
    have HT0 := hideI hT0
    clear hT0
    go_wp2_with fail
    refine reg_start (fun W => W.cell? ⟨w.heap.size, 0, none⟩ = some (.string sg) ∧ W.cell? ⟨w.heap.size, 2, none⟩ = some (.int .i64 (wt : Int)) ∧ W.cell? ⟨kb, ko, none⟩ = some (.int .i64 x0.k) ∧ W.cell? ⟨kb, ko + 1, none⟩ = some (.int .u64 x0.n) ∧ W.cell? ⟨kb, ko + 2, none⟩ = some (.int .i64 x0.b) ∧ W.cell? ⟨kb, ko + 3, none⟩ = some (.bool x0.s) ∧ W.cell? ⟨kb, ko + 4, none⟩ = some (.string x0.nm) ∧ W.cell? ⟨kb, ko + 5, none⟩ = some (.slice a0 x0.kids.length c0)) (by kernel_rfl) ?_
    have S2 := hideI ((unhideI S1).drew)
    clear S1
    generalize W1.drew = W2 at *
    refine reg_seg 0 6 1 (by kernel_rfl) (by decide) (by kernel_rfl) (by kernel_rfl) (fun _ _ _ _ _ h => h) ?_
    simp only [List.take_succ_cons, List.take_zero, List.drop_succ_cons, List.drop_zero]
    repeat (refine wpSteady_step (fun K hK => ?_); go_simp; first | (refine steady_of ?_ (fun W hW => ?_) (hK _ ?_); rotate_left; (obtain ⟨y0, y1, y2, y3, y4, y5, y6, y7⟩ := hW; go_simp; first | done | rfl); clear hK K) | (refine hK _ ?_; clear hK K))
    refine wpSteady_nil ?_
    refine reg_one 6 0 (by kernel_rfl) (by kernel_rfl) (unhideI S2).cls0 ?_
    simp only [List.take_succ_cons, List.take_zero, List.drop_succ_cons, List.drop_zero]
    have CA := hideI (unhideI I0 W2 _ (unhideI S2) (by omega))
    go_wp2_with fail
    refine (unhideI CA).mono ?_
    rintro e W3 ⟨rfl, s3⟩
    have S3 := hideI s3
    clear CA s3 S2
    go_wp2_with fail
    first | refine next_nil ?_ | refine next_go ?_
    refine reg_end (by kernel_rfl) (unhideI S3).cls0 ?_
    go_wp2_with fail
    refine reg_start (fun W => W.cell? ⟨w.heap.size, 0, none⟩ = some (.string sg)) (by kernel_rfl) ?_
    have S4 := hideI ((unhideI S3).drew)
    clear S3
    generalize W3.drew = W4 at *
    refine reg_seg 0 7 1 (by kernel_rfl) (by decide) (by kernel_rfl) (by kernel_rfl) (fun _ _ _ _ _ h => h) ?_
    simp only [List.take_succ_cons, List.take_zero, List.drop_succ_cons, List.drop_zero]
    repeat (refine wpSteady_step (fun K hK => ?_); go_simp; first | (refine steady_of ?_ (fun W hW => ?_) (hK _ ?_); rotate_left; (obtain y0 := hW; go_simp; first | done | rfl); clear hK K) | (refine hK _ ?_; clear hK K))
    refine wpSteady_nil ?_
    refine reg_one 7 0 (by kernel_rfl) (by kernel_rfl) (unhideI S4).cls0.1 ?_
    simp only [List.take_succ_cons, List.take_zero, List.drop_succ_cons, List.drop_zero]
    have WS := hideI (zstr_any B b n _ _ ((⟨#[32]⟩ ++ sg) ++ ⟨#[32]⟩) W4 (unhideI S4).z (by rw [ByteArray.size_append, ByteArray.size_append]; have : (⟨#[32]⟩ : ByteArray).size = 1 := rfl; simp only [List.length_append]; omega) (unhideI S4).e.le)
    go_wp2_with fail
    refine (unhideI WS).mono ?_
    rintro e W5 ⟨⟨v, rfl⟩, z5, k5⟩
    have S5 := hideI ((unhideI S4).next k5 z5)
    clear WS z5 k5 S4
    go_wp2_with fail
    first | refine next_nil ?_ | refine next_go ?_
    refine reg_end (by kernel_rfl) (unhideI S5).cls0.1 ?_
    go_wp2_with fail
    refine reg_start (fun W => W.cell? ⟨w.heap.size, 2, none⟩ = some (.int .i64 (wt : Int)) ∧ W.cell? ⟨kb, ko + 6, none⟩ = some (.int .i64 x1.k) ∧ W.cell? ⟨kb, ko + 6 + 1, none⟩ = some (.int .u64 x1.n) ∧ W.cell? ⟨kb, ko + 6 + 2, none⟩ = some (.int .i64 x1.b) ∧ W.cell? ⟨kb, ko + 6 + 3, none⟩ = some (.bool x1.s) ∧ W.cell? ⟨kb, ko + 6 + 4, none⟩ = some (.string x1.nm) ∧ W.cell? ⟨kb, ko + 6 + 5, none⟩ = some (.slice a1 x1.kids.length c1)) (by kernel_rfl) ?_
    have S6 := hideI ((unhideI S5).drew)
    clear S5
    generalize W5.drew = W6 at *
    refine reg_seg 0 7 1 (by kernel_rfl) (by decide) (by kernel_rfl) (by kernel_rfl) (fun _ _ _ _ _ h => h) ?_
    simp only [List.take_succ_cons, List.take_zero, List.drop_succ_cons, List.drop_zero]
    repeat (refine wpSteady_step (fun K hK => ?_); go_simp; first | (refine steady_of ?_ (fun W hW => ?_) (hK _ ?_); rotate_left; (obtain ⟨y0, y1, y2, y3, y4, y5, y6⟩ := hW; go_simp; first | done | rfl); clear hK K) | (refine hK _ ?_; clear hK K))
    refine wpSteady_nil ?_
    refine reg_one 7 0 (by kernel_rfl) (by kernel_rfl) (unhideI S6).cls1 ?_
    simp only [List.take_succ_cons, List.take_zero, List.drop_succ_cons, List.drop_zero]
    have CB := hideI (unhideI I1 W6 _ (unhideI S6) (by rw [cat_list, cat_list]; simp only [List.length_append]; show _ + (1 + sg.data.toList.length + 1) + _ ≤ _; omega))
    go_wp2_with fail
    refine (unhideI CB).mono ?_
    rintro e W7 ⟨rfl, s7⟩
    have S7 := hideI s7
    clear CB s7 S6
    go_wp2_with fail
    first | refine next_nil ?_ | refine next_go ?_
    refine reg_end (by kernel_rfl) (unhideI S7).cls1 ?_
    go_wp2_with fail
    have hl7 : (t0 ++ e0 ++ ((⟨#[32]⟩ ++ sg) ++ ⟨#[32]⟩).data.toList ++ e1).length + 1 ≤ 1099511627776 := by
      rw [cat_list, cat_list]
      simp only [List.length_append]
      show _ + _ + (1 + sg.data.toList.length + 1) + _ + 1 ≤ _
      omega
    refine leaves_cons (f := 28) (args := #[.pointer (some ⟨b, 0, none⟩), .int .u8 41]) (by simp) (by simp [go_sem]) ?_
    refine (zbyteD_any B b n (.map (some mb)) _ 41 .returning W7 (unhideI S7).z hl7 (unhideI S7).e.le).mono ?_
    rintro e u' w8 ⟨rfl, ⟨v, rfl⟩, z8, k8⟩
    refine ⟨_, results_none rfl _ _ _, rfl, ?_, (unhideI S7).d.trans k8⟩
    rw [cat_list, cat_list, ← unhideI HT0] at z8
    simpa using z8
  · rw [if_neg hw]
    rw [if_neg hw] at hl
    have hl2 : t.length + (e0.length + (1 + sg.data.toList.length + 1) + e1.length) ≤ 1000000000000 := by simpa only [List.length_append, List.length_singleton] using hl
    clear hl
    have hwI : ¬ (wt : Int) < (least : Int) := by omega
    have S1 := S0
    clear S0
    go_enter Tryz.func106, Tryz.ntmps106
    go_wp2_with fail
    generalize w.alloc (.cells #[.string sg, .int .i64 k, .int .i64 (wt : Int)] 73) = W1 at *
    refine reg_start (fun W => W.cell? ⟨w.heap.size, 0, none⟩ = some (.string sg) ∧ W.cell? ⟨w.heap.size, 2, none⟩ = some (.int .i64 (wt : Int)) ∧ W.cell? ⟨kb, ko, none⟩ = some (.int .i64 x0.k) ∧ W.cell? ⟨kb, ko + 1, none⟩ = some (.int .u64 x0.n) ∧ W.cell? ⟨kb, ko + 2, none⟩ = some (.int .i64 x0.b) ∧ W.cell? ⟨kb, ko + 3, none⟩ = some (.bool x0.s) ∧ W.cell? ⟨kb, ko + 4, none⟩ = some (.string x0.nm) ∧ W.cell? ⟨kb, ko + 5, none⟩ = some (.slice a0 x0.kids.length c0)) (by kernel_rfl) ?_
    have S2 := hideI ((unhideI S1).drew)
    clear S1
    generalize W1.drew = W2 at *
    refine reg_seg 0 6 1 (by kernel_rfl) (by decide) (by kernel_rfl) (by kernel_rfl) (fun _ _ _ _ _ h => h) ?_
    simp only [List.take_succ_cons, List.take_zero, List.drop_succ_cons, List.drop_zero]
    repeat (refine wpSteady_step (fun K hK => ?_); go_simp; first | (refine steady_of ?_ (fun W hW => ?_) (hK _ ?_); rotate_left; (obtain ⟨y0, y1, y2, y3, y4, y5, y6, y7⟩ := hW; go_simp; first | done | rfl); clear hK K) | (refine hK _ ?_; clear hK K))
    refine wpSteady_nil ?_
    refine reg_one 6 0 (by kernel_rfl) (by kernel_rfl) (unhideI S2).cls0 ?_
    simp only [List.take_succ_cons, List.take_zero, List.drop_succ_cons, List.drop_zero]
    have CA := hideI (unhideI I0 W2 _ (unhideI S2) (by omega))
    go_wp2_with fail
    refine (unhideI CA).mono ?_
    rintro e W3 ⟨rfl, s3⟩
    have S3 := hideI s3
    clear CA s3 S2
    go_wp2_with fail
    first | refine next_nil ?_ | refine next_go ?_
    refine reg_end (by kernel_rfl) (unhideI S3).cls0 ?_
    go_wp2_with fail
    refine reg_start (fun W => W.cell? ⟨w.heap.size, 0, none⟩ = some (.string sg)) (by kernel_rfl) ?_
    have S4 := hideI ((unhideI S3).drew)
    clear S3
    generalize W3.drew = W4 at *
    refine reg_seg 0 7 1 (by kernel_rfl) (by decide) (by kernel_rfl) (by kernel_rfl) (fun _ _ _ _ _ h => h) ?_
    simp only [List.take_succ_cons, List.take_zero, List.drop_succ_cons, List.drop_zero]
    repeat (refine wpSteady_step (fun K hK => ?_); go_simp; first | (refine steady_of ?_ (fun W hW => ?_) (hK _ ?_); rotate_left; (obtain y0 := hW; go_simp; first | done | rfl); clear hK K) | (refine hK _ ?_; clear hK K))
    refine wpSteady_nil ?_
    refine reg_one 7 0 (by kernel_rfl) (by kernel_rfl) (unhideI S4).cls0.1 ?_
    simp only [List.take_succ_cons, List.take_zero, List.drop_succ_cons, List.drop_zero]
    have WS := hideI (zstr_any B b n _ _ ((⟨#[32]⟩ ++ sg) ++ ⟨#[32]⟩) W4 (unhideI S4).z (by rw [ByteArray.size_append, ByteArray.size_append]; have : (⟨#[32]⟩ : ByteArray).size = 1 := rfl; simp only [List.length_append]; omega) (unhideI S4).e.le)
    go_wp2_with fail
    refine (unhideI WS).mono ?_
    rintro e W5 ⟨⟨v, rfl⟩, z5, k5⟩
    have S5 := hideI ((unhideI S4).next k5 z5)
    clear WS z5 k5 S4
    go_wp2_with fail
    first | refine next_nil ?_ | refine next_go ?_
    refine reg_end (by kernel_rfl) (unhideI S5).cls0.1 ?_
    go_wp2_with fail
    refine reg_start (fun W => W.cell? ⟨w.heap.size, 2, none⟩ = some (.int .i64 (wt : Int)) ∧ W.cell? ⟨kb, ko + 6, none⟩ = some (.int .i64 x1.k) ∧ W.cell? ⟨kb, ko + 6 + 1, none⟩ = some (.int .u64 x1.n) ∧ W.cell? ⟨kb, ko + 6 + 2, none⟩ = some (.int .i64 x1.b) ∧ W.cell? ⟨kb, ko + 6 + 3, none⟩ = some (.bool x1.s) ∧ W.cell? ⟨kb, ko + 6 + 4, none⟩ = some (.string x1.nm) ∧ W.cell? ⟨kb, ko + 6 + 5, none⟩ = some (.slice a1 x1.kids.length c1)) (by kernel_rfl) ?_
    have S6 := hideI ((unhideI S5).drew)
    clear S5
    generalize W5.drew = W6 at *
    refine reg_seg 0 7 1 (by kernel_rfl) (by decide) (by kernel_rfl) (by kernel_rfl) (fun _ _ _ _ _ h => h) ?_
    simp only [List.take_succ_cons, List.take_zero, List.drop_succ_cons, List.drop_zero]
    repeat (refine wpSteady_step (fun K hK => ?_); go_simp; first | (refine steady_of ?_ (fun W hW => ?_) (hK _ ?_); rotate_left; (obtain ⟨y0, y1, y2, y3, y4, y5, y6⟩ := hW; go_simp; first | done | rfl); clear hK K) | (refine hK _ ?_; clear hK K))
    refine wpSteady_nil ?_
    refine reg_one 7 0 (by kernel_rfl) (by kernel_rfl) (unhideI S6).cls1 ?_
    simp only [List.take_succ_cons, List.take_zero, List.drop_succ_cons, List.drop_zero]
    have CB := hideI (unhideI I1 W6 _ (unhideI S6) (by rw [cat_list, cat_list]; simp only [List.length_append]; show _ + (1 + sg.data.toList.length + 1) + _ ≤ _; omega))
    go_wp2_with fail
    refine (unhideI CB).mono ?_
    rintro e W7 ⟨rfl, s7⟩
    have S7 := hideI s7
    clear CB s7 S6
    go_wp2_with fail
    first | refine next_nil ?_ | refine next_go ?_
    refine reg_end (by kernel_rfl) (unhideI S7).cls1 ?_
    go_wp2_with fail
    go_end0
    have s := unhideI S7
    have z := s.z
    rw [cat_list, cat_list] at z
    refine ⟨rfl, ?_, s.d⟩
    simpa using z
end Go.Proofs.YtbakhengcgclmaaGreatDoor

/-
  Writing: expressions: what is looked up first.
-/
namespace Go.Proofs.YtbakhengcgclmaaGreatDoor
open Go.RowKit
set_option linter.unusedSimpArgs false
set_option linter.unusedVariables false

/-- On the way through expression: its own block, its kids, what is written. -/
structure Xn (w W : World) (B b n mb : Nat) (x : Ex) (ka : Option Addr) (kc : Nat) (t : List UInt8) : Prop where
  z : Wz W B b (.map (some mb)) n t
  e : Env B b mb W
  d : Wd B b w W
  bx : BoxT W w.heap.size #[.int .i64 x.k, .int .u64 x.n, .int .i64 x.b, .bool x.s, .string x.nm, .slice ka x.kids.length kc] 56
  bl : b < w.heap.size
  hk : ExL B W (.slice ka x.kids.length kc) x.kids
theorem Xn.next {w W W' : World} {B b n mb : Nat} {x : Ex} {ka : Option Addr} {kc : Nat} {t t' : List UInt8} (h : Xn w W B b n mb x ka kc t) (q : Wd B b W W') (z : Wz W' B b (.map (some mb)) n t') : Xn w W' B b n mb x ka kc t' :=
  ⟨z, h.e.step q, h.d.trans q, h.bx.wf q.wf (by have := h.bl; omega), h.bl, h.hk.step q.below⟩
theorem Xn.drew {w W : World} {B b n mb : Nat} {x : Ex} {ka : Option Addr} {kc : Nat} {t : List UInt8} (h : Xn w W B b n mb x ka kc t) : Xn w W.drew B b n mb x ka kc t := h.next ((Wd.refl _ _ _).drew) (h.z.step (Below.drew (Below.refl _ _)))
theorem Xn.below {w W W' : World} {B b n mb : Nat} {x : Ex} {ka : Option Addr} {kc : Nat} {t : List UInt8} (h : Xn w W B b n mb x ka kc t) (q : Below W.heap.size W W') : Xn w W' B b n mb x ka kc t := h.next (Wd.of q h.e.le) (h.z.step q)
theorem Xn.begin {w : World} {B b n mb : Nat} {x : Ex} {ka : Option Addr} {kc : Nat} {t : List UInt8} (h : Wz w B b (.map (some mb)) n t) (E : Env B b mb w) (hk : ExL B w (.slice ka x.kids.length kc) x.kids) : Xn w (w.alloc (.cells #[.int .i64 x.k, .int .u64 x.n, .int .i64 x.b, .bool x.s, .string x.nm, .slice ka x.kids.length kc] 56)) B b n mb x ka kc t := by
  have hal := below_a w (.cells #[.int .i64 x.k, .int .u64 x.n, .int .i64 x.b, .bool x.s, .string x.nm, .slice ka x.kids.length kc] 56)
  exact ⟨h.step hal, E.below hal, Wd.of hal E.le, BoxT.new _ _ _ (by decide), h.lt, hk.step (hal.mono E.le)⟩
/-- What the first region reads. -/
theorem Xn.cls {w W : World} {B b n mb : Nat} {x : Ex} {ka : Option Addr} {kc : Nat} {t : List UInt8} (h : Xn w W B b n mb x ka kc t) : W.cell? ⟨b, 2, none⟩ = some (.map (some mb)) ∧ W.cell? ⟨w.heap.size, 0, none⟩ = some (.int .i64 x.k) ∧ (Instr.lookup 31 (.map (some mb)) (.int .i64 x.k) true).run Tryz.prog W = .ok (.tuple #[(opL x.k).1, .bool (opL x.k).2]) W :=
  ⟨h.z.cells.1, h.bx.box.2.1 0 _ rfl, op_look W mb x.k h.e.m⟩
theorem opL_yes {k : Int} (h : 9 ≤ k) (h2 : k ≤ 26) : opL k = (.agg #[.string ⟨(opS k).toArray⟩, .int .i64 k, .int .i64 (opW k : Int)], true) := by unfold opL; rw [if_pos ⟨h, h2⟩]
theorem opL_no {k : Int} (h : k < 9) : opL k = (.agg #[.string ⟨#[]⟩, .int .i64 0, .int .i64 0], false) := by unfold opL; rw [if_neg (by omega)]
theorem op_small {k : Int} (h : 9 ≤ k) (h2 : k ≤ 26) : (opS k).length ≤ 2 ∧ opW k ≤ 20 := by
  have hk : k = 9 ∨ k = 10 ∨ k = 11 ∨ k = 12 ∨ k = 13 ∨ k = 14 ∨ k = 15 ∨ k = 16 ∨ k = 17 ∨ k = 18 ∨ k = 19 ∨ k = 20 ∨ k = 21 ∨ k = 22 ∨ k = 23 ∨ k = 24 ∨ k = 25 ∨ k = 26 := by omega
  rcases hk with rfl | rfl | rfl | rfl | rfl | rfl | rfl | rfl | rfl | rfl | rfl | rfl | rfl | rfl | rfl | rfl | rfl | rfl <;> decide
set_option maxRecDepth 100000 in
set_option maxHeartbeats 400000 in
theorem wx_two (x : Ex) (IH : ∀ y ∈ x.kids, WEx y) (hk9 : 9 ≤ x.k) : WEx x := by
  intro B b n mb least t kv w h E hk hf ho hl
  obtain ⟨ka, kc, rfl⟩ := hk.slice
  have hx := ho.x
  have hi := hx.hi
  obtain ⟨hsl, hwl⟩ := op_small hk9 hi
  have hkl : x.kids.length = 2 := by
    have h1 := hx.kl
    have h2 := hx.kh
    unfold kidLo at h1
    unfold kidHi at h2
    rw [if_neg (by omega), if_neg (by omega)] at h1
    rw [if_neg (by omega), if_neg (by omega), if_neg (by omega)] at h2
    omega
  obtain ⟨x0, x1, hkids⟩ : ∃ x0 x1, x.kids = [x0, x1] := by
    match hm : x.kids, hkl with
    | [y0, y1], _ => exact ⟨y0, y1, rfl⟩
  have S0 := hideI (Xn.begin h E hk)
  have hsh : shE x least = if opW x.k < least then [40] ++ (shE x0 (opW x.k) ++ ([32] ++ opS x.k ++ [32]) ++ shE x1 (opW x.k + 1)) ++ [41] else shE x0 (opW x.k) ++ ([32] ++ opS x.k ++ [32]) ++ shE x1 (opW x.k + 1) := by
    rw [shE_eq, hkids, shL_cons, shL_cons]
    unfold putE
    rw [if_pos hk9]
    simp only [kidW, if_pos hk9]
    simp [List.getD]
  have hjx : ExL B w (.slice ka x.kids.length kc) [x0, x1] := by rw [← hkids]; exact hk
  have JN := hideI (fun (W : World) (s : Xn w W B b n mb x ka kc t) => wjoined_any x0 x1 (IH x0 (by rw [hkids]; simp)) (IH x1 (by rw [hkids]; simp)) B b n mb least (opW x.k) x.k ⟨(opS x.k).toArray⟩ t (.slice ka x.kids.length kc) W s.z s.e (by have := s.hk; rw [hkids] at this ⊢; exact this) (ho.kids x0 (by rw [hkids]; simp)) (ho.kids x1 (by rw [hkids]; simp)) hsl hwl (by rw [hsh] at hl; exact hl))
  rw [show (⟨(opS x.k).toArray⟩ : ByteArray).data.toList = opS x.k from rfl, ← hsh] at JN
  have CL := hideI (fun (W : World) (s : Xn w W B b n mb x ka kc t) => s.cls)
  rw [opL_yes hk9 hi] at CL
  clear hsh hjx ho hf hx hkids IH hl hk E h hkl
  generalize shE x least = R at *
  generalize (⟨(opS x.k).toArray⟩ : ByteArray) = sg at *
  generalize opW x.k = wt at *
  go_enter Tryz.func85, Tryz.ntmps85
  go_wp2_with fail
  generalize w.alloc (.cells #[.int .i64 x.k, .int .u64 x.n, .int .i64 x.b, .bool x.s, .string x.nm, .slice ka x.kids.length kc] 56) = W0 at *
  refine reg_start (fun W => W.cell? ⟨b, 2, none⟩ = some (.map (some mb)) ∧ W.cell? ⟨w.heap.size, 0, none⟩ = some (.int .i64 x.k) ∧ (Instr.lookup 31 (.map (some mb)) (.int .i64 x.k) true).run Tryz.prog W = .ok (.tuple #[.agg #[.string sg, .int .i64 x.k, .int .i64 (wt : Int)], .bool true]) W) (by kernel_rfl) ?_
  have S1 := hideI ((unhideI S0).drew)
  clear S0
  generalize W0.drew = W1 at *
  refine reg_seg 0 10 3 (by kernel_rfl) (by decide) (by kernel_rfl) (by kernel_rfl) (fun _ _ _ _ _ h => h) ?_
  simp only [List.take_succ_cons, List.take_zero, List.drop_succ_cons, List.drop_zero]
  repeat (refine wpSteady_step (fun K hK => ?_); go_simp; first | (refine steady_of ?_ (fun W hW => ?_) (hK _ ?_); rotate_left; (obtain ⟨y0, y1, y2⟩ := hW; go_simp; first | done | rfl); clear hK K) | (refine hK _ ?_; clear hK K))
  refine wpSteady_nil ?_
  refine reg_one 10 2 (by kernel_rfl) (by kernel_rfl) (unhideI CL W1 (unhideI S1)) ?_
  simp only [List.take_succ_cons, List.take_zero, List.drop_succ_cons, List.drop_zero]
  have S2 := hideI ((unhideI S1).below (below_a W1 (.cells #[.string ⟨#[]⟩, .int .i64 0, .int .i64 0] 73)))
  have S3 := hideI ((unhideI S1).below (below_a W1 (.cells #[.string sg, .int .i64 x.k, .int .i64 (wt : Int)] 73)))
  go_wp2_with fail
  first | refine next_nil ?_ | refine next_go ?_
  refine reg_one 11 1 (by kernel_rfl) (by kernel_rfl) (unhideI CL _ (unhideI S2)) ?_
  simp only [List.take_succ_cons, List.take_zero, List.drop_succ_cons, List.drop_zero]
  go_wp2_with fail
  first | refine next_nil ?_ | refine next_go ?_
  refine reg_one 12 0 (by kernel_rfl) (by kernel_rfl) (unhideI CL _ (unhideI S3)) ?_
  simp only [List.take_succ_cons, List.take_zero, List.drop_succ_cons, List.drop_zero]
  go_wp2_with fail
  first | refine next_nil ?_ | refine next_go ?_
  refine reg_end (by kernel_rfl) (unhideI CL _ (unhideI S3)) ?_
  obtain ⟨q0, q1, q2, q3, q4, q5⟩ := six_at (unhideI S3).bx.box
  have hs3 : w.heap.size < (W1.alloc (.cells #[.string sg, .int .i64 x.k, .int .i64 (wt : Int)] 73)).heap.size := (unhideI S3).bx.lt
  have J3 := hideI (unhideI JN _ (unhideI S3))
  clear JN CL
  go_wp2_with fail
  refine (unhideI J3).mono ?_
  rintro e W4 ⟨rfl, z4, k4⟩
  have Z4 := hideI z4
  have K4 := hideI ((unhideI S3).d.trans k4)
  clear J3 z4 k4 S2 S1
  go_wp2_with fail
  refine bodyPost_ret (results_none rfl _ _ _) rfl ?_
  exact ⟨rfl, unhideI Z4, unhideI K4⟩
end Go.Proofs.YtbakhengcgclmaaGreatDoor
