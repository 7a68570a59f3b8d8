/-
  Writing: the document's answer: expressions that are no operator's.
-/
import Derived.Test.YtbakhengcgclmaaGreatDoorSwYz
import Derived.Test.YtbakhengcgclmaaGreatDoorBigNz
namespace Go.Proofs.YtbakhengcgclmaaGreatDoor
open Go.RowKit Go.Great
set_option linter.unusedSimpArgs false
set_option linter.unusedVariables false

/-- What the document writes of an expression, wherever it lies. -/
def RTx (x : Ex) : Prop := ∀ (B least : Nat) (kv : Value) (w : World), ExL B w kv x.kids → B ≤ w.heap.size → ExF x → OkE x → least ≤ 11 → (shE x least).length ≤ 1000000000 →
  Calls Tryz.prog 15 #[.agg #[.int .i64 x.k, .int .u64 x.n, .int .i64 x.b, .bool x.s, .string x.nm, kv], .int .i64 (least : Int)] w fun e w' => e = .returned (.string (ba (shE x least))) ∧ Below w.heap.size w w'
/-- On the way through an expression. -/
structure Tx8 (w W : World) (B : Nat) (x : Ex) (ka : Option Addr) (kc : Nat) : Prop where
  d : Below w.heap.size w W
  bx : Box W w.heap.size [.int .i64 x.k, .int .u64 x.n, .int .i64 x.b, .bool x.s, .string x.nm, .slice ka x.kids.length kc]
  hk : ExL B W (.slice ka x.kids.length kc) x.kids
  le : B ≤ W.heap.size
theorem Tx8.next {w W W' : World} {B : Nat} {x : Ex} {ka : Option Addr} {kc : Nat} (h : Tx8 w W B x ka kc) (q : Below W.heap.size W W') : Tx8 w W' B x ka kc :=
  ⟨bT h.d q, h.bx.step q, h.hk.step (q.mono h.le), Nat.le_trans h.le q.size⟩
theorem Tx8.begin {w : World} {B : Nat} {x : Ex} {ka : Option Addr} {kc : Nat} (hk : ExL B w (.slice ka x.kids.length kc) x.kids) (hB : B ≤ w.heap.size) : Tx8 w (w.alloc (.cells #[.int .i64 x.k, .int .u64 x.n, .int .i64 x.b, .bool x.s, .string x.nm, .slice ka x.kids.length kc] 56)) B x ka kc := by
  have hal := below_a w (.cells #[.int .i64 x.k, .int .u64 x.n, .int .i64 x.b, .bool x.s, .string x.nm, .slice ka x.kids.length kc] 56)
  exact ⟨hal, Box.new _ _ _, hk.step (hal.mono hB), Nat.le_trans hB hal.size⟩
set_option maxRecDepth 100000 in
set_option maxHeartbeats 1000000 in
theorem rt_num (x : Ex) (hk : x.k = 1) : RTx x := by
  intro B least kv w hkx hB hf ho hle hl
  obtain ⟨ka, kc, rfl⟩ := hkx.slice
  have hsh : shE x least = Lib.decDigits x.n.toNat ++ (if x.s = true then [] else [117]) := by rw [shE_eq]; unfold putE; rw [if_neg (by omega), if_pos hk]
  obtain ⟨⟨hn0, hn1⟩, -⟩ := hf
  obtain ⟨u, hu⟩ : ∃ u : Nat, x.n = (u : Int) := ⟨x.n.toNat, by omega⟩
  have eu : x.n.toNat = u := by omega
  rw [eu] at hsh
  rw [hsh]
  have S0 := Tx8.begin hkx hB
  have BG := hideI (fun W => rbig_any u (by omega) W)
  have hdl := decDigits_le u (by omega)
  have hI : ¬ (12 : Int) < (least : Int) := by omega
  clear hl hsh eu hkx ho
  generalize hob : (#[.int .i64 x.k, .int .u64 x.n, .int .i64 x.b, .bool x.s, .string x.nm, .slice ka x.kids.length kc] : Array Value) = ob at *
  rw [hk, hu] at hob
  subst hob
  generalize Lib.decDigits u = dd at *
  obtain ⟨q0, q1, q2, q3, q4, q5⟩ := six_at S0.bx
  rw [hk] at q0
  rw [hu] at q1
  have S1 := hideI S0
  have hs0 := S0.bx.1
  clear S0
  have CL := hideI (fun (W : World) (s : Tx8 w W B x ka kc) => six_at s.bx)
  generalize x.s = xs at *
  cases xs
  · have hz : ¬ 9223372036854775807 < (ba dd).size + 1 := by rw [ba_size]; omega
    have EC := hideI (show ba dd ++ ⟨#[117]⟩ = ba (dd ++ [117]) by rw [← bcat]; rfl)
    go_enter Tryz.func15, Tryz.ntmps15
    go_wp2_with fail
    refine (unhideI BG _).mono ?_
    rintro e w1 ⟨rfl, k1⟩
    obtain ⟨p0, p1, p2, p3, p4, p5⟩ := unhideI CL _ ((unhideI S1).next k1)
    have hs1 := ((unhideI S1).next k1).bx.1
    have K1 := hideI ((unhideI S1).next k1).d
    clear BG k1 S1 q0 q1 q2 q3 q4 q5 CL
    generalize ba dd = D at *
    go_wp2_with fail
    go_ret
    exact ⟨by rw [unhideI EC]; rfl, unhideI K1⟩
  · rw [show (dd ++ if true = true then [] else [117] : List UInt8) = dd by simp]
    generalize ba dd = D at *
    go_enter Tryz.func15, Tryz.ntmps15
    go_wp2_with fail
    refine (unhideI BG _).mono ?_
    rintro e w1 ⟨rfl, k1⟩
    obtain ⟨p0, p1, p2, p3, p4, p5⟩ := unhideI CL _ ((unhideI S1).next k1)
    have hs1 := ((unhideI S1).next k1).bx.1
    have K1 := hideI ((unhideI S1).next k1).d
    clear BG k1 S1 q0 q1 q2 q3 q4 q5 CL
    go_wp2_with fail
    go_ret
    exact ⟨rfl, unhideI K1⟩
set_option maxRecDepth 100000 in
set_option maxHeartbeats 1000000 in
theorem rt_var (x : Ex) (hk : x.k = 2) : RTx x := by
  intro B least kv w hkx hB hf ho hle hl
  obtain ⟨ka, kc, rfl⟩ := hkx.slice
  have hsh : shE x least = x.nm.data.toList := by rw [shE_eq]; unfold putE; rw [if_neg (by omega), if_neg (by omega), if_pos hk]
  rw [hsh, ba_of]
  have S0 := Tx8.begin hkx hB
  have hI : ¬ (12 : Int) < (least : Int) := by omega
  clear hl hsh hkx ho hf
  generalize hob : (#[.int .i64 x.k, .int .u64 x.n, .int .i64 x.b, .bool x.s, .string x.nm, .slice ka x.kids.length kc] : Array Value) = ob at *
  rw [hk] at hob
  subst hob
  have K1 := hideI S0.d
  obtain ⟨q0, q1, q2, q3, q4, q5⟩ := six_at S0.bx
  rw [hk] at q0
  have hs0 := S0.bx.1
  clear S0
  go_enter Tryz.func15, Tryz.ntmps15
  go_wp2_with fail
  go_ret
  exact ⟨rfl, unhideI K1⟩
theorem tx_kid {w W : World} {B : Nat} {x : Ex} {ka : Option Addr} {kc : Nat} (s : Tx8 w W B x ka kc) (i : Nat) (hi : i < x.kids.length) : ∃ b off kv, ka = some ⟨b, off, none⟩ ∧ b < W.heap.size ∧ ExL B W kv x.kids[i].kids ∧ ExF x.kids[i] ∧
    W.cell? ⟨b, off + i * 6, none⟩ = some (.int .i64 x.kids[i].k) ∧ W.cell? ⟨b, off + i * 6 + 1, none⟩ = some (.int .u64 x.kids[i].n) ∧ W.cell? ⟨b, off + i * 6 + 2, none⟩ = some (.int .i64 x.kids[i].b) ∧ W.cell? ⟨b, off + i * 6 + 3, none⟩ = some (.bool x.kids[i].s) ∧ W.cell? ⟨b, off + i * 6 + 4, none⟩ = some (.string x.kids[i].nm) ∧ W.cell? ⟨b, off + i * 6 + 5, none⟩ = some kv := by
  obtain ⟨ao, cap, e, -, h⟩ := s.hk.at
  injection e with e1 _ _
  obtain ⟨b, off, e2, hb, hbw, hc⟩ := h (fun e => by rw [e] at hi; exact absurd hi (by simp))
  obtain ⟨kv, h1, h2, h3⟩ := hc i hi
  exact ⟨b, off, kv, e1.trans e2, hbw, h1, h2, h3⟩
-- MADE
set_option maxRecDepth 100000 in
set_option maxHeartbeats 1000000 in
theorem rt_at (x : Ex) (IH : ∀ y ∈ x.kids, RTx y) (hk : x.k = 3) : RTx x := by
  intro B least kv w hkx hB hf ho hle hl
  obtain ⟨ka, kc, rfl⟩ := hkx.slice
  obtain ⟨y, hy⟩ := one_kid ho.x (by omega)
  have hsh : shE x least = x.nm.data.toList ++ ([91] ++ shE y 1 ++ [93]) := by rw [shE_eq, hy, shL_cons]; unfold putE; rw [if_neg (by omega), if_neg (by omega), if_neg (by omega), if_pos hk]; simp [kidW, hk]
  have hn32 : x.k = 3 → x.nm.size ≤ 32 := fun h => ho.x.nm (by omega)
  have hoy := ho.kids y (by rw [hy]; simp)
  have IHy := IH y (by rw [hy]; simp)
  have hnl : x.nm.data.toList.length = x.nm.size := by simp
  rw [hsh] at hl ⊢
  have S0 := Tx8.begin hkx hB
  have hI : ¬ (12 : Int) < (least : Int) := by omega
  have hI2 : ¬ (11 : Int) < (least : Int) := by omega
  obtain ⟨bk, off, kv, rfl, hbk, hky, hfy, c0, c1, c2, c3, c4, c5⟩ := tx_kid S0 0 (by rw [hy]; simp)
  have ey : x.kids[0]'(by rw [hy]; simp) = y := by simp [hy]
  rw [ey] at hky hfy c0 c1 c2 c3 c4
  simp only [Nat.zero_mul, Nat.add_zero] at c0 c1 c2 c3 c4 c5
  have h1l : (1 : Int) ≤ (x.kids.length : Int) := by rw [hy]; simp
  have h1n : 0 < x.kids.length := by rw [hy]; simp
  clear hsh hkx ho hf ey IH
  have hl2 : x.nm.size + (1 + (shE y 1).length + 1) ≤ 1000000000 := by rw [← hnl]; simpa only [List.length_append, List.length_singleton] using hl
  have CA := hideI (fun (V : World) (q : Below (w.alloc (.cells #[.int .i64 x.k, .int .u64 x.n, .int .i64 x.b, .bool x.s, .string x.nm, .slice (some ⟨bk, off, none⟩) x.kids.length kc] 56)).heap.size (w.alloc (.cells #[.int .i64 x.k, .int .u64 x.n, .int .i64 x.b, .bool x.s, .string x.nm, .slice (some ⟨bk, off, none⟩) x.kids.length kc] 56)) V) => IHy B 1 kv V (hky.step (q.mono S0.le)) (Nat.le_trans S0.le q.size) hfy hoy (by decide) (by omega))
  have EC := hideI (show x.nm ++ ⟨#[91]⟩ ++ ba (shE y 1) ++ ⟨#[93]⟩ = ba (x.nm.data.toList ++ ([91] ++ shE y 1 ++ [93])) by rw [show (⟨#[91]⟩ : ByteArray) = ba [91] from rfl, show (⟨#[93]⟩ : ByteArray) = ba [93] from rfl, ← bcat, ← bcat, ← bcat, ba_of]; simp only [ByteArray.append_assoc])
  have hz1 : ¬ 9223372036854775807 < x.nm.size + 1 := by omega
  have hz2 : ¬ 9223372036854775807 < x.nm.size + 1 + (ba (shE y 1)).size := by rw [ba_size]; omega
  have hz3 : ¬ 9223372036854775807 < x.nm.size + 1 + (ba (shE y 1)).size + 1 := by rw [ba_size]; omega
  clear hl hl2 IHy hoy hfy hky hnl
  rw [← unhideI EC]
  clear EC
  generalize ba (shE y 1) = TY at *
  generalize hob : (#[.int .i64 x.k, .int .u64 x.n, .int .i64 x.b, .bool x.s, .string x.nm, .slice (some ⟨bk, off, none⟩) x.kids.length kc] : Array Value) = ob at *
  rw [hk] at hob
  subst hob
  have CL := hideI (fun (W : World) (s : Tx8 w W B x (some ⟨bk, off, none⟩) kc) => six_at s.bx)
  obtain ⟨q0, q1, q2, q3, q4, q5⟩ := six_at S0.bx
  rw [hk] at q0
  have hs0 := S0.bx.1
  have S1 := hideI S0
  have HK := hideI hk
  clear S0 hk hy
  generalize hW0 : w.alloc (.cells #[.int .i64 3, .int .u64 x.n, .int .i64 x.b, .bool x.s, .string x.nm, .slice (some ⟨bk, off, none⟩) x.kids.length kc] 56) = W0 at *
  go_enter Tryz.func15, Tryz.ntmps15
  go_wp2_with fail
  refine wp_region_later (by kernel_rfl) (by kernel_rfl) ?_
  intro L hne lt hlc hlf hlm
  repeat (go_big_quiet_step ((go_at_call 15; exact later_call hlm (unhideI CA _ (hlm.1 _)))))
  refine wpQuiet_nil ?_
  intro wq kq
  clear hlm hlf hlc lt hne L
  obtain ⟨hqc, hqf⟩ := below_cells kq
  have S2 := hideI ((unhideI S1).next kq)
  clear hqc hqf q0 q1 q2 q3 q4 q5 c0 c1 c2 c3 c4 c5 S1
  go_wp2_with fail
  go_ret
  exact ⟨rfl, (unhideI S2).d⟩
set_option maxRecDepth 100000 in
set_option maxHeartbeats 1000000 in
theorem rt_h6 (x : Ex) (IH : ∀ y ∈ x.kids, RTx y) (hk : x.k = 6) : RTx x := by
  intro B least kv w hkx hB hf ho hle hl
  obtain ⟨ka, kc, rfl⟩ := hkx.slice
  obtain ⟨y, hy⟩ := one_kid ho.x (by omega)
  have hsh : shE x least = [45] ++ shE y 11 := by rw [shE_eq, hy, shL_cons]; unfold putE; rw [if_neg (by omega), if_neg (by omega), if_neg (by omega), if_neg (by omega), if_neg (by omega)]; simp [kidW, headT, hk]
  have hn32 : x.k = 3 → x.nm.size ≤ 32 := fun h => ho.x.nm (by omega)
  have hoy := ho.kids y (by rw [hy]; simp)
  have IHy := IH y (by rw [hy]; simp)
  have hnl : x.nm.data.toList.length = x.nm.size := by simp
  rw [hsh] at hl ⊢
  have S0 := Tx8.begin hkx hB
  have hI : ¬ (12 : Int) < (least : Int) := by omega
  have hI2 : ¬ (11 : Int) < (least : Int) := by omega
  obtain ⟨bk, off, kv, rfl, hbk, hky, hfy, c0, c1, c2, c3, c4, c5⟩ := tx_kid S0 0 (by rw [hy]; simp)
  have ey : x.kids[0]'(by rw [hy]; simp) = y := by simp [hy]
  rw [ey] at hky hfy c0 c1 c2 c3 c4
  simp only [Nat.zero_mul, Nat.add_zero] at c0 c1 c2 c3 c4 c5
  have h1l : (1 : Int) ≤ (x.kids.length : Int) := by rw [hy]; simp
  have h1n : 0 < x.kids.length := by rw [hy]; simp
  clear hsh hkx ho hf ey IH
  have hl2 : 1 + (shE y 11).length ≤ 1000000000 := by simpa only [List.length_append, List.length_singleton] using hl
  have CA := hideI (IHy B 11 kv _ hky S0.le hfy hoy (by decide) (by omega))
  have EC := hideI (show ⟨#[45]⟩ ++ ba (shE y 11) = ba ([45] ++ shE y 11) by rw [← bcat]; rfl)
  have hz1 : ¬ 9223372036854775807 < 1 + (ba (shE y 11)).size := by rw [ba_size]; omega
  clear hl hl2 IHy hoy hfy hky hnl
  rw [← unhideI EC]
  clear EC
  generalize ba (shE y 11) = TY at *
  generalize hob : (#[.int .i64 x.k, .int .u64 x.n, .int .i64 x.b, .bool x.s, .string x.nm, .slice (some ⟨bk, off, none⟩) x.kids.length kc] : Array Value) = ob at *
  rw [hk] at hob
  subst hob
  have CL := hideI (fun (W : World) (s : Tx8 w W B x (some ⟨bk, off, none⟩) kc) => six_at s.bx)
  obtain ⟨q0, q1, q2, q3, q4, q5⟩ := six_at S0.bx
  rw [hk] at q0
  have hs0 := S0.bx.1
  have S1 := hideI S0
  have HK := hideI hk
  clear S0 hk hy
  generalize hW0 : w.alloc (.cells #[.int .i64 6, .int .u64 x.n, .int .i64 x.b, .bool x.s, .string x.nm, .slice (some ⟨bk, off, none⟩) x.kids.length kc] 56) = W0 at *
  go_enter Tryz.func15, Tryz.ntmps15
  go_wp2_with fail
  refine (unhideI CA).mono ?_
  rintro e w1 ⟨rfl, k1⟩
  have S2 := hideI ((unhideI S1).next k1)
  clear CA k1 q0 q1 q2 q3 q4 q5 c0 c1 c2 c3 c4 c5 S1
  go_wp2_with fail
  go_ret
  exact ⟨rfl, (unhideI S2).d⟩
set_option maxRecDepth 100000 in
set_option maxHeartbeats 1000000 in
theorem rt_h7 (x : Ex) (IH : ∀ y ∈ x.kids, RTx y) (hk : x.k = 7) : RTx x := by
  intro B least kv w hkx hB hf ho hle hl
  obtain ⟨ka, kc, rfl⟩ := hkx.slice
  obtain ⟨y, hy⟩ := one_kid ho.x (by omega)
  have hsh : shE x least = [126] ++ shE y 11 := by rw [shE_eq, hy, shL_cons]; unfold putE; rw [if_neg (by omega), if_neg (by omega), if_neg (by omega), if_neg (by omega), if_neg (by omega)]; simp [kidW, headT, hk]
  have hn32 : x.k = 3 → x.nm.size ≤ 32 := fun h => ho.x.nm (by omega)
  have hoy := ho.kids y (by rw [hy]; simp)
  have IHy := IH y (by rw [hy]; simp)
  have hnl : x.nm.data.toList.length = x.nm.size := by simp
  rw [hsh] at hl ⊢
  have S0 := Tx8.begin hkx hB
  have hI : ¬ (12 : Int) < (least : Int) := by omega
  have hI2 : ¬ (11 : Int) < (least : Int) := by omega
  obtain ⟨bk, off, kv, rfl, hbk, hky, hfy, c0, c1, c2, c3, c4, c5⟩ := tx_kid S0 0 (by rw [hy]; simp)
  have ey : x.kids[0]'(by rw [hy]; simp) = y := by simp [hy]
  rw [ey] at hky hfy c0 c1 c2 c3 c4
  simp only [Nat.zero_mul, Nat.add_zero] at c0 c1 c2 c3 c4 c5
  have h1l : (1 : Int) ≤ (x.kids.length : Int) := by rw [hy]; simp
  have h1n : 0 < x.kids.length := by rw [hy]; simp
  clear hsh hkx ho hf ey IH
  have hl2 : 1 + (shE y 11).length ≤ 1000000000 := by simpa only [List.length_append, List.length_singleton] using hl
  have CA := hideI (IHy B 11 kv _ hky S0.le hfy hoy (by decide) (by omega))
  have EC := hideI (show ⟨#[126]⟩ ++ ba (shE y 11) = ba ([126] ++ shE y 11) by rw [← bcat]; rfl)
  have hz1 : ¬ 9223372036854775807 < 1 + (ba (shE y 11)).size := by rw [ba_size]; omega
  clear hl hl2 IHy hoy hfy hky hnl
  rw [← unhideI EC]
  clear EC
  generalize ba (shE y 11) = TY at *
  generalize hob : (#[.int .i64 x.k, .int .u64 x.n, .int .i64 x.b, .bool x.s, .string x.nm, .slice (some ⟨bk, off, none⟩) x.kids.length kc] : Array Value) = ob at *
  rw [hk] at hob
  subst hob
  have CL := hideI (fun (W : World) (s : Tx8 w W B x (some ⟨bk, off, none⟩) kc) => six_at s.bx)
  obtain ⟨q0, q1, q2, q3, q4, q5⟩ := six_at S0.bx
  rw [hk] at q0
  have hs0 := S0.bx.1
  have S1 := hideI S0
  have HK := hideI hk
  clear S0 hk hy
  generalize hW0 : w.alloc (.cells #[.int .i64 7, .int .u64 x.n, .int .i64 x.b, .bool x.s, .string x.nm, .slice (some ⟨bk, off, none⟩) x.kids.length kc] 56) = W0 at *
  go_enter Tryz.func15, Tryz.ntmps15
  go_wp2_with fail
  refine (unhideI CA).mono ?_
  rintro e w1 ⟨rfl, k1⟩
  have S2 := hideI ((unhideI S1).next k1)
  clear CA k1 q0 q1 q2 q3 q4 q5 c0 c1 c2 c3 c4 c5 S1
  go_wp2_with fail
  go_ret
  exact ⟨rfl, (unhideI S2).d⟩
set_option maxRecDepth 100000 in
set_option maxHeartbeats 1000000 in
theorem rt_h8 (x : Ex) (IH : ∀ y ∈ x.kids, RTx y) (hk : x.k = 8) : RTx x := by
  intro B least kv w hkx hB hf ho hle hl
  obtain ⟨ka, kc, rfl⟩ := hkx.slice
  obtain ⟨y, hy⟩ := one_kid ho.x (by omega)
  have hsh : shE x least = [33] ++ shE y 11 := by rw [shE_eq, hy, shL_cons]; unfold putE; rw [if_neg (by omega), if_neg (by omega), if_neg (by omega), if_neg (by omega), if_neg (by omega)]; simp [kidW, headT, hk]
  have hn32 : x.k = 3 → x.nm.size ≤ 32 := fun h => ho.x.nm (by omega)
  have hoy := ho.kids y (by rw [hy]; simp)
  have IHy := IH y (by rw [hy]; simp)
  have hnl : x.nm.data.toList.length = x.nm.size := by simp
  rw [hsh] at hl ⊢
  have S0 := Tx8.begin hkx hB
  have hI : ¬ (12 : Int) < (least : Int) := by omega
  have hI2 : ¬ (11 : Int) < (least : Int) := by omega
  obtain ⟨bk, off, kv, rfl, hbk, hky, hfy, c0, c1, c2, c3, c4, c5⟩ := tx_kid S0 0 (by rw [hy]; simp)
  have ey : x.kids[0]'(by rw [hy]; simp) = y := by simp [hy]
  rw [ey] at hky hfy c0 c1 c2 c3 c4
  simp only [Nat.zero_mul, Nat.add_zero] at c0 c1 c2 c3 c4 c5
  have h1l : (1 : Int) ≤ (x.kids.length : Int) := by rw [hy]; simp
  have h1n : 0 < x.kids.length := by rw [hy]; simp
  clear hsh hkx ho hf ey IH
  have hl2 : 1 + (shE y 11).length ≤ 1000000000 := by simpa only [List.length_append, List.length_singleton] using hl
  have CA := hideI (IHy B 11 kv _ hky S0.le hfy hoy (by decide) (by omega))
  have EC := hideI (show ⟨#[33]⟩ ++ ba (shE y 11) = ba ([33] ++ shE y 11) by rw [← bcat]; rfl)
  have hz1 : ¬ 9223372036854775807 < 1 + (ba (shE y 11)).size := by rw [ba_size]; omega
  clear hl hl2 IHy hoy hfy hky hnl
  rw [← unhideI EC]
  clear EC
  generalize ba (shE y 11) = TY at *
  generalize hob : (#[.int .i64 x.k, .int .u64 x.n, .int .i64 x.b, .bool x.s, .string x.nm, .slice (some ⟨bk, off, none⟩) x.kids.length kc] : Array Value) = ob at *
  rw [hk] at hob
  subst hob
  have CL := hideI (fun (W : World) (s : Tx8 w W B x (some ⟨bk, off, none⟩) kc) => six_at s.bx)
  obtain ⟨q0, q1, q2, q3, q4, q5⟩ := six_at S0.bx
  rw [hk] at q0
  have hs0 := S0.bx.1
  have S1 := hideI S0
  have HK := hideI hk
  clear S0 hk hy
  generalize hW0 : w.alloc (.cells #[.int .i64 8, .int .u64 x.n, .int .i64 x.b, .bool x.s, .string x.nm, .slice (some ⟨bk, off, none⟩) x.kids.length kc] 56) = W0 at *
  go_enter Tryz.func15, Tryz.ntmps15
  go_wp2_with fail
  refine (unhideI CA).mono ?_
  rintro e w1 ⟨rfl, k1⟩
  have S2 := hideI ((unhideI S1).next k1)
  clear CA k1 q0 q1 q2 q3 q4 q5 c0 c1 c2 c3 c4 c5 S1
  go_wp2_with fail
  go_ret
  exact ⟨rfl, (unhideI S2).d⟩
end Go.Proofs.YtbakhengcgclmaaGreatDoor

/-
  Writing: the document's answer: casts and calls.
-/
namespace Go.Proofs.YtbakhengcgclmaaGreatDoor
open Go.RowKit Go.Great
set_option linter.unusedSimpArgs false
set_option linter.unusedVariables false

theorem bnil (a : ByteArray) : a ++ ba [] = a := by
  have h := bcat a.data.toList []
  rw [List.append_nil, ba_of] at h
  exact h
theorem rtname_any (b : Int) (s : Bool) (w : World) : Calls Tryz.prog 13 #[.agg #[.int .i64 b, .bool s]] w fun e w' => e = .returned (.string (tyN b s)) ∧ Below w.heap.size w w' := by
  unfold tyN
  cases h : isWB b
  · simp only [Bool.false_eq_true, if_false]
    exact rname_no b s w (noW_of h)
  · simp only [if_true]
    exact rname_yes b s w (isW_of h)
set_option maxRecDepth 100000 in
set_option maxHeartbeats 1000000 in
theorem rt_h5 (x : Ex) (IH : ∀ y ∈ x.kids, RTx y) (hk : x.k = 5) : RTx x := by
  intro B least kv w hkx hB hf ho hle hl
  obtain ⟨ka, kc, rfl⟩ := hkx.slice
  obtain ⟨y, hy⟩ := one_kid ho.x (by omega)
  have hsh : shE x least = [40] ++ (tyN x.b x.s).data.toList ++ [41] ++ shE y 11 := by rw [shE_eq, hy, shL_cons]; unfold putE; rw [if_neg (by omega), if_neg (by omega), if_neg (by omega), if_neg (by omega), if_neg (by omega)]; simp [kidW, headT, hk]
  have hn32 : x.k = 3 → x.nm.size ≤ 32 := fun h => ho.x.nm (by omega)
  have hoy := ho.kids y (by rw [hy]; simp)
  have IHy := IH y (by rw [hy]; simp)
  have hnl : x.nm.data.toList.length = x.nm.size := by simp
  rw [hsh] at hl ⊢
  have S0 := Tx8.begin hkx hB
  have hI : ¬ (12 : Int) < (least : Int) := by omega
  have hI2 : ¬ (11 : Int) < (least : Int) := by omega
  obtain ⟨bk, off, kv, rfl, hbk, hky, hfy, c0, c1, c2, c3, c4, c5⟩ := tx_kid S0 0 (by rw [hy]; simp)
  have ey : x.kids[0]'(by rw [hy]; simp) = y := by simp [hy]
  rw [ey] at hky hfy c0 c1 c2 c3 c4
  simp only [Nat.zero_mul, Nat.add_zero] at c0 c1 c2 c3 c4 c5
  have h1l : (1 : Int) ≤ (x.kids.length : Int) := by rw [hy]; simp
  have h1n : 0 < x.kids.length := by rw [hy]; simp
  clear hsh hkx ho hf ey IH
  have hyl := tyN_len x.b x.s
  have htl : (tyN x.b x.s).data.toList.length = (tyN x.b x.s).size := by simp
  have hl2 : 2 + (tyN x.b x.s).size + (shE y 11).length ≤ 1000000000 := by rw [← htl]; simp only [List.length_append, List.length_singleton] at hl; omega
  have CA := hideI (fun (V : World) (q : Below (w.alloc (.cells #[.int .i64 x.k, .int .u64 x.n, .int .i64 x.b, .bool x.s, .string x.nm, .slice (some ⟨bk, off, none⟩) x.kids.length kc] 56)).heap.size (w.alloc (.cells #[.int .i64 x.k, .int .u64 x.n, .int .i64 x.b, .bool x.s, .string x.nm, .slice (some ⟨bk, off, none⟩) x.kids.length kc] 56)) V) => IHy B 11 kv V (hky.step (q.mono S0.le)) (Nat.le_trans S0.le q.size) hfy hoy (by decide) (by omega))
  have NA := hideI (fun (V : World) => rtname_any x.b x.s V)
  have EC := hideI (show ⟨#[40]⟩ ++ tyN x.b x.s ++ ⟨#[41]⟩ ++ ba (shE y 11) = ba ([40] ++ (tyN x.b x.s).data.toList ++ [41] ++ shE y 11) by rw [show (⟨#[40]⟩ : ByteArray) = ba [40] from rfl, show (⟨#[41]⟩ : ByteArray) = ba [41] from rfl, ← bcat, ← bcat, ← bcat, ba_of])
  have hz1 : ¬ 9223372036854775807 < 1 + (tyN x.b x.s).size := by omega
  have hz2 : ¬ 9223372036854775807 < 1 + (tyN x.b x.s).size + 1 := by omega
  have hz3 : ¬ 9223372036854775807 < 1 + (tyN x.b x.s).size + 1 + (ba (shE y 11)).size := by rw [ba_size]; omega
  clear hl hl2 IHy hoy hfy hky hnl hyl htl
  rw [← unhideI EC]
  clear EC
  generalize ba (shE y 11) = TY at *
  generalize tyN x.b x.s = ty at *
  generalize hob : (#[.int .i64 x.k, .int .u64 x.n, .int .i64 x.b, .bool x.s, .string x.nm, .slice (some ⟨bk, off, none⟩) x.kids.length kc] : Array Value) = ob at *
  rw [hk] at hob
  subst hob
  have CL := hideI (fun (W : World) (s : Tx8 w W B x (some ⟨bk, off, none⟩) kc) => six_at s.bx)
  obtain ⟨q0, q1, q2, q3, q4, q5⟩ := six_at S0.bx
  rw [hk] at q0
  have hs0 := S0.bx.1
  have S1 := hideI S0
  have HK := hideI hk
  clear S0 hk hy
  generalize hW0 : w.alloc (.cells #[.int .i64 5, .int .u64 x.n, .int .i64 x.b, .bool x.s, .string x.nm, .slice (some ⟨bk, off, none⟩) x.kids.length kc] 56) = W0 at *
  go_enter Tryz.func15, Tryz.ntmps15
  go_wp2_with fail
  refine wp_region_later (by kernel_rfl) (by kernel_rfl) ?_
  intro L hne lt hlc hlf hlm
  repeat (go_big_quiet_step (first | (go_at_call 13; exact later_call hlm (unhideI NA _)) | (go_at_call 15; exact later_call hlm (unhideI CA _ (hlm.1 _)))))
  refine wpQuiet_nil ?_
  intro wq kq
  clear hlm hlf hlc lt hne L
  obtain ⟨hqc, hqf⟩ := below_cells kq
  have S2 := hideI ((unhideI S1).next kq)
  clear hqc hqf q0 q1 q2 q3 q4 q5 c0 c1 c2 c3 c4 c5 S1
  go_wp2_with fail
  go_ret
  exact ⟨rfl, (unhideI S2).d⟩
set_option maxRecDepth 100000 in
set_option maxHeartbeats 1000000 in
theorem rt_call (x : Ex) (IH : ∀ y ∈ x.kids, RTx y) (hk : x.k = 4) : RTx x := by
  intro B least kv w hkx hB hf ho hle hl
  obtain ⟨ka, kc, rfl⟩ := hkx.slice
  have hsh : shE x least = x.nm.data.toList ++ [40] ++ shC x.kids ++ [41] := by rw [shE_eq]; unfold putE; rw [if_neg (by omega), if_neg (by omega), if_neg (by omega), if_neg (by omega), if_pos hk, shL_one _ (fun i => by simp [kidW, hk])]; rfl
  have hnl : x.nm.data.toList.length = x.nm.size := by simp
  rw [hsh] at hl ⊢
  have hl2 : x.nm.size + 1 + (shC x.kids).length + 1 ≤ 1000000000 := by rw [← hnl]; simpa only [List.length_append, List.length_singleton] using hl
  have S0 := Tx8.begin hkx hB
  have hI : ¬ (12 : Int) < (least : Int) := by omega
  have hmx : x.kids.length ≤ 8 := by have := ho.x.kh; unfold kidHi at this; rw [if_neg (by omega), if_pos hk] at this; exact this
  have HO := hideI ho.kids
  have HI := hideI IH
  have HL := hideI hl2
  have hz1 : ¬ 9223372036854775807 < x.nm.size + 1 := by omega
  have E0 := hideI (show x.nm ++ ⟨#[40]⟩ = ba (x.nm.data.toList ++ [40] ++ shC (x.kids.take 0)) by rw [show shC (x.kids.take 0) = [] by simp [shC, joinC], List.append_nil, ← bcat, ba_of]; rfl)
  clear hsh hkx ho hf IH hl hl2
  have ER := hideI (show ba (x.nm.data.toList ++ [40] ++ shC x.kids) ++ ⟨#[41]⟩ = ba (x.nm.data.toList ++ [40] ++ shC x.kids ++ [41]) by rw [show (⟨#[41]⟩ : ByteArray) = ba [41] from rfl, bcat])
  generalize ba (x.nm.data.toList ++ [40] ++ shC x.kids ++ [41]) = RR at *
  generalize hob : (#[.int .i64 x.k, .int .u64 x.n, .int .i64 x.b, .bool x.s, .string x.nm, .slice ka x.kids.length kc] : Array Value) = ob at *
  rw [hk] at hob
  subst hob
  have CL := hideI (fun (W : World) (s : Tx8 w W B x ka kc) => six_at s.bx)
  obtain ⟨q0, q1, q2, q3, q4, q5⟩ := six_at S0.bx
  rw [hk] at q0
  have hs0 := S0.bx.1
  have S1 := hideI S0
  have HK := hideI hk
  clear S0 hk
  generalize hW0 : w.alloc (.cells #[.int .i64 4, .int .u64 x.n, .int .i64 x.b, .bool x.s, .string x.nm, .slice ka x.kids.length kc] 56) = W0 at *
  have HN := hideI (show x.nm.data.toList.length = x.nm.size by simp)
  go_enter Tryz.func15, Tryz.ntmps15
  go_wp2_with fail
  go_loopg [6, 85] x.kids.length (fun g u y wr => ∃ (i : Nat), i ≤ x.kids.length ∧ g = x.kids.length - i ∧ y = .int .i64 (i : Int) ∧ u = .string (ba (x.nm.data.toList ++ [40] ++ shC (x.kids.take i))) ∧ Hid (Tx8 w wr B x ka kc))
  case atStart => exact ⟨0, Nat.zero_le _, rfl, rfl, by rw [unhideI E0], S1⟩
  case round =>
    obtain ⟨i, hi, hg, rfl, rfl, HC⟩ := hrel
    generalize wr = W1 at *
    clear S1 q0 q1 q2 q3 q4 q5 E0
    by_cases hlt : i < x.kids.length
    · obtain ⟨bk, off, kv, rfl, hbk, hky, hfy, c0, c1, c2, c3, c4, c5⟩ := tx_kid (unhideI HC) i hlt
      obtain ⟨ja, jc, rfl⟩ := hky.slice
      have hiI : (i : Int) < (x.kids.length : Int) := by omega
      have hi0 : (0 : Int) ≤ (i : Int) := by omega
      have hsl := shC_le x.kids (i + 1)
      have ET := hideI (shC_take x.kids i hlt)
      rw [unhideI ET] at hsl
      simp only [List.length_append] at hsl
      have ka1 := below_a W1 (.cells #[.int .i64 x.kids[i].k, .int .u64 x.kids[i].n, .int .i64 x.kids[i].b, .bool x.kids[i].s, .string x.kids[i].nm, .slice ja x.kids[i].kids.length jc] 56)
      have S2 := hideI ((unhideI HC).next ka1)
      have CA := hideI (unhideI HI x.kids[i] (List.getElem_mem hlt) B 1 _ _ (hky.step (ka1.mono (unhideI HC).le)) (unhideI S2).le hfy (unhideI HO _ (List.getElem_mem hlt)) (by decide) (by have := unhideI HL; omega))
      have hlA : (ba (x.nm.data.toList ++ [40] ++ shC (x.kids.take i))).size + (if i = 0 then [] else [44, 32] : List UInt8).length + (ba (shE x.kids[i] 1)).size ≤ 1000000000 := by
        rw [ba_size, ba_size]
        have := unhideI HL
        simp only [List.length_append, List.length_singleton, unhideI HN]
        omega
      have EC := hideI (show ba (x.nm.data.toList ++ [40] ++ shC (x.kids.take i)) ++ ba (if i = 0 then [] else [44, 32]) ++ ba (shE x.kids[i] 1) = ba (x.nm.data.toList ++ [40] ++ shC (x.kids.take (i + 1))) by rw [bcat, bcat, unhideI ET]; simp only [List.append_assoc])
      clear hsl ka1 hky hfy HC
      generalize ba (shE x.kids[i] 1) = TY at *
      generalize ba (x.nm.data.toList ++ [40] ++ shC (x.kids.take i)) = SA at *
      generalize x.kids[i] = y at *
      by_cases hz : i = 0
      · rw [if_pos hz] at EC hlA
        have hzI : ¬ (0 : Int) < (i : Int) := by omega
        have hz2 : ¬ 9223372036854775807 < SA.size + TY.size := by simp only [List.length_nil] at hlA; omega
        have HZ := hideI hz
        clear hz hlA
        go_wp2_with fail
        refine (unhideI CA).mono ?_
        rintro e w3 ⟨rfl, k3⟩
        have S3 := hideI ((unhideI S2).next k3)
        clear CA k3 S2 c0 c1 c2 c3 c4 c5
        go_wp2_with fail
        go_roundg (x.kids.length - (i + 1))
        case measure => omega
        case rel => exact ⟨i + 1, by omega, rfl, by go_num, by rw [← unhideI EC, bnil], S3⟩
      · rw [if_neg hz] at EC hlA
        have hzI : (0 : Int) < (i : Int) := by omega
        have hzN : 0 < i := by omega
        have hz2 : ¬ 9223372036854775807 < SA.size + 2 := by simp only [List.length_cons, List.length_nil] at hlA; omega
        have hz3 : ¬ 9223372036854775807 < SA.size + 2 + TY.size := by simp only [List.length_cons, List.length_nil] at hlA; omega
        have HZ := hideI hz
        clear hz hlA
        go_wp2_with fail
        refine (unhideI CA).mono ?_
        rintro e w3 ⟨rfl, k3⟩
        have S3 := hideI ((unhideI S2).next k3)
        clear CA k3 S2 c0 c1 c2 c3 c4 c5
        go_wp2_with fail
        go_roundg (x.kids.length - (i + 1))
        case measure => omega
        case rel => exact ⟨i + 1, by omega, rfl, by go_num, by rw [← unhideI EC]; rfl, S3⟩
    · have hiI : ¬ (i : Int) < (x.kids.length : Int) := by omega
      rw [List.take_of_length_le (show x.kids.length ≤ i by omega)]
      have hz2 : ¬ 9223372036854775807 < (ba (x.nm.data.toList ++ [40] ++ shC x.kids)).size + 1 := by rw [ba_size]; have := unhideI HL; simp only [List.length_append, List.length_singleton, unhideI HN]; omega
      generalize ba (x.nm.data.toList ++ [40] ++ shC x.kids) = SA at *
      go_wp2_with fail
      go_ret
      exact ⟨by rw [← unhideI ER]; rfl, (unhideI HC).d⟩
end Go.Proofs.YtbakhengcgclmaaGreatDoor
