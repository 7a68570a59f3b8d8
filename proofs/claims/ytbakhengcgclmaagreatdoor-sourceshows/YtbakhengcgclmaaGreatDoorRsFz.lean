/-
  Writing: the document's answer: statements' pieces.
-/
import Derived.Test.YtbakhengcgclmaaGreatDoorRsE
namespace Go.Proofs.YtbakhengcgclmaaGreatDoor
open Go.RowKit Go.Great
set_option linter.unusedSimpArgs false
set_option linter.unusedVariables false

/-- In a for's brackets sets and expressions stand alone. -/
inductive KdS : Sm → Prop
  | mk (x : Sm) (h1 : x.k = 7 → isSE x.init = true) (h2 : x.k = 7 → isSE x.step = true) (h3 : x.k = 5 ∨ x.k = 6 ∨ x.k = 7 ∨ x.k = 11 → ∀ y ∈ x.body, KdS y) (h4 : x.k = 5 → ∀ y ∈ x.els, KdS y) : KdS x
theorem KdS.parts {x : Sm} (h : KdS x) : (x.k = 7 → isSE x.init = true) ∧ (x.k = 7 → isSE x.step = true) ∧ (x.k = 5 ∨ x.k = 6 ∨ x.k = 7 ∨ x.k = 11 → ∀ y ∈ x.body, KdS y) ∧ (x.k = 5 → ∀ y ∈ x.els, KdS y) := by
  cases h with
  | mk _ a b c d => exact ⟨a, b, c, d⟩
theorem isSE_at {l : List Sm} (h : isSE l = true) (y : Sm) (hy : y ∈ l) : y.k = 3 ∨ y.k = 4 := by
  unfold isSE at h
  rw [List.all_eq_true] at h
  exact of_decide_eq_true (h y hy)
theorem kdL (xs : List Sm) (IH : ∀ y ∈ xs, ∀ d c, (lkS y d c).1 = 0 → KdS y) : ∀ d c, (lkSs xs d c).1 = 0 → ∀ y ∈ xs, KdS y := by
  induction xs with
  | nil => intro d c _ y hy; simp at hy
  | cons a l ih =>
    intro d c h y hy
    rw [lkSs_cons] at h
    by_cases e : (lkS a d c).1 = 0
    · rw [if_neg (by simpa using e)] at h
      rcases List.mem_cons.1 hy with rfl | hy
      · exact IH _ List.mem_cons_self d c e
      · exact ih (fun z hz => IH z (List.mem_cons_of_mem _ hz)) d _ h y hy
    · rw [if_pos e] at h; exact absurd h e
theorem lkB_se {xs : List Sm} {d c : Nat} (h : (lkB xs d c).1 = 0) : isSE xs = true := by
  unfold lkB at h
  split at h
  · cases h
  · split at h
    · assumption
    · cases h
theorem kgood : ∀ (x : Sm) (d c : Nat), (lkS x d c).1 = 0 → KdS x := by
  apply Sm.ind
  intro x I1 I2 I3 I4 d c h
  rw [lkS_eq] at h
  split at h
  · rename_i h1; exact absurd h h1
  · split at h
    · cases h
    · split at h
      · rename_i h3; exact absurd h h3
      · unfold lkI at h
        obtain ⟨r1, e1⟩ := thn_zero h
        rw [e1] at h
        obtain ⟨r2, e2⟩ := thn_zero h
        rw [e2] at h
        obtain ⟨r3, e3⟩ := thn_zero h
        rw [e3] at h
        obtain ⟨r4, e4⟩ := thn_zero h
        rw [e4] at h
        clear e1 e2 e3 e4
        have hO1 : x.k = 7 → isSE x.init = true := fun hk => by rw [if_pos hk] at r1; exact lkB_se r1
        have hO2 : x.k = 7 → isSE x.step = true := fun hk => by rw [if_pos hk] at r4; exact lkB_se r4
        clear r1 r2 r3 r4
        by_cases h5 : x.k = 5
        · rw [if_pos h5] at h
          obtain ⟨r5, e5⟩ := thn_zero h
          rw [e5] at h
          exact .mk x hO1 hO2 (fun _ => kdL x.body I3 _ _ r5) (fun _ => kdL x.els I4 _ _ h)
        · rw [if_neg h5] at h
          by_cases h6 : x.k = 6 ∨ x.k = 7 ∨ x.k = 11
          · rw [if_pos h6] at h
            exact .mk x hO1 hO2 (fun _ => kdL x.body I3 _ _ h) (fun e => absurd e h5)
          · exact .mk x hO1 hO2 (fun e => absurd e (by omega)) (fun e => absurd e h5)
/-- A row out of its own block, in a region that draws its order. -/
theorem quiet_load_row {P : Program} {o : Oper} {a : Act} {C : World → Prop} {K : Act → Prop} (ty : TypeId) (x : Operand) (ho : o.op = .load ty x)
    (g : Nat) (hx : a.eval x = .pointer (some ⟨g, 0, none⟩)) (t : TypeId) (cs : Array Value) (fr : Nat × Nat) (d : TypeDesc) (hg : ∀ w, C w → w.heap[g]? = some (.cells cs t fr))
    (hu : P.underlying ty = some d) (hd : (match d with | .struct _ | .array _ _ => true | _ => false) = true) (hi : (P.info? ty).map (·.size) = some cs.size)
    (hk : K (a.put o.dst (.agg cs))) : o.quiet P a C K :=
  ⟨.agg cs, fun w hw => by
    unfold Oper.quietAt execOp
    simp only [ho, hx, Instr.loadAt, Instr.sureAddr, Sem.run_bind, Sem.run_pure, Result.andThen_ok, run_loadVar_row w g t ty cs fr d (hg w hw) hu hd hi]
    exact ⟨rfl, rfl⟩, hk⟩
/-- On the way through a statement that the document writes. -/
structure Dn (w W : World) (B : Nat) (x : Sm) (v : Sv) : Prop where
  d : Below w.heap.size w W
  bx : SmB W w.heap.size x v
  sv : SvL B W x v
  le : B ≤ W.heap.size
  ok : SmF x
theorem Dn.next {w W W' : World} {B : Nat} {x : Sm} {v : Sv} (h : Dn w W B x v) (q : Below W.heap.size W W') : Dn w W' B x v :=
  ⟨bT h.d q, h.bx.step q, h.sv.step (q.mono h.le), Nat.le_trans h.le q.size, h.ok⟩
theorem Dn.begin {w : World} {B : Nat} {x : Sm} {v : Sv} (hs : SvL B w x v) (hB : B ≤ w.heap.size) (hf : SmF x) : Dn w (w.alloc (.cells (smA x v) 90)) B x v := by
  have hal := below_a w (.cells (smA x v) 90)
  exact ⟨hal, SmB.new _ _ _, hs.step (hal.mono hB), Nat.le_trans hB hal.size, hf⟩
theorem dn_X {w W : World} {B : Nat} {x : Sm} {v : Sv} (h : Dn w W B x v) (ho : OkE x.x) (hl : (shE x.x 1).length ≤ 1000000000) : Calls Tryz.prog 15 #[.agg #[.int .i64 x.x.k, .int .u64 x.x.n, .int .i64 x.x.b, .bool x.x.s, .string x.x.nm, v.xk], .int .i64 1] W fun e W' => e = .returned (.string (ba (shE x.x 1))) ∧ Below W.heap.size W W' :=
  rtext_any x.x B 1 v.xk W h.sv.hx h.le h.ok.2.1 ho (by decide) hl
theorem dn_I {w W : World} {B : Nat} {x : Sm} {v : Sv} (h : Dn w W B x v) (ho : OkE x.i) (hl : (shE x.i 1).length ≤ 1000000000) : Calls Tryz.prog 15 #[.agg #[.int .i64 x.i.k, .int .u64 x.i.n, .int .i64 x.i.b, .bool x.i.s, .string x.i.nm, v.ik], .int .i64 1] W fun e W' => e = .returned (.string (ba (shE x.i 1))) ∧ Below W.heap.size W W' :=
  rtext_any x.i B 1 v.ik W h.sv.hi h.le h.ok.2.2 ho (by decide) hl
theorem b_eq {a : ByteArray} {l : List UInt8} (h : a.data.toList = l) : a = ba l := by subst h; exact (ba_of a).symm
set_option maxRecDepth 100000 in
set_option maxHeartbeats 1000000 in
theorem rset_4 (x : Sm) (v : Sv) (B : Nat) (w : World) (hs : SvL B w x v) (hB : B ≤ w.heap.size) (hf : SmF x) (hx : OkE x.x) (hk : x.k = 4) (hl : (shE x.x 1).length ≤ 1000000000) : Calls Tryz.prog 51 #[.agg (smA x v)] w fun e w' => e = .returned (.string (ba (shE x.x 1))) ∧ Below w.heap.size w w' := by
  have S0 := hideI (Dn.begin hs hB hf)
  have CX := hideI (dn_X (unhideI S0) hx hl)
  obtain ⟨c0, -, -, -, -⟩ := (unhideI S0).bx.own
  rw [hk] at c0
  obtain ⟨p0, p1, p2, p3, p4, p5⟩ := (unhideI S0).bx.exX
  clear hs hB hf hx hl hk
  generalize hA : smA x v = A at *
  generalize hW : w.alloc (.cells A 90) = W0 at *
  have hs0 : w.heap.size < W0.heap.size := (unhideI S0).bx.lt
  generalize ba (shE x.x 1) = TX at *
  go_enter Tryz.func51, Tryz.ntmps51
  go_wp2_with (refine wpList_boxTo rfl 90 (.tmp 0) rfl (some 1) rfl _ rfl A rfl ?_; rw [hW])
  refine (unhideI CX).mono ?_
  rintro e w1 ⟨rfl, k1⟩
  have S1 := hideI ((unhideI S0).next k1)
  clear CX k1 S0
  go_wp2_with fail
  go_ret
  exact ⟨rfl, (unhideI S1).d⟩
set_option maxRecDepth 100000 in
set_option maxHeartbeats 1000000 in
theorem rset_3n (x : Sm) (v : Sv) (B : Nat) (w : World) (hs : SvL B w x v) (hB : B ≤ w.heap.size) (hf : SmF x) (hx : OkE x.x) (hk : x.k = 3) (hh : x.has = false) (hl : (setT x).length ≤ 1000000000) : Calls Tryz.prog 51 #[.agg (smA x v)] w fun e w' => e = .returned (.string (ba (setT x))) ∧ Below w.heap.size w w' := by
  have hT : setT x = x.nm.data.toList ++ [32, 61, 32] ++ shE x.x 1 := by unfold setT; rw [hh]; simp
  rw [hT] at hl ⊢
  have hnl : x.nm.data.toList.length = x.nm.size := by simp
  simp only [List.length_append, List.length_cons, List.length_nil, hnl] at hl
  have S0 := hideI (Dn.begin hs hB hf)
  have CX := hideI (dn_X (unhideI S0) hx (by omega))
  obtain ⟨c0, -, -, c3, c4⟩ := (unhideI S0).bx.own
  rw [hk] at c0
  rw [hh] at c4
  obtain ⟨p0, p1, p2, p3, p4, p5⟩ := (unhideI S0).bx.exX
  have hz1 : ¬ 9223372036854775807 < x.nm.size + 3 := by omega
  have hz2 : ¬ 9223372036854775807 < x.nm.size + 3 + (ba (shE x.x 1)).size := by rw [ba_size]; omega
  have EC := hideI (show x.nm ++ ⟨#[32, 61, 32]⟩ ++ ba (shE x.x 1) = ba (x.nm.data.toList ++ [32, 61, 32] ++ shE x.x 1) by rw [← bcat, ← bcat, ba_of]; rfl)
  rw [← unhideI EC]
  clear hs hB hf hx hl hk hh hT hnl EC
  generalize hA : smA x v = A at *
  generalize hW : w.alloc (.cells A 90) = W0 at *
  have hs0 : w.heap.size < W0.heap.size := (unhideI S0).bx.lt
  generalize ba (shE x.x 1) = TX at *
  go_enter Tryz.func51, Tryz.ntmps51
  go_wp2_with (refine wpList_boxTo rfl 90 (.tmp 0) rfl (some 1) rfl _ rfl A rfl ?_; rw [hW])
  refine (unhideI CX).mono ?_
  rintro e w1 ⟨rfl, k1⟩
  have S1 := hideI ((unhideI S0).next k1)
  clear CX k1 S0
  go_wp2_with fail
  go_ret
  exact ⟨rfl, (unhideI S1).d⟩
set_option maxRecDepth 100000 in
set_option maxHeartbeats 1000000 in
theorem rset_3h (x : Sm) (v : Sv) (B : Nat) (w : World) (hs : SvL B w x v) (hB : B ≤ w.heap.size) (hf : SmF x) (hx : OkE x.x) (hi : OkE x.i) (hk : x.k = 3) (hh : x.has = true) (hl : (setT x).length ≤ 1000000000) : Calls Tryz.prog 51 #[.agg (smA x v)] w fun e w' => e = .returned (.string (ba (setT x))) ∧ Below w.heap.size w w' := by
  have hT : setT x = x.nm.data.toList ++ [91] ++ shE x.i 1 ++ [93] ++ [32, 61, 32] ++ shE x.x 1 := by unfold setT; rw [hh]; simp
  rw [hT] at hl ⊢
  have hnl : x.nm.data.toList.length = x.nm.size := by simp
  simp only [List.length_append, List.length_cons, List.length_nil, hnl] at hl
  have S0 := hideI (Dn.begin hs hB hf)
  have CI := hideI (dn_I (unhideI S0) hi (by omega))
  have CX := hideI (fun (W : World) (s : Dn w W B x v) => dn_X s hx (by omega))
  obtain ⟨c0, -, -, c3, c4⟩ := (unhideI S0).bx.own
  rw [hk] at c0
  rw [hh] at c4
  obtain ⟨r0, r1, r2, r3, r4, r5⟩ := (unhideI S0).bx.exI
  have hz1 : ¬ 9223372036854775807 < x.nm.size + 1 := by omega
  have hz2 : ¬ 9223372036854775807 < x.nm.size + 1 + (ba (shE x.i 1)).size := by rw [ba_size]; omega
  have hz3 : ¬ 9223372036854775807 < x.nm.size + 1 + (ba (shE x.i 1)).size + 1 := by rw [ba_size]; omega
  have hz4 : ¬ 9223372036854775807 < x.nm.size + 1 + (ba (shE x.i 1)).size + 1 + 3 := by rw [ba_size]; omega
  have hz5 : ¬ 9223372036854775807 < x.nm.size + 1 + (ba (shE x.i 1)).size + 1 + 3 + (ba (shE x.x 1)).size := by rw [ba_size, ba_size]; omega
  have EC := hideI (show x.nm ++ ⟨#[91]⟩ ++ ba (shE x.i 1) ++ ⟨#[93]⟩ ++ ⟨#[32, 61, 32]⟩ ++ ba (shE x.x 1) = ba (x.nm.data.toList ++ [91] ++ shE x.i 1 ++ [93] ++ [32, 61, 32] ++ shE x.x 1) by rw [← bcat, ← bcat, ← bcat, ← bcat, ← bcat, ba_of]; rfl)
  rw [← unhideI EC]
  clear hs hB hf hx hi hl hk hh hT hnl EC
  generalize hA : smA x v = A at *
  generalize hW : w.alloc (.cells A 90) = W0 at *
  have hs0 : w.heap.size < W0.heap.size := (unhideI S0).bx.lt
  generalize ba (shE x.x 1) = TX at *
  generalize ba (shE x.i 1) = TI at *
  go_enter Tryz.func51, Tryz.ntmps51
  go_wp2_with (refine wpList_boxTo rfl 90 (.tmp 0) rfl (some 1) rfl _ rfl A rfl ?_; rw [hW])
  refine (unhideI CI).mono ?_
  rintro e w1 ⟨rfl, k1⟩
  have S1 := hideI ((unhideI S0).next k1)
  have CY := hideI (unhideI CX w1 (unhideI S1))
  obtain ⟨p0, p1, p2, p3, p4, p5⟩ := (unhideI S1).bx.exX
  have hs1 : w.heap.size < w1.heap.size := (unhideI S1).bx.lt
  clear CI CX k1 S0 r0 r1 r2 r3 r4 r5 c0 c3 c4
  go_wp2_with fail
  refine (unhideI CY).mono ?_
  rintro e w2 ⟨rfl, k2⟩
  have S2 := hideI ((unhideI S1).next k2)
  clear CY k2 S1
  go_wp2_with fail
  go_ret
  exact ⟨rfl, (unhideI S2).d⟩
/-- What may stand in a for's brackets. -/
theorem rset_any (x : Sm) (v : Sv) (B : Nat) (w : World) (hs : SvL B w x v) (hB : B ≤ w.heap.size) (hf : SmF x) (hc : OkC x) (hk : x.k = 3 ∨ x.k = 4) (hl : (clT x).length ≤ 1000000000) : Calls Tryz.prog 51 #[.agg (smA x v)] w fun e w' => e = .returned (.string (ba (clT x))) ∧ Below w.heap.size w w' := by
  have hx : OkE x.x := hc.hx (by rcases hk with hk | hk <;> simp [hasX, hk])
  rcases hk with hk | hk
  · have e : clT x = setT x := by unfold clT; rw [if_neg (by omega), if_pos hk]
    rw [e] at hl ⊢
    cases hh : x.has
    · exact rset_3n x v B w hs hB hf hx hk hh hl
    · exact rset_3h x v B w hs hB hf hx (hc.hi hk hh) hk hh hl
  · have e : clT x = shE x.x 1 := by unfold clT; rw [if_neg (by omega), if_neg (by omega), if_pos hk]
    rw [e] at hl ⊢
    exact rset_4 x v B w hs hB hf hx hk hl
end Go.Proofs.YtbakhengcgclmaaGreatDoor

/-
  Writing: the document's answer: statements in brackets.
-/
namespace Go.Proofs.YtbakhengcgclmaaGreatDoor
open Go.RowKit Go.Great
set_option linter.unusedSimpArgs false
set_option linter.unusedVariables false

theorem put_none (a : Act) (v : Value) : a.put none v = a := rfl
/-- What the document writes of a statement, wherever it lies. -/
def RWr (x : Sm) : Prop := ∀ (B n : Nat) (v : Sv) (w : World), SvL B w x v → B ≤ w.heap.size → SmF x → OkS x → KdS x → (stT x n).length + n ≤ 1000000000 →
  Calls Tryz.prog 34 #[.agg (smA x v), .int .i64 (n : Int)] w fun e w' => e = .returned (.string (ba (stT x n))) ∧ Below w.heap.size w w'
set_option maxRecDepth 100000 in
set_option maxHeartbeats 2000000 in
theorem rinner_any (xs : List Sm) (IH : ∀ y ∈ xs, RWr y) (ho : ∀ y ∈ xs, OkS y) (hkd : ∀ y ∈ xs, KdS y) (B n : Nat) (v : Value) (w : World) (hx : SmL B w v xs) (hB : B ≤ w.heap.size) (hl : (blT xs n).length ≤ 1000000000) :
    Calls Tryz.prog 16 #[v, .int .i64 (n : Int)] w fun e w' => e = .returned (.string (ba (blT xs n))) ∧ Below w.heap.size w w' := by
  obtain ⟨ao, cap, rfl, hmax, -⟩ := hx.at
  unfold maxLen at hmax
  have HX := hideI hx
  have HBB := hideI hB
  have hlen : (blT xs n).length = 2 + (xs.map (lnT (n + 1))).flatten.length + (n + 1) := by unfold blT; rw [stL_eq]; simp only [List.length_append, List.length_cons, List.length_nil, List.length_replicate]
  rw [hlen] at hl
  have HL := hideI hl
  have HO := hideI ho
  have HI := hideI IH
  have HK := hideI hkd
  have hnB : n ≤ 1000000000 := by omega
  have EE := hideI (show ba ([123, 10] ++ (xs.map (lnT (n + 1))).flatten) ++ ba (List.replicate n 9) ++ ⟨#[125]⟩ = ba (blT xs n) by rw [show (⟨#[125]⟩ : ByteArray) = ba [125] from rfl, bcat, bcat]; unfold blT; rw [stL_eq]; simp only [List.append_assoc])
  rw [← unhideI EE]
  have TB := hideI (fun W => rtabs_any n hnB W)
  have hT1 : (ba (List.replicate n (9 : UInt8))).size = n := by rw [ba_size, List.length_replicate]
  generalize hTN : ba (List.replicate n (9 : UInt8)) = TN at *
  generalize hPF : ba ([123, 10] ++ (xs.map (lnT (n + 1))).flatten) = PF at *
  have HPF := hideI hPF
  clear hPF
  clear hx hl hlen ho IH hkd hB EE hTN
  go_enter Tryz.func16, Tryz.ntmps16
  go_wp2_with fail
  go_loopg [5, 10] xs.length (fun g u y wr => ∃ (i : Nat), i ≤ xs.length ∧ g = xs.length - i ∧ y = .int .i64 (i : Int) ∧ u = .string (ba ([123, 10] ++ ((xs.take i).map (lnT (n + 1))).flatten)) ∧ Hid (Below w.heap.size w wr))
  case atStart => exact ⟨0, Nat.zero_le _, rfl, rfl, rfl, Below.refl _ _⟩
  case round =>
    obtain ⟨i, hi, hg, rfl, rfl, HC⟩ := hrel
    generalize wr = W0 at *
    by_cases hlt : i < xs.length
    · have hxw := (unhideI HX).step ((unhideI HC).mono (unhideI HBB))
      obtain ⟨b1, o1, sv, rfl, hbw, hra, hsv, hf⟩ := hxw.read i hlt
      have HRA := hideI hra
      have ONE := hideI hsv.one
      have hiI : (i : Int) < (xs.length : Int) := by omega
      have hi0 : (0 : Int) ≤ (i : Int) := by omega
      have HFL : ((xs.take i).map (lnT (n + 1))).flatten.length + ((n + 1) + (stT xs[i] (n + 1)).length + 1) ≤ (xs.map (lnT (n + 1))).flatten.length := by
        have := flat_take_le (lnT (n + 1)) xs i hlt
        have e : (lnT (n + 1) xs[i]).length = (n + 1) + (stT xs[i] (n + 1)).length + 1 := by unfold lnT; simp only [List.length_append, List.length_cons, List.length_nil, List.length_replicate]
        omega
      have hLL := unhideI HL
      have ka := below_a W0 (.cells (smA xs[i] sv) 90)
      have HB1 := hideI (bT (unhideI HC) ka)
      have hle : B ≤ (W0.alloc (.cells (smA xs[i] sv) 90)).heap.size := Nat.le_trans (unhideI HBB) (unhideI HB1).size
      have CA := hideI (fun (W : World) (q : Below (W0.alloc (.cells (smA xs[i] sv) 90)).heap.size (W0.alloc (.cells (smA xs[i] sv) 90)) W) => unhideI HI xs[i] (List.getElem_mem hlt) B (n + 1) sv W ((hsv.step (ka.mono (Nat.le_trans (unhideI HBB) (unhideI HC).size))).step (q.mono hle)) (Nat.le_trans hle q.size) hf (unhideI HO _ (List.getElem_mem hlt)) (unhideI HK _ (List.getElem_mem hlt)) (by omega))
      have TA := hideI (fun W => rtabs_any (n + 1) (by omega) W)
      have hAs := hideI (smA_size xs[i] sv)
      have hTT : (ba (List.replicate (n + 1) (9 : UInt8))).size = n + 1 := by rw [ba_size, List.length_replicate]
      have hW1 : (ba (stT xs[i] (n + 1))).size = (stT xs[i] (n + 1)).length := ba_size _
      have hS1 : (ba ([123, 10] ++ ((xs.take i).map (lnT (n + 1))).flatten)).size = 2 + ((xs.take i).map (lnT (n + 1))).flatten.length := by rw [ba_size, List.length_append]; rfl
      have FT := hideI (show ba ([123, 10] ++ ((xs.take i).map (lnT (n + 1))).flatten) ++ ba (List.replicate (n + 1) 9) ++ ba (stT xs[i] (n + 1)) ++ ⟨#[10]⟩ = ba ([123, 10] ++ ((xs.take (i + 1)).map (lnT (n + 1))).flatten) by
        rw [show (⟨#[10]⟩ : ByteArray) = ba [10] from rfl, bcat, bcat, bcat, flat_take (lnT (n + 1)) xs i hlt]; unfold lnT; simp only [List.append_assoc])
      have hz1 : ¬ 9223372036854775807 < (ba ([123, 10] ++ ((xs.take i).map (lnT (n + 1))).flatten)).size + (ba (List.replicate (n + 1) (9 : UInt8))).size := by omega
      have hz2 : ¬ 9223372036854775807 < (ba ([123, 10] ++ ((xs.take i).map (lnT (n + 1))).flatten)).size + (ba (List.replicate (n + 1) (9 : UInt8))).size + (ba (stT xs[i] (n + 1))).size := by omega
      have hz3 : ¬ 9223372036854775807 < (ba ([123, 10] ++ ((xs.take i).map (lnT (n + 1))).flatten)).size + (ba (List.replicate (n + 1) (9 : UInt8))).size + (ba (stT xs[i] (n + 1))).size + 1 := by omega
      have HH := hideI (SmB.new W0 xs[i] sv).heap
      have hlt8 : W0.heap.size < (W0.alloc (.cells (smA xs[i] sv) 90)).heap.size := (SmB.new W0 xs[i] sv).lt
      have hnI : (n : Int) + 1 ≤ 1000000000 := by omega
      have hn0 : (0 : Int) ≤ (n : Int) := by omega
      clear hra hxw hsv hf HFL hLL ka hle hTT hW1 hS1
      simp only [show ((n + 1 : Nat) : Int) = (n : Int) + 1 from rfl] at CA TA
      generalize xs[i] = y at *
      generalize smA y sv = A at *
      generalize ba (stT y (n + 1)) = TS at *
      generalize ba (List.replicate (n + 1) (9 : UInt8)) = TM at *
      generalize ba ([123, 10] ++ ((xs.take i).map (lnT (n + 1))).flatten) = SA at *
      go_wp2_with (first | (refine wpList_load_mid rfl 90 (.tmp 12) rfl b1 (o1 + i * 21) rfl A.toList _ (unhideI HRA) Tryz.underlying90 rfl (by rw [Array.length_toList, unhideI hAs]; exact Tryz.sizeStat) ?_) | (refine wpList_store_row rfl 90 (.tmp 7) (.tmp 13) rfl W0.heap.size A rfl rfl _ _ (heapNew0 _ _) (by rw [unhideI hAs]; exact Tryz.sizeStat) (by rw [unhideI hAs]; rfl) (unhideI ONE) ?_; rw [row_alloc]))
      generalize hWA : W0.alloc (.cells A 90) = WA at *
      rw [put_none]
      refine wp_region_later (by kernel_rfl) (by kernel_rfl) ?_
      intro L hne lt hlc hlf hlm
      repeat (go_big_quiet_step (fail))
      go_big_quiet_want
      go_big_quiet_op
      go_big_quiet_call (exact later_call hlm (unhideI TA _))
      repeat (go_big_quiet_step (fail))
      go_big_quiet_want
      refine quiet_load_row 90 (.tmp 7) rfl W0.heap.size rfl _ A _ _ (fun _ ⟨x, hx⟩ => by rw [hx]; exact ((hlm.1 x).block _ hlt8).trans (unhideI HH)) Tryz.underlying90 rfl (by rw [unhideI hAs]; exact Tryz.sizeStat) ?_; go_simp
      go_big_quiet_on
      repeat (go_big_quiet_step (fail))
      go_big_quiet_want
      go_big_quiet_op
      go_big_quiet_call (exact later_call hlm (unhideI CA _ (hlm.1 _)))
      repeat (go_big_quiet_step (fail))
      refine wpQuiet_nil ?_
      intro wq kq
      clear hlm hlf hlc lt hne L
      obtain ⟨hqc, hqf⟩ := below_cells kq
      have HB2 := hideI (bT (unhideI HB1) kq)
      clear hqc hqf CA TA HB1 HH
      go_wp2_with fail
      go_roundg (xs.length - (i + 1))
      case measure => omega
      case rel => exact ⟨i + 1, by omega, rfl, by go_num, by rw [← unhideI FT], HB2⟩
    · have hiI : ¬ (i : Int) < (xs.length : Int) := by omega
      have hil : xs.take i = xs := List.take_of_length_le (by omega)
      rw [hil]
      have hS1 : PF.size = 2 + (xs.map (lnT (n + 1))).flatten.length := by rw [← unhideI HPF, ba_size, List.length_append]; rfl
      have hLL := unhideI HL
      have hz1 : ¬ 9223372036854775807 < PF.size + TN.size := by omega
      have hz2 : ¬ 9223372036854775807 < PF.size + TN.size + 1 := by omega
      rw [unhideI HPF]
      clear hil hS1 hLL
      go_wp2_with fail
      refine (unhideI TB _).mono ?_
      rintro e w3 ⟨rfl, k3⟩
      have HB3 := hideI (bT (unhideI HC) k3)
      clear k3
      go_wp2_with fail
      go_ret
      exact ⟨rfl, unhideI HB3⟩
end Go.Proofs.YtbakhengcgclmaaGreatDoor
