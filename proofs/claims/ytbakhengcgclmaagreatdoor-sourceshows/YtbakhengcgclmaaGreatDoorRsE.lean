/-
  Writing: the document's answer: operators; any expression.
-/
import Derived.Test.YtbakhengcgclmaaGreatDoorRsB
import Derived.Test.YtbakhengcgclmaaGreatDoorRsCz
namespace Go.Proofs.YtbakhengcgclmaaGreatDoor
open Go.RowKit Go.Great
set_option linter.unusedSimpArgs false
set_option linter.unusedVariables false

def binK (n : Nat) (s : ByteArray) : Int := if n = 1 then (if s = ba [124, 124] then 26 else 0) else if n = 2 then (if s = ba [38, 38] then 25 else 0) else if n = 3 then (if s = ba [124] then 24 else 0) else if n = 4 then (if s = ba [94] then 23 else 0) else if n = 5 then (if s = ba [38] then 22 else 0) else if n = 6 then (if s = ba [61, 61] then 20 else (if s = ba [33, 61] then 21 else 0)) else if n = 7 then (if s = ba [60] then 16 else (if s = ba [60, 61] then 17 else (if s = ba [62] then 18 else (if s = ba [62, 61] then 19 else 0)))) else if n = 8 then (if s = ba [60, 60] then 14 else (if s = ba [62, 62] then 15 else 0)) else if n = 9 then (if s = ba [43] then 12 else (if s = ba [45] then 13 else 0)) else if n = 10 then (if s = ba [42] then 9 else (if s = ba [47] then 10 else (if s = ba [37] then 11 else 0))) else 0
def sgR : List (List UInt8) := [[124, 124], [38, 38], [124], [94], [38], [61, 61], [33, 61], [60], [60, 61], [62], [62, 61], [60, 60], [62, 62], [43], [45], [42], [47], [37]]
def sgI (k : Int) : Nat := [15, 16, 17, 13, 14, 11, 12, 7, 8, 9, 10, 5, 6, 4, 3, 2, 1, 0].getD (k - 9).toNat 0
theorem rbin_any (n : Nat) (h1 : 1 ≤ n) (h2 : n ≤ 10) (s : ByteArray) (w : World) : Calls Tryz.prog 32 #[.int .i64 (n : Int), .string s] w fun e w' => e = .returned (.int .i64 (binK n s)) ∧ Below w.heap.size w w' := by
  have h : n = 1 ∨ n = 2 ∨ n = 3 ∨ n = 4 ∨ n = 5 ∨ n = 6 ∨ n = 7 ∨ n = 8 ∨ n = 9 ∨ n = 10 := by omega
  rcases h with rfl | rfl | rfl | rfl | rfl | rfl | rfl | rfl | rfl | rfl
  · exact rbin_1 s w
  · exact rbin_2 s w
  · exact rbin_3 s w
  · exact rbin_4 s w
  · exact rbin_5 s w
  · exact rbin_6 s w
  · exact rbin_7 s w
  · exact rbin_8 s w
  · exact rbin_9 s w
  · exact rbin_10 s w
theorem bin_chk : ((List.range 18).all fun k => (List.range 11).all fun n => (List.range 18).all fun j => decide (1 ≤ n → (binK n (ba (sgR.getD j [])) = ((k : Nat) : Int) + 9 ↔ n = opW ((k : Int) + 9) ∧ j = sgI ((k : Int) + 9)))) = true := by kernel_rfl
theorem bin_hit {k : Int} (hk : 9 ≤ k) (hk2 : k ≤ 26) (n j : Nat) (h1 : 1 ≤ n) (h2 : n ≤ 10) (hj : j < 18) : binK n (ba (sgR.getD j [])) = k ↔ n = opW k ∧ j = sgI k := by
  obtain ⟨q, rfl⟩ : ∃ q : Nat, k = (q : Int) + 9 := ⟨(k - 9).toNat, by omega⟩
  have h := bin_chk
  rw [List.all_eq_true] at h
  have h := h q (List.mem_range.2 (by omega))
  rw [List.all_eq_true] at h
  have h := h n (List.mem_range.2 (by omega))
  rw [List.all_eq_true] at h
  have h := h j (List.mem_range.2 hj)
  exact of_decide_eq_true h h1
theorem sgI_chk : ((List.range 18).all fun k => decide (sgI ((k : Int) + 9) < 18 ∧ sgR.getD (sgI ((k : Int) + 9)) [] = opS ((k : Int) + 9) ∧ 1 ≤ opW ((k : Int) + 9) ∧ opW ((k : Int) + 9) ≤ 10)) = true := by kernel_rfl
theorem sgI_at {k : Int} (hk : 9 ≤ k) (hk2 : k ≤ 26) : sgI k < 18 ∧ sgR.getD (sgI k) [] = opS k ∧ 1 ≤ opW k ∧ opW k ≤ 10 := by
  obtain ⟨q, rfl⟩ : ∃ q : Nat, k = (q : Int) + 9 := ⟨(k - 9).toNat, by omega⟩
  have h := sgI_chk
  rw [List.all_eq_true] at h
  exact of_decide_eq_true (h q (List.mem_range.2 (by omega)))
theorem sgR_len (j : Nat) : (sgR.getD j []).length ≤ 2 := by
  have hm : ∀ p ∈ sgR, p.length ≤ 2 := by decide
  rw [List.getD_eq_getElem?_getD]
  cases h : sgR[j]? with
  | none => simp
  | some p => simpa using hm p (List.mem_of_getElem? h)
/-- Where the two loops are: has the operator been found? -/
structure At2 (wt j0 : Nat) (T : ByteArray) (n j : Nat) (own : Int) (str : ByteArray) : Prop where
  yes : wt < n ∨ wt = n ∧ j0 < j → own = wt ∧ str = T
  no : ¬ (wt < n ∨ wt = n ∧ j0 < j) → own = 12 ∧ str = ⟨#[]⟩
set_option maxRecDepth 100000 in
set_option maxHeartbeats 2000000 in
theorem rt_two (x : Ex) (IH : ∀ y ∈ x.kids, RTx y) (hk9 : 9 ≤ x.k) : RTx x := by
  intro B least kv w hkx hB hf ho hle hl
  obtain ⟨ka, kc, rfl⟩ := hkx.slice
  have hx := ho.x
  have hi := hx.hi
  obtain ⟨hj18, hjs, hw1, hw10⟩ := sgI_at hk9 hi
  have BH := hideI (fun n j h1 h2 h3 => bin_hit hk9 hi n j h1 h2 h3)
  have hsl := opS_len x.k
  have hkl : x.kids.length = 2 := by
    have h1 := hx.kl
    have h2 := hx.kh
    unfold kidLo at h1
    unfold kidHi at h2
    rw [if_neg (by omega), if_neg (by omega)] at h1
    rw [if_neg (by omega), if_neg (by omega), if_neg (by omega)] at h2
    omega
  obtain ⟨x0, x1, hkids⟩ : ∃ x0 x1, x.kids = [x0, x1] := by
    match hm : x.kids, hkl with
    | [y0, y1], _ => exact ⟨y0, y1, rfl⟩
  have hsh : shE x least = if opW x.k < least then [40] ++ (shE x0 (opW x.k) ++ ([32] ++ opS x.k ++ [32]) ++ shE x1 (opW x.k + 1)) ++ [41] else shE x0 (opW x.k) ++ ([32] ++ opS x.k ++ [32]) ++ shE x1 (opW x.k + 1) := by
    rw [shE_eq, hkids, shL_cons, shL_cons]
    unfold putE
    rw [if_pos hk9]
    simp only [kidW, if_pos hk9]
    simp [List.getD]
  have hlT : (shE x0 (opW x.k)).length + (opS x.k).length + (shE x1 (opW x.k + 1)).length + 4 ≤ 1000000004 := by
    rw [hsh] at hl
    split at hl <;> (simp only [List.length_append, List.length_cons, List.length_nil] at hl; omega)
  have S0 := Tx8.begin hkx hB
  obtain ⟨bk, off, kv0, rfl, hbk, hk0, hf0, c0, c1, c2, c3, c4, c5⟩ := tx_kid S0 0 (by omega)
  obtain ⟨bk', off', kv1, e1, -, hk1, hf1, d0, d1, d2, d3, d4, d5⟩ := tx_kid S0 1 (by omega)
  injection e1 with e1
  injection e1 with e1 e2
  subst e1 e2
  have ey0 : x.kids[0]'(by omega) = x0 := by simp [hkids]
  have ey1 : x.kids[1]'(by omega) = x1 := by simp [hkids]
  rw [ey0] at hk0 hf0 c0 c1 c2 c3 c4
  rw [ey1] at hk1 hf1 d0 d1 d2 d3 d4
  simp only [Nat.zero_mul, Nat.one_mul, Nat.add_zero] at c0 c1 c2 c3 c4 c5 d0 d1 d2 d3 d4 d5
  have KC := hideI (show ∀ V, Below (w.alloc (.cells #[.int .i64 x.k, .int .u64 x.n, .int .i64 x.b, .bool x.s, .string x.nm, .slice (some ⟨bk, off, none⟩) x.kids.length kc] 56)).heap.size (w.alloc (.cells #[.int .i64 x.k, .int .u64 x.n, .int .i64 x.b, .bool x.s, .string x.nm, .slice (some ⟨bk, off, none⟩) x.kids.length kc] 56)) V → V.cell? ⟨bk, off, none⟩ = some (.int .i64 x0.k) ∧ V.cell? ⟨bk, off + 1, none⟩ = some (.int .u64 x0.n) ∧ V.cell? ⟨bk, off + 2, none⟩ = some (.int .i64 x0.b) ∧ V.cell? ⟨bk, off + 3, none⟩ = some (.bool x0.s) ∧ V.cell? ⟨bk, off + 4, none⟩ = some (.string x0.nm) ∧ V.cell? ⟨bk, off + 5, none⟩ = some kv0 ∧ V.cell? ⟨bk, off + 6, none⟩ = some (.int .i64 x1.k) ∧ V.cell? ⟨bk, off + 6 + 1, none⟩ = some (.int .u64 x1.n) ∧ V.cell? ⟨bk, off + 6 + 2, none⟩ = some (.int .i64 x1.b) ∧ V.cell? ⟨bk, off + 6 + 3, none⟩ = some (.bool x1.s) ∧ V.cell? ⟨bk, off + 6 + 4, none⟩ = some (.string x1.nm) ∧ V.cell? ⟨bk, off + 6 + 5, none⟩ = some kv1 ∧ bk < V.heap.size from fun V q =>
    ⟨(q.cell (p := ⟨bk, off, none⟩) hbk).trans c0, (q.cell (p := ⟨bk, off + 1, none⟩) hbk).trans c1, (q.cell (p := ⟨bk, off + 2, none⟩) hbk).trans c2, (q.cell (p := ⟨bk, off + 3, none⟩) hbk).trans c3, (q.cell (p := ⟨bk, off + 4, none⟩) hbk).trans c4, (q.cell (p := ⟨bk, off + 5, none⟩) hbk).trans c5,
     (q.cell (p := ⟨bk, off + 6, none⟩) hbk).trans d0, (q.cell (p := ⟨bk, off + 6 + 1, none⟩) hbk).trans d1, (q.cell (p := ⟨bk, off + 6 + 2, none⟩) hbk).trans d2, (q.cell (p := ⟨bk, off + 6 + 3, none⟩) hbk).trans d3, (q.cell (p := ⟨bk, off + 6 + 4, none⟩) hbk).trans d4, (q.cell (p := ⟨bk, off + 6 + 5, none⟩) hbk).trans d5, Nat.lt_of_lt_of_le hbk q.size⟩)
  have CA := hideI (fun (V : World) (q : Below (w.alloc (.cells #[.int .i64 x.k, .int .u64 x.n, .int .i64 x.b, .bool x.s, .string x.nm, .slice (some ⟨bk, off, none⟩) x.kids.length kc] 56)).heap.size (w.alloc (.cells #[.int .i64 x.k, .int .u64 x.n, .int .i64 x.b, .bool x.s, .string x.nm, .slice (some ⟨bk, off, none⟩) x.kids.length kc] 56)) V) => IH x0 (by rw [hkids]; simp) B (opW x.k) kv0 V (hk0.step (q.mono S0.le)) (Nat.le_trans S0.le q.size) hf0 (ho.kids x0 (by rw [hkids]; simp)) (by omega) (by omega))
  have CB := hideI (fun (V : World) (q : Below (w.alloc (.cells #[.int .i64 x.k, .int .u64 x.n, .int .i64 x.b, .bool x.s, .string x.nm, .slice (some ⟨bk, off, none⟩) x.kids.length kc] 56)).heap.size (w.alloc (.cells #[.int .i64 x.k, .int .u64 x.n, .int .i64 x.b, .bool x.s, .string x.nm, .slice (some ⟨bk, off, none⟩) x.kids.length kc] 56)) V) => IH x1 (by rw [hkids]; simp) B (opW x.k + 1) kv1 V (hk1.step (q.mono S0.le)) (Nat.le_trans S0.le q.size) hf1 (ho.kids x1 (by rw [hkids]; simp)) (by omega) (by omega))
  have E4 := hideI (show ba (shE x0 (opW x.k)) ++ ⟨#[32]⟩ ++ ba (opS x.k) ++ ⟨#[32]⟩ ++ ba (shE x1 (opW x.k + 1)) = ba (shE x0 (opW x.k) ++ ([32] ++ opS x.k ++ [32]) ++ shE x1 (opW x.k + 1)) by rw [show (⟨#[32]⟩ : ByteArray) = ba [32] from rfl, bcat, bcat, bcat, bcat]; simp only [List.append_assoc])
  obtain ⟨R, hR⟩ : ∃ R, R = ba (shE x least) := ⟨_, rfl⟩
  rw [← hR]
  have R1 : opW x.k < least → R = ⟨#[40]⟩ ++ ba (shE x0 (opW x.k) ++ ([32] ++ opS x.k ++ [32]) ++ shE x1 (opW x.k + 1)) ++ ⟨#[41]⟩ := fun h => by rw [hR, hsh, if_pos h, ← bcat, ← bcat]; rfl
  have R2 : ¬ opW x.k < least → R = ba (shE x0 (opW x.k) ++ ([32] ++ opS x.k ++ [32]) ++ shE x1 (opW x.k + 1)) := fun h => by rw [hR, hsh, if_neg h]
  rw [← unhideI E4] at R1 R2
  have HR1 := hideI R1
  have HR2 := hideI R2
  have hT0 : (ba (shE x0 (opW x.k))).size ≤ 1000000000 := by rw [ba_size]; omega
  have hT1 : (ba (shE x1 (opW x.k + 1))).size ≤ 1000000000 := by rw [ba_size]; omega
  have hTS : (ba (opS x.k)).size ≤ 2 := by rw [ba_size]; exact hsl
  have HJS := hideI (show ba (sgR.getD (sgI x.k) []) = ba (opS x.k) by rw [hjs])
  clear R1 R2 hR hsh hlT hl E4 c0 c1 c2 c3 c4 c5 d0 d1 d2 d3 d4 d5 hk0 hk1 hf0 hf1 hkx ho hf IH hx hjs hsl ey0 ey1 hkids
  generalize ba (shE x0 (opW x.k)) = T0 at *
  generalize ba (shE x1 (opW x.k + 1)) = T1 at *
  generalize ba (opS x.k) = TS at *
  generalize opW x.k = wt at *
  generalize sgI x.k = j0 at *
  have e1 : (x.k == 1) = false := beq_eq_false_iff_ne.2 (by omega)
  have e2 : (x.k == 2) = false := beq_eq_false_iff_ne.2 (by omega)
  have e3 : (x.k == 3) = false := beq_eq_false_iff_ne.2 (by omega)
  have e4 : (x.k == 4) = false := beq_eq_false_iff_ne.2 (by omega)
  have e5 : (x.k == 5) = false := beq_eq_false_iff_ne.2 (by omega)
  have e6 : (x.k == 6) = false := beq_eq_false_iff_ne.2 (by omega)
  have e7 : (x.k == 7) = false := beq_eq_false_iff_ne.2 (by omega)
  have e8 : (x.k == 8) = false := beq_eq_false_iff_ne.2 (by omega)
  have CL := hideI (fun (W : World) (s : Tx8 w W B x (some ⟨bk, off, none⟩) kc) => six_at s.bx)
  obtain ⟨q0, q1, q2, q3, q4, q5⟩ := six_at S0.bx
  have hs0 := S0.bx.1
  have S1 := hideI S0
  clear S0 hbk
  have hkI : (x.kids.length : Int) = 2 := by omega
  generalize x.kids.length = kl at *
  subst hkl
  generalize hW0 : w.alloc (.cells #[.int .i64 x.k, .int .u64 x.n, .int .i64 x.b, .bool x.s, .string x.nm, .slice (some ⟨bk, off, none⟩) 2 kc] 56) = W0 at *
  obtain ⟨TT, hTT⟩ : ∃ TT, TT = T0 ++ ⟨#[32]⟩ ++ TS ++ ⟨#[32]⟩ ++ T1 := ⟨_, rfl⟩
  rw [← hTT] at HR1 HR2
  have HTT := hideI hTT
  have hz1 : ¬ 9223372036854775807 < T0.size + 1 := by omega
  have hz2 : ¬ 9223372036854775807 < T0.size + 1 + TS.size := by omega
  have hz3 : ¬ 9223372036854775807 < T0.size + 1 + TS.size + 1 := by omega
  have hz4 : ¬ 9223372036854775807 < T0.size + 1 + TS.size + 1 + T1.size := by omega
  have hTL : TT.size ≤ 4000000000 := by
    rw [hTT]
    simp only [ByteArray.size_append]
    show T0.size + 1 + TS.size + 1 + T1.size ≤ _
    omega
  clear hTT hkI hT0 hT1 hTS
  go_enter Tryz.func15, Tryz.ntmps15
  go_wp2_with fail
  go_loopg [5, 6, 9] 10 (fun g a s y wr => ∃ (n : Nat) (own : Int) (str : ByteArray), 1 ≤ n ∧ n ≤ 11 ∧ g = 11 - n ∧ y = .int .i64 (n : Int) ∧ a = .int .i64 own ∧ s = .string str ∧ Hid (At2 wt j0 TT n 0 own str) ∧ Hid (Tx8 w wr B x (some ⟨bk, off, none⟩) kc) ∧ Hid (Below W0.heap.size W0 wr))
  case atStart => exact ⟨1, 12, ⟨#[]⟩, by decide, by decide, rfl, rfl, rfl, rfl, ⟨fun h => by omega, fun _ => ⟨rfl, rfl⟩⟩, S1, Below.refl _ _⟩
  case round =>
    obtain ⟨n, own, str, hn1, hn11, hg, rfl, rfl, rfl, HA, HS, HBW⟩ := hrel
    generalize wr = W1 at *
    clear S1 q0 q1 q2 q3 q4 q5
    by_cases hn : n ≤ 10
    · have hnI : (n : Int) ≤ 10 := by omega
      have kS := below_a W1 (.cells #[.string ⟨#[124, 124]⟩, .string ⟨#[38, 38]⟩, .string ⟨#[124]⟩, .string ⟨#[94]⟩, .string ⟨#[38]⟩, .string ⟨#[61, 61]⟩, .string ⟨#[33, 61]⟩, .string ⟨#[60]⟩, .string ⟨#[60, 61]⟩, .string ⟨#[62]⟩, .string ⟨#[62, 61]⟩, .string ⟨#[60, 60]⟩, .string ⟨#[62, 62]⟩, .string ⟨#[43]⟩, .string ⟨#[45]⟩, .string ⟨#[42]⟩, .string ⟨#[47]⟩, .string ⟨#[37]⟩] 9)
      have HX := hideI (show Box (W1.alloc (.cells #[.string ⟨#[124, 124]⟩, .string ⟨#[38, 38]⟩, .string ⟨#[124]⟩, .string ⟨#[94]⟩, .string ⟨#[38]⟩, .string ⟨#[61, 61]⟩, .string ⟨#[33, 61]⟩, .string ⟨#[60]⟩, .string ⟨#[60, 61]⟩, .string ⟨#[62]⟩, .string ⟨#[62, 61]⟩, .string ⟨#[60, 60]⟩, .string ⟨#[62, 62]⟩, .string ⟨#[43]⟩, .string ⟨#[45]⟩, .string ⟨#[42]⟩, .string ⟨#[47]⟩, .string ⟨#[37]⟩] 9)) W1.heap.size (sgR.map fun l => Value.string (ba l)) from Box.new W1 _ _)
      have S2 := hideI ((unhideI HS).next kS)
      have HB2 := hideI (bT (unhideI HBW) kS)
      clear kS HS HBW
      go_wp2_with fail
      generalize W1.alloc (.cells #[.string ⟨#[124, 124]⟩, .string ⟨#[38, 38]⟩, .string ⟨#[124]⟩, .string ⟨#[94]⟩, .string ⟨#[38]⟩, .string ⟨#[61, 61]⟩, .string ⟨#[33, 61]⟩, .string ⟨#[60]⟩, .string ⟨#[60, 61]⟩, .string ⟨#[62]⟩, .string ⟨#[62, 61]⟩, .string ⟨#[60, 60]⟩, .string ⟨#[62, 62]⟩, .string ⟨#[43]⟩, .string ⟨#[45]⟩, .string ⟨#[42]⟩, .string ⟨#[47]⟩, .string ⟨#[37]⟩] 9) = W2 at *
      generalize W1.heap.size = bs at *
      go_loopg [5, 6, 20] 18 (fun g a s y wr => ∃ (j : Nat) (own' : Int) (str' : ByteArray), j ≤ 18 ∧ g = 18 - j ∧ y = .int .i64 (j : Int) ∧ a = .int .i64 own' ∧ s = .string str' ∧ Hid (At2 wt j0 TT n j own' str') ∧ Hid (Tx8 w wr B x (some ⟨bk, off, none⟩) kc) ∧ Hid (Below W0.heap.size W0 wr) ∧ Hid (Box wr bs (sgR.map fun l => Value.string (ba l))))
      case atStart => exact ⟨0, own, str, by decide, rfl, rfl, rfl, rfl, HA, S2, HB2, HX⟩
      case round =>
        obtain ⟨j, own', str', hj, hgj, rfl, rfl, rfl, HA', HS', HB', HX'⟩ := hrel
        generalize wr = V0 at *
        clear S2 HB2 HX HA
        by_cases hj8 : j < 18
        · have cj := (unhideI HX').2.1 j (.string (ba (sgR.getD j []))) (by rw [List.getElem?_map, List.getD_eq_getElem?_getD, List.getElem?_eq_getElem (show j < sgR.length from hj8)]; rfl)
          have hbs := (unhideI HX').1
          have hjI : (j : Int) < 18 := by omega
          have hj0' : (0 : Int) ≤ (j : Int) := by omega
          have BA := hideI (fun V => rbin_any n hn1 hn (ba (sgR.getD j [])) V)
          have HBt := (unhideI BH) n j hn1 hn hj8
          have HTS := hideI (fun h : j = j0 => (show ba (sgR.getD j []) = TS by rw [h]; exact unhideI HJS))
          generalize binK n (ba (sgR.getD j [])) = r at *
          generalize ba (sgR.getD j []) = SJ at *
          obtain ⟨q0, q1, q2, q3, q4, q5⟩ := unhideI CL _ (unhideI HS')
          have hsw : w.heap.size < V0.heap.size := (unhideI HS').bx.1
          by_cases hit : n = wt ∧ j = j0
          · have bz : (r == x.k) = true := beq_iff_eq.2 (HBt.2 hit)
            obtain ⟨h1, h2⟩ := hit
            have hS := unhideI HTS h2
            subst hS
            have HE1 := hideI h1
            have HE2 := hideI h2
            rw [← h1] at CA CB
            clear HBt h1 h2 HTS
            go_wp2_with fail
            refine wp_region_later (by kernel_rfl) (by kernel_rfl) ?_
            intro L hne lt hlc hlf hlm
            repeat (go_big_quiet_step ((go_at_call 32; exact later_call hlm (unhideI BA _))))
            refine wpQuiet_nil ?_
            intro wq kq
            clear hlm hlf hlc lt hne L
            obtain ⟨hqc, hqf⟩ := below_cells kq
            have S4 := hideI ((unhideI HS').next kq)
            have HB4 := hideI (bT (unhideI HB') kq)
            have HX4 := hideI ((unhideI HX').step kq)
            clear hqc hqf q0 q1 q2 q3 q4 q5 cj HS' HB' HX' BA
            generalize wq = V1 at *
            obtain ⟨q0, q1, q2, q3, q4, q5⟩ := unhideI CL _ (unhideI S4)
            obtain ⟨c0, c1, c2, c3, c4, c5, d0, d1, d2, d3, d4, d5, hbk⟩ := unhideI KC _ (unhideI HB4)
            have hsv : w.heap.size < V1.heap.size := (unhideI S4).bx.1
            go_wp2_with fail
            refine wp_region_later (by kernel_rfl) (by kernel_rfl) ?_
            intro L hne lt hlc hlf hlm
            repeat (go_big_quiet_step (fail))
            go_big_quiet_want
            go_big_quiet_op
            go_big_quiet_call (exact later_call hlm (unhideI CA _ (bT (unhideI HB4) (hlm.1 _))))
            repeat (go_big_quiet_step (fail))
            go_big_quiet_want
            go_big_quiet_op
            go_big_quiet_call (exact later_call hlm (unhideI CB _ (bT (unhideI HB4) (hlm.1 _))))
            repeat (go_big_quiet_step (fail))
            refine wpQuiet_nil ?_
            intro wq kq
            clear hlm hlf hlc lt hne L
            obtain ⟨hqc, hqf⟩ := below_cells kq
            have S5 := hideI ((unhideI S4).next kq)
            have HB5 := hideI (bT (unhideI HB4) kq)
            have HX5 := hideI ((unhideI HX4).step kq)
            clear hqc hqf q0 q1 q2 q3 q4 q5 c0 c1 c2 c3 c4 c5 d0 d1 d2 d3 d4 d5
            go_wp2_with fail
            go_roundg (18 - (j + 1))
            case measure => omega
            case rel => exact ⟨j + 1, _, _, by omega, rfl, by go_num, rfl, rfl, ⟨fun _ => ⟨by rw [unhideI HE1], (unhideI HTT).symm⟩, fun h => absurd (.inr ⟨(unhideI HE1).symm, by rw [unhideI HE2]; omega⟩) h⟩, S5, HB5, HX5⟩
          · have bz : (r == x.k) = false := beq_eq_false_iff_ne.2 (fun e => hit (HBt.1 e))
            have HN := hideI hit
            clear HBt hit HTS
            go_wp2_with fail
            refine wp_region_later (by kernel_rfl) (by kernel_rfl) ?_
            intro L hne lt hlc hlf hlm
            repeat (go_big_quiet_step ((go_at_call 32; exact later_call hlm (unhideI BA _))))
            refine wpQuiet_nil ?_
            intro wq kq
            clear hlm hlf hlc lt hne L
            obtain ⟨hqc, hqf⟩ := below_cells kq
            have S4 := hideI ((unhideI HS').next kq)
            have HB4 := hideI (bT (unhideI HB') kq)
            have HX4 := hideI ((unhideI HX').step kq)
            clear hqc hqf q0 q1 q2 q3 q4 q5 cj HS' HB' HX' BA
            go_wp2_with fail
            go_roundg (18 - (j + 1))
            case measure => omega
            case rel => exact ⟨j + 1, own', str', by omega, rfl, by go_num, rfl, rfl, ⟨fun h => (unhideI HA').yes (by have := unhideI HN; omega), fun h => (unhideI HA').no (by omega)⟩, S4, HB4, HX4⟩
        · have hjI : ¬ (j : Int) < 18 := by omega
          go_wp2_with fail
          go_roundg (11 - (n + 1))
          case measure => omega
          case rel => exact ⟨n + 1, own', str', by omega, by omega, rfl, by go_num, rfl, rfl, ⟨fun h => (unhideI HA').yes (by omega), fun h => (unhideI HA').no (by omega)⟩, HS', HB'⟩
    · have hnI : ¬ (n : Int) ≤ 10 := by omega
      obtain ⟨rfl, rfl⟩ := (unhideI HA).yes (.inl (by omega))
      by_cases hlw : wt < least
      · have hlI : (wt : Int) < (least : Int) := by omega
        have hy1 : ¬ 9223372036854775807 < 1 + str.size := by omega
        have hy2 : ¬ 9223372036854775807 < 1 + str.size + 1 := by omega
        have ER := hideI (unhideI HR1 hlw)
        go_wp2_with fail
        go_ret
        exact ⟨by rw [unhideI ER]; rfl, (unhideI HS).d⟩
      · have hlI : ¬ (wt : Int) < (least : Int) := by omega
        have ER := hideI (unhideI HR2 hlw)
        go_wp2_with fail
        go_ret
        exact ⟨by rw [unhideI ER]; rfl, (unhideI HS).d⟩
theorem rtext_any : ∀ x : Ex, RTx x := by
  apply Ex.ind
  intro x IH
  by_cases h1 : x.k = 1
  · exact rt_num x h1
  by_cases h2 : x.k = 2
  · exact rt_var x h2
  by_cases h3 : x.k = 3
  · exact rt_at x IH h3
  by_cases h4 : x.k = 4
  · exact rt_call x IH h4
  by_cases h5 : x.k = 5
  · exact rt_h5 x IH h5
  by_cases h6 : x.k = 6
  · exact rt_h6 x IH h6
  by_cases h7 : x.k = 7
  · exact rt_h7 x IH h7
  by_cases h8 : x.k = 8
  · exact rt_h8 x IH h8
  intro B least kv w a1 a2 a3 ho
  exact rt_two x IH (by have := ho.x.lo; omega) B least kv w a1 a2 a3 ho
end Go.Proofs.YtbakhengcgclmaaGreatDoor
