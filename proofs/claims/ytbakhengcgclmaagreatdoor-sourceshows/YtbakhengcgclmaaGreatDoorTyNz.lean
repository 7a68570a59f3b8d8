/-
  Types of numbers: how a type is written.
-/
import Derived.Test.YtbakhengcgclmaaGreatDoorRegz
import Derived.Test.YtbakhengcgclmaaGreatDoorShelf
import Derived.MapKept
import Derived.WalkKit
import Derived.Test.YtbakhengcgclmaaGreatDoorMemz
import Derived.Test.YtbakhengcgclmaaGreatDoorRows
import Derived.WalkSpells
import Derived.WalkLawsBesides
import Derived.WalkSmall
import Derived.Deep.LoopGhost
namespace Go.Proofs.YtbakhengcgclmaaGreatDoor
open Go.RowKit
set_option linter.unusedSimpArgs false
set_option linter.unusedVariables false

/-- How a type of numbers is written. -/
def dgT (b : Int) : Array UInt8 := if b = 8 then #[56] else if b = 16 then #[49, 54] else if b = 32 then #[51, 50] else #[54, 52]
def nmT (b : Int) (s : Bool) : ByteArray := (if s = true then ⟨#[105]⟩ else ⟨#[117]⟩) ++ ⟨dgT b⟩
theorem dec8 : Lib.decDigits 8 = [56] := by decide +kernel
theorem dec16 : Lib.decDigits 16 = [49, 54] := by decide +kernel
theorem dec32 : Lib.decDigits 32 = [51, 50] := by decide +kernel
theorem dec64 : Lib.decDigits 64 = [54, 52] := by decide +kernel
theorem itoa_w (b : Int) (w : World) (h : IsW b) : Calls Tryz.prog 26 #[.int .i64 b] w fun e w' => e = .returned (.string ⟨dgT b⟩) ∧ w' = w := by
  have H8 := Tryz.strconv_Itoa_small 8 (by decide) w
  have H16 := Tryz.strconv_Itoa_small 16 (by decide) w
  have H32 := Tryz.strconv_Itoa_small 32 (by decide) w
  have H64 := Tryz.strconv_Itoa_small 64 (by decide) w
  rw [dec8] at H8
  rw [dec16] at H16
  rw [dec32] at H32
  rw [dec64] at H64
  rcases h with rfl | rfl | rfl | rfl
  · exact H8
  · exact H16
  · exact H32
  · exact H64
set_option maxHeartbeats 1000000 in
theorem name_yes (b : Int) (s : Bool) (w : World) (h : IsW b) : Calls Tryz.prog 44 #[.agg #[.int .i64 b, .bool s]] w fun e w' => e = .returned (.string (nmT b s)) ∧ Below w.heap.size w w' := by
  have HI := hide (fun (w : World) => itoa_w b w h)
  have HV := hide (fun (w : World) => tvalid_yes b s w h)
  have h0 : (b == 0) = false := by rcases h with rfl | rfl | rfl | rfl <;> decide
  have hD : ¬ (9223372036854775807 < 1 + (dgT b).size) := by rcases h with rfl | rfl | rfl | rfl <;> decide
  cases s
  all_goals
    unfold nmT
    generalize dgT b = D at *
    go_enter Tryz.func44, Tryz.ntmps44
    go_wp2_with (first | (go_at_call 56; refine (unhide HV _).mono ?_; rintro e w1 ⟨rfl, k1⟩; have R1 := hide ((Box.new w #[_, _] 40).step k1); obtain ⟨x0, x1⟩ := (unhide R1).at2) | (go_at_call 26; refine (unhide HI _).mono ?_; rintro e w' ⟨rfl, rfl⟩))
    go_ret
    exact ⟨rfl, bT (below_a _ _) k1⟩
theorem name_no (b : Int) (s : Bool) (w : World) (h : NoW b) : Calls Tryz.prog 44 #[.agg #[.int .i64 b, .bool s]] w fun e w' => e = .returned (.string (if b = 0 then ⟨#[118, 111, 105, 100]⟩ else ⟨#[]⟩)) ∧ Below w.heap.size w w' := by
  have HV := hide (fun (w : World) => tvalid_no b s w h)
  by_cases hb : b = 0
  · subst hb
    go_enter Tryz.func44, Tryz.ntmps44
    go_wp2
    go_ret
    exact ⟨rfl, below_a _ _⟩
  · rw [if_neg hb]
    have h0 : (b == 0) = false := beq_eq_false_iff_ne.2 hb
    go_enter Tryz.func44, Tryz.ntmps44
    go_wp2_with (go_at_call 56; refine (unhide HV _).mono ?_; rintro e w1 ⟨rfl, k1⟩)
    go_ret
    exact ⟨rfl, bT (below_a _ _) k1⟩
end Go.Proofs.YtbakhengcgclmaaGreatDoor

/-
  Types of numbers: which type a name is.
-/
namespace Go.Proofs.YtbakhengcgclmaaGreatDoor
open Go.RowKit
set_option linter.unusedSimpArgs false
set_option linter.unusedVariables false

abbrev Tab := List (ByteArray × Int × Bool)
def tab : Tab := [(⟨#[105, 56]⟩, 8, true), (⟨#[117, 56]⟩, 8, false), (⟨#[105, 49, 54]⟩, 16, true), (⟨#[117, 49, 54]⟩, 16, false), (⟨#[105, 51, 50]⟩, 32, true), (⟨#[117, 51, 50]⟩, 32, false), (⟨#[105, 54, 52]⟩, 64, true), (⟨#[117, 54, 52]⟩, 64, false)]
def entL (l : Tab) : List MapEntry := l.zipIdx.map fun p => ⟨.string p.1.1, .agg #[.int .i64 p.1.2.1, .bool p.1.2.2], p.2⟩
def ent (n : Nat) : Array MapEntry := (entL (tab.take n)).toArray
/-- The first row that has the name. -/
def look : Tab → ByteArray → Option (Int × Bool)
  | [], _ => none
  | (k, b, g) :: l, s => if s == k then some (b, g) else look l s
theorem find_look (s : ByteArray) : ∀ (l : Tab) (j i : Nat), ∃ m, Instr.findNow .string (.string s) ((l.zipIdx j).map fun p => ⟨.string p.1.1, .agg #[.int .i64 p.1.2.1, .bool p.1.2.2], p.2⟩) i = some ((look l s).map fun r => (m, .agg #[.int .i64 r.1, .bool r.2]))
  | [], _, _ => ⟨0, rfl⟩
  | (k, b, g) :: l, j, i => by
    rw [List.zipIdx_cons, List.map_cons]
    unfold Instr.findNow
    simp only [Instr.sameNow]
    by_cases h : (s == k) = true
    · refine ⟨i, ?_⟩
      rw [h]
      simp [look, h]
    · have h' : (s == k) = false := by simpa using h
      obtain ⟨m, hm⟩ := find_look s l (j + 1) (i + 1)
      refine ⟨m, ?_⟩
      rw [h']
      simp only
      rw [hm]
      simp [look, h']
theorem alloc_set (w : World) (o o' : Obj) : { w.alloc o with heap := (w.alloc o).heap.setIfInBounds w.heap.size o' } = w.alloc o' := by
  unfold World.alloc
  simp [-World.alloc_eq]
  apply Array.ext
  · simp
  · intro i h1 h2
    have h3 : i < (w.heap.push o).size := by simpa using h2
    have h4 : i < w.heap.size + 1 := by simpa using h2
    rw [Array.getElem_setIfInBounds h3, Array.getElem_push, Array.getElem_push]
    by_cases e : w.heap.size = i
    · subst e
      simp
    · rw [if_neg e, dif_pos (by omega), dif_pos (by omega)]
theorem heapNew (u : World) (o : Obj) : (u.alloc o).heap[u.heap.size]? = some o := by
  unfold World.alloc
  simp [-World.alloc_eq]
theorem run_put (w : World) (n : Nat) (k : ByteArray) (b : Int) (g : Bool) (hn : ent (n + 1) = (ent n).push ⟨.string k, .agg #[.int .i64 b, .bool g], n⟩) (hf : Instr.findNow .string (.string k) (ent n).toList 0 = some none) :
    (Instr.mapUpdate 156 (.map (some w.heap.size)) (.string k) (.agg #[.int .i64 b, .bool g])).run Tryz.prog (w.alloc (.map (ent n) n)) = .ok () (w.alloc (.map (ent (n + 1)) (n + 1))) := by
  have hb : (w.alloc (.map (ent n) n)).heap[w.heap.size]? = some (.map (ent n) n) := heapNew _ _
  unfold Instr.mapUpdate
  simp only [Sem.run_bind, run_underlying Tryz.underlying156, Result.andThen, Go.MapKept.run_getObj_map hb, Go.MapKept.run_checkKey Tryz.underlying9 (show Go.MapKept.IsKey .string (.string k) from trivial), Go.MapKept.run_findKey Tryz.underlying9 hf, Go.MapKept.run_setObj_map _ hb]
  rw [alloc_set, hn]
set_option maxHeartbeats 1000000 in
theorem byName_any (w : World) : Calls Tryz.prog 111 #[] w fun e w' => e = .returned (.map (some w.heap.size)) ∧ w' = w.alloc (.map (ent 8) 8) := by
  have hmm : ∀ w : World, (Instr.makeMap 156 none).run Tryz.prog w = .ok (.map (some w.heap.size)) (w.alloc (.map (ent 0) 0)) := fun w => rfl
  have h0 := run_put w 0 ⟨#[105, 56]⟩ 8 true (by kernel_rfl) (by kernel_rfl)
  have h1 := run_put w 1 ⟨#[117, 56]⟩ 8 false (by kernel_rfl) (by kernel_rfl)
  have h2 := run_put w 2 ⟨#[105, 49, 54]⟩ 16 true (by kernel_rfl) (by kernel_rfl)
  have h3 := run_put w 3 ⟨#[117, 49, 54]⟩ 16 false (by kernel_rfl) (by kernel_rfl)
  have h4 := run_put w 4 ⟨#[105, 51, 50]⟩ 32 true (by kernel_rfl) (by kernel_rfl)
  have h5 := run_put w 5 ⟨#[117, 51, 50]⟩ 32 false (by kernel_rfl) (by kernel_rfl)
  have h6 := run_put w 6 ⟨#[105, 54, 52]⟩ 64 true (by kernel_rfl) (by kernel_rfl)
  have h7 := run_put w 7 ⟨#[117, 54, 52]⟩ 64 false (by kernel_rfl) (by kernel_rfl)
  simp only [Nat.reduceAdd] at h0 h1 h2 h3 h4 h5 h6 h7
  generalize ent 0 = e0 at *
  generalize ent 1 = e1 at *
  generalize ent 2 = e2 at *
  generalize ent 3 = e3 at *
  generalize ent 4 = e4 at *
  generalize ent 5 = e5 at *
  generalize ent 6 = e6 at *
  generalize ent 7 = e7 at *
  generalize ent 8 = e8 at *
  go_enter Tryz.func111, Tryz.ntmps111
  go_wp2
  go_ret
  exact ⟨rfl, rfl⟩
def nb (s : ByteArray) : Int := match look tab s with | some r => r.1 | none => 0
def ng (s : ByteArray) : Bool := match look tab s with | some r => r.2 | none => false
def nk (s : ByteArray) : Bool := (look tab s).isSome
theorem zeroT (w : World) : (zeroValue 40).run Tryz.prog w = .ok (.agg #[.int .i64 0, .bool false]) w := by kernel_rfl
theorem run_look (w : World) (b : Nat) (s : ByteArray) (h : w.heap[b]? = some (.map (ent 8) 8)) : (Instr.lookup 156 (.map (some b)) (.string s) true).run Tryz.prog w = .ok (.tuple #[.agg #[.int .i64 (nb s), .bool (ng s)], .bool (nk s)]) w := by
  obtain ⟨m, hm⟩ := find_look s tab 0 0
  have hf : Instr.findNow .string (.string s) (ent 8).toList 0 = some ((look tab s).map fun r => (m, .agg #[.int .i64 r.1, .bool r.2])) := hm
  unfold Instr.lookup
  simp only [Sem.run_bind, run_underlying Tryz.underlying156, Result.andThen, Go.MapKept.run_getObj_map h, Sem.run_pure, Go.MapKept.run_checkKey Tryz.underlying9 (show Go.MapKept.IsKey .string (.string s) from trivial), Go.MapKept.run_findKey Tryz.underlying9 hf]
  unfold nb ng nk
  cases look tab s with
  | none => simp [zeroT, Result.andThen]
  | some r => simp
set_option maxHeartbeats 1000000 in
theorem named_any (s : ByteArray) (w : World) : Calls Tryz.prog 91 #[.string s] w fun e w' => e = .returned (.tuple #[.agg #[.int .i64 (nb s), .bool (ng s)], .bool (nk s)]) ∧ Below w.heap.size w w' := by
  have HL : Hid (∀ u : World, (Instr.lookup 156 (.map (some u.heap.size)) (.string s) true).run Tryz.prog (u.alloc (.map (ent 8) 8)) = .ok (.tuple #[.agg #[.int .i64 (nb s), .bool (ng s)], .bool (nk s)]) (u.alloc (.map (ent 8) 8))) := fun u => run_look _ _ s (heapNew _ _)
  generalize nb s = B at *
  generalize ng s = G at *
  generalize nk s = K at *
  go_enter Tryz.func91, Tryz.ntmps91
  go_wp2_with fail
  have hl := unhide HL (w.alloc (.cells #[.int .i64 0, .bool false] 40))
  have k1 := below_a w (.cells #[.int .i64 0, .bool false] 40)
  have k2 := below_a (w.alloc (.cells #[.int .i64 0, .bool false] 40)) (.map (ent 8) 8)
  refine (byName_any _).mono ?_
  rintro e w1 ⟨rfl, rfl⟩
  have R := hide ((Box.new w #[.int .i64 0, .bool false] 40).step k2)
  have KB := hide (bT k1 k2)
  clear k1 k2 HL
  simp only [World.size_alloc] at hl
  generalize (w.alloc (.cells #[.int .i64 0, .bool false] 40)).alloc (.map (ent 8) 8) = w2 at *
  have lw := (unhide R).1
  obtain ⟨x0, x1⟩ := (unhide R).at2
  have xf := (unhide R).2.2
  go_wp2_with fail
  obtain ⟨p0, p1⟩ := (((unhide R).put (.int .i64 B) (.bool G)).step (below_a _ (.cells #[.int .i64 B, .bool G] 40))).at2
  exact bodyPost_ret (v := .tuple #[.agg #[.int .i64 B, .bool G], .bool K]) (by simp [results, Tryz.results91, go_sem, p0, p1]) rfl ⟨rfl, bT (below_2 (unhide KB) (Nat.le_refl _) _ _) (below_a _ _)⟩

theorem named_name {b : Int} (h : IsW b) (s : Bool) : nb (nmT b s) = b ∧ ng (nmT b s) = s ∧ nk (nmT b s) = true := by
  rcases h with rfl | rfl | rfl | rfl <;> cases s <;> exact ⟨by kernel_rfl, by kernel_rfl, by kernel_rfl⟩
theorem look_name {s : ByteArray} : ∀ {l : Tab}, (∀ p ∈ l, IsW p.2.1 ∧ nmT p.2.1 p.2.2 = p.1) → ∀ r, look l s = some r → IsW r.1 ∧ nmT r.1 r.2 = s
  | [], _, r, h => by cases h
  | (k, b, g) :: l, hl, r, h => by
    unfold look at h
    by_cases e : (s == k) = true
    · rw [if_pos e] at h
      have e' : s = k := (Go.MapKept.bytes_beq s k).1 e
      have := hl (k, b, g) (by simp)
      cases h
      exact ⟨this.1, this.2.trans e'.symm⟩
    · rw [if_neg e] at h
      exact look_name (fun p hp => hl p (by simp [hp])) r h
theorem tab_ok : ∀ p ∈ tab, IsW p.2.1 ∧ nmT p.2.1 p.2.2 = p.1 := by
  intro p hp
  simp only [tab, List.mem_cons, List.not_mem_nil, or_false] at hp
  rcases hp with rfl | rfl | rfl | rfl | rfl | rfl | rfl | rfl
  · exact ⟨.inl rfl, by kernel_rfl⟩
  · exact ⟨.inl rfl, by kernel_rfl⟩
  · exact ⟨.inr (.inl rfl), by kernel_rfl⟩
  · exact ⟨.inr (.inl rfl), by kernel_rfl⟩
  · exact ⟨.inr (.inr (.inl rfl)), by kernel_rfl⟩
  · exact ⟨.inr (.inr (.inl rfl)), by kernel_rfl⟩
  · exact ⟨.inr (.inr (.inr rfl)), by kernel_rfl⟩
  · exact ⟨.inr (.inr (.inr rfl)), by kernel_rfl⟩
theorem named_yes {s : ByteArray} (h : nk s = true) : IsW (nb s) ∧ nmT (nb s) (ng s) = s := by
  unfold nk at h
  unfold nb ng
  cases e : look tab s with
  | none => rw [e] at h; cases h
  | some r => exact look_name tab_ok r e
end Go.Proofs.YtbakhengcgclmaaGreatDoor

/-
  Numbers of any size by words of thirty-two bits: no program in sight.
-/
namespace Go.Proofs.YtbakhengcgclmaaGreatDoor
open Go.RowKit
set_option linter.unusedSimpArgs false
set_option linter.unusedVariables false

/-- The number that words make, the least first. -/
def vl : List Int → Int
  | [] => 0
  | x :: r => x + 4294967296 * vl r
def Wds (L : List Int) : Prop := ∀ x ∈ L, 0 ≤ x ∧ x ≤ 4294967295
/-- No nought at the end. -/
def Norm (L : List Int) : Prop := ∀ i, L.length = i + 1 → L.getD i 0 ≠ 0

theorem bp_pos (k : Nat) : (0 : Int) < 4294967296 ^ k := Int.pow_pos (by decide)
theorem vl_app : ∀ (L M : List Int), vl (L ++ M) = vl L + 4294967296 ^ L.length * vl M
  | [], M => by simp [vl]
  | x :: r, M => by
    simp only [List.cons_append, vl, vl_app r M, List.length_cons]
    grind
theorem vl_snoc (L : List Int) (x : Int) : vl (L ++ [x]) = vl L + 4294967296 ^ L.length * x := by
  rw [vl_app]; simp [vl]
theorem vl_lo : ∀ {L : List Int}, Wds L → 0 ≤ vl L
  | [], _ => by simp [vl]
  | x :: r, h => by
    have h1 := h x (by simp)
    have h2 := vl_lo (L := r) (fun y hy => h y (by simp [hy]))
    simp only [vl]; omega
theorem vl_hi : ∀ {L : List Int}, Wds L → vl L < 4294967296 ^ L.length
  | [], _ => by simp [vl]
  | x :: r, h => by
    have h1 := h x (by simp)
    have h2 := vl_hi (L := r) (fun y hy => h y (by simp [hy]))
    simp only [vl, List.length_cons, Int.pow_succ]; omega
theorem vl_take (L : List Int) : ∀ i, vl (L.take (i + 1)) = vl (L.take i) + 4294967296 ^ i * L.getD i 0 := by
  induction L with
  | nil => intro i; simp [vl]
  | cons x r ih =>
    intro i
    cases i with
    | zero => simp [vl]
    | succ i =>
      have := ih i
      simp only [List.take_succ_cons, vl, List.getD_cons_succ, Int.pow_succ, this]
      grind
theorem vl_set : ∀ (L : List Int) (k : Nat) (x : Int), k < L.length → vl (L.set k x) = vl L + 4294967296 ^ k * (x - L.getD k 0)
  | [], k, x, h => by simp at h
  | y :: r, 0, x, _ => by simp [vl]; omega
  | y :: r, k + 1, x, h => by
    have := vl_set r k x (by simpa using h)
    simp only [List.set_cons_succ, vl, List.getD_cons_succ, Int.pow_succ, this]
    grind
theorem vl_zero : ∀ (L : List Int), (∀ j, L.getD j 0 = 0) → vl L = 0
  | [], _ => rfl
  | x :: r, h => by
    have h0 := h 0
    have := vl_zero r (fun j => h (j + 1))
    simp at h0
    simp only [vl, h0, this]; omega
theorem vl_rep (n : Nat) : vl (List.replicate n 0) = 0 := by
  refine vl_zero _ fun j => ?_
  rw [List.getD_eq_getElem?_getD, List.getElem?_replicate]
  split <;> rfl
theorem wds_rep (n : Nat) : Wds (List.replicate n 0) := fun x hx => by
  have := List.eq_of_mem_replicate hx
  omega
theorem Wds.set {L : List Int} (h : Wds L) (k : Nat) {x : Int} (hx : 0 ≤ x ∧ x ≤ 4294967295) : Wds (L.set k x) := fun y hy => by
  rcases List.mem_or_eq_of_mem_set hy with h1 | h1
  · exact h y h1
  · rw [h1]; exact hx
theorem Wds.take {L : List Int} (h : Wds L) (k : Nat) : Wds (L.take k) := fun y hy => h y (List.mem_of_mem_take hy)
theorem Wds.drop {L : List Int} (h : Wds L) (k : Nat) : Wds (L.drop k) := fun y hy => h y (List.mem_of_mem_drop hy)
theorem Wds.app {L M : List Int} (h : Wds L) (k : Wds M) : Wds (L ++ M) := fun y hy => by
  rcases List.mem_append.1 hy with h1 | h1
  · exact h y h1
  · exact k y h1
theorem Wds.get {L : List Int} (h : Wds L) (j : Nat) : 0 ≤ L.getD j 0 ∧ L.getD j 0 ≤ 4294967295 := by
  rw [List.getD_eq_getElem?_getD]
  cases e : L[j]? with
  | none => simp
  | some x => exact h x (List.mem_of_getElem? e)
theorem getD_set_ne {L : List Int} {k j : Nat} {x : Int} (h : k ≠ j) : (L.set k x).getD j 0 = L.getD j 0 := by
  rw [List.getD_eq_getElem?_getD, List.getElem?_set_ne h, ← List.getD_eq_getElem?_getD]
theorem getD_set_self {L : List Int} {k : Nat} {x : Int} (h : k < L.length) : (L.set k x).getD k 0 = x := by
  rw [List.getD_eq_getElem?_getD, List.getElem?_set_self h]; rfl
theorem getD_of_lt {L : List Int} {k : Nat} (h : k < L.length) : L[k]? = some (L.getD k 0) := by
  rw [List.getD_eq_getElem?_getD, List.getElem?_eq_getElem h]; rfl
theorem getD_rep (n j : Nat) : (List.replicate n (0 : Int)).getD j 0 = 0 := by
  rw [List.getD_eq_getElem?_getD, List.getElem?_replicate]
  split <;> rfl
/-- Words that make a number, without a nought at the end. -/
def Is (L : List Int) (n : Int) : Prop := Wds L ∧ Norm L ∧ vl L = n
theorem take_norm {L : List Int} (h : Wds L) (n : Nat) (hn : n ≤ L.length) (hz : ∀ j, n ≤ j → L.getD j 0 = 0) (hl : n = 0 ∨ L.getD (n - 1) 0 ≠ 0) : Is (L.take n) (vl L) := by
  refine ⟨h.take n, fun i hi => ?_, ?_⟩
  · rw [List.length_take, Nat.min_eq_left hn] at hi
    subst hi
    rcases hl with e | e
    · omega
    · rw [List.getD_eq_getElem?_getD, List.getElem?_take, if_pos (by omega), ← List.getD_eq_getElem?_getD]; exact e
  · have e := vl_app (L.take n) (L.drop n)
    rw [List.take_append_drop] at e
    have z : vl (L.drop n) = 0 := vl_zero _ fun j => by
      rw [List.getD_eq_getElem?_getD, List.getElem?_drop, ← List.getD_eq_getElem?_getD]; exact hz _ (by omega)
    rw [e, z]; omega
theorem Is.lo {L : List Int} {n : Int} (h : Is L n) : 0 ≤ n := h.2.2 ▸ vl_lo h.1
theorem Is.hi {L : List Int} {n : Int} (h : Is L n) : n < 4294967296 ^ L.length := h.2.2 ▸ vl_hi h.1
theorem is_top {L : List Int} {n : Int} (h : Is L n) {k : Nat} (hk : L.length = k + 1) : 4294967296 ^ k ≤ n := by
  obtain ⟨h1, h2, h3⟩ := h
  have e := vl_take L k
  rw [List.take_of_length_le (by omega), h3] at e
  have a := vl_lo (h1.take k)
  have b := (h1.get k).1
  have c := h2 k hk
  have d : (4294967296 : Int) ^ k * 1 ≤ 4294967296 ^ k * L.getD k 0 := Int.mul_le_mul_of_nonneg_left (by omega) (Int.le_of_lt (bp_pos k))
  omega
theorem bp_le {a b : Nat} (h : a ≤ b) : (4294967296 : Int) ^ a ≤ 4294967296 ^ b := by
  have e : (4294967296 : Int) ^ b = 4294967296 ^ a * 4294967296 ^ (b - a) := by rw [← Int.pow_add]; congr 1; omega
  have := bp_pos (b - a)
  have g := Int.mul_le_mul_of_nonneg_left (show (1 : Int) ≤ 4294967296 ^ (b - a) by omega) (Int.le_of_lt (bp_pos a))
  omega
/-- A number has as many words as it wants. -/
theorem Is.len {L : List Int} {n : Int} (h : Is L n) (k : Nat) (hn : n < 4294967296 ^ k) : L.length ≤ k := by
  apply Nat.le_of_not_lt
  intro hl
  have a := is_top h (k := L.length - 1) (by omega)
  have b := bp_le (a := k) (b := L.length - 1) (by omega)
  omega
theorem Is.nil {n : Int} (h : Is [] n) : n = 0 := h.2.2.symm
theorem is_nil : Is [] 0 := ⟨fun _ h => by simp at h, fun i hi => by simp at hi, rfl⟩
theorem Is.zero {L : List Int} {n : Int} (h : Is L n) : L.length = 0 ↔ n = 0 := by
  constructor
  · intro e
    have := List.eq_nil_of_length_eq_zero e
    subst this
    exact h.nil
  · intro e
    have := h.len 0 (by rw [e]; decide)
    omega
end Go.Proofs.YtbakhengcgclmaaGreatDoor

/-
  Numbers of any size in memory: rows of words, and the blocks that hold a sign and a row.
-/
namespace Go.Proofs.YtbakhengcgclmaaGreatDoor
open Go.RowKit
set_option linter.unusedSimpArgs false
set_option linter.unusedVariables false

/-- A slice of words, at the beginning of a block of words. -/
def Row (w : World) (v : Value) (L : List Int) : Prop :=
  (v = .slice none 0 0 ∧ L = []) ∨ ∃ d cap cs fz, v = .slice (some ⟨d, 0, none⟩) L.length cap ∧ L.length ≤ cap ∧ cap ≤ maxLen ∧ w.heap[d]? = some (.cells cs 148 fz) ∧ ∀ j, j < L.length → cs[j]? = some (.int .u32 (L.getD j 0))
theorem Row.step {w w' : World} {v : Value} {L : List Int} (h : Row w v L) (k : Below w.heap.size w w') : Row w' v L := by
  rcases h with h | ⟨d, cap, cs, fz, h1, h2, h3, h4, h5⟩
  · exact .inl h
  · exact .inr ⟨d, cap, cs, fz, h1, h2, h3, by rw [k.block d (Array.getElem?_eq_some_iff.1 h4).1]; exact h4, h5⟩
theorem Row.nil (w : World) : Row w (.slice none 0 0) [] := .inl ⟨rfl, rfl⟩
theorem Row.at {w : World} {v : Value} {L : List Int} (h : Row w v L) : ∃ ao cap, v = .slice ao L.length cap ∧ L.length ≤ cap ∧ cap ≤ maxLen ∧ (ao = none → cap = 0) ∧ (∀ d o p, ao = some ⟨d, o, p⟩ → o = 0 ∧ p = none ∧ d < w.heap.size) ∧ (L.length ≠ 0 → ∃ d, ao = some ⟨d, 0, none⟩) ∧ (∀ d, ao = some ⟨d, 0, none⟩ → ∀ j, j < L.length → w.cell? ⟨d, j, none⟩ = some (.int .u32 (L.getD j 0))) := by
  rcases h with ⟨rfl, rfl⟩ | ⟨d, cap, cs, fz, rfl, h2, h3, h4, h5⟩
  · exact ⟨none, 0, rfl, Nat.le_refl _, Nat.zero_le _, fun _ => rfl, (fun d o p h => by cases h), fun h => absurd rfl h, fun d h => by cases h⟩
  · refine ⟨_, cap, rfl, h2, h3, (fun h => by cases h), ?_, fun _ => ⟨d, rfl⟩, ?_⟩
    · intro d' o p e
      cases e
      exact ⟨rfl, rfl, (Array.getElem?_eq_some_iff.1 h4).1⟩
    · intro d' e j hj
      cases e
      have := h5 j hj
      simp [World.cell?, h4, this]
theorem Row.take {w : World} {ao : Option Addr} {cap : Nat} {L : List Int} (h : Row w (.slice ao L.length cap) L) (n : Nat) (hn : n ≤ L.length) : Row w (.slice ao n cap) (L.take n) := by
  have hl : (L.take n).length = n := by rw [List.length_take]; omega
  rcases h with ⟨h1, rfl⟩ | ⟨d, cap', cs, fz, h1, h2, h3, h4, h5⟩
  · left
    simp at h1 hn
    obtain ⟨rfl, rfl⟩ := h1
    subst hn
    simp
  · cases h1
    refine .inr ⟨d, cap, cs, fz, by rw [hl], by omega, h3, h4, fun j hj => ?_⟩
    rw [h5 j (by omega), List.getD_eq_getElem?_getD, List.getD_eq_getElem?_getD, List.getElem?_take, if_pos (by omega)]
/-- Words of a block of one's own. -/
theorem Row.box {w : World} {d : Nat} {L : List Int} {cs : Array Value} {fz : Nat × Nat} (h : w.heap[d]? = some (.cells cs 148 fz)) (hs : cs.size = L.length) (hc : ∀ j, j < L.length → cs[j]? = some (.int .u32 (L.getD j 0))) (hm : L.length ≤ maxLen) : Row w (.slice (some ⟨d, 0, none⟩) L.length L.length) L :=
  .inr ⟨d, _, cs, fz, rfl, Nat.le_refl _, hm, h, hc⟩

/-- A number by its words. -/
def Dg (w : World) (v : Value) (n : Int) : Prop := ∃ L, Row w v L ∧ Is L n
theorem Dg.step {w w' : World} {v : Value} {n : Int} (h : Dg w v n) (k : Below w.heap.size w w') : Dg w' v n := by
  obtain ⟨L, h1, h2⟩ := h
  exact ⟨L, h1.step k, h2⟩
theorem Dg.nil (w : World) : Dg w (.slice none 0 0) 0 := ⟨[], Row.nil w, is_nil⟩

/-- A row that is being written: a block of one's own, its words. -/
def Own32 (w : World) (d : Nat) (R : List Int) : Prop := ∃ cs, w.heap[d]? = some (.cells cs 148) ∧ cs.size = R.length ∧ ∀ j, j < R.length → cs[j]? = some (.int .u32 (R.getD j 0))
theorem Own32.lt {w : World} {d : Nat} {R : List Int} (h : Own32 w d R) : d < w.heap.size := by
  obtain ⟨cs, h1, _⟩ := h
  exact (Array.getElem?_eq_some_iff.1 h1).1
theorem Own32.cell {w : World} {d : Nat} {R : List Int} (h : Own32 w d R) (j : Nat) (hj : j < R.length) : w.cell? ⟨d, j, none⟩ = some (.int .u32 (R.getD j 0)) := by
  obtain ⟨cs, h1, _, h3⟩ := h
  simp [World.cell?, h1, h3 j hj]
theorem Own32.frozen {w : World} {d : Nat} {R : List Int} (h : Own32 w d R) (j : Nat) : w.frozen? ⟨d, j, none⟩ = false := by
  obtain ⟨cs, h1, _⟩ := h
  simp [World.frozen?, h1]
theorem Own32.step {w w' : World} {d : Nat} {R : List Int} (h : Own32 w d R) (k : Below w.heap.size w w') : Own32 w' d R := by
  have := h.lt
  obtain ⟨cs, h1, h2⟩ := h
  exact ⟨cs, by rw [k.block d this]; exact h1, h2⟩
theorem Own32.row {w : World} {d : Nat} {R : List Int} (h : Own32 w d R) (hm : R.length ≤ maxLen) : Row w (.slice (some ⟨d, 0, none⟩) R.length R.length) R := by
  obtain ⟨cs, h1, h2, h3⟩ := h
  exact Row.box h1 h2 h3 hm
theorem Own32.set {w : World} {d : Nat} {R : List Int} (h : Own32 w d R) (j : Nat) (x : Int) (hj : j < R.length) : Own32 (w.setCell ⟨d, j, none⟩ (.int .u32 x)) d (R.set j x) := by
  obtain ⟨cs, h1, h2, h3⟩ := h
  refine ⟨cs.setIfInBounds j (.int .u32 x), ?_, by simp [h2], fun i hi => ?_⟩
  · simp [World.setCell, Array.getElem?_modify, h1]
  · rw [List.length_set] at hi
    by_cases e : j = i
    · subst e
      rw [getD_set_self hj, Array.getElem?_setIfInBounds_self_of_lt (by omega)]
    · rw [getD_set_ne e, Array.getElem?_setIfInBounds_ne e]; exact h3 i hi
theorem Own32.new (w : World) (n : Nat) : Own32 (w.alloc (.cells (madeCells #[.int .u32 0] n) 148)) w.heap.size (List.replicate n 0) := by
  have hm : madeCells #[.int .u32 0] n = Array.replicate n (.int .u32 0) := by
    apply Array.ext'
    have : (fun x : Nat => ([Value.int IntKind.u32 0][x % 1]?).getD default) = fun _ => Value.int IntKind.u32 0 := by funext x; simp [Nat.mod_one]
    simp [madeCells, this, List.map_const']
  rw [hm]
  refine ⟨Array.replicate n (.int .u32 0), ?_, by simp, fun j hj => ?_⟩
  · show (w.heap.push _)[w.heap.size]? = _
    simp
  simp at hj
  simp [hj]
end Go.Proofs.YtbakhengcgclmaaGreatDoor

/-
  trim and words.
-/
namespace Go.Proofs.YtbakhengcgclmaaGreatDoor
open Go.RowKit
set_option linter.unusedSimpArgs false
set_option linter.unusedVariables false

set_option maxHeartbeats 400000 in
theorem trim_any (w : World) (v : Value) (L : List Int) (hr : Row w v L) (hw : Wds L) (hl : L.length ≤ 1000) :
    Calls Tryz.prog 124 #[v] w fun e w' => w' = w ∧ ∃ v', e = .returned v' ∧ Dg w v' (vl L) := by
  obtain ⟨ao, cap, rfl, hc1, hc2, hc3, hc4, hc5, hc6⟩ := hr.at
  have HR := hide hr
  have HW := hide hw
  have H5 := hide hc5
  have H6 := hide hc6
  clear hr hw hc3 hc4 hc5 hc6
  go_enter Tryz.func124, Tryz.ntmps124
  go_wp2_with fail
  go_loopg [3] L.length (fun g t wr => ∃ n : Nat, n ≤ L.length ∧ g = n ∧ t = .int .i64 n ∧ wr = w ∧ Hid (∀ j, n ≤ j → L.getD j 0 = 0))
  case atStart => exact ⟨L.length, Nat.le_refl _, rfl, rfl, rfl, fun j hj => by rw [List.getD_eq_getElem?_getD, List.getElem?_eq_none hj]; rfl⟩
  case round =>
    obtain ⟨n, hn, hg, rfl, rfl, hz⟩ := hrel
    have IZ := hide (show (n = 0 ∨ L.getD (n - 1) 0 ≠ 0) → Dg wr (.slice ao n cap) (vl L) from fun h => ⟨L.take n, (unhide HR).take n hn, take_norm (unhide HW) n hn (unhide hz) h⟩)
    by_cases h0 : n = 0
    · subst h0
      have b0 : decide ((0 : Int) < ((0 : Nat) : Int)) = false := by simp
      go_wp2_with fail
      go_ret
      exact ⟨rfl, _, rfl, (unhide IZ) (by simp)⟩
    · obtain ⟨d, rfl⟩ := unhide H5 (by omega)
      obtain ⟨m, rfl⟩ : ∃ m, n = m + 1 := ⟨n - 1, by omega⟩
      have b0 : decide ((0 : Int) < ((m + 1 : Nat) : Int)) = true := by simp
      have c0 := unhide H6 d rfl m (by omega)
      have e1 : (((m + 1 : Nat) : Int) - 1) = (m : Int) := by omega
      have hm1 : (m : Int) < (L.length : Int) := by omega
      by_cases hx : L.getD m 0 = 0
      · rw [hx] at c0
        have HX := hide hx
        clear hx
        go_wp2_with fail
        go_roundg m
        case measure => omega
        case rel => exact ⟨m, by omega, rfl, by go_num, rfl, fun j hj => by
          by_cases e : j = m
          · rw [e]; exact unhide HX
          · exact unhide hz j (by omega)⟩
      · have hxb : (L.getD m 0 == 0) = false := by simpa using hx
        have HX := hide hx
        clear hx
        generalize L.getD m 0 = x at c0 hxb
        go_wp2_with fail
        go_ret
        exact ⟨rfl, _, rfl, unhide IZ (.inr (unhide HX))⟩
theorem Row.two (w : World) (x y : Int) : Row (w.alloc (.cells #[.int .u32 x, .int .u32 y] 148)) (.slice (some ⟨w.heap.size, 0, none⟩) 2 2) [x, y] := by
  refine .inr ⟨w.heap.size, 2, #[.int .u32 x, .int .u32 y], (0, 0), rfl, by simp, by decide, ?_, fun j hj => ?_⟩
  · show (w.heap.push _)[w.heap.size]? = _
    simp
  · match j, hj with
    | 0, _ => rfl
    | 1, _ => rfl
theorem words_any (x : Int) (w : World) (hx : U x) :
    Calls Tryz.prog 114 #[.int .u64 x] w fun e w' => Below w.heap.size w w' ∧ ∃ v', e = .returned v' ∧ Dg w' v' x := by
  obtain ⟨h0, h1⟩ := hx
  have T := hide (trim_any _ _ _ (Row.two w (x % 4294967296) (x / 4294967296)) (by intro y hy; simp at hy; omega) (by simp))
  have KB := hide (below_a w (.cells #[.int .u32 (x % 4294967296), .int .u32 (x / 4294967296)] 148))
  have e0 : vl [x % 4294967296, x / 4294967296] = x := by simp [vl]; omega
  rw [e0] at T
  go_enter Tryz.func114, Tryz.ntmps114
  go_wp2_with fail
  refine (unhide T).mono ?_
  rintro e w1 ⟨rfl, v1, rfl, D1⟩
  have HD := hide D1
  clear D1
  go_wp2_with fail
  go_ret
  exact ⟨unhide KB, _, rfl, unhide HD⟩
theorem Dg.at {w : World} {v : Value} {n : Int} (h : Dg w v n) (hn : n < 4294967296 ^ 8) : ∃ ao cap L, v = .slice ao L.length cap ∧ Is L n ∧ L.length ≤ 8 ∧ Row w v L ∧ L.length ≤ cap ∧ (L.length ≠ 0 → ∃ d, ao = some ⟨d, 0, none⟩ ∧ d < w.heap.size) ∧ (∀ d, ao = some ⟨d, 0, none⟩ → ∀ j, j < L.length → w.cell? ⟨d, j, none⟩ = some (.int .u32 (L.getD j 0))) := by
  obtain ⟨L, h1, h2⟩ := h
  obtain ⟨ao, cap, rfl, hc1, hc2, hc3, hc4, hc5, hc6⟩ := h1.at
  refine ⟨ao, cap, L, rfl, h2, h2.len 8 hn, h1, hc1, fun h => ?_, hc6⟩
  obtain ⟨d, hd⟩ := hc5 h
  exact ⟨d, hd, (hc4 _ _ _ hd).2.2⟩
theorem is_two {L : List Int} {n : Int} (h : Is L n) (hn : n < 18446744073709551616) : n = L.getD 0 0 + 4294967296 * L.getD 1 0 ∧ (L.length = 0 → n = 0) ∧ (L.length = 1 → n = L.getD 0 0) ∧ L.length ≤ 2 := by
  have hl := h.len 2 (by simpa using hn)
  have e := h.2.2
  match L, hl with
  | [], _ => simp [vl] at e ⊢; omega
  | [x], _ => simp [vl] at e ⊢; omega
  | [x, y], _ => simp [vl] at e ⊢; omega
theorem or_two (x y : Int) (hx : 0 ≤ x ∧ x ≤ 4294967295) (hy : 0 ≤ y ∧ y ≤ 4294967295) : bits .or .u64 x (y * 4294967296) = x + 4294967296 * y := by
  obtain ⟨hx1, hx2⟩ := hx
  obtain ⟨hy1, hy2⟩ := hy
  go_bits2
theorem plain_any (v : Value) (n : Int) (w : World) (h : Dg w v n) (hn : n < 18446744073709551616) :
    Calls Tryz.prog 131 #[v] w fun e w' => w' = w ∧ e = .returned (.int .u64 n) := by
  obtain ⟨ao, cap, L, rfl, hI, hl8, hr, hc1, hd, hc⟩ := h.at (by omega)
  obtain ⟨q1, q2, q3, q4⟩ := is_two hI hn
  have g0 := hI.1.get 0
  have g1 := hI.1.get 1
  have HC := hide hc
  have HQ := hide q1
  clear hr hI hc q1
  by_cases l0 : L.length = 0
  · have := q2 l0
    subst this
    rw [l0]
    go_enter Tryz.func131, Tryz.ntmps131
    go_wp2_with fail
    go_ret
    exact ⟨rfl, rfl⟩
  · obtain ⟨d, rfl, hdl⟩ := hd l0
    have c0 := unhide HC d rfl 0 (by omega)
    by_cases l1 : L.length = 1
    · have := q3 l1
      rw [l1]
      clear q3 q2 g1 hd h
      generalize L.getD 0 0 = x at *
      subst this
      go_enter Tryz.func131, Tryz.ntmps131
      go_wp2_with fail
      go_ret
      exact ⟨rfl, rfl⟩
    · have l2 : L.length = 2 := by omega
      have c1 := unhide HC d rfl 1 (by omega)
      have ho := or_two _ _ g0 g1
      rw [← unhide HQ] at ho
      rw [l2]
      generalize L.getD 0 0 = x at *
      generalize L.getD 1 0 = y at *
      go_enter Tryz.func131, Tryz.ntmps131
      go_wp2_with fail
      go_ret
      exact ⟨rfl, rfl⟩
end Go.Proofs.YtbakhengcgclmaaGreatDoor
