/-
  Types of numbers: how a type is written.
-/
import Derived.Test.YtaidefdbjcgcbaaGreatTyAz
import Derived.MapKept
import Derived.Test.YtaidefdbjcgcbaaGreatPlainz
import Derived.BigRegion
import Derived.Deep.DeepCutAuto
namespace Go.Proofs.YtaidefdbjcgcbaaGreat
open Go.RowKit
set_option linter.unusedSimpArgs false
set_option linter.unusedVariables false

/-- How a type of numbers is written. -/
def dgT (b : Int) : Array UInt8 := if b = 8 then #[56] else if b = 16 then #[49, 54] else if b = 32 then #[51, 50] else #[54, 52]
def nmT (b : Int) (s : Bool) : ByteArray := (if s = true then ⟨#[105]⟩ else ⟨#[117]⟩) ++ ⟨dgT b⟩
end Go.Proofs.YtaidefdbjcgcbaaGreat

/-
  Types of numbers: which type a name is.
-/
namespace Go.Proofs.YtaidefdbjcgcbaaGreat
open Go.RowKit
set_option linter.unusedSimpArgs false
set_option linter.unusedVariables false

abbrev Tab := List (ByteArray × Int × Bool)
def tab : Tab := [(⟨#[105, 56]⟩, 8, true), (⟨#[117, 56]⟩, 8, false), (⟨#[105, 49, 54]⟩, 16, true), (⟨#[117, 49, 54]⟩, 16, false), (⟨#[105, 51, 50]⟩, 32, true), (⟨#[117, 51, 50]⟩, 32, false), (⟨#[105, 54, 52]⟩, 64, true), (⟨#[117, 54, 52]⟩, 64, false)]
def entL (l : Tab) : List MapEntry := l.zipIdx.map fun p => ⟨.string p.1.1, .agg #[.int .i64 p.1.2.1, .bool p.1.2.2], p.2⟩
def ent (n : Nat) : Array MapEntry := (entL (tab.take n)).toArray
/-- The first row that has the name. -/
def look : Tab → ByteArray → Option (Int × Bool)
  | [], _ => none
  | (k, b, g) :: l, s => if s == k then some (b, g) else look l s
theorem find_look (s : ByteArray) : ∀ (l : Tab) (j i : Nat), ∃ m, Instr.findNow .string (.string s) ((l.zipIdx j).map fun p => ⟨.string p.1.1, .agg #[.int .i64 p.1.2.1, .bool p.1.2.2], p.2⟩) i = some ((look l s).map fun r => (m, .agg #[.int .i64 r.1, .bool r.2]))
  | [], _, _ => ⟨0, rfl⟩
  | (k, b, g) :: l, j, i => by
    rw [List.zipIdx_cons, List.map_cons]
    unfold Instr.findNow
    simp only [Instr.sameNow]
    by_cases h : (s == k) = true
    · refine ⟨i, ?_⟩
      rw [h]
      simp [look, h]
    · have h' : (s == k) = false := by simpa using h
      obtain ⟨m, hm⟩ := find_look s l (j + 1) (i + 1)
      refine ⟨m, ?_⟩
      rw [h']
      simp only
      rw [hm]
      simp [look, h']
theorem alloc_set (w : World) (o o' : Obj) : { w.alloc o with heap := (w.alloc o).heap.setIfInBounds w.heap.size o' } = w.alloc o' := by
  unfold World.alloc
  simp [-World.alloc_eq]
  apply Array.ext
  · simp
  · intro i h1 h2
    have h3 : i < (w.heap.push o).size := by simpa using h2
    have h4 : i < w.heap.size + 1 := by simpa using h2
    rw [Array.getElem_setIfInBounds h3, Array.getElem_push, Array.getElem_push]
    by_cases e : w.heap.size = i
    · subst e
      simp
    · rw [if_neg e, dif_pos (by omega), dif_pos (by omega)]
theorem heapNew (u : World) (o : Obj) : (u.alloc o).heap[u.heap.size]? = some o := by
  unfold World.alloc
  simp [-World.alloc_eq]
theorem run_put (w : World) (n : Nat) (k : ByteArray) (b : Int) (g : Bool) (hn : ent (n + 1) = (ent n).push ⟨.string k, .agg #[.int .i64 b, .bool g], n⟩) (hf : Instr.findNow .string (.string k) (ent n).toList 0 = some none) :
    (Instr.mapUpdate 142 (.map (some w.heap.size)) (.string k) (.agg #[.int .i64 b, .bool g])).run Tryz.prog (w.alloc (.map (ent n) n)) = .ok () (w.alloc (.map (ent (n + 1)) (n + 1))) := by
  have hb : (w.alloc (.map (ent n) n)).heap[w.heap.size]? = some (.map (ent n) n) := heapNew _ _
  unfold Instr.mapUpdate
  simp only [Sem.run_bind, run_underlying Tryz.underlying142, Result.andThen, Go.MapKept.run_getObj_map hb, Go.MapKept.run_checkKey Tryz.underlying9 (show Go.MapKept.IsKey .string (.string k) from trivial), Go.MapKept.run_findKey Tryz.underlying9 hf, Go.MapKept.run_setObj_map _ hb]
  rw [alloc_set, hn]
set_option maxHeartbeats 1000000 in
theorem byName_any (w : World) : Calls Tryz.prog 79 #[] w fun e w' => e = .returned (.map (some w.heap.size)) ∧ w' = w.alloc (.map (ent 8) 8) := by
  have hmm : ∀ w : World, (Instr.makeMap 142 none).run Tryz.prog w = .ok (.map (some w.heap.size)) (w.alloc (.map (ent 0) 0)) := fun w => rfl
  have h0 := run_put w 0 ⟨#[105, 56]⟩ 8 true (by kernel_rfl) (by kernel_rfl)
  have h1 := run_put w 1 ⟨#[117, 56]⟩ 8 false (by kernel_rfl) (by kernel_rfl)
  have h2 := run_put w 2 ⟨#[105, 49, 54]⟩ 16 true (by kernel_rfl) (by kernel_rfl)
  have h3 := run_put w 3 ⟨#[117, 49, 54]⟩ 16 false (by kernel_rfl) (by kernel_rfl)
  have h4 := run_put w 4 ⟨#[105, 51, 50]⟩ 32 true (by kernel_rfl) (by kernel_rfl)
  have h5 := run_put w 5 ⟨#[117, 51, 50]⟩ 32 false (by kernel_rfl) (by kernel_rfl)
  have h6 := run_put w 6 ⟨#[105, 54, 52]⟩ 64 true (by kernel_rfl) (by kernel_rfl)
  have h7 := run_put w 7 ⟨#[117, 54, 52]⟩ 64 false (by kernel_rfl) (by kernel_rfl)
  simp only [Nat.reduceAdd] at h0 h1 h2 h3 h4 h5 h6 h7
  generalize ent 0 = e0 at *
  generalize ent 1 = e1 at *
  generalize ent 2 = e2 at *
  generalize ent 3 = e3 at *
  generalize ent 4 = e4 at *
  generalize ent 5 = e5 at *
  generalize ent 6 = e6 at *
  generalize ent 7 = e7 at *
  generalize ent 8 = e8 at *
  go_enter Tryz.func79, Tryz.ntmps79
  go_wp2
  go_ret
  exact ⟨rfl, rfl⟩
def nb (s : ByteArray) : Int := match look tab s with | some r => r.1 | none => 0
def ng (s : ByteArray) : Bool := match look tab s with | some r => r.2 | none => false
def nk (s : ByteArray) : Bool := (look tab s).isSome
theorem zeroT (w : World) : (zeroValue 34).run Tryz.prog w = .ok (.agg #[.int .i64 0, .bool false]) w := by kernel_rfl
theorem run_look (w : World) (b : Nat) (s : ByteArray) (h : w.heap[b]? = some (.map (ent 8) 8)) : (Instr.lookup 142 (.map (some b)) (.string s) true).run Tryz.prog w = .ok (.tuple #[.agg #[.int .i64 (nb s), .bool (ng s)], .bool (nk s)]) w := by
  obtain ⟨m, hm⟩ := find_look s tab 0 0
  have hf : Instr.findNow .string (.string s) (ent 8).toList 0 = some ((look tab s).map fun r => (m, .agg #[.int .i64 r.1, .bool r.2])) := hm
  unfold Instr.lookup
  simp only [Sem.run_bind, run_underlying Tryz.underlying142, Result.andThen, Go.MapKept.run_getObj_map h, Sem.run_pure, Go.MapKept.run_checkKey Tryz.underlying9 (show Go.MapKept.IsKey .string (.string s) from trivial), Go.MapKept.run_findKey Tryz.underlying9 hf]
  unfold nb ng nk
  cases look tab s with
  | none => simp [zeroT, Result.andThen]
  | some r => simp
set_option maxHeartbeats 1000000 in
theorem named_any (s : ByteArray) (w : World) : Calls Tryz.prog 46 #[.string s] w fun e w' => e = .returned (.tuple #[.agg #[.int .i64 (nb s), .bool (ng s)], .bool (nk s)]) ∧ Below w.heap.size w w' := by
  have HL : Hid (∀ u : World, (Instr.lookup 142 (.map (some u.heap.size)) (.string s) true).run Tryz.prog (u.alloc (.map (ent 8) 8)) = .ok (.tuple #[.agg #[.int .i64 (nb s), .bool (ng s)], .bool (nk s)]) (u.alloc (.map (ent 8) 8))) := fun u => run_look _ _ s (heapNew _ _)
  generalize nb s = B at *
  generalize ng s = G at *
  generalize nk s = K at *
  go_enter Tryz.func46, Tryz.ntmps46
  go_wp2_with fail
  have hl := unhide HL (w.alloc (.cells #[.int .i64 0, .bool false] 34))
  have k1 := below_a w (.cells #[.int .i64 0, .bool false] 34)
  have k2 := below_a (w.alloc (.cells #[.int .i64 0, .bool false] 34)) (.map (ent 8) 8)
  refine (byName_any _).mono ?_
  rintro e w1 ⟨rfl, rfl⟩
  have R := hide ((Box.new w #[.int .i64 0, .bool false] 34).step k2)
  have KB := hide (bT k1 k2)
  clear k1 k2 HL
  simp only [World.size_alloc] at hl
  generalize (w.alloc (.cells #[.int .i64 0, .bool false] 34)).alloc (.map (ent 8) 8) = w2 at *
  have lw := (unhide R).1
  obtain ⟨x0, x1⟩ := (unhide R).at2
  have xf := (unhide R).2.2
  go_wp2_with fail
  obtain ⟨p0, p1⟩ := (((unhide R).put (.int .i64 B) (.bool G)).step (below_a _ (.cells #[.int .i64 B, .bool G] 34))).at2
  exact bodyPost_ret (v := .tuple #[.agg #[.int .i64 B, .bool G], .bool K]) (by simp [results, Tryz.results46, go_sem, p0, p1]) rfl ⟨rfl, bT (below_2 (unhide KB) (Nat.le_refl _) _ _) (below_a _ _)⟩

theorem named_name {b : Int} (h : IsW b) (s : Bool) : nb (nmT b s) = b ∧ ng (nmT b s) = s ∧ nk (nmT b s) = true := by
  rcases h with rfl | rfl | rfl | rfl <;> cases s <;> exact ⟨by kernel_rfl, by kernel_rfl, by kernel_rfl⟩
theorem look_name {s : ByteArray} : ∀ {l : Tab}, (∀ p ∈ l, IsW p.2.1 ∧ nmT p.2.1 p.2.2 = p.1) → ∀ r, look l s = some r → IsW r.1 ∧ nmT r.1 r.2 = s
  | [], _, r, h => by cases h
  | (k, b, g) :: l, hl, r, h => by
    unfold look at h
    by_cases e : (s == k) = true
    · rw [if_pos e] at h
      have e' : s = k := (Go.MapKept.bytes_beq s k).1 e
      have := hl (k, b, g) (by simp)
      cases h
      exact ⟨this.1, this.2.trans e'.symm⟩
    · rw [if_neg e] at h
      exact look_name (fun p hp => hl p (by simp [hp])) r h
theorem tab_ok : ∀ p ∈ tab, IsW p.2.1 ∧ nmT p.2.1 p.2.2 = p.1 := by
  intro p hp
  simp only [tab, List.mem_cons, List.not_mem_nil, or_false] at hp
  rcases hp with rfl | rfl | rfl | rfl | rfl | rfl | rfl | rfl
  · exact ⟨.inl rfl, by kernel_rfl⟩
  · exact ⟨.inl rfl, by kernel_rfl⟩
  · exact ⟨.inr (.inl rfl), by kernel_rfl⟩
  · exact ⟨.inr (.inl rfl), by kernel_rfl⟩
  · exact ⟨.inr (.inr (.inl rfl)), by kernel_rfl⟩
  · exact ⟨.inr (.inr (.inl rfl)), by kernel_rfl⟩
  · exact ⟨.inr (.inr (.inr rfl)), by kernel_rfl⟩
  · exact ⟨.inr (.inr (.inr rfl)), by kernel_rfl⟩
theorem named_yes {s : ByteArray} (h : nk s = true) : IsW (nb s) ∧ nmT (nb s) (ng s) = s := by
  unfold nk at h
  unfold nb ng
  cases e : look tab s with
  | none => rw [e] at h; cases h
  | some r => exact look_name tab_ok r e
end Go.Proofs.YtaidefdbjcgcbaaGreat

/-
  Types of numbers: what Convert answers.
-/
namespace Go.Proofs.YtaidefdbjcgcbaaGreat
open Go.RowKit
set_option linter.unusedSimpArgs false
set_option linter.unusedVariables false

theorem tcut_any (x b : Int) (s : Bool) (w : World) (h : IsW b) (hx : U x) : Calls Tryz.prog 123 #[.int .u64 x, .agg #[.int .i64 b, .bool s]] w fun e w' => e = .returned (.int .u64 (cut b x)) ∧ Below w.heap.size w w' := by
  go_enter Tryz.func123, Tryz.ntmps123
  go_wp2_with (go_at_call 152; refine (cut_any _ _ _ h hx).mono ?_; rintro e w' ⟨rfl, rfl⟩)
  go_ret
  exact ⟨rfl, below_a _ _⟩

/-- A number of one type as one of another. -/
def conv (x a : Int) (s : Bool) (b : Int) : Int := cut b (mn s a x)
set_option maxHeartbeats 1000000 in
theorem convert_any (x a : Int) (s : Bool) (b : Int) (t : Bool) (w : World) (ha : IsW a) (hb : IsW b) (hx : U x) : Calls Tryz.prog 85 #[.int .u64 x, .agg #[.int .i64 a, .bool s], .agg #[.int .i64 b, .bool t]] w fun e w' => e = .returned (.int .u64 (conv x a s b)) ∧ Below w.heap.size w w' := by
  cases s
  · have e1 : conv x a false b = cut b (cut a x) := rfl
    rw [e1]
    go_enter Tryz.func85, Tryz.ntmps85
    go_wp2_with fail
    refine wp_region_later (by kernel_rfl) (by kernel_rfl) ?_
    intro L hne lt hlc hlf hlm
    repeat (go_big_quiet_step ((go_at_call 123; exact later_call hlm (tcut_any _ _ _ _ (by assumption) (by first | assumption | exact u_cut (by assumption) _)))))
    refine wpQuiet_nil ?_
    intro wq kq
    clear hlm hlf hlc lt hne L
    obtain ⟨hqc, hqf⟩ := below_cells kq
    go_wp2_with fail
    go_ret
    exact ⟨rfl, bT (below_a _ _) (bT (below_a _ _) kq)⟩
  · have e1 : conv x a true b = cut b (IntKind.u64.wrap (sgn a x)) := by rw [cut_wrap hb]; rfl
    rw [e1]
    have HB := hide (fun w => tcut_any (IntKind.u64.wrap (sgn a x)) b t w hb (u_wrap _))
    go_enter Tryz.func85, Tryz.ntmps85
    go_wp2_with (first | (go_at_call 122; refine (signed_any _ _ _ ha hx).mono ?_; rintro e w' ⟨rfl, rfl⟩) | (go_at_call 123; refine (unhide HB _).mono ?_; rintro e w1 ⟨rfl, k1⟩))
    go_ret
    exact ⟨rfl, bT (below_a _ _) (bT (below_a _ _) k1)⟩
end Go.Proofs.YtaidefdbjcgcbaaGreat

/-
  Types of numbers: what Common answers.
-/
namespace Go.Proofs.YtaidefdbjcgcbaaGreat
open Go.RowKit
set_option linter.unusedSimpArgs false
set_option linter.unusedVariables false

/-- Three small blocks made one behind the other, and all that came ahead as it was. -/
structure Tri (w wx : World) (a0 a1 b0 b1 c0 c1 : Value) : Prop where
  bel : Below w.heap.size w wx
  A : Box wx w.heap.size [a0, a1]
  B : Box wx (w.heap.size + 1) [b0, b1]
  C : Box wx (w.heap.size + 1 + 1) [c0, c1]
theorem Tri.new {w w1 : World} {T : TypeId} {a0 a1 b0 b1 c0 c1 : Value} (k : Below ((((w.alloc (.cells #[a0, a1] T)).alloc (.cells #[b0, b1] T)).alloc (.cells #[c0, c1] T)).drew).heap.size ((((w.alloc (.cells #[a0, a1] T)).alloc (.cells #[b0, b1] T)).alloc (.cells #[c0, c1] T)).drew) w1) : Tri w w1 a0 a1 b0 b1 c0 c1 := by
  have h1 := below_a w (.cells #[a0, a1] T)
  have h2 := below_a (w.alloc (.cells #[a0, a1] T)) (.cells #[b0, b1] T)
  have h3 := below_a ((w.alloc (.cells #[a0, a1] T)).alloc (.cells #[b0, b1] T)) (.cells #[c0, c1] T)
  have h4 := bT (Below.refl _ _).drew k
  have A := Box.new w #[a0, a1] T
  have B := Box.new (w.alloc (.cells #[a0, a1] T)) #[b0, b1] T
  have C := Box.new ((w.alloc (.cells #[a0, a1] T)).alloc (.cells #[b0, b1] T)) #[c0, c1] T
  simp only [World.size_alloc] at B C
  exact ⟨bT h1 (bT h2 (bT h3 h4)), ((A.step h2).step h3).step h4, (B.step h3).step h4, C.step h4⟩
theorem Tri.step {w w1 w2 : World} {a0 a1 b0 b1 c0 c1 : Value} (h : Tri w w1 a0 a1 b0 b1 c0 c1) (k : Below w1.heap.size w1 w2) : Tri w w2 a0 a1 b0 b1 c0 c1 := ⟨bT h.bel k, h.A.step k, h.B.step k, h.C.step k⟩
theorem Tri.putA {w w1 : World} {a0 a1 b0 b1 c0 c1 : Value} (h : Tri w w1 a0 a1 b0 b1 c0 c1) (u v : Value) : Tri w ((w1.setCell ⟨w.heap.size, 0, none⟩ u).setCell ⟨w.heap.size, 1, none⟩ v) u v b0 b1 c0 c1 :=
  ⟨below_2 h.bel (Nat.le_refl _) _ _, h.A.put u v, (h.B.other (by omega)).other (by omega), (h.C.other (by omega)).other (by omega)⟩
theorem Tri.putB {w w1 : World} {a0 a1 b0 b1 c0 c1 : Value} (h : Tri w w1 a0 a1 b0 b1 c0 c1) (u v : Value) : Tri w ((w1.setCell ⟨w.heap.size + 1, 0, none⟩ u).setCell ⟨w.heap.size + 1, 1, none⟩ v) a0 a1 u v c0 c1 :=
  ⟨below_2 h.bel (by omega) _ _, (h.A.other (by omega)).other (by omega), h.B.put u v, (h.C.other (by omega)).other (by omega)⟩

/-- The type in which two are reckoned. -/
def cb (a b : Int) : Int := if pb a < pb b then pb b else pb a
def cs (a : Int) (s : Bool) (b : Int) (t : Bool) : Bool := if pb b < pb a then ps a s else if pb a < pb b then ps b t else ps a s && ps b t
set_option maxHeartbeats 1000000 in
theorem common_any (a : Int) (s : Bool) (b : Int) (t : Bool) (w : World) : Calls Tryz.prog 129 #[.agg #[.int .i64 a, .bool s], .agg #[.int .i64 b, .bool t]] w fun e w' => e = .returned (.agg #[.int .i64 (cb a b), .bool (cs a s b t)]) ∧ Below w.heap.size w w' := by
  have e1 : Hid (cb a b = if pb a < pb b then pb b else pb a) := rfl
  have e2 : Hid (cs a s b t = if pb b < pb a then ps a s else if pb a < pb b then ps b t else ps a s && ps b t) := rfl
  have HA := hide (promote_any a s)
  have HB := hide (promote_any b t)
  generalize cb a b = X at *
  generalize cs a s b t = Y at *
  generalize pb a = A at *
  generalize pb b = B at *
  generalize ps a s = S at *
  generalize ps b t = T at *
  go_enter Tryz.func129, Tryz.ntmps129
  go_upto_region 1 with fail
  go_cut [5] (fun _ wx => Tri w wx (.int .i64 A) (.bool S) (.int .i64 B) (.bool T) (.int .i64 0) (.bool false))
  case first =>
    go_region_with (first | (go_at_call 124; have R := R1; refine (unhide HB _).mono ?_; rintro e w2 ⟨rfl, k2⟩; have R2 := hide ((unhide R).step k2); clear k2 R; obtain ⟨y0, y1⟩ := (unhide R2).A.at2; obtain ⟨y2, y3⟩ := (unhide R2).B.at2; have f2 := (unhide R2).A.2.2; have f3 := (unhide R2).B.2.2) | (go_at_call 124; refine (unhide HA _).mono ?_; rintro e w1 ⟨rfl, k1⟩; have R1 := hide (Tri.new k1); clear k1; obtain ⟨x0, x1⟩ := (unhide R1).A.at2; obtain ⟨x2, x3⟩ := (unhide R1).B.at2; have f0 := (unhide R1).A.2.2; have f1 := (unhide R1).B.2.2))
    all_goals (go_wp2_with fail; go_meet; exact ((unhide R2).putA _ _).putB _ _)
  case rest =>
    have M := hide hcut
    clear hcut
    obtain ⟨x0, x1⟩ := (unhide M).A.at2
    obtain ⟨x2, x3⟩ := (unhide M).B.at2
    obtain ⟨x4, x5⟩ := (unhide M).C.at2
    have f0 := (unhide M).A.2.2
    have f1 := (unhide M).B.2.2
    have f2 := (unhide M).C.2.2
    have p0 := (unhide M).C.put0
    have p1 := (unhide M).C.put1
    have hb := (unhide M).bel
    by_cases h1 : B < A
    · have d1 : decide (B < A) = true := by simpa using h1
      unfold Hid at e1 e2
      rw [if_neg (by omega)] at e1
      rw [if_pos h1] at e2
      subst e1 e2
      go_wp2_with fail
      exact bodyPost_ret (v := .agg #[.int .i64 X, .bool Y]) (by simp [results, Tryz.results129, go_sem, p0, p1]) rfl ⟨rfl, below_2 hb (by omega) _ _⟩
    · have d1 : decide (B < A) = false := by simpa using h1
      unfold Hid at e1 e2
      rw [if_neg h1] at e2
      by_cases h2 : A < B
      · have d2 : decide (A < B) = true := by simpa using h2
        rw [if_pos h2] at e1 e2
        subst e1 e2
        go_wp2_with fail
        exact bodyPost_ret (v := .agg #[.int .i64 X, .bool Y]) (by simp [results, Tryz.results129, go_sem, p0, p1]) rfl ⟨rfl, below_2 hb (by omega) _ _⟩
      · have d2 : decide (A < B) = false := by simpa using h2
        rw [if_neg h2] at e1 e2
        subst e1
        cases S
        · simp at e2
          subst e2
          go_wp2_with fail
          exact bodyPost_ret (v := .agg #[.int .i64 X, .bool false]) (by simp [results, Tryz.results129, go_sem, p0, p1]) rfl ⟨rfl, below_2 hb (by omega) _ _⟩
        · simp at e2
          subst e2
          go_wp2_with fail
          exact bodyPost_ret (v := .agg #[.int .i64 X, .bool Y]) (by simp [results, Tryz.results129, go_sem, p0, p1]) rfl ⟨rfl, below_2 hb (by omega) _ _⟩
end Go.Proofs.YtaidefdbjcgcbaaGreat
