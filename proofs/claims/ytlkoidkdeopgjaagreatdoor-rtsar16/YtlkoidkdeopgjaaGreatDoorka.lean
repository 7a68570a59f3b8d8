/-
  Mem, InsM, AsM, RtX, Plain, Plain2.
-/
import Derived.WalkKit
import Derived.Deep.QuietTactic
import Derived.BigQuiet
import Derived.Lib.Join
import Derived.Lib.ItoaNum
import Derived.Lib.AtoiAll
set_option maxHeartbeats 4000000
set_option maxRecDepth 100000
namespace Go.Proofs.YtlkoidkdeopgjaaGreatDoor
open Go.RowKit
set_option linter.unusedSimpArgs false
set_option linter.unusedVariables false
def Lies (w : World) (s : Nat) (v : Value) (n : Nat) (cs : List Value) : Prop :=
 cs.length = n * s ∧ ∃ ao cap, v = .slice ao n cap ∧ n ≤ cap ∧ cap ≤ maxLen ∧ (ao = none → cap = 0) ∧ (n ≠ 0 → ∃ b off, ao = some ⟨b, off, none⟩ ∧ b < w.heap.size ∧ ∀ j, j < n * s → w.cell? ⟨b, off + j, none⟩ = cs[j]?)
theorem Lies.step {w w' : World} {s n : Nat} {v : Value} {cs : List Value} (h : Lies w s v n cs) (k : Below w.heap.size w w') : Lies w' s v n cs := by
 obtain ⟨h1, ao, cap, h2, h3, h4, h6, h5⟩ := h
 refine ⟨h1, ao, cap, h2, h3, h4, h6, fun hn => ?_⟩
 obtain ⟨b, off, e, hb, hc⟩ := h5 hn
 exact ⟨b, off, e, Nat.lt_of_lt_of_le hb k.size, fun j hj => by rw [k.cell (p := ⟨b, off + j, none⟩) hb]; exact hc j hj⟩
theorem Lies.nil (w : World) (s : Nat) : Lies w s (.slice none 0 0) 0 [] := ⟨by simp, none, 0, rfl, Nat.le_refl _, Nat.zero_le _, fun _ => rfl, fun h => absurd rfl h⟩
theorem Lies.owned {w : World} {B e s n : Nat} {v : Value} {cs : List Value} (h : w.ownsRow B e s v n cs) : Lies w s v n cs := by
 refine ⟨h.1, ?_⟩
 rcases h.2 with ⟨rfl, rfl⟩ | ⟨g, cap, cur, rfl, _, hg, hn, hm, hs, ht⟩
 · exact ⟨none, 0, rfl, Nat.le_refl _, Nat.zero_le _, fun _ => rfl, fun h => absurd rfl h⟩
 · refine ⟨_, cap, rfl, hn, hm, (fun h => by cases h), fun _ => ⟨g, 0, rfl, ?_, fun j hj => ?_⟩⟩
   · exact (Array.getElem?_eq_some_iff.1 hg).1
   · have := World.ownsRow.cellAt (g := g) h j hj
     rw [Nat.zero_add]; exact this
theorem own_step {w w' : World} {B e s n : Nat} {v : Value} {cs : List Value} (h : w.ownsRow B e s v n cs) (k : Below w.heap.size w w') : w'.ownsRow B e s v n cs := by
 refine ⟨h.1, ?_⟩
 rcases h.2 with hn | ⟨g, cap, cur, rfl, hb, hg, r⟩
 · exact .inl hn
 · exact .inr ⟨g, cap, cur, rfl, hb, by rw [k.block g (Array.getElem?_eq_some_iff.1 hg).1]; exact hg, r⟩
theorem own_else {w u u' : World} {B e s n : Nat} {v : Value} {cs : List Value} (h : w.ownsRow B e s v n cs) (hg : u.grownBy u' v.ownBlock) :
   (∀ b o, w.heap.size ≤ b → b < u.heap.size → u'.cell? ⟨b, o, none⟩ = u.cell? ⟨b, o, none⟩) ∧ (∀ b o, w.heap.size ≤ b → b < u.heap.size → u'.frozen? ⟨b, o, none⟩ = u.frozen? ⟨b, o, none⟩) := by
 have key : ∀ b, w.heap.size ≤ b → b < u.heap.size → u'.heap[b]? = u.heap[b]? := fun b h1 h2 =>
   hg.block b h2 fun e => by have := (h.lt b e.symm).2; omega
 exact ⟨fun b o h1 h2 => World.cell?_of_block (a := ⟨b, o, none⟩) (key b h1 h2), fun b o h1 h2 => World.frozen?_of_block (a := ⟨b, o, none⟩) (key b h1 h2)⟩
theorem below_own {w u u' : World} {B e s n : Nat} {v : Value} {cs : List Value} (hw : Below B w u) (hB : B ≤ u.heap.size) (h : u.ownsRow B e s v n cs) (hg : u.grownBy u' v.ownBlock) : Below B w u' :=
 hw.grown hg hB fun k e => (h.lt k e).1
theorem one_c1 (u : World) (q : Value) (T : TypeId) : ∀ j x, [q][j]? = some x → (u.alloc (.cells #[q] T)).cell? ((⟨u.heap.size, 0, none⟩ : Addr).add j) = some x := by
 intro j x hj
 match j, hj with
 | 0, hj => simp at hj; subst hj; simp [Addr.add]
theorem one_c2 (k : IntKind) (q : Int) : ∀ u ∈ [Value.int k q], u.oneCell' = true := by intro u hu; simp at hu; subst hu; rfl
def int1 (x : Int) : Value := .int .i64 x
def Ints (w : World) (v : Value) (xs : List Int) : Prop := Lies w 1 v xs.length (xs.map int1)
theorem Ints.step {w w' : World} {v : Value} {xs : List Int} (h : Ints w v xs) (k : Below w.heap.size w w') : Ints w' v xs := Lies.step h k
theorem Ints.at {w : World} {v : Value} {xs : List Int} (h : Ints w v xs) : ∃ ao cap, v = .slice ao xs.length cap ∧ xs.length ≤ maxLen ∧ (xs ≠ [] → ∃ b off, ao = some ⟨b, off, none⟩ ∧ b < w.heap.size ∧ ∀ j (hj : j < xs.length), w.cell? ⟨b, off + j, none⟩ = some (.int .i64 (xs[j]'hj))) := by
 obtain ⟨_, ao, cap, rfl, h3, h4, _, h5⟩ := h
 refine ⟨ao, cap, rfl, Nat.le_trans h3 h4, fun hn => ?_⟩
 obtain ⟨b, off, rfl, hb, hc⟩ := h5 (by intro h; exact hn (List.eq_nil_of_length_eq_zero h))
 refine ⟨b, off, rfl, hb, fun j hj => ?_⟩
 rw [hc j (by omega), List.getElem?_map, List.getElem?_eq_getElem hj]; rfl
def Box (w : World) (b : Nat) (cs : List Value) : Prop := b < w.heap.size ∧ (∀ j u, cs[j]? = some u → w.cell? ⟨b, j, none⟩ = some u) ∧ ∀ j, w.frozen? ⟨b, j, none⟩ = false
theorem Box.step {w w' : World} {b : Nat} {cs : List Value} (h : Box w b cs) (k : Below w.heap.size w w') : Box w' b cs :=
 ⟨Nat.lt_of_lt_of_le h.1 k.size, fun j u hu => by rw [k.cell (p := ⟨b, j, none⟩) h.1]; exact h.2.1 j u hu, fun j => by rw [k.frozen (p := ⟨b, j, none⟩) h.1]; exact h.2.2 j⟩
theorem Box.new (w : World) (cs : Array Value) (T : TypeId) : Box (w.alloc (.cells cs T)) w.heap.size cs.toList := by
 refine ⟨by simp, fun j u hu => ?_, fun j => ?_⟩
 · have : cs[j]? = some u := by rw [← Array.getElem?_toList]; exact hu
   simpa [go_sem] using this
 · simp [go_sem]
theorem Box.at4 {w : World} {b : Nat} {a0 a1 a2 a3 : Value} (h : Box w b [a0, a1, a2, a3]) : w.cell? ⟨b, 0, none⟩ = some a0 ∧ w.cell? ⟨b, 1, none⟩ = some a1 ∧ w.cell? ⟨b, 2, none⟩ = some a2 ∧ w.cell? ⟨b, 3, none⟩ = some a3 :=
 ⟨h.2.1 0 _ rfl, h.2.1 1 _ rfl, h.2.1 2 _ rfl, h.2.1 3 _ rfl⟩
theorem Box.at3 {w : World} {b : Nat} {a0 a1 a2 : Value} (h : Box w b [a0, a1, a2]) : w.cell? ⟨b, 0, none⟩ = some a0 ∧ w.cell? ⟨b, 1, none⟩ = some a1 ∧ w.cell? ⟨b, 2, none⟩ = some a2 :=
 ⟨h.2.1 0 _ rfl, h.2.1 1 _ rfl, h.2.1 2 _ rfl⟩
theorem Box.at2 {w : World} {b : Nat} {a0 a1 : Value} (h : Box w b [a0, a1]) : w.cell? ⟨b, 0, none⟩ = some a0 ∧ w.cell? ⟨b, 1, none⟩ = some a1 :=
 ⟨h.2.1 0 _ rfl, h.2.1 1 _ rfl⟩
theorem Box.other {w : World} {b b' j : Nat} {cs : List Value} {u : Value} (h : Box w b cs) (hne : b ≠ b') : Box (w.setCell ⟨b', j, none⟩ u) b cs := by
 refine ⟨by simpa [World.setCell] using h.1, fun i v hv => ?_, fun i => ?_⟩
 · rw [World.cell?_of_block (w := w) (a := ⟨b, i, none⟩) (Below.heap_setCell _ _ _ _ hne)]; exact h.2.1 i v hv
 · rw [World.frozen?_of_block (w := w) (a := ⟨b, i, none⟩) (Below.heap_setCell _ _ _ _ hne)]; exact h.2.2 i
theorem Box.set {w : World} {b j : Nat} {cs : List Value} {u : Value} (h : Box w b cs) (hj : j < cs.length) : Box (w.setCell ⟨b, j, none⟩ u) b (cs.set j u) := by
 refine ⟨by simpa [World.setCell] using h.1, fun i v hv => ?_, fun i => ?_⟩
 · by_cases e : j = i
   · subst e
     have : v = u := by rw [List.getElem?_set_self hj] at hv; simpa using hv.symm
     rw [this]
     exact World.cell?_setCell_same' _ _ _ (by rw [h.2.1 j _ (List.getElem?_eq_getElem hj)]; rfl)
   · rw [List.getElem?_set_ne e] at hv
     rw [World.cell?_setCell_other _ _ _ _ (by intro h; exact e (congrArg Addr.off h))]
     exact h.2.1 i v hv
 · rw [World.frozen?_setCell]; exact h.2.2 i
theorem Lies.src {w : World} {s n : Nat} {v : Value} {cs : List Value} (h : Lies w s v n cs) : (v = .slice none 0 0 ∧ n = 0 ∧ cs = []) ∨ ∃ ad cap, v = .slice (some ad) n cap ∧ cs.length = n * s ∧ ∀ j u, cs[j]? = some u → w.cell? (ad.add j) = some u := by
 obtain ⟨h1, ao, cap, rfl, h3, h4, h6, h5⟩ := h
 by_cases hn : n = 0
 · subst hn
   have hc : cs = [] := List.eq_nil_of_length_eq_zero (by simpa using h1)
   cases ao with
   | none => have := h6 rfl; subst this; exact .inl ⟨rfl, rfl, hc⟩
   | some ad => exact .inr ⟨ad, cap, rfl, h1, by rw [hc]; intro j u hu; simp at hu⟩
 · obtain ⟨b, off, rfl, hb, hc⟩ := h5 hn
   refine .inr ⟨_, cap, rfl, h1, fun j u hu => ?_⟩
   have hj : j < n * s := by rw [← h1]; exact (List.getElem?_eq_some_iff.1 hu).1
   have e : (⟨b, off, none⟩ : Addr).add j = ⟨b, off + j, none⟩ := by unfold Addr.add; split <;> simp_all
   rw [e, hc j hj]; exact hu
theorem Lies.other {w : World} {s n b j : Nat} {v u : Value} {cs : List Value} (h : Lies w s v n cs) (hne : ∀ k, v.ownBlock = some k → k ≠ b) : Lies (w.setCell ⟨b, j, none⟩ u) s v n cs := by
 obtain ⟨h1, ao, cap, rfl, h3, h4, h6, h5⟩ := h
 refine ⟨h1, ao, cap, rfl, h3, h4, h6, fun hn => ?_⟩
 obtain ⟨c, off, rfl, hb, hc⟩ := h5 hn
 refine ⟨c, off, rfl, by simpa [World.setCell] using hb, fun i hi => ?_⟩
 rw [World.cell?_of_block (w := w) (a := ⟨c, off + i, none⟩) (Below.heap_setCell _ _ _ _ (hne c rfl))]; exact hc i hi
theorem cell_keep {w w' : World} {b o : Nat} {v : Value} (k : Below w.heap.size w w') (hb : b < w.heap.size) (h : w.cell? ⟨b, o, none⟩ = some v) : w'.cell? ⟨b, o, none⟩ = some v := by
 rw [k.cell (p := ⟨b, o, none⟩) hb]; exact h
theorem below_a (w : World) (o : Obj) : Below w.heap.size w (w.alloc o) := (Below.refl _ _).alloc (Nat.le_refl _) _
theorem below_cells {W v : World} (h : Below W.heap.size W v) : (∀ b o, b < W.heap.size → v.cell? ⟨b, o, none⟩ = W.cell? ⟨b, o, none⟩) ∧ (∀ b o, b < W.heap.size → v.frozen? ⟨b, o, none⟩ = W.frozen? ⟨b, o, none⟩) :=
 ⟨fun b o hb => h.cell (p := ⟨b, o, none⟩) hb, fun b o hb => h.frozen (p := ⟨b, o, none⟩) hb⟩
theorem wp_region_later {P : Program} {id : Nat} {Q : Exit → Act → World → Prop} {a : Act} {w : World} {l : List Oper} (hm : P.follows .mixedOrders = true) (hB : Region.lexB .any l.toArray = true)
   (h : ∀ (L : Type) [Nonempty L] (lt : L → World), (∀ x b o, b < w.heap.size → (lt x).cell? ⟨b, o, none⟩ = w.cell? ⟨b, o, none⟩) → (∀ x b o, b < w.heap.size → (lt x).frozen? ⟨b, o, none⟩ = w.frozen? ⟨b, o, none⟩) →
     Hid ((∀ x, Below w.heap.size w (lt x)) ∧ (∀ v, Below w.heap.size w v → ∃ x, v = lt x)) →
     wpQuiet P l.toArray (fun w' => ∃ x, w' = lt x) (fun a' => ∀ w', Below w.heap.size w w' → Q .normal a' w') l a) : (Code.region id l.toArray true).wp P Q a w := by
 refine wp_region_quiet (C := fun w' => ∃ x : {v // Below w.heap.size w v}, w' = x.1) hm hB ⟨⟨_, (Below.refl _ _).drew⟩, rfl⟩ ?_
 have : Nonempty {v // Below w.heap.size w v} := ⟨⟨w, Below.refl _ _⟩⟩
 have := h {v // Below w.heap.size w v} (fun x => x.1) (fun x => (below_cells x.2).1) (fun x => (below_cells x.2).2) ⟨fun x => x.2, fun v hv => ⟨⟨v, hv⟩, rfl⟩⟩
 have e : (fun a' => ∀ w', (∃ x : {v // Below w.heap.size w v}, w' = x.1) → Q .normal a' w') = (fun a' => ∀ w', Below w.heap.size w w' → Q .normal a' w') := by
   funext a'
   exact propext ⟨fun k w' hw => k w' ⟨⟨w', hw⟩, rfl⟩, fun k w' ⟨x, hx⟩ => k w' (hx ▸ x.2)⟩
 rw [e]
 simpa using this
theorem later_call {P : Program} {f : FuncId} {args : Array Value} {w : World} {v : Value} {L : Type} {lt : L → World} {x : L} (hl : Hid ((∀ x, Below w.heap.size w (lt x)) ∧ (∀ v, Below w.heap.size w v → ∃ x, v = lt x)))
   (h : Calls P f args (lt x) fun e w' => e = .returned v ∧ Below (lt x).heap.size (lt x) w') : Calls P f args (lt x) fun e w'' => e = .returned v ∧ ∃ y, w'' = lt y :=
 h.mono fun _ _ ⟨he, hb⟩ => ⟨he, hl.2 _ ((hl.1 x).trans (hb.mono (hl.1 x).size))⟩
end Go.Proofs.YtlkoidkdeopgjaaGreatDoor
namespace Go.Proofs.YtlkoidkdeopgjaaGreatDoor
open Go.RowKit
set_option linter.unusedSimpArgs false
set_option linter.unusedVariables false
theorem zH {p : Prop} (h : p) : Hid p := h
theorem uI {p : Prop} (h : Hid p) : p := h
structure Ins where
 o : Int
 d : Int
 s : Int
 m : Int
def kn (o : Int) : Bool := decide (0 ≤ o ∧ o ≤ 32)
def hD (o : Int) : Bool := decide ((1 ≤ o ∧ o ≤ 18) ∨ o = 29 ∨ o = 31)
def hS (o : Int) : Bool := decide (o = 1 ∨ (3 ≤ o ∧ o ≤ 13) ∨ o = 28 ∨ o = 30)
def hI (o : Int) : Bool := decide ((2 ≤ o ∧ o ≤ 4) ∨ (19 ≤ o ∧ o ≤ 26) ∨ o = 32)
def ke (o : Int) : Int := if kn o = true then 0 else 1
def inR (x top : Int) : Bool := decide (0 ≤ x ∧ x ≤ top)
def bad (i : Ins) : Bool := (hD i.o && !inR i.d 7) || (hS i.o && !inR i.s 7) || (hI i.o && !inR i.m 65535)
def wrg (i : Ins) : Int := if kn i.o = true then (if bad i = true then 3 else 0) else 1
def bare (i : Ins) : Ins := ⟨i.o, if hD i.o = true then i.d else 0, if hS i.o = true then i.s else 0, if hI i.o = true then i.m else 0⟩
def fst (i : Ins) : Int := (bare i).o * 1024 + (bare i).d * 128 + (bare i).s * 16
def ws (i : Ins) : List Int := if hI i.o = true then [fst i, i.m] else [fst i]
def lng (o : Int) : Int := if hI o = true then 2 else 1
theorem ke_yes {o : Int} (h : kn o = true) : ke o = 0 := by unfold ke; rw [if_pos h]
theorem ke_no {o : Int} (h : kn o = false) : ke o = 1 := by unfold ke; rw [if_neg (by simp [h])]
theorem kn_no {o : Int} (h : kn o = false) : hD o = false ∧ hS o = false ∧ hI o = false := by
 unfold hD hS hI kn at *; simp only [decide_eq_false_iff_not] at *; omega
theorem wr_no {i : Ins} (h : kn i.o = false) : wrg i = 1 := by unfold wrg; rw [if_neg (by simp [h])]
theorem wr_ok {i : Ins} (h : kn i.o = true) (b : bad i = false) : wrg i = 0 := by unfold wrg; rw [if_pos h, if_neg (by simp [b])]
theorem wr_zero {i : Ins} (h : wrg i = 0) : kn i.o = true ∧ bad i = false := by
 unfold wrg at h
 by_cases k : kn i.o = true
 · rw [if_pos k] at h
   by_cases b : bad i = true
   · rw [if_pos b] at h; omega
   · exact ⟨k, by simpa using b⟩
 · rw [if_neg k] at h; omega
theorem wr_fields {i : Ins} (h : wrg i = 0) : 0 ≤ i.o ∧ i.o ≤ 32 ∧ (hD i.o = true → 0 ≤ i.d ∧ i.d ≤ 7) ∧ (hS i.o = true → 0 ≤ i.s ∧ i.s ≤ 7) ∧ (hI i.o = true → 0 ≤ i.m ∧ i.m ≤ 65535) := by
 obtain ⟨k, b⟩ := wr_zero h
 unfold kn at k
 simp only [decide_eq_true_eq] at k
 refine ⟨k.1, k.2, ?_, ?_, ?_⟩
 · intro x; unfold bad at b; rw [x] at b; simp [inR] at b; omega
 · intro x; unfold bad at b; rw [x] at b; simp [inR] at b; omega
 · intro x; unfold bad at b; rw [x] at b; simp [inR] at b; omega
theorem wr_of {i : Ins} (h0 : 0 ≤ i.o) (h1 : i.o ≤ 32) (hd : hD i.o = true → 0 ≤ i.d ∧ i.d ≤ 7) (hs : hS i.o = true → 0 ≤ i.s ∧ i.s ≤ 7) (hm : hI i.o = true → 0 ≤ i.m ∧ i.m ≤ 65535) : wrg i = 0 := by
 refine wr_ok (by unfold kn; simp only [decide_eq_true_eq]; omega) ?_
 unfold bad inR
 cases a : hD i.o <;> cases b : hS i.o <;> cases c : hI i.o <;> simp <;> (try have := hd a) <;> (try have := hs b) <;> (try have := hm c) <;> omega
theorem bare_in {i : Ins} (h : wrg i = 0) : 0 ≤ (bare i).d ∧ (bare i).d ≤ 7 ∧ 0 ≤ (bare i).s ∧ (bare i).s ≤ 7 ∧ 0 ≤ (bare i).m ∧ (bare i).m ≤ 65535 := by
 obtain ⟨_, _, hd, hs, hm⟩ := wr_fields h
 unfold bare
 refine ⟨?_, ?_, ?_, ?_, ?_, ?_⟩ <;> (dsimp only; split <;> simp_all)
theorem bare_o (i : Ins) : (bare i).o = i.o := rfl
theorem bare_bare (i : Ins) : bare (bare i) = bare i := by
 unfold bare; dsimp only
 congr 1 <;> (split <;> rfl)
theorem fst_bare (i : Ins) : fst (bare i) = fst i := by unfold fst; rw [bare_bare]
theorem ws_len (i : Ins) : ((ws i).length : Int) = lng i.o := by unfold ws lng; split <;> rfl
def enc : List Ins → Nat → List Int → List Int × Int × Nat
 | [], _, acc => (acc, 0, 0)
 | i :: l, k, acc => if wrg i = 0 then (if (acc ++ ws i).length ≤ 65536 then enc l (k + 1) (acc ++ ws i) else ([], 4, k)) else ([], wrg i, k)
def encA (l : List Ins) : List Int × Int × Nat := enc l 0 []
theorem enc_nil (k : Nat) (acc : List Int) : enc [] k acc = (acc, 0, 0) := rfl
theorem enc_bad {i : Ins} {l : List Ins} {k : Nat} {acc : List Int} (h : wrg i ≠ 0) : enc (i :: l) k acc = ([], wrg i, k) := by rw [enc, if_neg h]
theorem enc_much {i : Ins} {l : List Ins} {k : Nat} {acc : List Int} (h : wrg i = 0) (m : 65536 < (acc ++ ws i).length) : enc (i :: l) k acc = ([], 4, k) := by rw [enc, if_pos h, if_neg (by omega)]
theorem enc_next {i : Ins} {l : List Ins} {k : Nat} {acc : List Int} (h : wrg i = 0) (m : (acc ++ ws i).length ≤ 65536) : enc (i :: l) k acc = enc l (k + 1) (acc ++ ws i) := by rw [enc, if_pos h, if_pos m]
def zeroI : Ins := ⟨0, 0, 0, 0⟩
def with2 (w m : Int) : Ins := ⟨w / 1024, w / 128 % 8, w / 16 % 8, m⟩
def fit (i : Ins) (w : Int) : Bool := decide (wrg i = 0 ∧ fst i = w)
def one : List Int → Ins × Int
 | [] => (zeroI, 0)
 | w :: r => if hI (w / 1024) = true then (match r with | [] => (zeroI, 0) | m :: _ => if fit (with2 w m) w = true then (with2 w m, 2) else (zeroI, 0)) else if fit (with2 w 0) w = true then (with2 w 0, 1) else (zeroI, 0)
theorem one_end {w : Int} (h : hI (w / 1024) = true) : one [w] = (zeroI, 0) := by show (if hI (w / 1024) = true then (zeroI, (0 : Int)) else _) = _; rw [if_pos h]
theorem one_two {w m : Int} {r : List Int} (h : hI (w / 1024) = true) : one (w :: m :: r) = if fit (with2 w m) w = true then (with2 w m, 2) else (zeroI, 0) := by
 show (if hI (w / 1024) = true then (if fit (with2 w m) w = true then (with2 w m, (2 : Int)) else (zeroI, 0)) else _) = _; rw [if_pos h]
theorem one_one {w : Int} {r : List Int} (h : ¬ hI (w / 1024) = true) : one (w :: r) = if fit (with2 w 0) w = true then (with2 w 0, 1) else (zeroI, 0) := by
 show (if hI (w / 1024) = true then _ else if fit (with2 w 0) w = true then (with2 w 0, (1 : Int)) else (zeroI, 0)) = _; rw [if_neg h]
def oneA (xs : List Int) (p : Int) : Ins × Int := if 0 ≤ p then one (xs.drop p.toNat) else (zeroI, 0)
theorem one_ws (i : Ins) (r : List Int) (h : wrg i = 0) : one (ws i ++ r) = (bare i, lng i.o) := by
 obtain ⟨a, b, hd, hs, hm⟩ := wr_fields h
 obtain ⟨c, d, e, f, _, _⟩ := bare_in h
 have o : (fst i) / 1024 = i.o := by unfold fst; rw [bare_o]; omega
 have D : (fst i) / 128 % 8 = (bare i).d := by unfold fst; rw [bare_o]; omega
 have S : (fst i) / 16 % 8 = (bare i).s := by unfold fst; rw [bare_o]; omega
 have fb : ∀ m, (bare i).m = m → with2 (fst i) m = bare i := by
   intro m hm; unfold with2; rw [o, D, S, ← hm, ← bare_o i]
 have wb : wrg (bare i) = 0 := by
   refine wr_of a b ?_ ?_ ?_ <;> intro x
   · exact ⟨c, d⟩
   · exact ⟨e, f⟩
   · exact ⟨(bare_in h).2.2.2.2.1, (bare_in h).2.2.2.2.2⟩
 have ft : fit (bare i) (fst i) = true := by unfold fit; rw [fst_bare]; simp [wb]
 by_cases hi : hI i.o = true
 · have e2 : with2 (fst i) i.m = bare i := fb i.m (by unfold bare; dsimp only; rw [if_pos hi])
   unfold ws lng; rw [if_pos hi]
   show one (fst i :: i.m :: r) = _
   rw [one_two (by rw [o]; exact hi), e2, if_pos ft, if_pos hi]
 · have e2 : with2 (fst i) 0 = bare i := fb 0 (by unfold bare; dsimp only; rw [if_neg hi])
   unfold ws lng; rw [if_neg hi]
   show one (fst i :: r) = _
   rw [one_one (by rw [o]; exact hi), e2, if_pos ft, if_neg hi]
theorem lng_in (o : Int) : 1 ≤ lng o ∧ lng o ≤ 2 := by unfold lng; split <;> decide
end Go.Proofs.YtlkoidkdeopgjaaGreatDoor
namespace Go.Proofs.YtlkoidkdeopgjaaGreatDoor
open Go.RowKit
set_option linter.unusedSimpArgs false
set_option linter.unusedVariables false
structure Ln where
 lab : ByteArray
 i : Ins
 ref : ByteArray
def fitC (c : Int) (first : Bool) : Bool := (decide (97 ≤ c ∧ c ≤ 122) || decide (c = 95)) || (decide (48 ≤ c ∧ c ≤ 57) && !first) || (decide (c = 46) && first)
def byt (s : ByteArray) (j : Nat) : Int := if h : j < s.size then ((s[j].toNat : Nat) : Int) else 0
theorem byt_at {s : ByteArray} {j : Nat} (h : j < s.size) : byt s j = ((s[j].toNat : Nat) : Int) := by unfold byt; rw [dif_pos h]
def fits (s : ByteArray) : Nat → Nat → Bool
 | 0, _ => true
 | n + 1, j => fitC (byt s j) (j == 0) && fits s n (j + 1)
def nm (s : ByteArray) : Bool := !(s.toList.isEmpty) && !(s.toList == [46]) && decide (s.size ≤ 32) && fits s s.size 0
end Go.Proofs.YtlkoidkdeopgjaaGreatDoor
namespace Go.Proofs.YtlkoidkdeopgjaaGreatDoor
open Go.RowKit
set_option linter.unusedSimpArgs false
set_option linter.unusedVariables false
theorem fmn {α : Type} {p : α → Prop} : ∀ x ∈ ([] : List α), p x := fun _ h => absurd h List.not_mem_nil
theorem fmc {α : Type} {p : α → Prop} {a : α} {l : List α} (h : p a) (k : ∀ x ∈ l, p x) : ∀ x ∈ a :: l, p x := List.forall_mem_cons.2 ⟨h, k⟩
def insT (kd : List UInt8) (fs : List (List UInt8)) : List UInt8 := 9 :: kd ++ (if fs = [] then [] else 32 :: Lib.join fs [44, 32]) ++ [10]
def labT (s : List UInt8) : List UInt8 := s ++ [58, 10]
def dgs (n : Nat) : List UInt8 := if n < 10 then [UInt8.ofNat (48 + n)] else [UInt8.ofNat (48 + n / 10), UInt8.ofNat (48 + n % 10)]
theorem dgs_eq {n : Nat} (h : n < 100) : Lib.decDigits n = dgs n := by
 unfold dgs
 by_cases h1 : n < 10
 · rw [if_pos h1, Lib.decDigits, dif_pos h1]
 · rw [if_neg h1, Lib.decDigits, dif_neg h1, Lib.decDigits, dif_pos (by omega)]; rfl
theorem dgs_len (n : Nat) : (dgs n).length ≤ 2 := by unfold dgs; split <;> simp
def hld (k : Nat) : List UInt8 := 114 :: dgs (2 + k)
def chd (k : Nat) (a b : List UInt8) : List UInt8 := if k = 0 then a else b
def each (n : Nat) (f : Nat → List UInt8) : List UInt8 := (List.range n).flatMap f
theorem each_succ (n : Nat) (f : Nat → List UInt8) : each (n + 1) f = each n f ++ f n := by unfold each; rw [List.range_succ, List.flatMap_append]; simp
def clearT (n : Nat) := each n fun k => insT [108, 100, 105] [hld k, [48]]
def loadT (n : Nat) := each n fun k => insT [108, 100] [hld k, [114, 48], dgs k]
def storeT (n : Nat) := each n fun k => insT [115, 116] [[114, 48], hld k, dgs k]
def upT (f : List UInt8) (n : Nat) := each n fun k => insT (chd k f [114, 111, 108]) [hld k]
def downT (f : List UInt8) (n : Nat) := each n fun k => insT (chd k f [114, 111, 114]) [hld (n - 1 - k)]
def upAtT (pl : List UInt8) (bh n : Nat) := each n fun k => insT [108, 100] [[114, 54], pl, dgs (bh + k)] ++ insT (chd k [115, 104, 108] [114, 111, 108]) [[114, 54]] ++ insT [115, 116] [pl, [114, 54], dgs (bh + k)]
def withT (a b pl : List UInt8) (bh n : Nat) := each n fun k => insT [108, 100] [[114, 54], pl, dgs (bh + k)] ++ insT (chd k a b) [hld k, [114, 54]]
def negT (pl : List UInt8) (n : Nat) := each n fun k => insT [108, 100, 105] [[114, 54], [48]] ++ insT [108, 100] [hld 0, pl, dgs k] ++ insT (chd k [115, 117, 98] [115, 98, 99]) [[114, 54], hld 0] ++ insT [115, 116] [pl, [114, 54], dgs k]
def unsT (pl past : List UInt8) (n : Nat) := insT [108, 100] [[114, 54], pl, dgs (n - 1)] ++ insT [111, 114] [[114, 54], [114, 54]] ++ insT [106, 103, 101] [past] ++ negT pl n ++ labT past
def trapT (n : Nat) := insT [108, 100, 105] [[114, 54], [48]] ++ (each n fun k => insT [108, 100] [hld 0, [114, 49], dgs k] ++ insT [111, 114] [[114, 54], hld 0]) ++ insT [106, 110, 122] [[46, 102, 105, 110, 101]] ++ insT [116, 114, 97, 112] [[49]] ++ labT [46, 102, 105, 110, 101]
def pushT (n : Nat) := each n fun k => insT [108, 100] [[114, 54], [114, 49], dgs (n - 1 - k)] ++ insT [112, 117, 115, 104] [[114, 54]]
def dropT (k : Nat) := insT [108, 100, 105] [[114, 54], dgs k] ++ insT [97, 100, 100] [[114, 55], [114, 54]]
def perT (n : Nat) := pushT n ++ insT [108, 100, 105] [[114, 54], dgs (16 * n)] ++ insT [112, 117, 115, 104] [[114, 54]] ++ insT [108, 100, 105] [[114, 49], [49]] ++ clearT n ++ labT [46, 98, 105, 116]
def doneT (n : Nat) := labT [46, 110, 101, 120, 116] ++ insT [108, 100] [[114, 54], [114, 55], dgs 0] ++ insT [115, 117, 98] [[114, 54], [114, 49]] ++ insT [115, 116] [[114, 55], [114, 54], dgs 0] ++ insT [106, 110, 122] [[46, 98, 105, 116]] ++ dropT (1 + n)
def mulT (n : Nat) := perT n ++ upT [115, 104, 108] n ++ upAtT [114, 55] 1 n ++ insT [106, 110, 99] [[46, 110, 101, 120, 116]] ++ withT [97, 100, 100] [97, 100, 99] [114, 48] 0 n ++ doneT n ++ storeT n ++ insT [114, 101, 116] []
def divT (n : Nat) := trapT n ++ perT n ++ upAtT [114, 48] 0 n ++ upT [114, 111, 108] n ++ withT [99, 109, 112] [99, 112, 99] [114, 55] 1 n ++ insT [106, 99] [[46, 110, 101, 120, 116]] ++ withT [115, 117, 98] [115, 98, 99] [114, 55] 1 n ++ insT [108, 100] [[114, 54], [114, 48], [48]] ++ insT [111, 114] [[114, 54], [114, 49]] ++ insT [115, 116] [[114, 48], [114, 54], [48]] ++ doneT n
def udivT (n : Nat) := divT n ++ insT [114, 101, 116] []
def uremT (n : Nat) := divT n ++ storeT n ++ insT [114, 101, 116] []
def signT (kd : List UInt8) (n : Nat) := insT [112, 117, 115, 104] [hld 0] ++ insT [112, 117, 115, 104] [[114, 48]] ++ pushT n ++ unsT [114, 55] [46, 98] n ++ unsT [114, 48] [46, 97] n ++ insT [109, 111, 118] [[114, 49], [114, 55]] ++ insT [99, 97, 108, 108] [kd ++ dgs n] ++ dropT n ++ insT [112, 111, 112] [[114, 48]] ++ insT [112, 111, 112] [hld 0] ++ insT [111, 114] [hld 0, hld 0] ++ insT [106, 103, 101] [[46, 101, 110, 100]] ++ negT [114, 48] n ++ labT [46, 101, 110, 100] ++ insT [114, 101, 116] []
def sdivT (n : Nat) := trapT n ++ insT [108, 100] [hld 0, [114, 48], dgs (n - 1)] ++ insT [108, 100] [[114, 54], [114, 49], dgs (n - 1)] ++ insT [120, 111, 114] [hld 0, [114, 54]] ++ signT [117, 100, 105, 118] n
def sremT (n : Nat) := trapT n ++ insT [108, 100] [hld 0, [114, 48], dgs (n - 1)] ++ signT [117, 114, 101, 109] n
def shiftT (mv : Nat → List UInt8) (n : Nat) := insT [108, 100] [[114, 49], [114, 49], [48]] ++ insT [108, 100, 105] [[114, 54], dgs (16 * n)] ++ insT [99, 109, 112] [[114, 49], [114, 54]] ++ insT [106, 99] [[46, 102, 101, 119]] ++ insT [109, 111, 118] [[114, 49], [114, 54]] ++ labT [46, 102, 101, 119] ++ loadT n ++ insT [108, 100, 105] [[114, 54], [49]] ++ labT [46, 112, 108, 97, 99, 101] ++ insT [115, 117, 98] [[114, 49], [114, 54]] ++ insT [106, 99] [[46, 101, 110, 100]] ++ mv n ++ insT [106, 109, 112] [[46, 112, 108, 97, 99, 101]] ++ labT [46, 101, 110, 100] ++ storeT n ++ insT [114, 101, 116] []
def shlT := shiftT (upT [115, 104, 108])
def shrT := shiftT (downT [115, 104, 114])
def sarT := shiftT (downT [115, 97, 114])
def kdR : List (List UInt8) := [[109, 117, 108], [115, 97, 114], [115, 100, 105, 118], [115, 104, 108], [115, 104, 114], [115, 114, 101, 109], [117, 100, 105, 118], [117, 114, 101, 109]]
def kdT (k : Nat) : Nat → List UInt8 := match k with | 0 => mulT | 1 => sarT | 2 => sdivT | 3 => shlT | 4 => shrT | 5 => sremT | 6 => udivT | _ => uremT
end Go.Proofs.YtlkoidkdeopgjaaGreatDoor
namespace Go.Proofs.YtlkoidkdeopgjaaGreatDoor
open Go.RowKit
set_option linter.unusedSimpArgs false
set_option linter.unusedVariables false
theorem hide {p : Prop} (h : p) : Hid p := h
theorem unhide {p : Prop} (h : Hid p) : p := h
def IsW (n : Int) : Prop := n = 8 ∨ n = 16 ∨ n = 32 ∨ n = 64
def md (n : Int) : Int := 2 ^ n.toNat
def cut (n x : Int) : Int := x % md n
def sgn (n x : Int) : Int := if 2 * cut n x < md n then cut n x else cut n x - md n
theorem md_8 : md 8 = 256 := by decide
theorem md_16 : md 16 = 65536 := by decide
theorem md_32 : md 32 = 4294967296 := by decide
theorem md_64 : md 64 = 18446744073709551616 := by decide
theorem u64_wrap (x : Int) : IntKind.u64.wrap x = x % 18446744073709551616 := by simp [IntKind.wrap, IntKind.bits, IntKind.signed]
theorem md_pos {n : Int} (h : IsW n) : 0 < md n := by
 rcases h with rfl | rfl | rfl | rfl <;> simp [md_8, md_16, md_32, md_64]
theorem md_le {n : Int} (h : IsW n) : md n ≤ 18446744073709551616 := by
 rcases h with rfl | rfl | rfl | rfl <;> simp [md_8, md_16, md_32, md_64]
theorem cut_lo {n : Int} (h : IsW n) (x : Int) : 0 ≤ cut n x := Int.emod_nonneg _ (Int.ne_of_gt (md_pos h))
theorem cut_lt {n : Int} (h : IsW n) (x : Int) : cut n x < md n := Int.emod_lt_of_pos _ (md_pos h)
theorem cut_hi {n : Int} (h : IsW n) (x : Int) : cut n x ≤ 18446744073709551615 := by
 have := cut_lt h x; have := md_le h; omega
def U (x : Int) : Prop := 0 ≤ x ∧ x ≤ 18446744073709551615
theorem u_cut {n : Int} (h : IsW n) (x : Int) : U (cut n x) := ⟨cut_lo h x, cut_hi h x⟩
theorem div_pow_le (x : Int) (k : Nat) (h : 0 ≤ x) : 0 ≤ x / 2 ^ k ∧ x / 2 ^ k ≤ x := by
 have hp : (0 : Int) < 2 ^ k := Int.pow_pos (by decide)
 refine ⟨Int.ediv_nonneg h (Int.le_of_lt hp), ?_⟩
 exact Int.ediv_le_self _ h
def mn (s : Bool) (n x : Int) : Int := if s = true then sgn n x else cut n x
end Go.Proofs.YtlkoidkdeopgjaaGreatDoor
namespace Go.Proofs.YtlkoidkdeopgjaaGreatDoor
open Go.RowKit
set_option linter.unusedSimpArgs false
set_option linter.unusedVariables false
theorem isW_le {n : Int} (h : IsW n) : 8 ≤ n ∧ n ≤ 64 := by rcases h with rfl | rfl | rfl | rfl <;> omega
end Go.Proofs.YtlkoidkdeopgjaaGreatDoor
