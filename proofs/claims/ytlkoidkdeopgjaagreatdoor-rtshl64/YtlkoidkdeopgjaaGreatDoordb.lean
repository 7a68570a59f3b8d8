/-
  RdR.
-/
import Derived.Test.YtlkoidkdeopgjaaGreatDoorda
import Derived.Deep.AppendLies
set_option maxHeartbeats 4000000
set_option maxRecDepth 100000
namespace Go.Proofs.YtlkoidkdeopgjaaGreatDoor
open Go.RowKit Go.Maps
set_option linter.unusedSimpArgs false
set_option linter.unusedVariables false
inductive Fk where
 | d
 | s
 | i
def fks (o : Int) : List Fk := (if hD o = true then [.d] else []) ++ (if hS o = true then [.s] else []) ++ (if hI o = true then [.i] else [])
def Rdr (w : World) (lb : Nat) (X : Nat → Prop) : Fk → Value → Prop
 | .d, v => ∃ sb pb, v = .func (.func 226) #[] #[.pointer (some ⟨sb, 0, none⟩)] ∧ Box w sb [.func (.func 207) #[] #[.pointer (some ⟨pb, 0, none⟩)]] ∧ Box w pb [.pointer (some ⟨lb, 0, none⟩)] ∧ ¬ X sb ∧ ¬ X pb ∧ sb ≠ lb ∧ pb ≠ lb
 | .s, v => ∃ sb pb, v = .func (.func 226) #[] #[.pointer (some ⟨sb, 0, none⟩)] ∧ Box w sb [.func (.func 208) #[] #[.pointer (some ⟨pb, 0, none⟩)]] ∧ Box w pb [.pointer (some ⟨lb, 0, none⟩)] ∧ ¬ X sb ∧ ¬ X pb ∧ sb ≠ lb ∧ pb ≠ lb
 | .i, v => ∃ pb, v = .func (.func 229) #[] #[.pointer (some ⟨pb, 0, none⟩)] ∧ Box w pb [.pointer (some ⟨lb, 0, none⟩)] ∧ ¬ X pb ∧ pb ≠ lb
theorem Rdr.kpt {w w' : World} {lb : Nat} {X Y Z : Nat → Prop} {f : Fk} {v : Value} (h : Rdr w lb X f v) (k : Kpt Z w w') (hz : ∀ b, b < w.heap.size → ¬ X b → b ≠ lb → ¬ Z b) (hy : ∀ b, b < w.heap.size → ¬ X b → ¬ Y b) : Rdr w' lb Y f v := by
 cases f with
 | d =>
   obtain ⟨sb, pb, h1, h2, h3, h4, h5, h6, h7⟩ := h
   exact ⟨sb, pb, h1, h2.kpt k (hz _ h2.1 h4 h6), h3.kpt k (hz _ h3.1 h5 h7), hy _ h2.1 h4, hy _ h3.1 h5, h6, h7⟩
 | s =>
   obtain ⟨sb, pb, h1, h2, h3, h4, h5, h6, h7⟩ := h
   exact ⟨sb, pb, h1, h2.kpt k (hz _ h2.1 h4 h6), h3.kpt k (hz _ h3.1 h5 h7), hy _ h2.1 h4, hy _ h3.1 h5, h6, h7⟩
 | i =>
   obtain ⟨pb, h1, h3, h5, h7⟩ := h
   exact ⟨pb, h1, h3.kpt k (hz _ h3.1 h5 h7), hy _ h3.1 h5, h7⟩
def RdrL (w : World) (lb : Nat) (X : Nat → Prop) (fs : List Fk) (vs : List Value) : Prop := vs.length = fs.length ∧ ∀ (j : Nat) (f : Fk), fs[j]? = some f → ∃ u, vs[j]? = some u ∧ Rdr w lb X f u
structure Fr (w0 : World) (lb pb : Nat) (fs : List Fk) (v : Value) (vs : List Value) (W : World) : Prop where
 kw : Below w0.heap.size w0 W
 own : W.ownsRow w0.heap.size 212 1 v vs.length vs
 rd : RdrL W lb (fun k => v.ownBlock = some k) fs vs
 box : Box W pb [.pointer (some ⟨lb, 0, none⟩)]
 apart : v.ownBlock ≠ some pb
theorem Fr.add {w0 W W2 W3 : World} {lb pb g cap : Nat} {fs : List Fk} {v rv : Value} {vs : List Value} {f : Fk} (h : Fr w0 lb pb fs v vs W) (k2 : Below W.heap.size W W2) (hr : Rdr W2 lb (fun k => v.ownBlock = some k) f rv) (hg : W2.grownBy W3 v.ownBlock) (ho : W3.ownsRow w0.heap.size 212 1 (.slice (some ⟨g, 0, none⟩) (vs.length + 1) cap) (vs.length + 1) (vs ++ [rv])) (hl : v.ownBlock = some g ∨ g = W2.heap.size) : Fr w0 lb pb (fs ++ [f]) (.slice (some ⟨g, 0, none⟩) (vs.length + 1) cap) (vs ++ [rv]) W3 := by
 have kg : Kpt (fun k => v.ownBlock = some k) W2 W3 := Kpt.grown hg (fun _ h => h)
 have hlt := h.own.lt
 have hy : ∀ b, b < W2.heap.size → ¬ v.ownBlock = some b → ¬ (Value.slice (some ⟨g, 0, none⟩) (vs.length + 1) cap).ownBlock = some b := fun b hb hn e => by
   have e' : g = b := Option.some.inj e
   rcases hl with h1 | h1
   · exact hn (e' ▸ h1)
   · omega
 refine ⟨(bt h.kw k2).trans (kg.below (Nat.le_trans h.kw.size k2.size) (fun k hk => (hlt k hk).1)), by rw [List.length_append]; exact ho, ⟨by rw [List.length_append, List.length_append, h.rd.1]; rfl, fun j f' hj => ?_⟩, (h.box.step k2).kpt kg h.apart, hy pb (Nat.lt_of_lt_of_le h.box.1 k2.size) h.apart⟩
 by_cases hjl : j < fs.length
 · rw [List.getElem?_append_left hjl] at hj
   obtain ⟨u, hu, hru⟩ := h.rd.2 j f' hj
   refine ⟨u, by rw [List.getElem?_append_left (by rw [h.rd.1]; exact hjl)]; exact hu, ?_⟩
   exact (hru.kpt (Y := fun k => v.ownBlock = some k) (Kpt.of (X := fun _ => False) k2) (fun _ _ _ _ h => h) (fun _ _ h => h)).kpt kg (fun b _ hx _ => hx) hy
 · rw [List.getElem?_append_right (by omega)] at hj
   have hj0 : j - fs.length = 0 := by
     have := (List.getElem?_eq_some_iff.1 hj).1
     simp at this; omega
   rw [hj0] at hj
   simp at hj
   subst hj
   refine ⟨rv, ?_, hr.kpt kg (fun b _ hx _ => hx) hy⟩
   rw [List.getElem?_append_right (by rw [h.rd.1]; omega), h.rd.1, hj0]; rfl
theorem regNew_any (n pb : Nat) (w : World) : Calls Tryz.prog 206 #[.func (.func n) #[] #[.pointer (some ⟨pb, 0, none⟩)]] w fun e w' => e = .returned (.func (.func 226) #[] #[.pointer (some ⟨w.heap.size, 0, none⟩)]) ∧ w' = w.alloc (.cells #[.func (.func n) #[] #[.pointer (some ⟨pb, 0, none⟩)]] 147) := by
 go_enter Tryz.func206, Tryz.ntmps206
 go_wp2_with fail
 go_ret
 exact ⟨rfl, rfl⟩
theorem immNew_any (lb : Nat) (w : World) : Calls Tryz.prog 209 #[.pointer (some ⟨lb, 0, none⟩)] w fun e w' => e = .returned (.func (.func 229) #[] #[.pointer (some ⟨w.heap.size, 0, none⟩)]) ∧ w' = w.alloc (.cells #[.pointer (some ⟨lb, 0, none⟩)] 211) := by
 go_enter Tryz.func209, Tryz.ntmps209
 go_wp2_with fail
 go_ret
 exact ⟨rfl, rfl⟩
theorem Tryz.infoFr : (Tryz.prog.info? 212).map (fun i => (i.zero, i.size, i.bytes)) = some (some .nilFunc, 1, 8) := by kernel_rfl
section
variable {w0 W : World} {lb pb : Nat} {fs : List Fk} {v : Value} {vs : List Value}
theorem Fr.d (h : Fr w0 lb pb fs v vs W) (hl : lb < w0.heap.size) (hp : w0.heap.size ≤ pb) (o : Obj) : Rdr ((W.alloc (.cells #[.func (.func 207) #[] #[.pointer (some ⟨pb, 0, none⟩)]] 147)).alloc o) lb (fun k => v.ownBlock = some k) .d (.func (.func 226) #[] #[.pointer (some ⟨W.heap.size, 0, none⟩)]) := by
 have hw := h.kw.size
 exact ⟨W.heap.size, pb, rfl, (Box.new W _ _).step (below_a _ _), (h.box.step (below_a _ _)).step (below_a _ _), fun e => by have := (h.own.lt _ e).2; omega, h.apart, by omega, by omega⟩
theorem Fr.s (h : Fr w0 lb pb fs v vs W) (hl : lb < w0.heap.size) (hp : w0.heap.size ≤ pb) (o : Obj) : Rdr ((W.alloc (.cells #[.func (.func 208) #[] #[.pointer (some ⟨pb, 0, none⟩)]] 147)).alloc o) lb (fun k => v.ownBlock = some k) .s (.func (.func 226) #[] #[.pointer (some ⟨W.heap.size, 0, none⟩)]) := by
 have hw := h.kw.size
 exact ⟨W.heap.size, pb, rfl, (Box.new W _ _).step (below_a _ _), (h.box.step (below_a _ _)).step (below_a _ _), fun e => by have := (h.own.lt _ e).2; omega, h.apart, by omega, by omega⟩
theorem Fr.i (h : Fr w0 lb pb fs v vs W) (hl : lb < w0.heap.size) (o : Obj) : Rdr ((W.alloc (.cells #[.pointer (some ⟨lb, 0, none⟩)] 211)).alloc o) lb (fun k => v.ownBlock = some k) .i (.func (.func 229) #[] #[.pointer (some ⟨W.heap.size, 0, none⟩)]) := by
 have hw := h.kw.size
 exact ⟨W.heap.size, rfl, (Box.new W _ _).step (below_a _ _), fun e => by have := (h.own.lt _ e).2; omega, by omega⟩
end
def FrRet (w : World) (lb : Nat) (o : Int) (e : Ending) (w' : World) : Prop := ∃ v vs, e = .returned v ∧ Lies w' 1 v vs.length vs ∧ RdrL w' lb (fun _ => False) (fks o) vs ∧ Below w.heap.size w w' ∧ ∀ k, v.ownBlock = some k → w.heap.size ≤ k
theorem RdrL.weak {w : World} {lb : Nat} {X : Nat → Prop} {fs : List Fk} {vs : List Value} (h : RdrL w lb X fs vs) : RdrL w lb (fun _ => False) fs vs := ⟨h.1, fun j f hj => by
 obtain ⟨u, h1, h2⟩ := h.2 j f hj
 exact ⟨u, h1, h2.kpt (Kpt.refl (fun _ => False) w) (fun _ _ _ _ h => h) (fun _ _ _ h => h)⟩⟩
theorem box1 (u : World) (x : Value) (T : TypeId) (B : Nat) (hB : B = u.heap.size) : ∀ j y, [x][j]? = some y → (u.alloc (.cells #[x] T)).cell? ((⟨B, 0, none⟩ : Addr).add j) = some y := by
 subst hB; exact one_c1 u x T
theorem readers_any (lb : Nat) (x : Ln) (w : World) (hB : LnBox w lb x) : Calls Tryz.prog 170 #[.pointer (some ⟨lb, 0, none⟩)] w fun e w' => FrRet w lb x.i.o e w' := by
 obtain ⟨i0, hi0, hz0, hz1, hz2⟩ := info_parts Tryz.infoFr
 have hlb := hB.1
 have KA := below_a w (.cells #[.pointer (some ⟨lb, 0, none⟩)] 211)
 have c1 := (hB.step KA).2.1 1 _ rfl
 have BP := zH (Box.new w #[.pointer (some ⟨lb, 0, none⟩)] 211)
 have p0 := (uI BP).2.1 0 _ rfl
 have US := uses_any x.i.o (w.alloc (.cells #[.pointer (some ⟨lb, 0, none⟩)] 211))
 go_enter Tryz.func170, Tryz.ntmps170
 go_wp2_with fail
 refine US.mono ?_
 rintro e W ⟨rfl, k1⟩
 have T : Hid (Fr w lb w.heap.size [] (.slice none 0 0) [] W) := ⟨bt KA k1, World.ownsRow_nil _ _ _ _, ⟨rfl, fun j f h => by simp at h⟩, (uI BP).step k1, fun h => by cases h⟩
 clear US p0 c1 KA k1 BP
 by_cases h1 : hD x.i.o = true
 · skip
   by_cases h2 : hS x.i.o = true
   · skip
     by_cases h3 : hI x.i.o = true
     · skip
       rw [h1, h2, h3]
       go_wp2_with fail
       refine (regNew_any 207 w.heap.size _).mono ?_
       rintro e W2 ⟨rfl, hW2⟩
       subst hW2
       go_wp2_with (at_builtin; refine wpList_append_lies _ rfl (.tmp 20) (.tmp 23) 209 rfl w.heap.size 212 i0 .nilFunc 1 8 Tryz.underlying209 hi0 hz0 hz1 hz2 rfl (by decide) _ _ _ rfl (((uI T).own.alloc _).alloc _) ⟨_, 0, none⟩ 1 1 [.func (.func 226) #[] #[.pointer (some ⟨W.heap.size, 0, none⟩)]] rfl rfl (box1 _ _ _ _ (by simp)) (by simp [Value.oneCell']) (by decide) (by simp [maxLen]) (by simp) (by have := (uI T).kw.size; simp; omega) _ rfl ?_; intro g3 c3 W n1 n2 n3 n4; replace T := zH ((uI T).add (bt (below_a _ _) (below_a _ _)) ((uI T).d hlb (Nat.le_refl _) _) n2 n1 n3); clear n1 n2 n3 n4; have p0 := (uI T).box.2.1 0 _ rfl)
       go_wp2_with fail
       refine (regNew_any 208 w.heap.size _).mono ?_
       rintro e W2 ⟨rfl, hW2⟩
       subst hW2
       go_wp2_with (at_builtin; refine wpList_append_lies _ rfl (.tmp 26) (.tmp 29) 209 rfl w.heap.size 212 i0 .nilFunc 1 8 Tryz.underlying209 hi0 hz0 hz1 hz2 rfl (by decide) _ _ _ rfl (((uI T).own.alloc _).alloc _) ⟨_, 0, none⟩ 1 1 [.func (.func 226) #[] #[.pointer (some ⟨W.heap.size, 0, none⟩)]] rfl rfl (box1 _ _ _ _ (by simp)) (by simp [Value.oneCell']) (by decide) (by simp [maxLen]) (by simp) (by have := (uI T).kw.size; simp; omega) _ rfl ?_; intro g3 c3 W n1 n2 n3 n4; replace T := zH ((uI T).add (bt (below_a _ _) (below_a _ _)) ((uI T).s hlb (Nat.le_refl _) _) n2 n1 n3); clear n1 n2 n3 n4; have p0 := (uI T).box.2.1 0 _ rfl)
       have p0 := (uI T).box.2.1 0 _ rfl
       go_wp2_with fail
       refine (immNew_any lb _).mono ?_
       rintro e W2 ⟨rfl, hW2⟩
       subst hW2
       go_wp2_with (at_builtin; refine wpList_append_lies _ rfl (.tmp 32) (.tmp 35) 209 rfl w.heap.size 212 i0 .nilFunc 1 8 Tryz.underlying209 hi0 hz0 hz1 hz2 rfl (by decide) _ _ _ rfl (((uI T).own.alloc _).alloc _) ⟨_, 0, none⟩ 1 1 [.func (.func 229) #[] #[.pointer (some ⟨W.heap.size, 0, none⟩)]] rfl rfl (box1 _ _ _ _ (by simp)) (by simp [Value.oneCell']) (by decide) (by simp [maxLen]) (by simp) (by have := (uI T).kw.size; simp; omega) _ rfl ?_; intro g3 c3 W n1 n2 n3 n4; replace T := zH ((uI T).add (bt (below_a _ _) (below_a _ _)) ((uI T).i hlb _) n2 n1 n3); clear n1 n2 n3 n4)
       go_wp2_with fail
       go_ret
       exact ⟨_, _, rfl, Lies.owned (uI T).own, by have := (uI T).rd.weak; unfold fks; rw [h1, h2, h3]; exact this, (uI T).kw, fun k hk => ((uI T).own.lt k hk).1⟩
     · replace h3 : hI x.i.o = false := by simpa using h3
       rw [h1, h2, h3]
       go_wp2_with fail
       refine (regNew_any 207 w.heap.size _).mono ?_
       rintro e W2 ⟨rfl, hW2⟩
       subst hW2
       go_wp2_with (at_builtin; refine wpList_append_lies _ rfl (.tmp 20) (.tmp 23) 209 rfl w.heap.size 212 i0 .nilFunc 1 8 Tryz.underlying209 hi0 hz0 hz1 hz2 rfl (by decide) _ _ _ rfl (((uI T).own.alloc _).alloc _) ⟨_, 0, none⟩ 1 1 [.func (.func 226) #[] #[.pointer (some ⟨W.heap.size, 0, none⟩)]] rfl rfl (box1 _ _ _ _ (by simp)) (by simp [Value.oneCell']) (by decide) (by simp [maxLen]) (by simp) (by have := (uI T).kw.size; simp; omega) _ rfl ?_; intro g3 c3 W n1 n2 n3 n4; replace T := zH ((uI T).add (bt (below_a _ _) (below_a _ _)) ((uI T).d hlb (Nat.le_refl _) _) n2 n1 n3); clear n1 n2 n3 n4; have p0 := (uI T).box.2.1 0 _ rfl)
       go_wp2_with fail
       refine (regNew_any 208 w.heap.size _).mono ?_
       rintro e W2 ⟨rfl, hW2⟩
       subst hW2
       go_wp2_with (at_builtin; refine wpList_append_lies _ rfl (.tmp 26) (.tmp 29) 209 rfl w.heap.size 212 i0 .nilFunc 1 8 Tryz.underlying209 hi0 hz0 hz1 hz2 rfl (by decide) _ _ _ rfl (((uI T).own.alloc _).alloc _) ⟨_, 0, none⟩ 1 1 [.func (.func 226) #[] #[.pointer (some ⟨W.heap.size, 0, none⟩)]] rfl rfl (box1 _ _ _ _ (by simp)) (by simp [Value.oneCell']) (by decide) (by simp [maxLen]) (by simp) (by have := (uI T).kw.size; simp; omega) _ rfl ?_; intro g3 c3 W n1 n2 n3 n4; replace T := zH ((uI T).add (bt (below_a _ _) (below_a _ _)) ((uI T).s hlb (Nat.le_refl _) _) n2 n1 n3); clear n1 n2 n3 n4; have p0 := (uI T).box.2.1 0 _ rfl)
       go_wp2_with fail
       go_ret
       exact ⟨_, _, rfl, Lies.owned (uI T).own, by have := (uI T).rd.weak; unfold fks; rw [h1, h2, h3]; exact this, (uI T).kw, fun k hk => ((uI T).own.lt k hk).1⟩
   · replace h2 : hS x.i.o = false := by simpa using h2
     by_cases h3 : hI x.i.o = true
     · skip
       rw [h1, h2, h3]
       go_wp2_with fail
       refine (regNew_any 207 w.heap.size _).mono ?_
       rintro e W2 ⟨rfl, hW2⟩
       subst hW2
       go_wp2_with (at_builtin; refine wpList_append_lies _ rfl (.tmp 20) (.tmp 23) 209 rfl w.heap.size 212 i0 .nilFunc 1 8 Tryz.underlying209 hi0 hz0 hz1 hz2 rfl (by decide) _ _ _ rfl (((uI T).own.alloc _).alloc _) ⟨_, 0, none⟩ 1 1 [.func (.func 226) #[] #[.pointer (some ⟨W.heap.size, 0, none⟩)]] rfl rfl (box1 _ _ _ _ (by simp)) (by simp [Value.oneCell']) (by decide) (by simp [maxLen]) (by simp) (by have := (uI T).kw.size; simp; omega) _ rfl ?_; intro g3 c3 W n1 n2 n3 n4; replace T := zH ((uI T).add (bt (below_a _ _) (below_a _ _)) ((uI T).d hlb (Nat.le_refl _) _) n2 n1 n3); clear n1 n2 n3 n4; have p0 := (uI T).box.2.1 0 _ rfl)
       have p0 := (uI T).box.2.1 0 _ rfl
       go_wp2_with fail
       refine (immNew_any lb _).mono ?_
       rintro e W2 ⟨rfl, hW2⟩
       subst hW2
       go_wp2_with (at_builtin; refine wpList_append_lies _ rfl (.tmp 32) (.tmp 35) 209 rfl w.heap.size 212 i0 .nilFunc 1 8 Tryz.underlying209 hi0 hz0 hz1 hz2 rfl (by decide) _ _ _ rfl (((uI T).own.alloc _).alloc _) ⟨_, 0, none⟩ 1 1 [.func (.func 229) #[] #[.pointer (some ⟨W.heap.size, 0, none⟩)]] rfl rfl (box1 _ _ _ _ (by simp)) (by simp [Value.oneCell']) (by decide) (by simp [maxLen]) (by simp) (by have := (uI T).kw.size; simp; omega) _ rfl ?_; intro g3 c3 W n1 n2 n3 n4; replace T := zH ((uI T).add (bt (below_a _ _) (below_a _ _)) ((uI T).i hlb _) n2 n1 n3); clear n1 n2 n3 n4)
       go_wp2_with fail
       go_ret
       exact ⟨_, _, rfl, Lies.owned (uI T).own, by have := (uI T).rd.weak; unfold fks; rw [h1, h2, h3]; exact this, (uI T).kw, fun k hk => ((uI T).own.lt k hk).1⟩
     · replace h3 : hI x.i.o = false := by simpa using h3
       rw [h1, h2, h3]
       go_wp2_with fail
       refine (regNew_any 207 w.heap.size _).mono ?_
       rintro e W2 ⟨rfl, hW2⟩
       subst hW2
       go_wp2_with (at_builtin; refine wpList_append_lies _ rfl (.tmp 20) (.tmp 23) 209 rfl w.heap.size 212 i0 .nilFunc 1 8 Tryz.underlying209 hi0 hz0 hz1 hz2 rfl (by decide) _ _ _ rfl (((uI T).own.alloc _).alloc _) ⟨_, 0, none⟩ 1 1 [.func (.func 226) #[] #[.pointer (some ⟨W.heap.size, 0, none⟩)]] rfl rfl (box1 _ _ _ _ (by simp)) (by simp [Value.oneCell']) (by decide) (by simp [maxLen]) (by simp) (by have := (uI T).kw.size; simp; omega) _ rfl ?_; intro g3 c3 W n1 n2 n3 n4; replace T := zH ((uI T).add (bt (below_a _ _) (below_a _ _)) ((uI T).d hlb (Nat.le_refl _) _) n2 n1 n3); clear n1 n2 n3 n4; have p0 := (uI T).box.2.1 0 _ rfl)
       go_wp2_with fail
       go_ret
       exact ⟨_, _, rfl, Lies.owned (uI T).own, by have := (uI T).rd.weak; unfold fks; rw [h1, h2, h3]; exact this, (uI T).kw, fun k hk => ((uI T).own.lt k hk).1⟩
 · replace h1 : hD x.i.o = false := by simpa using h1
   by_cases h2 : hS x.i.o = true
   · skip
     by_cases h3 : hI x.i.o = true
     · skip
       rw [h1, h2, h3]
       go_wp2_with fail
       refine (regNew_any 208 w.heap.size _).mono ?_
       rintro e W2 ⟨rfl, hW2⟩
       subst hW2
       go_wp2_with (at_builtin; refine wpList_append_lies _ rfl (.tmp 26) (.tmp 29) 209 rfl w.heap.size 212 i0 .nilFunc 1 8 Tryz.underlying209 hi0 hz0 hz1 hz2 rfl (by decide) _ _ _ rfl (((uI T).own.alloc _).alloc _) ⟨_, 0, none⟩ 1 1 [.func (.func 226) #[] #[.pointer (some ⟨W.heap.size, 0, none⟩)]] rfl rfl (box1 _ _ _ _ (by simp)) (by simp [Value.oneCell']) (by decide) (by simp [maxLen]) (by simp) (by have := (uI T).kw.size; simp; omega) _ rfl ?_; intro g3 c3 W n1 n2 n3 n4; replace T := zH ((uI T).add (bt (below_a _ _) (below_a _ _)) ((uI T).s hlb (Nat.le_refl _) _) n2 n1 n3); clear n1 n2 n3 n4; have p0 := (uI T).box.2.1 0 _ rfl)
       have p0 := (uI T).box.2.1 0 _ rfl
       go_wp2_with fail
       refine (immNew_any lb _).mono ?_
       rintro e W2 ⟨rfl, hW2⟩
       subst hW2
       go_wp2_with (at_builtin; refine wpList_append_lies _ rfl (.tmp 32) (.tmp 35) 209 rfl w.heap.size 212 i0 .nilFunc 1 8 Tryz.underlying209 hi0 hz0 hz1 hz2 rfl (by decide) _ _ _ rfl (((uI T).own.alloc _).alloc _) ⟨_, 0, none⟩ 1 1 [.func (.func 229) #[] #[.pointer (some ⟨W.heap.size, 0, none⟩)]] rfl rfl (box1 _ _ _ _ (by simp)) (by simp [Value.oneCell']) (by decide) (by simp [maxLen]) (by simp) (by have := (uI T).kw.size; simp; omega) _ rfl ?_; intro g3 c3 W n1 n2 n3 n4; replace T := zH ((uI T).add (bt (below_a _ _) (below_a _ _)) ((uI T).i hlb _) n2 n1 n3); clear n1 n2 n3 n4)
       go_wp2_with fail
       go_ret
       exact ⟨_, _, rfl, Lies.owned (uI T).own, by have := (uI T).rd.weak; unfold fks; rw [h1, h2, h3]; exact this, (uI T).kw, fun k hk => ((uI T).own.lt k hk).1⟩
     · replace h3 : hI x.i.o = false := by simpa using h3
       rw [h1, h2, h3]
       go_wp2_with fail
       refine (regNew_any 208 w.heap.size _).mono ?_
       rintro e W2 ⟨rfl, hW2⟩
       subst hW2
       go_wp2_with (at_builtin; refine wpList_append_lies _ rfl (.tmp 26) (.tmp 29) 209 rfl w.heap.size 212 i0 .nilFunc 1 8 Tryz.underlying209 hi0 hz0 hz1 hz2 rfl (by decide) _ _ _ rfl (((uI T).own.alloc _).alloc _) ⟨_, 0, none⟩ 1 1 [.func (.func 226) #[] #[.pointer (some ⟨W.heap.size, 0, none⟩)]] rfl rfl (box1 _ _ _ _ (by simp)) (by simp [Value.oneCell']) (by decide) (by simp [maxLen]) (by simp) (by have := (uI T).kw.size; simp; omega) _ rfl ?_; intro g3 c3 W n1 n2 n3 n4; replace T := zH ((uI T).add (bt (below_a _ _) (below_a _ _)) ((uI T).s hlb (Nat.le_refl _) _) n2 n1 n3); clear n1 n2 n3 n4; have p0 := (uI T).box.2.1 0 _ rfl)
       go_wp2_with fail
       go_ret
       exact ⟨_, _, rfl, Lies.owned (uI T).own, by have := (uI T).rd.weak; unfold fks; rw [h1, h2, h3]; exact this, (uI T).kw, fun k hk => ((uI T).own.lt k hk).1⟩
   · replace h2 : hS x.i.o = false := by simpa using h2
     by_cases h3 : hI x.i.o = true
     · skip
       rw [h1, h2, h3]
       have p0 := (uI T).box.2.1 0 _ rfl
       go_wp2_with fail
       refine (immNew_any lb _).mono ?_
       rintro e W2 ⟨rfl, hW2⟩
       subst hW2
       go_wp2_with (at_builtin; refine wpList_append_lies _ rfl (.tmp 32) (.tmp 35) 209 rfl w.heap.size 212 i0 .nilFunc 1 8 Tryz.underlying209 hi0 hz0 hz1 hz2 rfl (by decide) _ _ _ rfl (((uI T).own.alloc _).alloc _) ⟨_, 0, none⟩ 1 1 [.func (.func 229) #[] #[.pointer (some ⟨W.heap.size, 0, none⟩)]] rfl rfl (box1 _ _ _ _ (by simp)) (by simp [Value.oneCell']) (by decide) (by simp [maxLen]) (by simp) (by have := (uI T).kw.size; simp; omega) _ rfl ?_; intro g3 c3 W n1 n2 n3 n4; replace T := zH ((uI T).add (bt (below_a _ _) (below_a _ _)) ((uI T).i hlb _) n2 n1 n3); clear n1 n2 n3 n4)
       go_wp2_with fail
       go_ret
       exact ⟨_, _, rfl, Lies.owned (uI T).own, by have := (uI T).rd.weak; unfold fks; rw [h1, h2, h3]; exact this, (uI T).kw, fun k hk => ((uI T).own.lt k hk).1⟩
     · replace h3 : hI x.i.o = false := by simpa using h3
       rw [h1, h2, h3]
       go_wp2_with fail
       go_ret
       exact ⟨_, _, rfl, Lies.owned (uI T).own, by have := (uI T).rd.weak; unfold fks; rw [h1, h2, h3]; exact this, (uI T).kw, fun k hk => ((uI T).own.lt k hk).1⟩
end Go.Proofs.YtlkoidkdeopgjaaGreatDoor
