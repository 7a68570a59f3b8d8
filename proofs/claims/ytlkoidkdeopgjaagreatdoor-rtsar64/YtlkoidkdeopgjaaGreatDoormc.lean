/-
  RtMC.
-/
import Derived.Test.YtlkoidkdeopgjaaGreatDoormb
import Derived.Test.YtlkoidkdeopgjaaGreatDoorem
import Derived.Laws.CopyOwn
set_option maxHeartbeats 4000000
set_option maxRecDepth 100000
namespace Go.Proofs.YtlkoidkdeopgjaaGreatDoor
open Go.RowKit
set_option linter.unusedSimpArgs false
set_option linter.unusedVariables false
theorem lastN_overR (f : Nat → Int) : ∀ n k, lastN f n ≤ k → k < n → f k = 0
 | 0, k, _, h => by omega
 | n + 1, k, h, h2 => by
   unfold lastN at h
   split at h
   · rename_i hz
     by_cases e : k = n
     · subst e; exact hz
     · exact lastN_overR f n k h (by omega)
   · omega
theorem memL_lenR (f : Nat → Int) : (memL f).length = lastN f 65536 := by unfold memL; simp
theorem memL_atR (f : Nat → Int) (k : Nat) (h : k < (memL f).length) : (memL f)[k]? = some (f k) := by
 rw [memL_lenR] at h
 unfold memL
 rw [List.getElem?_map, List.getElem?_range h]; rfl
theorem memL_overR (f : Nat → Int) (k : Nat) (h : k < 65536) (h2 : ¬ k < (memL f).length) : f k = 0 := by
 rw [memL_lenR] at h2
 exact lastN_overR f 65536 k (by omega) h
theorem splice_get {α : Type} (L : List α) (off : Nat) (cs : List α) (h : off + cs.length ≤ L.length) (j : Nat) : (splice L off cs)[j]? = if off ≤ j ∧ j < off + cs.length then cs[j - off]? else L[j]? := by
 unfold splice
 have hl : (L.take off).length = off := by rw [List.length_take]; omega
 by_cases h1 : j < off
 · rw [if_neg (by omega), List.getElem?_append_left (by omega), List.getElem?_take, if_pos h1]
 · rw [List.getElem?_append_right (by omega), hl]
   by_cases h2 : j < off + cs.length
   · rw [if_pos (by omega), List.getElem?_append_left (by omega)]
   · rw [if_neg (by omega), List.getElem?_append_right (by omega), List.getElem?_drop]
     congr 1; omega
theorem splice_map {α β : Type} (g : α → β) (L : List α) (off : Nat) (cs : List α) : (splice L off cs).map g = splice (L.map g) off (cs.map g) := by
 unfold splice; simp
theorem splice_mem {α : Type} {L cs : List α} {off : Nat} {x : α} (h : x ∈ splice L off cs) : x ∈ L ∨ x ∈ cs := by
 unfold splice at h
 rw [List.mem_append, List.mem_append] at h
 rcases h with h | h | h
 · exact .inl (List.mem_of_mem_take h)
 · exact .inr h
 · exact .inl (List.mem_of_mem_drop h)
def wsR (n : Nat) (A : Int) : List Int := (List.range n).map (wo A)
theorem wsR_len (n : Nat) (A : Int) : (wsR n A).length = n := by simp [wsR]
theorem wsR_at {n : Nat} {A : Int} {i : Nat} (h : i < n) : (wsR n A)[i]? = some (wo A i) := by unfold wsR; rw [List.getElem?_map, List.getElem?_range h]; rfl
theorem wsR_wd {n : Nat} {A x : Int} (h : x ∈ wsR n A) : wd x := by
 unfold wsR at h
 obtain ⟨i, -, rfl⟩ := List.mem_map.1 h
 exact wo_wd A i
def fillL (k : Nat) (fill : Int) : List Int := List.replicate k fill
def memZ (fill : Int) (p : Nat) (a : List Int) (q : Nat) (b : List Int) : List Int := splice (splice (fillL 65536 fill) p a) q b
theorem memZ_len {fill : Int} {p q : Nat} {a b : List Int} (hp : p + a.length ≤ 65536) (hq : q + b.length ≤ 65536) : (memZ fill p a q b).length = 65536 := by
 have h0 : (fillL 65536 fill).length = 65536 := by unfold fillL; exact List.length_replicate
 have h1 : (splice (fillL 65536 fill) p a).length = 65536 := by rw [length_splice _ _ _ (by omega), h0]
 unfold memZ
 rw [length_splice _ _ _ (by omega), h1]
theorem memZ_at {fill : Int} {p q : Nat} {a b : List Int} (hp : p + a.length ≤ 65536) (hq : q + b.length ≤ 65536) (j : Nat) : (memZ fill p a q b)[j]? = if q ≤ j ∧ j < q + b.length then b[j - q]? else if p ≤ j ∧ j < p + a.length then a[j - p]? else (fillL 65536 fill)[j]? := by
 have h0 : (fillL 65536 fill).length = 65536 := by unfold fillL; exact List.length_replicate
 have h1 : (splice (fillL 65536 fill) p a).length = 65536 := by rw [length_splice _ _ _ (by omega), h0]
 unfold memZ
 rw [splice_get _ _ _ (by omega), splice_get _ _ _ (by omega)]
theorem memZ_wd {fill : Int} {p q : Nat} {a b : List Int} (hf : wd fill) (ha : ∀ x ∈ a, wd x) (hb : ∀ x ∈ b, wd x) : ∀ x ∈ memZ fill p a q b, wd x := by
 intro x hx
 unfold memZ at hx
 rcases splice_mem hx with h | h
 · rcases splice_mem h with h | h
   · unfold fillL at h
     rw [List.eq_of_mem_replicate h]; exact hf
   · exact ha x h
 · exact hb x h
def stR (p q sp fill : Int) (M : List Int) : St := { r := fun j => if j = 0 then p else if j = 1 then q else if j = 7 then sp else fill, c := false, z := false, n := false, v := false, pc := 0, mem := M }
theorem stR_val (p q sp fill : Int) (M : List Int) (vm : Value) : (stR p q sp fill M).val vm = .agg #[.int .i64 p, .int .i64 q, .int .i64 fill, .int .i64 fill, .int .i64 fill, .int .i64 fill, .int .i64 fill, .int .i64 sp, .bool false, .bool false, .bool false, .bool false, .int .i64 0, vm] := rfl
theorem stR_right {p q sp fill : Int} {M : List Int} (hp : wd p) (hq : wd q) (hs : wd sp) (hf : wd fill) (hM : ∀ x ∈ M, wd x) (hl : M.length ≤ 65536) : (stR p q sp fill M).wrong = 0 := by
 have i : ∀ {x : Int}, wd x → isw x = true := fun {x} h => by unfold isw; exact decide_eq_true h
 have g : (stR p q sp fill M).good = true := by
   unfold St.good
   have h1 : (stR p q sp fill M).regs = [p, q, fill, fill, fill, fill, fill, sp] := rfl
   have h2 : (stR p q sp fill M).mem = M := rfl
   have h3 : (stR p q sp fill M).pc = 0 := rfl
   rw [h1, h2, h3]
   simp only [Bool.and_eq_true]
   refine ⟨⟨?_, by decide⟩, List.all_eq_true.2 fun x hx => i (hM x hx)⟩
   simp only [List.all_cons, List.all_nil, Bool.and_eq_true, i hp, i hq, i hs, i hf, and_self]
 unfold St.wrong
 rw [if_neg (show ¬ 65536 < (stR p q sp fill M).mem.length from fun h => by have : (stR p q sp fill M).mem = M := rfl; rw [this] at h; omega), if_pos g]
theorem nuZ {fill : Int} {p q n m : Nat} {A B : Int} (hp : p + n ≤ 65536) (hq : q + m ≤ 65536) (hpq : p + n ≤ q ∨ q + m ≤ p) (hA : 0 ≤ A ∧ A < 65536 ^ n) (hB : 0 ≤ B ∧ B < 65536 ^ m) :
   nu n (fun i => (memZ fill p (wsR n A) q (wsR m B)).getD (p + i) 0) = A ∧ nu m (fun i => (memZ fill p (wsR n A) q (wsR m B)).getD (q + i) 0) = B := by
 have la := wsR_len n A
 have lb := wsR_len m B
 constructor
 · have e : nu n (fun i => (memZ fill p (wsR n A) q (wsR m B)).getD (p + i) 0) = nu n (wo A) := nu_congr fun i hi => by
     rw [List.getD_eq_getElem?_getD, memZ_at (by omega) (by omega), if_neg (by omega), if_pos (by omega), show p + i - p = i by omega, wsR_at hi]; rfl
   rw [e, nu_wo A hA.1, Int.emod_eq_of_lt hA.1 hA.2]
 · have e : nu m (fun i => (memZ fill p (wsR n A) q (wsR m B)).getD (q + i) 0) = nu m (wo B) := nu_congr fun i hi => by
     rw [List.getD_eq_getElem?_getD, memZ_at (by omega) (by omega), if_pos (by omega), show q + i - q = i by omega, wsR_at hi]; rfl
   rw [e, nu_wo B hB.1, Int.emod_eq_of_lt hB.1 hB.2]
structure Done (n sp p : Nat) (X : Int) (Z : List Int) (M : Ma) : Prop where
 how : M.how = 1
 took : M.took ≤ 20000
 r7 : M.r 7 = (sp : Int)
 out : M.out = []
 rd : M.rd = 0
 mem : ∀ j, j < 65536 → ¬ (sp - 64 ≤ j ∧ j < sp) → (splice Z p (wsR n X))[j]? = some (M.mem j)
theorem rt_done {Pr C : List Ins} {n m : Nat} {zero : Bool} {f : Int → Int → Int} (hPr : Pr = hdI ++ C) (hl : wln Pr ≤ 65535) (R : Rout Pr n m zero f) {p q sp : Nat} (L : Lay n m p q sp) (hn : 1 ≤ n) (hm : 1 ≤ m) {fill A B : Int} (hf : wd fill) (hA : 0 ≤ A ∧ A < 65536 ^ n) (hB : 0 ≤ B ∧ B < 65536 ^ m) :
   ∃ M : Ma, runA (Pr.flatMap ws) (stR p q sp fill (memZ fill p (wsR n A) q (wsR m B))) [] 1000000 = (M, 0) ∧ (zero = true → B = 0 → M.how = 2 ∧ M.trap = 1) ∧ ((zero = true → B ≠ 0) → Done n sp p (f A B) (memZ fill p (wsR n A) q (wsR m B)) M) := by
 have a1 := L.lp; have a2 := L.lq; have a3 := L.s0; have a4 := L.s1
 have la := wsR_len n A
 have lb := wsR_len m B
 have hZl : (memZ fill p (wsR n A) q (wsR m B)).length = 65536 := memZ_len (by omega) (by omega)
 have hZw := memZ_wd (p := p) (q := q) hf (fun x hx => wsR_wd (n := n) (A := A) hx) (fun x hx => wsR_wd (n := m) (A := B) hx)
 obtain ⟨n1, n2⟩ := nuZ (fill := fill) a1 a2 L.pq hA hB
 generalize memZ fill p (wsR n A) q (wsR m B) = Z at *
 have wp : wd (p : Int) := by unfold wd; omega
 have wq : wd (q : Int) := by unfold wd; omega
 have wsp : wd (sp : Int) := by unfold wd; omega
 have hr := stR_right wp wq wsp hf hZw (by omega)
 have hx : ¬ 65536 < (Pr.flatMap ws).length := by unfold wln at hl; omega
 unfold runA
 rw [if_neg hx, if_neg (by simp), if_pos hr, if_neg (by decide), if_neg (by decide)]
 generalize hs : (⟨(stR p q sp fill Z).r, fun j => Z.getD j 0, false, false, false, false⟩ : Rv) = s
 have e : startM (stR p q sp fill Z) = s.ma 0 0 := by rw [← hs]; rfl
 have er : ∀ j, s.r j = if j = 0 then (p : Int) else if j = 1 then (q : Int) else if j = 7 then (sp : Int) else fill := fun j => by rw [← hs]; rfl
 have em : ∀ j, s.mem j = Z.getD j 0 := fun j => by rw [← hs]
 have hw : rw8 s := fun j _ => by
   rw [er]; split
   · exact wp
   · split
     · exact wq
     · split
       · exact wsp
       · exact hf
 have hmw : mw s := fun j => by
   rw [em, List.getD_eq_getElem?_getD]
   cases h : Z[j]? with
   | none => exact ⟨by decide, by decide⟩
   | some x => exact hZw x (List.mem_of_getElem? h)
 have W := whole hPr hl R s p q sp L (er 0) (er 1) (er 7) hw hmw (1000000 : Int).toNat (by decide)
 have m1 : mnu s p n = A := by rw [← n1]; exact nu_congr fun i _ => em _
 have m2 : mnu s q m = B := by rw [← n2]; exact nu_congr fun i _ => em _
 rw [m1, m2] at W
 refine ⟨_, rfl, ?_, fun hz => ?_⟩
 · rw [e]; exact W.1
 · rw [e]
   obtain ⟨c1, c2, c3, c4, c5, c6⟩ := W.2 hz
   refine ⟨c1, c2, c3, c4, c5, fun j hj hj2 => ?_⟩
   rw [c6 j hj2, splice_get _ _ _ (by rw [wsR_len]; omega), wsR_len]
   by_cases h : p ≤ j ∧ j < p + n
   · rw [if_pos h, if_pos h, wsR_at (by omega)]
   · rw [if_neg h, if_neg h, em, List.getD_eq_getElem?_getD, List.getElem?_eq_getElem (by omega)]; rfl
end Go.Proofs.YtlkoidkdeopgjaaGreatDoor
