/-
  RtM0, RtM1, RtM2, RtM3, RtM5, RtM6.
-/
import Derived.Test.YtlkoidkdeopgjaaGreatDoorea
set_option maxHeartbeats 4000000
set_option maxRecDepth 100000
namespace Go.Proofs.YtlkoidkdeopgjaaGreatDoor
open Go.RowKit
set_option linter.unusedSimpArgs false
set_option linter.unusedVariables false
structure Rv where
 r : Nat → Int
 mem : Nat → Int
 c : Bool
 z : Bool
 n : Bool
 v : Bool
def Rv.ma (s : Rv) (pc took : Int) : Ma := { r := s.r, c := s.c, z := s.z, n := s.n, v := s.v, pc := pc, mem := s.mem, how := 0, trap := 0, out := [], rd := 0, took := took }
def Ma.rv (m : Ma) : Rv := ⟨m.r, m.mem, m.c, m.z, m.n, m.v⟩
def Rv.dd (s : Rv) (i : Ins) : Rv := ((s.ma 0 0).act i []).rv
def Rv.lin (s : Rv) (l : List Ins) : Rv := l.foldl Rv.dd s
theorem lin_nil (s : Rv) : s.lin [] = s := rfl
theorem lin_cons (s : Rv) (i : Ins) (l : List Ins) : s.lin (i :: l) = (s.dd i).lin l := rfl
theorem lin_append (s : Rv) (l k : List Ins) : s.lin (l ++ k) = (s.lin l).lin k := by unfold Rv.lin; rw [List.foldl_append]
theorem lin_one (s : Rv) (i : Ins) : s.lin [i] = s.dd i := rfl
def clm (o : Int) : Bool := decide ((1 ≤ o ∧ o ≤ 18) ∨ o = 28 ∨ o = 29)
theorem ite_twoR {f : Ma → Ma} {c : Prop} [Decidable c] {a b a' b' : Ma} (h1 : c → a = f a') (h2 : ¬ c → b = f b') : (if c then a else b) = f (if c then a' else b') := by
 by_cases h : c
 · rw [if_pos h, if_pos h]; exact h1 h
 · rw [if_neg h, if_neg h]; exact h2 h
theorem act_rv (s : Rv) (i : Ins) (pc t : Int) (h : clm i.o = true) : (s.ma pc t).act i [] = (s.dd i).ma pc t := by
 unfold clm at h
 simp only [decide_eq_true_eq] at h
 show _ = (fun m : Ma => m.rv.ma pc t) ((s.ma 0 0).act i [])
 unfold Ma.act
 repeat' refine ite_twoR (f := fun m : Ma => m.rv.ma pc t) (fun _ => ?_) (fun _ => ?_)
 all_goals first | rfl | (exfalso; omega)
def Goes (xs : List Int) (m : Ma) (k : Nat) (m' : Ma) : Prop := ∀ j, Ma.run xs [] (k + j) m = Ma.run xs [] j m'
theorem Goes.refl (xs : List Int) (m : Ma) : Goes xs m 0 m := fun j => by rw [Nat.zero_add]
theorem Goes.trans {xs : List Int} {m m1 m2 : Ma} {k l : Nat} (h : Goes xs m k m1) (g : Goes xs m1 l m2) : Goes xs m (k + l) m2 := fun j => by rw [Nat.add_assoc, h, g]
theorem goes_step {xs : List Int} {m m' : Ma} (h0 : m.how = 0) (h : m.step xs [] = m') : Goes xs m 1 m' := fun j => by rw [Nat.add_comm 1 j, Ma.run, if_pos h0, h]
def wln (l : List Ins) : Int := ((l.flatMap ws).length : Nat)
theorem wl_nil : wln [] = 0 := rfl
theorem wl_snoc (l : List Ins) (i : Ins) : wln (l ++ [i]) = wln l + lng i.o := by
 unfold wln; rw [List.flatMap_append, List.length_append]; have := ws_len i; simp only [List.flatMap_cons, List.flatMap_nil, List.append_nil]; omega
theorem wl_app (l k : List Ins) : wln (l ++ k) = wln l + wln k := by unfold wln; rw [List.flatMap_append, List.length_append]; omega
theorem wl_pos (l : List Ins) : 0 ≤ wln l := by unfold wln; omega
theorem lngP (o : Int) : lng o = 1 ∨ lng o = 2 := by unfold lng; split <;> simp
theorem oneR (pre post : List Ins) (i : Ins) (h : wrg i = 0) (hb : bare i = i) : oneA ((pre ++ i :: post).flatMap ws) (wln pre) = (i, lng i.o) := by
 unfold oneA wln
 rw [if_pos (by omega), Int.toNat_natCast, List.flatMap_append, List.flatMap_cons, List.drop_left, one_ws i _ h, hb]
def rgt (i : Ins) : Bool := decide (wrg i = 0 ∧ (bare i).d = i.d ∧ (bare i).s = i.s ∧ (bare i).m = i.m)
theorem rgt_bare {i : Ins} (h : rgt i = true) : wrg i = 0 ∧ bare i = i := by
 unfold rgt at h
 simp only [decide_eq_true_eq] at h
 obtain ⟨h0, h1, h2, h3⟩ := h
 obtain ⟨o, d, s, m⟩ := i
 refine ⟨h0, ?_⟩
 unfold bare at *
 dsimp only at *
 rw [h1, h2, h3]
theorem stepR (pre post : List Ins) (i : Ins) (hr : rgt i = true) (hl : wln (pre ++ i :: post) ≤ 65535) (m : Ma) (hp : m.pc = wln pre) :
   m.step ((pre ++ i :: post).flatMap ws) [] = if (({ m with took := m.took + 1, pc := wln (pre ++ [i]) } : Ma).act i []).how = 0 then ({ m with took := m.took + 1, pc := wln (pre ++ [i]) } : Ma).act i [] else { ({ m with took := m.took + 1, pc := wln (pre ++ [i]) } : Ma).act i [] with pc := m.pc } := by
 replace hr := rgt_bare hr
 unfold Ma.step
 rw [hp, oneR pre post i hr.1 hr.2]
 dsimp only
 have hn : ¬ lng i.o = 0 := by have := lngP i.o; omega
 have e : lw (wln pre + lng i.o) = wln (pre ++ [i]) := by
   rw [wl_snoc]
   have h1 := wl_app pre (i :: post)
   have h2 : wln (i :: post) = lng i.o + wln post := by have := wl_app [i] post; have h3 := wl_snoc [] i; rw [wl_nil] at h3; simp only [List.nil_append] at h3; rw [show i :: post = [i] ++ post from rfl, this, h3]; omega
   have h3 := wl_pos pre
   have h4 := wl_pos post
   have h5 := lngP i.o
   unfold lw
   omega
 rw [if_neg hn, e]
theorem goes_calm (pre post : List Ins) (i : Ins) (hr : rgt i = true) (hc : clm i.o = true) (hl : wln (pre ++ i :: post) ≤ 65535) (s : Rv) (t : Int) :
   Goes ((pre ++ i :: post).flatMap ws) (s.ma (wln pre) t) 1 ((s.dd i).ma (wln (pre ++ [i])) (t + 1)) := by
 refine goes_step rfl ?_
 rw [stepR pre post i hr hl _ rfl]
 have e : (({ s.ma (wln pre) t with took := (s.ma (wln pre) t).took + 1, pc := wln (pre ++ [i]) } : Ma)) = s.ma (wln (pre ++ [i])) (t + 1) := rfl
 rw [e, act_rv s i _ _ hc]
 exact if_pos rfl
def okL (l : List Ins) : Bool := l.all fun i => rgt i && clm i.o
theorem goes_line : ∀ (l pre post : List Ins), okL l = true → wln (pre ++ (l ++ post)) ≤ 65535 → ∀ (s : Rv) (t : Int), Goes ((pre ++ (l ++ post)).flatMap ws) (s.ma (wln pre) t) l.length ((s.lin l).ma (wln (pre ++ l)) (t + (l.length : Nat)))
 | [], pre, post, _, _, s, t => by
   have h := Goes.refl ((pre ++ post).flatMap ws) (s.ma (wln pre) t)
   simpa [lin_nil] using h
 | i :: l, pre, post, ho, hl, s, t => by
   unfold okL at ho
   simp only [List.all_cons, Bool.and_eq_true] at ho
   have g1 := goes_calm pre (l ++ post) i ho.1.1 ho.1.2 hl s t
   have e : pre ++ i :: (l ++ post) = (pre ++ [i]) ++ (l ++ post) := by simp
   have g2 := goes_line l (pre ++ [i]) post ho.2 (by rw [← e]; exact hl) (s.dd i) (t + 1)
   rw [← e] at g2
   have g := g1.trans g2
   have a1 : 1 + l.length = (i :: l).length := by simp; omega
   have a2 : t + 1 + (l.length : Nat) = t + ((i :: l).length : Nat) := by simp; omega
   have a3 : (pre ++ [i]) ++ l = pre ++ (i :: l) := by simp
   rw [a1, a2, a3] at g
   exact g
def Rv.jps (s : Rv) (o : Int) : Bool := (s.ma 0 0).jumps o
theorem goes_jump (pre post : List Ins) (i : Ins) (hr : rgt i = true) (h1 : 19 ≤ i.o) (h2 : i.o ≤ 25) (hl : wln (pre ++ i :: post) ≤ 65535) (s : Rv) (t : Int) :
   Goes ((pre ++ i :: post).flatMap ws) (s.ma (wln pre) t) 1 (s.ma (if s.jps i.o = true then i.m else wln (pre ++ [i])) (t + 1)) := by
 refine goes_step rfl ?_
 rw [stepR pre post i hr hl _ rfl]
 have e : (({ s.ma (wln pre) t with took := (s.ma (wln pre) t).took + 1, pc := wln (pre ++ [i]) } : Ma)) = s.ma (wln (pre ++ [i])) (t + 1) := rfl
 have a : (s.ma (wln (pre ++ [i])) (t + 1)).act i [] = s.ma (if s.jps i.o = true then i.m else wln (pre ++ [i])) (t + 1) := by
   unfold Ma.act
   rw [if_neg (by omega), if_neg (by omega), if_neg (by omega), if_neg (by omega), if_neg (by omega), if_neg (by omega), if_neg (by omega), if_neg (by omega), if_neg (by omega), if_neg (by omega), if_neg (by omega), if_neg (by omega), if_neg (by omega), if_neg (by omega), if_neg (by omega), if_neg (by omega), if_neg (by omega), if_neg (by omega), if_neg (by omega), if_pos (by omega)]
   have q : (s.ma (wln (pre ++ [i])) (t + 1)).jumps i.o = s.jps i.o := rfl
   rw [q]
   unfold Ma.jump
   by_cases hj : s.jps i.o = true
   · rw [if_pos hj, if_pos hj]; rfl
   · rw [if_neg hj, if_neg hj]
 rw [e, a]
 exact if_pos rfl
def Rv.psh (s : Rv) (x : Int) : Rv := { s with r := upd s.r 7 (lw (s.r 7 - 1)), mem := upd s.mem (lw (s.r 7 - 1)).toNat x }
def Rv.pop (s : Rv) : Rv := { s with r := upd s.r 7 (lw (s.r 7 + 1)) }
theorem goes_call (pre post : List Ins) (a : Int) (hr : rgt ⟨26, 0, 0, a⟩ = true) (hl : wln (pre ++ ⟨26, 0, 0, a⟩ :: post) ≤ 65535) (s : Rv) (t : Int) :
   Goes ((pre ++ ⟨26, 0, 0, a⟩ :: post).flatMap ws) (s.ma (wln pre) t) 1 ((s.psh (wln (pre ++ [⟨26, 0, 0, a⟩]))).ma a (t + 1)) := by
 refine goes_step rfl ?_
 rw [stepR pre post _ hr hl _ rfl]
 exact if_pos rfl
theorem goes_ret (pre post : List Ins) (hr : rgt ⟨27, 0, 0, 0⟩ = true) (hl : wln (pre ++ ⟨27, 0, 0, 0⟩ :: post) ≤ 65535) (s : Rv) (t : Int) :
   Goes ((pre ++ ⟨27, 0, 0, 0⟩ :: post).flatMap ws) (s.ma (wln pre) t) 1 (s.pop.ma (s.mem (s.r 7).toNat) (t + 1)) := by
 refine goes_step rfl ?_
 rw [stepR pre post _ hr hl _ rfl]
 exact if_pos rfl
theorem run_halt (pre post : List Ins) (hl : wln (pre ++ ⟨0, 0, 0, 0⟩ :: post) ≤ 65535) (s : Rv) (t : Int) (j : Nat) :
   Ma.run ((pre ++ ⟨0, 0, 0, 0⟩ :: post).flatMap ws) [] (j + 1) (s.ma (wln pre) t) = { s.ma (wln pre) (t + 1) with how := 1 } := by
 rw [Ma.run, if_pos (show (s.ma (wln pre) t).how = 0 from rfl), stepR pre post _ (by decide) hl _ rfl]
 have e : ¬ (({ s.ma (wln pre) t with took := (s.ma (wln pre) t).took + 1, pc := wln (pre ++ [⟨0, 0, 0, 0⟩]) } : Ma).act ⟨0, 0, 0, 0⟩ []).how = 0 := by show ¬ (1 : Int) = 0; decide
 rw [if_neg e]
 cases j <;> (unfold Ma.run; exact if_neg (by show ¬ (1 : Int) = 0; decide))
theorem run_trap (pre post : List Ins) (a : Int) (hr : rgt ⟨32, 0, 0, a⟩ = true) (hl : wln (pre ++ ⟨32, 0, 0, a⟩ :: post) ≤ 65535) (s : Rv) (t : Int) (j : Nat) :
   Ma.run ((pre ++ ⟨32, 0, 0, a⟩ :: post).flatMap ws) [] (j + 1) (s.ma (wln pre) t) = { s.ma (wln pre) (t + 1) with how := 2, trap := a } := by
 rw [Ma.run, if_pos (show (s.ma (wln pre) t).how = 0 from rfl), stepR pre post _ hr hl _ rfl]
 have e : ¬ (({ s.ma (wln pre) t with took := (s.ma (wln pre) t).took + 1, pc := wln (pre ++ [⟨32, 0, 0, a⟩]) } : Ma).act ⟨32, 0, 0, a⟩ []).how = 0 := by show ¬ (2 : Int) = 0; decide
 rw [if_neg e]
 cases j <;> (unfold Ma.run; exact if_neg (by show ¬ (2 : Int) = 0; decide))
theorem dd_mov (s : Rv) (d e : Nat) : s.dd ⟨1, d, e, 0⟩ = { s with r := upd s.r d (s.r e) } := rfl
theorem dd_ldi (s : Rv) (d : Nat) (x : Int) : s.dd ⟨2, d, 0, x⟩ = { s with r := upd s.r d x } := rfl
theorem dd_ld (s : Rv) (d e : Nat) (x : Int) : s.dd ⟨3, d, e, x⟩ = { s with r := upd s.r d (s.mem (lw (s.r e + x)).toNat) } := rfl
theorem dd_st (s : Rv) (d e : Nat) (x : Int) : s.dd ⟨4, d, e, x⟩ = { s with mem := upd s.mem (lw (s.r d + x)).toNat (s.r e) } := rfl
theorem dd_push (s : Rv) (e : Nat) : s.dd ⟨28, 0, e, 0⟩ = s.psh (s.r e) := rfl
theorem dd_pop (s : Rv) (d : Nat) : s.dd ⟨29, d, 0, 0⟩ = { s with r := upd (upd s.r 7 (lw (s.r 7 + 1))) d (s.mem (s.r 7).toNat) } := rfl
end Go.Proofs.YtlkoidkdeopgjaaGreatDoor
namespace Go.Proofs.YtlkoidkdeopgjaaGreatDoor
open Go.RowKit
set_option linter.unusedSimpArgs false
set_option linter.unusedVariables false
def nu : Nat → (Nat → Int) → Int
 | 0, _ => 0
 | n + 1, f => nu n f + f n * 65536 ^ n
theorem nu_congr {f g : Nat → Int} : ∀ {n : Nat}, (∀ i, i < n → f i = g i) → nu n f = nu n g
 | 0, _ => rfl
 | n + 1, h => by rw [nu, nu, nu_congr fun i hi => h i (by omega), h n (by omega)]
theorem pw_pos (n : Nat) : (0 : Int) < 65536 ^ n := Int.pow_pos (by decide)
theorem nu_bd {f : Nat → Int} : ∀ {n : Nat}, (∀ i, i < n → wd (f i)) → 0 ≤ nu n f ∧ nu n f < 65536 ^ n
 | 0, _ => by simp [nu]
 | n + 1, h => by
   obtain ⟨h1, h2⟩ := nu_bd (n := n) fun i hi => h i (by omega)
   have h3 := h n (by omega)
   unfold wd at h3
   have hp := pw_pos n
   rw [nu, Int.pow_succ]
   have a : 0 ≤ f n * 65536 ^ n := Int.mul_nonneg h3.1 (Int.le_of_lt hp)
   have b : f n * 65536 ^ n ≤ 65535 * 65536 ^ n := Int.mul_le_mul_of_nonneg_right h3.2 (Int.le_of_lt hp)
   generalize f n * 65536 ^ n = y at *
   generalize (65536 : Int) ^ n = p at *
   omega
def wo (A : Int) (i : Nat) : Int := A / 65536 ^ i % 65536
theorem wo_wd (A : Int) (i : Nat) : wd (wo A i) := by unfold wd wo; omega
theorem nu_low {f : Nat → Int} {n : Nat} (h : ∀ i, i < n + 1 → wd (f i)) : nu (n + 1) f % 65536 ^ n = nu n f ∧ nu (n + 1) f / 65536 ^ n = f n := by
 obtain ⟨h1, h2⟩ := nu_bd (n := n) fun i hi => h i (by omega)
 have hp := pw_pos n
 rw [nu]
 constructor
 · rw [Int.add_mul_emod_self_right, Int.emod_eq_of_lt h1 h2]
 · rw [Int.add_mul_ediv_right _ _ (by omega), Int.ediv_eq_zero_of_lt h1 h2]; omega
theorem wo_nu {f : Nat → Int} : ∀ {n : Nat}, (∀ i, i < n → wd (f i)) → ∀ i, i < n → wo (nu n f) i = f i
 | 0, _, i, hi => by omega
 | n + 1, h, i, hi => by
   obtain ⟨g1, g2⟩ := nu_low h
   by_cases e : i = n
   · subst e
     unfold wo
     rw [g2]
     have := h i (by omega)
     unfold wd at this
     omega
   · have ih := wo_nu (n := n) (fun i hi => h i (by omega)) i (by omega)
     rw [← ih]
     unfold wo
     obtain ⟨d, hd⟩ : ∃ d, n = i + 1 + d := ⟨n - i - 1, by omega⟩
     have e1 : (65536 : Int) ^ n = 65536 ^ i * (65536 * 65536 ^ d) := by rw [hd, Int.pow_add, Int.pow_succ, Int.mul_assoc]
     rw [nu, e1]
     have e2 : nu n f + f n * (65536 ^ i * (65536 * 65536 ^ d)) = nu n f + (f n * 65536 ^ d * 65536) * 65536 ^ i := by grind
     rw [e2, Int.add_mul_ediv_right _ _ (by have := pw_pos i; omega)]
     omega
theorem nu_wo (A : Int) (h : 0 ≤ A) : ∀ n, nu n (wo A) = A % 65536 ^ n
 | 0 => by simp [nu, Int.emod_one]
 | n + 1 => by
   rw [nu, nu_wo A h n]
   unfold wo
   have hp := pw_pos n
   have h1 := Int.emod_def A (65536 ^ n)
   have h2 := Int.emod_def A (65536 ^ (n + 1))
   have h3 : A / 65536 ^ (n + 1) = A / 65536 ^ n / 65536 := by rw [Int.pow_succ, Int.ediv_ediv, if_neg (by omega)]; simp
   rw [h1, h2, h3, Int.pow_succ]
   have h4 := Int.emod_def (A / 65536 ^ n) 65536
   rw [h4]
   grind
def hnd (s : Rv) (n : Nat) : Int := nu n fun i => s.r (2 + i)
def mnu (s : Rv) (a n : Nat) : Int := nu n fun i => s.mem (a + i)
def rw8 (s : Rv) : Prop := ∀ j, j < 8 → wd (s.r j)
def mw (s : Rv) : Prop := ∀ j, wd (s.mem j)
theorem upd_wd {f : Nat → Int} {k : Nat} {x : Int} {N : Nat} (h : ∀ j, j < N → wd (f j)) (hx : wd x) : ∀ j, j < N → wd (upd f k x j) := fun j hj => by
 unfold upd; split
 · exact hx
 · exact h j hj
theorem upd_wda {f : Nat → Int} {k : Nat} {x : Int} (h : ∀ j, wd (f j)) (hx : wd x) : ∀ j, wd (upd f k x j) := fun j => by
 unfold upd; split
 · exact hx
 · exact h j
theorem lw_wd (x : Int) : wd (lw x) := by unfold wd lw; omega
theorem oi_hi {x : Int} (h : wd x) : oi (x / 32768 == 1) = x / 32768 := by
 unfold wd at h
 have : x / 32768 = 0 ∨ x / 32768 = 1 := by omega
 rcases this with e | e <;> simp [oi, e]
theorem oi_lo (x : Int) : oi (x % 2 == 1) = x % 2 := by
 have : x % 2 = 0 ∨ x % 2 = 1 := by omega
 rcases this with e | e <;> simp [oi, e]
theorem upb_wd {x c : Int} (h : wd x) (h0 : 0 ≤ c) (h1 : c ≤ 1) : wd (upb x c) := by unfold wd at *; unfold upb; omega
theorem dd_up (s : Rv) (o : Int) (d : Nat) (ho : o = 14 ∨ o = 15) : s.dd ⟨o, d, 0, 0⟩ = { r := upd s.r d (upb (s.r d) (if o = 14 then 0 else oi s.c)), mem := s.mem, c := s.r d / 32768 == 1, z := upb (s.r d) (if o = 14 then 0 else oi s.c) == 0, n := upb (s.r d) (if o = 14 then 0 else oi s.c) / 32768 == 1, v := false } := by
 rcases ho with rfl | rfl <;> rfl
def upI (o : Int) : Nat → List Ins
 | 0 => []
 | k + 1 => upI o k ++ [⟨if k = 0 then o else 15, ((2 + k : Nat) : Int), 0, 0⟩]
theorem up_blk (o : Int) (ho : o = 14 ∨ o = 15) (s : Rv) (hw : rw8 s) : ∀ n, n ≤ 4 → (hnd (s.lin (upI o n)) n + (if n = 0 then (if o = 14 then 0 else oi s.c) else oi (s.lin (upI o n)).c) * 65536 ^ n = 2 * hnd s n + (if o = 14 then 0 else oi s.c)) ∧ (∀ j, ¬ (2 ≤ j ∧ j < 2 + n) → (s.lin (upI o n)).r j = s.r j) ∧ rw8 (s.lin (upI o n)) ∧ (s.lin (upI o n)).mem = s.mem
 | 0, _ => ⟨by simp [hnd, nu, upI, lin_nil], fun _ _ => rfl, hw, rfl⟩
 | n + 1, hn => by
   obtain ⟨h1, h2, h3, h4⟩ := up_blk o ho s hw n (by omega)
   have hs0 : n = 0 → s.lin (upI o n) = s := fun h => by subst h; rfl
   rw [upI, lin_append, lin_one]
   generalize s.lin (upI o n) = s1 at *
   have hx := hw (2 + n) (by omega)
   have e1 : s1.r (2 + n) = s.r (2 + n) := h2 _ (by omega)
   have ho2 : (if n = 0 then o else 15) = 14 ∨ (if n = 0 then o else 15) = 15 := by split <;> omega
   rw [dd_up s1 _ _ ho2, e1]
   have ec : (if (if n = 0 then o else 15) = 14 then 0 else oi s1.c) = (if n = 0 then (if o = 14 then 0 else oi s.c) else oi s1.c) ∨ n = 0 := by
     by_cases e : n = 0
     · exact .inr e
     · left; rw [if_neg e, if_neg e, if_neg (by decide)]
   have ec2 : (if (if n = 0 then o else 15) = 14 then 0 else oi s1.c) = (if n = 0 then (if o = 14 then 0 else oi s.c) else oi s1.c) := by
     rcases ec with h | h
     · exact h
     · rw [hs0 h, h]; rfl
   rw [ec2]
   generalize hcv : (if n = 0 then (if o = 14 then 0 else oi s.c) else oi s1.c) = cv at *
   have hb : 0 ≤ cv ∧ cv ≤ 1 := by
     rw [← hcv]; have a := oi_b s.c; have b := oi_b s1.c; split
     · split <;> omega
     · exact b
   refine ⟨?_, fun j hj => ?_, upd_wd h3 (upb_wd hx hb.1 hb.2), h4⟩
   · rw [if_neg (by omega)]
     unfold hnd at *
     rw [nu, nu]
     dsimp only
     rw [upd_same, oi_hi hx]
     have e2 : nu n (fun i => upd s1.r (2 + n) (upb (s.r (2 + n)) cv) (2 + i)) = nu n (fun i => s1.r (2 + i)) := nu_congr fun i hi => upd_other _ _ _ _ (by omega)
     rw [e2]
     have e3 : upb (s.r (2 + n)) cv = 2 * s.r (2 + n) - 65536 * (s.r (2 + n) / 32768) + cv := by unfold wd at hx; unfold upb; omega
     rw [e3, Int.pow_succ]
     generalize s.r (2 + n) = x at *
     generalize x / 32768 = y at *
     grind
   · show upd s1.r (2 + n) _ j = _
     rw [upd_other _ _ _ _ (by omega)]
     exact h2 j (by omega)
def dnI (o : Int) (n : Nat) : Nat → List Ins
 | 0 => []
 | k + 1 => dnI o n k ++ [⟨if k = 0 then o else 18, ((2 + (n - 1 - k) : Nat) : Int), 0, 0⟩]
def tin (o : Int) (x : Int) : Int := if o = 16 then 0 else x / 32768
theorem dd_dn (s : Rv) (o : Int) (d : Nat) (ho : o = 16 ∨ o = 17 ∨ o = 18) : (s.dd ⟨o, d, 0, 0⟩).r = upd s.r d (dnb (s.r d) (if o = 18 then oi s.c else tin o (s.r d))) ∧ (s.dd ⟨o, d, 0, 0⟩).mem = s.mem ∧ (s.dd ⟨o, d, 0, 0⟩).c = (s.r d % 2 == 1) := by
 rcases ho with rfl | rfl | rfl <;> exact ⟨rfl, rfl, rfl⟩
theorem dn_pts (o : Int) (ho : o = 16 ∨ o = 17) (s : Rv) (n : Nat) : ∀ k, k ≤ n → (∀ i, (s.lin (dnI o n k)).r (2 + i) = if n - k ≤ i ∧ i < n then dnb (s.r (2 + i)) (if i + 1 = n then tin o (s.r (2 + i)) else s.r (2 + (i + 1)) % 2) else s.r (2 + i)) ∧ (∀ j, j < 2 → (s.lin (dnI o n k)).r j = s.r j) ∧ (s.lin (dnI o n k)).mem = s.mem ∧ (1 ≤ k → (s.lin (dnI o n k)).c = (s.r (2 + (n - k)) % 2 == 1))
 | 0, _ => ⟨fun i => by rw [if_neg (by omega)]; rfl, fun _ _ => rfl, rfl, fun h => by omega⟩
 | k + 1, hk => by
   obtain ⟨h1, h2, h3, h4⟩ := dn_pts o ho s n k (by omega)
   rw [dnI, lin_append, lin_one]
   generalize s.lin (dnI o n k) = s1 at *
   have e1 : s1.r (2 + (n - 1 - k)) = s.r (2 + (n - 1 - k)) := by rw [h1, if_neg (by omega)]
   obtain ⟨d1, d2, d3⟩ := dd_dn s1 (if k = 0 then o else 18) (2 + (n - 1 - k)) (by split <;> omega)
   have ev : (if (if k = 0 then o else 18) = 18 then oi s1.c else tin (if k = 0 then o else 18) (s1.r (2 + (n - 1 - k)))) = (if n - 1 - k + 1 = n then tin o (s.r (2 + (n - 1 - k))) else s.r (2 + (n - 1 - k + 1)) % 2) := by
     by_cases e : k = 0
     · subst e
       rw [if_neg (by rw [if_pos rfl]; omega), if_pos rfl, if_pos (by omega), e1]
     · rw [if_neg e, if_pos rfl, if_neg (by omega), h4 (by omega), oi_lo, show n - 1 - k + 1 = n - k by omega]
   rw [ev, e1] at d1
   refine ⟨fun i => ?_, fun j hj => ?_, d2.trans h3, fun _ => ?_⟩
   · rw [d1]
     by_cases e : i = n - 1 - k
     · subst e; rw [upd_same, if_pos (show n - (k + 1) ≤ n - 1 - k ∧ n - 1 - k < n by omega)]
     · rw [upd_other _ _ _ _ (by omega), h1]
       by_cases hi : n - k ≤ i ∧ i < n
       · rw [if_pos hi, if_pos (show n - (k + 1) ≤ i ∧ i < n by omega)]
       · rw [if_neg hi, if_neg (show ¬ (n - (k + 1) ≤ i ∧ i < n) by omega)]
   · rw [d1, upd_other _ _ _ _ (by omega)]; exact h2 j hj
   · rw [d3, e1, show n - (k + 1) = n - 1 - k by omega]
theorem nu_dn (x : Nat → Int) (t : Int) : ∀ n, (∀ i, i < n → wd (x i)) → 2 * nu n (fun i => dnb (x i) (if i + 1 = n then t else x (i + 1) % 2)) + (if n = 0 then t else x 0 % 2) = nu n x + t * 65536 ^ n := by
 intro n
 induction n generalizing t with
 | zero => intro _; simp [nu]
 | succ n ih =>
   intro h
   have h3 := h n (by omega)
   unfold wd at h3
   have IH := ih (x n % 2) fun i hi => h i (by omega)
   have c : nu n (fun i => dnb (x i) (if i + 1 = n + 1 then t else x (i + 1) % 2)) = nu n (fun i => dnb (x i) (if i + 1 = n then x n % 2 else x (i + 1) % 2)) := by
     refine nu_congr fun i hi => ?_
     have : ¬ i + 1 = n + 1 := by omega
     rw [if_neg this]
     by_cases e : i + 1 = n
     · rw [if_pos e, e]
     · rw [if_neg e]
   rw [nu, nu, c, if_pos rfl, if_neg (by omega), Int.pow_succ]
   have e1 : x n = 2 * (x n / 2) + x n % 2 := by omega
   have hz : (if n = 0 then x n % 2 else x 0 % 2) = x 0 % 2 := by
     split
     · rename_i e; rw [e]
     · rfl
   rw [hz] at IH
   unfold dnb at *
   generalize nu n (fun i => x i / 2 + (if i + 1 = n then x n % 2 else x (i + 1) % 2) * 32768) = S at *
   generalize x n / 2 = a at *
   generalize x n % 2 = b at *
   grind
theorem dnb_wd {x c : Int} (h : wd x) (h0 : 0 ≤ c) (h1 : c ≤ 1) : wd (dnb x c) := by unfold wd at *; unfold dnb; omega
theorem tin_b {o x : Int} (h : wd x) : 0 ≤ tin o x ∧ tin o x ≤ 1 := by unfold wd at h; unfold tin; split <;> omega
theorem dn_blk (o : Int) (ho : o = 16 ∨ o = 17) (s : Rv) (hw : rw8 s) (n : Nat) (h1 : 1 ≤ n) (hn : n ≤ 4) : 2 * hnd (s.lin (dnI o n n)) n + s.r 2 % 2 = hnd s n + tin o (s.r (2 + (n - 1))) * 65536 ^ n ∧ (∀ j, ¬ (2 ≤ j ∧ j < 2 + n) → (s.lin (dnI o n n)).r j = s.r j) ∧ rw8 (s.lin (dnI o n n)) ∧ (s.lin (dnI o n n)).mem = s.mem := by
 obtain ⟨p1, p2, p3, _⟩ := dn_pts o ho s n n (Nat.le_refl _)
 have q := nu_dn (fun i => s.r (2 + i)) (tin o (s.r (2 + (n - 1)))) n fun i hi => hw _ (by omega)
 refine ⟨?_, fun j hj => ?_, fun j hj => ?_, p3⟩
 · unfold hnd
   rw [if_neg (by omega)] at q
   rw [← q]
   congr 1
   congr 1
   refine nu_congr fun i hi => ?_
   rw [p1, if_pos (by omega)]
   by_cases e : i + 1 = n
   · rw [if_pos e, if_pos e, show n - 1 = i by omega]
   · rw [if_neg e, if_neg e]
 · by_cases e : j < 2
   · exact p2 j e
   · obtain ⟨i, rfl⟩ : ∃ i, j = 2 + i := ⟨j - 2, by omega⟩
     rw [p1, if_neg (by omega)]
 · by_cases e : j < 2
   · rw [p2 j e]; exact hw j hj
   · obtain ⟨i, rfl⟩ : ∃ i, j = 2 + i := ⟨j - 2, by omega⟩
     rw [p1]
     split
     · refine dnb_wd (hw _ hj) ?_ ?_
       · split
         · exact (tin_b (hw _ hj)).1
         · omega
       · split
         · exact (tin_b (hw _ hj)).2
         · omega
     · exact hw _ hj
theorem adr {x : Int} {k : Nat} (h0 : 0 ≤ x) (h : x + k ≤ 65535) : (lw (x + (k : Int))).toNat = x.toNat + k := by unfold lw; omega
def ldH : Nat → List Ins
 | 0 => []
 | k + 1 => ldH k ++ [⟨3, ((2 + k : Nat) : Int), 0, (k : Int)⟩]
def clH : Nat → List Ins
 | 0 => []
 | k + 1 => clH k ++ [⟨2, ((2 + k : Nat) : Int), 0, 0⟩]
def stH : Nat → List Ins
 | 0 => []
 | k + 1 => stH k ++ [⟨4, 0, ((2 + k : Nat) : Int), (k : Int)⟩]
theorem ld_blk (s : Rv) (p : Nat) (hp : s.r 0 = (p : Int)) : ∀ n, n ≤ 4 → p + n ≤ 65536 → (∀ j, (s.lin (ldH n)).r j = if 2 ≤ j ∧ j < 2 + n then s.mem (p + (j - 2)) else s.r j) ∧ (s.lin (ldH n)).mem = s.mem
 | 0, _, _ => ⟨fun j => by rw [if_neg (by omega)]; rfl, rfl⟩
 | n + 1, h4, hn => by
   obtain ⟨h1, h2⟩ := ld_blk s p hp n (by omega) (by omega)
   rw [ldH, lin_append, lin_one]
   generalize s.lin (ldH n) = s1 at *
   have e0 : s1.r 0 = (p : Int) := by rw [h1, if_neg (by omega), hp]
   rw [show (⟨3, ((2 + n : Nat) : Int), 0, (n : Int)⟩ : Ins) = ⟨3, ((2 + n : Nat) : Int), ((0 : Nat) : Int), (n : Int)⟩ from rfl, dd_ld, e0, adr (by omega) (by omega), h2, Int.toNat_natCast]
   refine ⟨fun j => ?_, rfl⟩
   show upd s1.r (2 + n) _ j = _
   by_cases e : j = 2 + n
   · subst e; rw [upd_same, if_pos (by omega), show 2 + n - 2 = n by omega]
   · rw [upd_other _ _ _ _ e, h1]
     by_cases hj : 2 ≤ j ∧ j < 2 + n
     · rw [if_pos hj, if_pos (by omega)]
     · rw [if_neg hj, if_neg (by omega)]
theorem cl_blk (s : Rv) : ∀ n, n ≤ 4 → (∀ j, (s.lin (clH n)).r j = if 2 ≤ j ∧ j < 2 + n then 0 else s.r j) ∧ (s.lin (clH n)).mem = s.mem
 | 0, _ => ⟨fun j => by rw [if_neg (by omega)]; rfl, rfl⟩
 | n + 1, h4 => by
   obtain ⟨h1, h2⟩ := cl_blk s n (by omega)
   rw [clH, lin_append, lin_one]
   generalize s.lin (clH n) = s1 at *
   rw [dd_ldi]
   refine ⟨fun j => ?_, h2⟩
   show upd s1.r (2 + n) _ j = _
   by_cases e : j = 2 + n
   · subst e; rw [upd_same, if_pos (by omega)]
   · rw [upd_other _ _ _ _ e, h1]
     by_cases hj : 2 ≤ j ∧ j < 2 + n
     · rw [if_pos hj, if_pos (by omega)]
     · rw [if_neg hj, if_neg (by omega)]
theorem st_blk (s : Rv) (p : Nat) (hp : s.r 0 = (p : Int)) : ∀ n, n ≤ 4 → p + n ≤ 65536 → (∀ j, (s.lin (stH n)).mem j = if p ≤ j ∧ j < p + n then s.r (2 + (j - p)) else s.mem j) ∧ (s.lin (stH n)).r = s.r
 | 0, _, _ => ⟨fun j => by rw [if_neg (by omega)]; rfl, rfl⟩
 | n + 1, h4, hn => by
   obtain ⟨h1, h2⟩ := st_blk s p hp n (by omega) (by omega)
   rw [stH, lin_append, lin_one]
   generalize s.lin (stH n) = s1 at *
   rw [show (⟨4, 0, ((2 + n : Nat) : Int), (n : Int)⟩ : Ins) = ⟨4, ((0 : Nat) : Int), ((2 + n : Nat) : Int), (n : Int)⟩ from rfl, dd_st, h2, hp, adr (by omega) (by omega), Int.toNat_natCast]
   refine ⟨fun j => ?_, rfl⟩
   show upd s1.mem (p + n) _ j = _
   by_cases e : j = p + n
   · subst e; rw [upd_same, if_pos (by omega), show p + n - p = n by omega]
   · rw [upd_other _ _ _ _ e, h1]
     by_cases hj : p ≤ j ∧ j < p + n
     · rw [if_pos hj, if_pos (by omega)]
     · rw [if_neg hj, if_neg (by omega)]
def uaI (pl bh : Nat) : Nat → List Ins
 | 0 => []
 | k + 1 => uaI pl bh k ++ [⟨3, 6, (pl : Int), ((bh + k : Nat) : Int)⟩, ⟨if k = 0 then 14 else 15, 6, 0, 0⟩, ⟨4, (pl : Int), 6, ((bh + k : Nat) : Int)⟩]
theorem ua_blk (pl bh a : Nat) (s : Rv) (hpl : pl ≠ 6) (ha : s.r pl + (bh : Int) = (a : Int)) (h0 : 0 ≤ s.r pl) (hm : mw s) : ∀ n, a + n ≤ 65536 → (mnu (s.lin (uaI pl bh n)) a n + (if n = 0 then 0 else oi (s.lin (uaI pl bh n)).c) * 65536 ^ n = 2 * mnu s a n) ∧ (∀ j, j ≠ 6 → (s.lin (uaI pl bh n)).r j = s.r j) ∧ (∀ j, ¬ (a ≤ j ∧ j < a + n) → (s.lin (uaI pl bh n)).mem j = s.mem j) ∧ mw (s.lin (uaI pl bh n)) ∧ (1 ≤ n → wd ((s.lin (uaI pl bh n)).r 6))
 | 0, _ => ⟨by simp [mnu, nu, uaI, lin_nil], fun _ _ => rfl, fun _ _ => rfl, hm, fun h => by omega⟩
 | n + 1, hn => by
   obtain ⟨h1, h2, h3, h4, _⟩ := ua_blk pl bh a s hpl ha h0 hm n (by omega)
   rw [uaI, lin_append]
   generalize s.lin (uaI pl bh n) = s1 at *
   have hx := hm (a + n)
   have e1 : s1.mem (a + n) = s.mem (a + n) := h3 _ (by omega)
   have ea : (lw (s1.r pl + ((bh + n : Nat) : Int))).toNat = a + n := by rw [h2 pl hpl]; unfold lw; omega
   rw [lin_cons, show (⟨3, 6, (pl : Int), ((bh + n : Nat) : Int)⟩ : Ins) = ⟨3, ((6 : Nat) : Int), (pl : Int), ((bh + n : Nat) : Int)⟩ from rfl, dd_ld, ea, e1, lin_cons]
   have ho2 : (if n = 0 then (14 : Int) else 15) = 14 ∨ (if n = 0 then (14 : Int) else 15) = 15 := by split <;> omega
   rw [show (⟨if n = 0 then 14 else 15, 6, 0, 0⟩ : Ins) = ⟨if n = 0 then 14 else 15, ((6 : Nat) : Int), 0, 0⟩ from rfl, dd_up _ _ _ ho2, lin_one]
   dsimp only
   rw [upd_same]
   have ec2 : (if (if n = 0 then (14 : Int) else 15) = 14 then 0 else oi s1.c) = (if n = 0 then 0 else oi s1.c) := by
     by_cases e : n = 0
     · rw [if_pos e, if_pos rfl, if_pos e]
     · rw [if_neg e, if_neg e, if_neg (by decide)]
   rw [ec2]
   generalize hcv : (if n = 0 then 0 else oi s1.c) = cv at *
   have hb : 0 ≤ cv ∧ cv ≤ 1 := by rw [← hcv]; have b := oi_b s1.c; split <;> omega
   rw [show (⟨4, (pl : Int), 6, ((bh + n : Nat) : Int)⟩ : Ins) = ⟨4, (pl : Int), ((6 : Nat) : Int), ((bh + n : Nat) : Int)⟩ from rfl, dd_st]
   dsimp only
   rw [upd_other _ _ _ _ hpl, upd_other _ _ _ _ hpl, ea, upd_same]
   refine ⟨?_, fun j hj => ?_, fun j hj => ?_, upd_wda h4 (upb_wd hx hb.1 hb.2), fun _ => ?_⟩
   · rw [if_neg (by omega)]
     unfold mnu at *
     rw [nu, nu]
     dsimp only
     rw [upd_same, oi_hi hx]
     have e2 : nu n (fun i => upd s1.mem (a + n) (upb (s.mem (a + n)) cv) (a + i)) = nu n (fun i => s1.mem (a + i)) := nu_congr fun i hi => upd_other _ _ _ _ (by omega)
     rw [e2]
     have e3 : upb (s.mem (a + n)) cv = 2 * s.mem (a + n) - 65536 * (s.mem (a + n) / 32768) + cv := by unfold wd at hx; unfold upb; omega
     rw [e3, Int.pow_succ]
     generalize s.mem (a + n) = x at *
     generalize x / 32768 = y at *
     grind
   · try dsimp only
     rw [upd_other _ _ _ _ hj, upd_other _ _ _ _ hj]; exact h2 j hj
   · try dsimp only
     rw [upd_other _ _ _ _ (by omega)]; exact h3 j (by omega)
   · try dsimp only
     exact upb_wd hx hb.1 hb.2
end Go.Proofs.YtlkoidkdeopgjaaGreatDoor
namespace Go.Proofs.YtlkoidkdeopgjaaGreatDoor
open Go.RowKit
set_option linter.unusedSimpArgs false
set_option linter.unusedVariables false
theorem lw_id {x : Int} (h : wd x) : lw x = x := by unfold wd at h; unfold lw; omega
theorem dif_is {x y : Int} (c : Bool) (hx : wd x) (hy : wd y) : lw (dift x y c) = x - y - oi c + 65536 * oi (dift x y c != lw (dift x y c)) := by
 have h1 := oi_b c
 unfold dift
 rw [lw_id hx, lw_id hy]
 unfold wd at hx hy
 generalize hz : x - y - oi c = z at *
 by_cases e : 0 ≤ z
 · have : lw z = z := by unfold lw; omega
   rw [this]; simp [oi]
 · have : lw z = z + 65536 := by unfold lw; omega
   have hne : (z != lw z) = true := by rw [this]; simp; omega
   rw [hne, this]; simp [oi]
theorem dd_sum (s : Rv) (o : Int) (d e : Nat) (ho : o = 5 ∨ o = 6) : (s.dd ⟨o, d, e, 0⟩).r = upd s.r d (lw (sumt (s.r d) (s.r e) (if o = 5 then false else s.c))) ∧ (s.dd ⟨o, d, e, 0⟩).mem = s.mem ∧ (s.dd ⟨o, d, e, 0⟩).c = (sumt (s.r d) (s.r e) (if o = 5 then false else s.c) != lw (sumt (s.r d) (s.r e) (if o = 5 then false else s.c))) := by
 rcases ho with rfl | rfl <;> exact ⟨rfl, rfl, rfl⟩
theorem dd_dif (s : Rv) (o : Int) (d e : Nat) (ho : o = 7 ∨ o = 8) : (s.dd ⟨o, d, e, 0⟩).r = upd s.r d (lw (dift (s.r d) (s.r e) (if o = 7 then false else s.c))) ∧ (s.dd ⟨o, d, e, 0⟩).mem = s.mem ∧ (s.dd ⟨o, d, e, 0⟩).c = (dift (s.r d) (s.r e) (if o = 7 then false else s.c) != lw (dift (s.r d) (s.r e) (if o = 7 then false else s.c))) := by
 rcases ho with rfl | rfl <;> exact ⟨rfl, rfl, rfl⟩
theorem dd_cmp (s : Rv) (o : Int) (d e : Nat) (ho : o = 12 ∨ o = 13) : (s.dd ⟨o, d, e, 0⟩).r = s.r ∧ (s.dd ⟨o, d, e, 0⟩).mem = s.mem ∧ (s.dd ⟨o, d, e, 0⟩).c = (dift (s.r d) (s.r e) (if o = 12 then false else s.c) != lw (dift (s.r d) (s.r e) (if o = 12 then false else s.c))) := by
 rcases ho with rfl | rfl <;> exact ⟨rfl, rfl, rfl⟩
def wiI (o q : Int) (pl bh : Nat) : Nat → List Ins
 | 0 => []
 | k + 1 => wiI o q pl bh k ++ [⟨3, 6, (pl : Int), ((bh + k : Nat) : Int)⟩, ⟨if k = 0 then o else q, ((2 + k : Nat) : Int), 6, 0⟩]
theorem sub_blk (pl bh a : Nat) (s : Rv) (hpl : pl < 2 ∨ pl = 7) (ha : s.r pl + (bh : Int) = (a : Int)) (h0 : 0 ≤ s.r pl) (hw : rw8 s) (hm : mw s) (n : Nat) : n ≤ 4 → a + n ≤ 65536 → (hnd (s.lin (wiI 7 8 pl bh n)) n = hnd s n - mnu s a n + (if n = 0 then 0 else oi (s.lin (wiI 7 8 pl bh n)).c) * 65536 ^ n) ∧ (∀ j, ¬ (2 ≤ j ∧ j < 2 + n) → j ≠ 6 → (s.lin (wiI 7 8 pl bh n)).r j = s.r j) ∧ (s.lin (wiI 7 8 pl bh n)).mem = s.mem ∧ rw8 (s.lin (wiI 7 8 pl bh n)) := by
 induction n with
 | zero => exact fun _ _ => ⟨by simp [hnd, mnu, nu, wiI, lin_nil], fun _ _ _ => rfl, rfl, hw⟩
 | succ n ih =>
   intro hn4 hn
   replace ih := ih (by omega) (by omega)
   obtain ⟨h1, h2', h3, h4⟩ := ih
   have h2 : ∀ j, ¬ (2 ≤ j ∧ j < 2 + n) → j ≠ 6 → (s.lin (wiI 7 8 pl bh n)).r j = s.r j := h2'
   rw [wiI, lin_append]
   generalize s.lin (wiI 7 8 pl bh n) = s1 at *
   have hx := hw (2 + n) (by omega)
   have hy := hm (a + n)
   have e1 : s1.r (2 + n) = s.r (2 + n) := h2 _ (by omega) (by omega)
   have ea : (lw (s1.r pl + ((bh + n : Nat) : Int))).toNat = a + n := by rw [h2 pl (by omega) (by omega)]; unfold lw; omega
   rw [lin_cons, show (⟨3, 6, (pl : Int), ((bh + n : Nat) : Int)⟩ : Ins) = ⟨3, ((6 : Nat) : Int), (pl : Int), ((bh + n : Nat) : Int)⟩ from rfl, dd_ld, ea, h3, lin_one]
   generalize hs2 : ({ r := upd s1.r ((6 : Nat)) (s.mem (a + n)), mem := s.mem, c := s1.c, z := s1.z, n := s1.n, v := s1.v } : Rv) = s2
   have f1 : s2.r = upd s1.r 6 (s.mem (a + n)) := by rw [← hs2]
   have f2 : s2.mem = s.mem := by rw [← hs2]
   have f3 : s2.c = s1.c := by rw [← hs2]
   have g1 : s2.r (2 + n) = s.r (2 + n) := by rw [f1, upd_other _ _ _ _ (by omega), e1]
   have g2 : s2.r 6 = s.mem (a + n) := by rw [f1, upd_same]
   obtain ⟨d1, d2, d3⟩ := dd_dif s2 (if n = 0 then 7 else 8) (2 + n) 6 (by split <;> omega)
   have ec : (if (if n = 0 then (7 : Int) else 8) = 7 then false else s2.c) = (if n = 0 then false else s1.c) := by
     by_cases e : n = 0
     · rw [if_pos e, if_pos rfl, if_pos e]
     · rw [if_neg e, if_neg (by decide), if_neg e, f3]
   rw [ec, g1, g2] at d1 d3
   have sm := dif_is (if n = 0 then false else s1.c) hx hy
   rw [← d3] at sm
   generalize s2.dd ⟨if n = 0 then 7 else 8, ((2 + n : Nat) : Int), ((6 : Nat) : Int), 0⟩ = s3 at *
   have eo : oi (if n = 0 then false else s1.c) = (if n = 0 then 0 else oi s1.c) := by split <;> rfl
   rw [eo] at sm
   have hnew : wd (lw (dift (s.r (2 + n)) (s.mem (a + n)) (if n = 0 then false else s1.c))) := lw_wd _
   generalize lw (dift (s.r (2 + n)) (s.mem (a + n)) (if n = 0 then false else s1.c)) = y at *
   refine ⟨?_, fun j hj hj6 => ?_, d2.trans f2, ?_⟩
   · rw [if_neg (by omega)]
     unfold hnd mnu at *
     rw [nu, nu, nu, d1]
     rw [upd_same]
     have e2 : nu n (fun i => upd s2.r (2 + n) y (2 + i)) = nu n (fun i => s1.r (2 + i)) := nu_congr fun i hi => by rw [upd_other _ _ _ _ (by omega), f1, upd_other _ _ _ _ (by omega)]
     rw [e2, Int.pow_succ]
     generalize (if n = 0 then 0 else oi s1.c) = cv at *
     generalize oi s3.c = c3 at *
     generalize s.r (2 + n) = x at *
     generalize s.mem (a + n) = z at *
     grind
   · rw [d1, upd_other _ _ _ _ (by omega), f1, upd_other _ _ _ _ hj6]
     exact h2 j (by omega) hj6
   · show ∀ j, j < 8 → wd (s3.r j)
     rw [d1, f1]
     exact upd_wd (upd_wd h4 hy) hnew
theorem cmp_blk (pl bh a : Nat) (s : Rv) (hpl : pl < 2 ∨ pl = 7) (ha : s.r pl + (bh : Int) = (a : Int)) (h0 : 0 ≤ s.r pl) (hw : rw8 s) (hm : mw s) (n : Nat) : n ≤ 4 → a + n ≤ 65536 → (∃ X : Int, 0 ≤ X ∧ X < 65536 ^ n ∧ X = hnd s n - mnu s a n + (if n = 0 then 0 else oi (s.lin (wiI 12 13 pl bh n)).c) * 65536 ^ n) ∧ (∀ j, j ≠ 6 → (s.lin (wiI 12 13 pl bh n)).r j = s.r j) ∧ (s.lin (wiI 12 13 pl bh n)).mem = s.mem ∧ rw8 (s.lin (wiI 12 13 pl bh n)) := by
 induction n with
 | zero => exact fun _ _ => ⟨⟨0, by simp, by simp, by simp [hnd, mnu, nu, wiI, lin_nil]⟩, fun _ _ => rfl, rfl, hw⟩
 | succ n ih =>
   intro hn4 hn
   replace ih := ih (by omega) (by omega)
   obtain ⟨⟨X, X0, X1, h1⟩, h2', h3, h4⟩ := ih
   have h2 : ∀ j, j ≠ 6 → (s.lin (wiI 12 13 pl bh n)).r j = s.r j := h2'
   rw [wiI, lin_append]
   generalize s.lin (wiI 12 13 pl bh n) = s1 at *
   have hx := hw (2 + n) (by omega)
   have hy := hm (a + n)
   have e1 : s1.r (2 + n) = s.r (2 + n) := h2 _ (by omega)
   have ea : (lw (s1.r pl + ((bh + n : Nat) : Int))).toNat = a + n := by rw [h2 pl (by omega)]; unfold lw; omega
   rw [lin_cons, show (⟨3, 6, (pl : Int), ((bh + n : Nat) : Int)⟩ : Ins) = ⟨3, ((6 : Nat) : Int), (pl : Int), ((bh + n : Nat) : Int)⟩ from rfl, dd_ld, ea, h3, lin_one]
   generalize hs2 : ({ r := upd s1.r ((6 : Nat)) (s.mem (a + n)), mem := s.mem, c := s1.c, z := s1.z, n := s1.n, v := s1.v } : Rv) = s2
   have f1 : s2.r = upd s1.r 6 (s.mem (a + n)) := by rw [← hs2]
   have f2 : s2.mem = s.mem := by rw [← hs2]
   have f3 : s2.c = s1.c := by rw [← hs2]
   have g1 : s2.r (2 + n) = s.r (2 + n) := by rw [f1, upd_other _ _ _ _ (by omega), e1]
   have g2 : s2.r 6 = s.mem (a + n) := by rw [f1, upd_same]
   obtain ⟨d1, d2, d3⟩ := dd_cmp s2 (if n = 0 then 12 else 13) (2 + n) 6 (by split <;> omega)
   have ec : (if (if n = 0 then (12 : Int) else 13) = 12 then false else s2.c) = (if n = 0 then false else s1.c) := by
     by_cases e : n = 0
     · rw [if_pos e, if_pos rfl, if_pos e]
     · rw [if_neg e, if_neg (by decide), if_neg e, f3]
   rw [ec, g1, g2] at d3
   have sm := dif_is (if n = 0 then false else s1.c) hx hy
   rw [← d3] at sm
   generalize s2.dd ⟨if n = 0 then 12 else 13, ((2 + n : Nat) : Int), ((6 : Nat) : Int), 0⟩ = s3 at *
   have eo : oi (if n = 0 then false else s1.c) = (if n = 0 then 0 else oi s1.c) := by split <;> rfl
   rw [eo] at sm
   have hnew : wd (lw (dift (s.r (2 + n)) (s.mem (a + n)) (if n = 0 then false else s1.c))) := lw_wd _
   generalize lw (dift (s.r (2 + n)) (s.mem (a + n)) (if n = 0 then false else s1.c)) = y at *
   have hp := pw_pos n
   refine ⟨⟨X + y * 65536 ^ n, ?_, ?_, ?_⟩, fun j hj6 => ?_, d2.trans f2, ?_⟩
   · have := Int.mul_nonneg hnew.1 (Int.le_of_lt hp); omega
   · have := Int.mul_le_mul_of_nonneg_right hnew.2 (Int.le_of_lt hp)
     rw [Int.pow_succ]; omega
   · rw [if_neg (by omega)]
     unfold hnd mnu at *
     rw [nu, nu, Int.pow_succ]
     generalize (if n = 0 then 0 else oi s1.c) = cv at *
     generalize oi s3.c = c3 at *
     generalize s.r (2 + n) = x at *
     generalize s.mem (a + n) = z at *
     grind
   · rw [d1, f1, upd_other _ _ _ _ hj6]
     exact h2 j hj6
   · show ∀ j, j < 8 → wd (s3.r j)
     rw [d1, f1]
     exact upd_wd h4 hy
end Go.Proofs.YtlkoidkdeopgjaaGreatDoor
namespace Go.Proofs.YtlkoidkdeopgjaaGreatDoor
open Go.RowKit
set_option linter.unusedSimpArgs false
set_option linter.unusedVariables false
theorem or_nat {x y : Nat} (hx : x ≤ 65535) (hy : y ≤ 65535) : orI (x : Int) (y : Int) = ((x ||| y : Nat) : Int) := by
 have e : orI (x : Int) (y : Int) = IntKind.i64.wrap (((BitVec.ofInt 64 (x : Int) ||| BitVec.ofInt 64 (y : Int)).toNat : Nat) : Int) := rfl
 have hb : x ||| y < 2 ^ 16 := Nat.or_lt_two_pow (by omega) (by omega)
 rw [e, BitVec.toNat_or, BitVec.toNat_ofInt, BitVec.toNat_ofInt, IntKind.wrap_i64]
 have ex : ((x : Int) % (2 ^ 64 : Nat)).toNat = x := by omega
 have ey : ((y : Int) % (2 ^ 64 : Nat)).toNat = y := by omega
 rw [ex, ey]
 generalize x ||| y = z at *
 omega
theorem wd_nat {x : Int} (h : wd x) : ∃ k : Nat, x = (k : Int) ∧ k ≤ 65535 := by unfold wd at h; exact ⟨x.toNat, by omega, by omega⟩
theorem orR_wd {x y : Int} (hx : wd x) (hy : wd y) : wd (orI x y) := by
 obtain ⟨a, rfl, ha⟩ := wd_nat hx
 obtain ⟨b, rfl, hb⟩ := wd_nat hy
 have h : a ||| b < 2 ^ 16 := Nat.or_lt_two_pow (by omega) (by omega)
 rw [or_nat ha hb]; unfold wd; omega
theorem orR_zero {x y : Int} (hx : wd x) (hy : wd y) : orI x y = 0 ↔ x = 0 ∧ y = 0 := by
 obtain ⟨a, rfl, ha⟩ := wd_nat hx
 obtain ⟨b, rfl, hb⟩ := wd_nat hy
 rw [or_nat ha hb]
 constructor
 · intro h
   have h' : a ||| b = 0 := by omega
   have := Nat.or_eq_zero_iff.1 h'
   omega
 · rintro ⟨h1, h2⟩
   have e1 : a = 0 := by omega
   have e2 : b = 0 := by omega
   subst e1 e2; rfl
theorem orR_self {x : Int} (hx : wd x) : orI x x = x := by
 obtain ⟨a, rfl, ha⟩ := wd_nat hx
 rw [or_nat ha ha, Nat.or_self]
theorem orR_one {x : Int} (hx : wd x) (he : x % 2 = 0) : orI x 1 = x + 1 := by
 obtain ⟨a, rfl, ha⟩ := wd_nat hx
 rw [show (1 : Int) = ((1 : Nat) : Int) from rfl, or_nat ha (by omega)]
 have e : a ||| 1 = a + 1 := by
   obtain ⟨b, rfl⟩ : ∃ b, a = 2 * b := ⟨a / 2, by omega⟩
   apply Nat.eq_of_testBit_eq
   intro i
   cases i with
   | zero => simp
   | succ i =>
     rw [Nat.testBit_or, Nat.testBit_succ, Nat.testBit_succ, Nat.testBit_succ]
     rw [show (2 * b + 1) / 2 = b by omega, show 2 * b / 2 = b by omega]
     simp
 rw [e]; rfl
theorem dd_or (s : Rv) (d e : Nat) : (s.dd ⟨10, d, e, 0⟩).r = upd s.r d (orI (s.r d) (s.r e)) ∧ (s.dd ⟨10, d, e, 0⟩).mem = s.mem ∧ (s.dd ⟨10, d, e, 0⟩).z = (orI (s.r d) (s.r e) == 0) ∧ (s.dd ⟨10, d, e, 0⟩).n = (orI (s.r d) (s.r e) / 32768 == 1) ∧ (s.dd ⟨10, d, e, 0⟩).v = false := ⟨rfl, rfl, rfl, rfl, rfl⟩
theorem nu_zero {f : Nat → Int} : ∀ {n : Nat}, (∀ i, i < n → wd (f i)) → (nu n f = 0 ↔ ∀ i, i < n → f i = 0)
 | 0, _ => ⟨fun _ i hi => by omega, fun _ => rfl⟩
 | n + 1, h => by
   have ih := nu_zero (n := n) fun i hi => h i (by omega)
   obtain ⟨b1, b2⟩ := nu_bd (n := n) fun i hi => h i (by omega)
   have h3 := h n (by omega)
   have hp := pw_pos n
   rw [nu]
   constructor
   · intro e i hi
     have m0 := Int.mul_nonneg h3.1 (Int.le_of_lt hp)
     have z1 : nu n f = 0 := by omega
     by_cases q : i = n
     · subst q
       have z2 : f i * 65536 ^ i = 0 := by omega
       rcases Int.mul_eq_zero.1 z2 with z | z
       · exact z
       · omega
     · exact ih.1 z1 i (by omega)
   · intro e
     rw [ih.2 fun i hi => e i (by omega), e n (by omega)]; simp
def orB : Nat → List Ins
 | 0 => []
 | k + 1 => orB k ++ [⟨3, 2, 1, (k : Int)⟩, ⟨10, 6, 2, 0⟩]
theorem or_blk (s : Rv) (q : Nat) (hq : s.r 1 = (q : Int)) (h6 : s.r 6 = 0) (hw : rw8 s) (hm : mw s) : ∀ n, q + n ≤ 65536 → (wd ((s.lin (orB n)).r 6) ∧ ((s.lin (orB n)).r 6 = 0 ↔ ∀ i, i < n → s.mem (q + i) = 0)) ∧ (∀ j, j ≠ 2 → j ≠ 6 → (s.lin (orB n)).r j = s.r j) ∧ (s.lin (orB n)).mem = s.mem ∧ rw8 (s.lin (orB n)) ∧ (1 ≤ n → (s.lin (orB n)).z = ((s.lin (orB n)).r 6 == 0))
 | 0, _ => ⟨⟨by rw [orB, lin_nil, h6]; exact ⟨by decide, by decide⟩, fun _ i hi => by omega, fun _ => h6⟩, fun _ _ _ => rfl, rfl, hw, fun h => by omega⟩
 | n + 1, hn => by
   obtain ⟨⟨a1, a2⟩, h2, h3, h4, _⟩ := or_blk s q hq h6 hw hm n (by omega)
   rw [orB, lin_append]
   generalize s.lin (orB n) = s1 at *
   have ea : (lw (s1.r 1 + (n : Int))).toNat = q + n := by rw [h2 1 (by omega) (by omega), hq]; unfold lw; omega
   rw [lin_cons, show (⟨3, 2, 1, (n : Int)⟩ : Ins) = ⟨3, ((2 : Nat) : Int), ((1 : Nat) : Int), (n : Int)⟩ from rfl, dd_ld, ea, h3, lin_one]
   generalize hs2 : ({ r := upd s1.r (2 : Nat) (s.mem (q + n)), mem := s.mem, c := s1.c, z := s1.z, n := s1.n, v := s1.v } : Rv) = s2
   have f1 : s2.r = upd s1.r 2 (s.mem (q + n)) := by rw [← hs2]
   have f2 : s2.mem = s.mem := by rw [← hs2]
   have g1 : s2.r 6 = s1.r 6 := by rw [f1, upd_other _ _ _ _ (by omega)]
   have g2 : s2.r 2 = s.mem (q + n) := by rw [f1, upd_same]
   obtain ⟨d1, d2, d3, _⟩ := dd_or s2 6 2
   rw [show (⟨10, 6, 2, 0⟩ : Ins) = ⟨10, ((6 : Nat) : Int), ((2 : Nat) : Int), 0⟩ from rfl]
   rw [g1, g2] at d1 d3
   generalize s2.dd ⟨10, ((6 : Nat) : Int), ((2 : Nat) : Int), 0⟩ = s3 at *
   have hy := hm (q + n)
   have r6 : s3.r 6 = orI (s1.r 6) (s.mem (q + n)) := by rw [d1, upd_same]
   refine ⟨⟨by rw [r6]; exact orR_wd a1 hy, ?_⟩, fun j hj hj6 => ?_, d2.trans f2, ?_, fun _ => by rw [d3, r6]⟩
   · rw [r6, orR_zero a1 hy, a2]
     constructor
     · rintro ⟨e1, e2⟩ i hi
       by_cases e : i = n
       · rw [e]; exact e2
       · exact e1 i (by omega)
     · intro e; exact ⟨fun i hi => e i (by omega), e n (by omega)⟩
   · rw [d1, upd_other _ _ _ _ hj6, f1, upd_other _ _ _ _ hj]; exact h2 j hj hj6
   · show ∀ j, j < 8 → wd (s3.r j)
     rw [d1, f1]
     exact upd_wd (upd_wd h4 hy) (orR_wd a1 hy)
def puB (n : Nat) : Nat → List Ins
 | 0 => []
 | k + 1 => puB n k ++ [⟨3, 6, 1, ((n - 1 - k : Nat) : Int)⟩, ⟨28, 0, 6, 0⟩]
theorem pu_blk (s : Rv) (q S n : Nat) (hq : s.r 1 = (q : Int)) (hS : s.r 7 = (S : Int)) (hS2 : S ≤ 65535) (hw : rw8 s) (hm : mw s) (hqn : q + n ≤ 65536) (hSn : n ≤ S) (hap : q + n ≤ S - n ∨ S ≤ q) : ∀ k, k ≤ n → (s.lin (puB n k)).r 7 = ((S - k : Nat) : Int) ∧ (∀ j, j ≠ 6 → j ≠ 7 → (s.lin (puB n k)).r j = s.r j) ∧ (∀ j, (s.lin (puB n k)).mem j = if S - k ≤ j ∧ j < S then s.mem (q + (n - (S - j))) else s.mem j) ∧ rw8 (s.lin (puB n k)) ∧ mw (s.lin (puB n k))
 | 0, _ => ⟨hS, fun _ _ _ => rfl, fun j => by rw [if_neg (by omega)]; rfl, hw, hm⟩
 | k + 1, hk => by
   obtain ⟨h1, h2, h3, h4, h5⟩ := pu_blk s q S n hq hS hS2 hw hm hqn hSn hap k (by omega)
   rw [puB, lin_append]
   generalize s.lin (puB n k) = s1 at *
   have ea : (lw (s1.r 1 + ((n - 1 - k : Nat) : Int))).toNat = q + (n - 1 - k) := by rw [h2 1 (by omega) (by omega), hq]; unfold lw; omega
   have em : s1.mem (q + (n - 1 - k)) = s.mem (q + (n - 1 - k)) := by rw [h3, if_neg (by omega)]
   rw [lin_cons, show (⟨3, 6, 1, ((n - 1 - k : Nat) : Int)⟩ : Ins) = ⟨3, ((6 : Nat) : Int), ((1 : Nat) : Int), ((n - 1 - k : Nat) : Int)⟩ from rfl, dd_ld, ea, em, lin_one, show (⟨28, 0, 6, 0⟩ : Ins) = ⟨28, 0, ((6 : Nat) : Int), 0⟩ from rfl, dd_push]
   unfold Rv.psh
   dsimp only
   rw [upd_same, upd_other _ 6 7 _ (by omega), h1]
   have el : lw (((S - k : Nat) : Int) - 1) = ((S - (k + 1) : Nat) : Int) := by unfold lw; omega
   rw [el, Int.toNat_natCast]
   have hy := hm (q + (n - 1 - k))
   have hz : wd ((S - (k + 1) : Nat) : Int) := by unfold wd; omega
   refine ⟨rfl, fun j hj6 hj7 => ?_, fun j => ?_, upd_wd (upd_wd h4 hy) hz, upd_wda h5 hy⟩
   · rw [upd_other _ _ _ _ hj7, upd_other _ _ _ _ hj6]; exact h2 j hj6 hj7
   · by_cases e : j = S - (k + 1)
     · subst e
       rw [upd_same, if_pos (by omega), show n - (S - (S - (k + 1))) = n - 1 - k by omega, upd_same]
     · rw [upd_other _ _ _ _ e, h3]
       by_cases c : S - k ≤ j ∧ j < S
       · rw [if_pos c, if_pos (by omega)]
       · rw [if_neg c, if_neg (by omega)]
def neI (pl : Nat) : Nat → List Ins
 | 0 => []
 | k + 1 => neI pl k ++ [⟨2, 6, 0, 0⟩, ⟨3, 2, (pl : Int), (k : Int)⟩, ⟨if k = 0 then 7 else 8, 6, 2, 0⟩, ⟨4, (pl : Int), 6, (k : Int)⟩]
theorem ne_blk (pl a : Nat) (s : Rv) (hpl : pl ≠ 6) (hpl2 : pl ≠ 2) (ha : s.r pl = (a : Int)) (hw : rw8 s) (hm : mw s) : ∀ n, a + n ≤ 65536 → (mnu (s.lin (neI pl n)) a n = - mnu s a n + (if n = 0 then 0 else oi (s.lin (neI pl n)).c) * 65536 ^ n) ∧ (∀ j, j ≠ 6 → j ≠ 2 → (s.lin (neI pl n)).r j = s.r j) ∧ (∀ j, ¬ (a ≤ j ∧ j < a + n) → (s.lin (neI pl n)).mem j = s.mem j) ∧ rw8 (s.lin (neI pl n)) ∧ mw (s.lin (neI pl n))
 | 0, _ => ⟨by simp [mnu, nu, neI, lin_nil], fun _ _ _ => rfl, fun _ _ => rfl, hw, hm⟩
 | n + 1, hn => by
   obtain ⟨h1, h2, h3, h4, h5⟩ := ne_blk pl a s hpl hpl2 ha hw hm n (by omega)
   rw [neI, lin_append]
   generalize s.lin (neI pl n) = s1 at *
   have hy := hm (a + n)
   have e1 : s1.mem (a + n) = s.mem (a + n) := h3 _ (by omega)
   have ep : s1.r pl = (a : Int) := by rw [h2 pl hpl hpl2, ha]
   have ea : (lw ((a : Int) + (n : Int))).toNat = a + n := by unfold lw; omega
   rw [lin_cons, show (⟨2, 6, 0, 0⟩ : Ins) = ⟨2, ((6 : Nat) : Int), 0, 0⟩ from rfl, dd_ldi, lin_cons, show (⟨3, 2, (pl : Int), (n : Int)⟩ : Ins) = ⟨3, ((2 : Nat) : Int), (pl : Int), (n : Int)⟩ from rfl, dd_ld]
   dsimp only
   rw [upd_other _ 6 pl _ hpl, ep, ea, e1, lin_cons]
   generalize hs2 : ({ r := upd (upd s1.r (6 : Nat) 0) (2 : Nat) (s.mem (a + n)), mem := s1.mem, c := s1.c, z := s1.z, n := s1.n, v := s1.v } : Rv) = s2
   have f1 : s2.r = upd (upd s1.r 6 0) 2 (s.mem (a + n)) := by rw [← hs2]
   have f2 : s2.mem = s1.mem := by rw [← hs2]
   have f3 : s2.c = s1.c := by rw [← hs2]
   have g1 : s2.r 6 = 0 := by rw [f1, upd_other _ _ _ _ (by omega), upd_same]
   have g2 : s2.r 2 = s.mem (a + n) := by rw [f1, upd_same]
   obtain ⟨d1, d2, d3⟩ := dd_dif s2 (if n = 0 then 7 else 8) 6 2 (by split <;> omega)
   have ec : (if (if n = 0 then (7 : Int) else 8) = 7 then false else s2.c) = (if n = 0 then false else s1.c) := by
     by_cases e : n = 0
     · rw [if_pos e, if_pos rfl, if_pos e]
     · rw [if_neg e, if_neg (by decide), if_neg e, f3]
   rw [ec, g1, g2] at d1 d3
   have w0 : wd 0 := ⟨by decide, by decide⟩
   have sm := dif_is (if n = 0 then false else s1.c) w0 hy
   rw [← d3] at sm
   rw [show (⟨if n = 0 then 7 else 8, 6, 2, 0⟩ : Ins) = ⟨if n = 0 then 7 else 8, ((6 : Nat) : Int), ((2 : Nat) : Int), 0⟩ from rfl]
   generalize s2.dd ⟨if n = 0 then 7 else 8, ((6 : Nat) : Int), ((2 : Nat) : Int), 0⟩ = s3 at *
   have eo : oi (if n = 0 then false else s1.c) = (if n = 0 then 0 else oi s1.c) := by split <;> rfl
   rw [eo] at sm
   have hnew : wd (lw (dift 0 (s.mem (a + n)) (if n = 0 then false else s1.c))) := lw_wd _
   generalize lw (dift 0 (s.mem (a + n)) (if n = 0 then false else s1.c)) = y at *
   have r6 : s3.r 6 = y := by rw [d1, upd_same]
   have rp : s3.r pl = (a : Int) := by rw [d1, upd_other _ _ _ _ hpl, f1, upd_other _ _ _ _ hpl2, upd_other _ _ _ _ hpl, ep]
   rw [lin_one, show (⟨4, (pl : Int), 6, (n : Int)⟩ : Ins) = ⟨4, (pl : Int), ((6 : Nat) : Int), (n : Int)⟩ from rfl, dd_st, rp, ea, r6, d2, f2]
   refine ⟨?_, fun j hj6 hj2 => ?_, fun j hj => ?_, ?_, upd_wda h5 hnew⟩
   · rw [if_neg (by omega)]
     unfold mnu at *
     rw [nu, nu]
     dsimp only
     rw [upd_same]
     have e2 : nu n (fun i => upd s1.mem (a + n) y (a + i)) = nu n (fun i => s1.mem (a + i)) := nu_congr fun i hi => upd_other _ _ _ _ (by omega)
     rw [e2, Int.pow_succ]
     generalize (if n = 0 then 0 else oi s1.c) = cv at *
     generalize oi s3.c = c3 at *
     generalize s.mem (a + n) = z at *
     grind
   · show s3.r j = _
     rw [d1, upd_other _ _ _ _ hj6, f1, upd_other _ _ _ _ hj2, upd_other _ _ _ _ hj6]; exact h2 j hj6 hj2
   · show upd s1.mem (a + n) y j = _
     rw [upd_other _ _ _ _ (by omega)]; exact h3 j (by omega)
   · show ∀ j, j < 8 → wd (s3.r j)
     rw [d1, f1]
     exact upd_wd (upd_wd (upd_wd h4 w0) hy) hnew
end Go.Proofs.YtlkoidkdeopgjaaGreatDoor
namespace Go.Proofs.YtlkoidkdeopgjaaGreatDoor
open Go.RowKit
set_option linter.unusedSimpArgs false
set_option linter.unusedVariables false
def Lie (Pr : List Ins) (pc : Int) (l : List Ins) : Prop := ∃ pre post, Pr = pre ++ (l ++ post) ∧ wln pre = pc
theorem Lie.left {Pr : List Ins} {pc : Int} {l k : List Ins} (h : Lie Pr pc (l ++ k)) : Lie Pr pc l := by
 obtain ⟨a, b, e, f⟩ := h; exact ⟨a, k ++ b, by rw [e]; simp, f⟩
theorem Lie.right {Pr : List Ins} {pc : Int} {l k : List Ins} (h : Lie Pr pc (l ++ k)) : Lie Pr (pc + wln l) k := by
 obtain ⟨a, b, e, f⟩ := h; exact ⟨a ++ l, b, by rw [e]; simp, by rw [wl_app, f]⟩
theorem Lie.bd {Pr : List Ins} {pc : Int} {l : List Ins} (h : Lie Pr pc l) : 0 ≤ pc ∧ pc + wln l ≤ wln Pr := by
 obtain ⟨a, b, e, f⟩ := h
 have h1 := wl_pos a
 have h2 := wl_pos b
 rw [e, wl_app, wl_app]
 omega
def Fro (Pr : List Ins) (s : Rv) (pc : Int) (K : Nat) (s' : Rv) (pc' : Int) : Prop := ∃ k, k ≤ K ∧ ∀ t : Int, Goes (Pr.flatMap ws) (s.ma pc t) k (s'.ma pc' (t + (k : Nat)))
theorem Fro.refl (Pr : List Ins) (s : Rv) (pc : Int) : Fro Pr s pc 0 s pc := ⟨0, Nat.le_refl _, fun t => by rw [show t + ((0 : Nat) : Int) = t by omega]; exact Goes.refl _ _⟩
theorem Fro.trans {Pr : List Ins} {s s1 s2 : Rv} {pc p1 p2 : Int} {K L : Nat} (h : Fro Pr s pc K s1 p1) (g : Fro Pr s1 p1 L s2 p2) : Fro Pr s pc (K + L) s2 p2 := by
 obtain ⟨k, hk, h⟩ := h
 obtain ⟨l, hl, g⟩ := g
 refine ⟨k + l, by omega, fun t => ?_⟩
 have := (h t).trans (g (t + (k : Nat)))
 rw [show t + ((k + l : Nat) : Int) = t + (k : Nat) + (l : Nat) by omega]
 exact this
theorem Fro.le {Pr : List Ins} {s s1 : Rv} {pc p1 : Int} {K L : Nat} (h : Fro Pr s pc K s1 p1) (hK : K ≤ L) : Fro Pr s pc L s1 p1 := by
 obtain ⟨k, hk, h⟩ := h; exact ⟨k, Nat.le_trans hk hK, h⟩
theorem Fro.at {Pr : List Ins} {s s1 : Rv} {pc p1 p2 : Int} {K : Nat} (h : Fro Pr s pc K s1 p1) (e : p1 = p2) : Fro Pr s pc K s1 p2 := by subst e; exact h
theorem fro_line {Pr l : List Ins} {pc : Int} (hl : wln Pr ≤ 65535) (h : Lie Pr pc l) (ho : okL l = true) (s : Rv) : Fro Pr s pc l.length (s.lin l) (pc + wln l) := by
 obtain ⟨a, b, e, f⟩ := h
 refine ⟨l.length, Nat.le_refl _, fun t => ?_⟩
 have g := goes_line l a b ho (by rw [← e]; exact hl) s t
 rw [← e, f, wl_app, f] at g
 exact g
theorem wl_one (i : Ins) : wln [i] = lng i.o := by have := wl_snoc [] i; rw [wl_nil] at this; simpa using this
theorem rgt_jmp {o m : Int} (h1 : 19 ≤ o) (h2 : o ≤ 26) (m0 : 0 ≤ m) (m1 : m ≤ 65535) : rgt ⟨o, 0, 0, m⟩ = true := by
 have a : hD o = false := by unfold hD; simp only [decide_eq_false_iff_not]; omega
 have b : hS o = false := by unfold hS; simp only [decide_eq_false_iff_not]; omega
 have c : hI o = true := by unfold hI; simp only [decide_eq_true_eq]; omega
 unfold rgt
 simp only [decide_eq_true_eq]
 refine ⟨wr_of (by show 0 ≤ o; omega) (by show o ≤ 32; omega) (fun h => by rw [a] at h; cases h) (fun h => by rw [b] at h; cases h) (fun _ => ⟨m0, m1⟩), ?_, ?_, ?_⟩
 · show (if hD o = true then (0 : Int) else 0) = 0; simp
 · show (if hS o = true then (0 : Int) else 0) = 0; simp
 · show (if hI o = true then m else 0) = m; rw [if_pos c]
theorem lng_jmp {o : Int} (h1 : 19 ≤ o) (h2 : o ≤ 26) : lng o = 2 := by
 unfold lng; rw [if_pos]; unfold hI; simp only [decide_eq_true_eq]; omega
theorem wl_jmp {o m : Int} (h1 : 19 ≤ o) (h2 : o ≤ 26) : wln [⟨o, 0, 0, m⟩] = 2 := by rw [wl_one]; exact lng_jmp h1 h2
theorem fro_jump {Pr : List Ins} {pc o m : Int} (hl : wln Pr ≤ 65535) (h : Lie Pr pc [⟨o, 0, 0, m⟩]) (h1 : 19 ≤ o) (h2 : o ≤ 25) (m0 : 0 ≤ m) (m1 : m ≤ 65535) (s : Rv) : Fro Pr s pc 1 s (if s.jps o = true then m else pc + 2) := by
 obtain ⟨a, b, e, f⟩ := h
 refine ⟨1, Nat.le_refl _, fun t => ?_⟩
 have g := goes_jump a b ⟨o, 0, 0, m⟩ (rgt_jmp h1 (by omega) m0 m1) h1 h2 (by rw [show a ++ (⟨o, 0, 0, m⟩ : Ins) :: b = Pr by rw [e]; rfl]; exact hl) s t
 rw [show a ++ (⟨o, 0, 0, m⟩ : Ins) :: b = Pr by rw [e]; rfl, wl_snoc, f, lng_jmp h1 (by show o ≤ 26; omega)] at g
 exact g
theorem fro_call {Pr : List Ins} {pc m : Int} (hl : wln Pr ≤ 65535) (h : Lie Pr pc [⟨26, 0, 0, m⟩]) (m0 : 0 ≤ m) (m1 : m ≤ 65535) (s : Rv) : Fro Pr s pc 1 (s.psh (pc + 2)) m := by
 obtain ⟨a, b, e, f⟩ := h
 refine ⟨1, Nat.le_refl _, fun t => ?_⟩
 have g := goes_call a b m (rgt_jmp (by decide) (by decide) m0 m1) (by rw [show a ++ (⟨26, 0, 0, m⟩ : Ins) :: b = Pr by rw [e]; rfl]; exact hl) s t
 rw [show a ++ (⟨26, 0, 0, m⟩ : Ins) :: b = Pr by rw [e]; rfl, wl_snoc, f] at g
 exact g
theorem fro_ret {Pr : List Ins} {pc : Int} (hl : wln Pr ≤ 65535) (h : Lie Pr pc [⟨27, 0, 0, 0⟩]) (s : Rv) : Fro Pr s pc 1 s.pop (s.mem (s.r 7).toNat) := by
 obtain ⟨a, b, e, f⟩ := h
 refine ⟨1, Nat.le_refl _, fun t => ?_⟩
 have g := goes_ret a b (by decide) (by rw [show a ++ (⟨27, 0, 0, 0⟩ : Ins) :: b = Pr by rw [e]; rfl]; exact hl) s t
 rw [show a ++ (⟨27, 0, 0, 0⟩ : Ins) :: b = Pr by rw [e]; rfl, f] at g
 exact g
structure Lq (n S p : Nat) (M : Nat → Int) (c : Nat) (H C A : Int) (s : Rv) : Prop where
 r0 : s.r 0 = (p : Int)
 r1 : s.r 1 = 1
 r7 : s.r 7 = (S : Int)
 w : rw8 s
 m : mw s
 cnt : s.mem S = (c : Int)
 hand : hnd s n = H
 copy : mnu s (S + 1) n = C
 a : mnu s p n = A
 rest : ∀ j, ¬ (p ≤ j ∧ j < p + n) → ¬ (S ≤ j ∧ j < S + 1 + n) → s.mem j = M j
def cntI : List Ins := [⟨3, 6, 7, 0⟩, ⟨7, 6, 1, 0⟩, ⟨4, 7, 6, 0⟩]
theorem hnd_congr {s s' : Rv} {n : Nat} (h : ∀ j, 2 ≤ j → j < 2 + n → s'.r j = s.r j) : hnd s' n = hnd s n := nu_congr fun i hi => h _ (by omega) (by omega)
theorem mnu_congr {s s' : Rv} {a n : Nat} (h : ∀ j, a ≤ j → j < a + n → s'.mem j = s.mem j) : mnu s' a n = mnu s a n := nu_congr fun i hi => h _ (by omega) (by omega)
theorem cnt_blk {n S p c : Nat} {M : Nat → Int} {H C A : Int} {s : Rv} (hn : n ≤ 4) (hS : S + 1 + n ≤ 65536) (hap : p + n ≤ S ∨ S + 1 + n ≤ p) (hc : c + 1 ≤ 64) (h : Lq n S p M (c + 1) H C A s) : Lq n S p M c H C A (s.lin cntI) ∧ (s.lin cntI).z = decide (c = 0) := by
 unfold cntI
 rw [lin_cons, lin_cons, lin_one, show (⟨3, 6, 7, 0⟩ : Ins) = ⟨3, ((6 : Nat) : Int), ((7 : Nat) : Int), 0⟩ from rfl, dd_ld]
 have ea : (lw (s.r 7 + 0)).toNat = S := by rw [h.r7]; unfold lw; omega
 rw [ea, h.cnt]
 generalize hs1 : ({ r := upd s.r (6 : Nat) ((c + 1 : Nat) : Int), mem := s.mem, c := s.c, z := s.z, n := s.n, v := s.v } : Rv) = s1
 have f1 : s1.r = upd s.r 6 ((c + 1 : Nat) : Int) := by rw [← hs1]
 have f2 : s1.mem = s.mem := by rw [← hs1]
 have g6 : s1.r 6 = ((c + 1 : Nat) : Int) := by rw [f1, upd_same]
 have g1 : s1.r 1 = 1 := by rw [f1, upd_other _ _ _ _ (by omega), h.r1]
 obtain ⟨d1, d2, -⟩ := dd_dif s1 7 6 1 (.inl rfl)
 have dz : (s1.dd ⟨7, ((6 : Nat) : Int), ((1 : Nat) : Int), 0⟩).z = (lw (dift (s1.r 6) (s1.r 1) false) == 0) := rfl
 rw [if_pos rfl, g6, g1] at d1
 rw [g6, g1] at dz
 have e : lw (dift ((c + 1 : Nat) : Int) 1 false) = (c : Int) := by unfold dift oi lw; simp; omega
 rw [e] at d1 dz
 rw [show (⟨7, 6, 1, 0⟩ : Ins) = ⟨7, ((6 : Nat) : Int), ((1 : Nat) : Int), 0⟩ from rfl]
 generalize s1.dd ⟨7, ((6 : Nat) : Int), ((1 : Nat) : Int), 0⟩ = s2 at *
 have k7 : s2.r 7 = (S : Int) := by rw [d1, upd_other _ _ _ _ (by omega), f1, upd_other _ _ _ _ (by omega), h.r7]
 have k6 : s2.r 6 = (c : Int) := by rw [d1, upd_same]
 have ko : ∀ j, j ≠ 6 → s2.r j = s.r j := fun j hj => by rw [d1, upd_other _ _ _ _ hj, f1, upd_other _ _ _ _ hj]
 have eb : (lw (s2.r 7 + 0)).toNat = S := by rw [k7]; unfold lw; omega
 rw [show (⟨4, 7, 6, 0⟩ : Ins) = ⟨4, ((7 : Nat) : Int), ((6 : Nat) : Int), 0⟩ from rfl, dd_st, eb, k6, d2, f2]
 have mm : ∀ j, j ≠ S → upd s.mem S (c : Int) j = s.mem j := fun j hj => upd_other _ _ _ _ hj
 refine ⟨⟨?_, ?_, k7, ?_, ?_, ?_, ?_, ?_, ?_, ?_⟩, ?_⟩
 · show s2.r 0 = _; rw [ko 0 (by omega), h.r0]
 · show s2.r 1 = _; rw [ko 1 (by omega), h.r1]
 · intro j hj
   show wd (s2.r j)
   by_cases e6 : j = 6
   · subst e6; rw [k6]; unfold wd; omega
   · rw [ko j e6]; exact h.w j hj
 · exact upd_wda h.m (by unfold wd; omega)
 · show upd s.mem S (c : Int) S = _; rw [upd_same]
 · rw [← h.hand]; exact hnd_congr fun j h1 h2 => ko j (by omega)
 · rw [← h.copy]; exact mnu_congr fun j h1 h2 => mm j (by omega)
 · rw [← h.a]; exact mnu_congr fun j h1 h2 => mm j (by omega)
 · intro j h1 h2
   show upd s.mem S (c : Int) j = _
   rw [mm j (by omega)]
   exact h.rest j h1 h2
 · show s2.z = _
   rw [dz]
   by_cases e0 : c = 0
   · subst e0; rfl
   · rw [decide_eq_false e0]
     exact beq_eq_false_iff_ne.2 (by omega)
theorem cnt_ok : okL cntI = true := by decide
theorem cnt_wl : wln cntI = 5 := by decide
theorem bit_loop {Pr : List Ins} {n S p N K : Nat} {M : Nat → Int} {B NX : Int} (hl : wln Pr ≤ 65535) (hn : n ≤ 4) (hS : S + 1 + n ≤ 65536) (hap : p + n ≤ S ∨ S + 1 + n ≤ p) (hN : N ≤ 64) (hN1 : 1 ≤ N) (hC : Lie Pr NX (cntI ++ [⟨21, 0, 0, B⟩])) (hB0 : 0 ≤ B) (hB1 : B ≤ 65535) (P : Nat → Int → Int → Int → Prop)
   (body : ∀ j s H C A, j < N → P j H C A → Lq n S p M (N - j) H C A s → ∃ s' H' C' A', Fro Pr s B K s' NX ∧ Lq n S p M (N - j) H' C' A' s' ∧ P (j + 1) H' C' A') :
   ∀ (j : Nat) (s : Rv) (H C A : Int), j < N → P j H C A → Lq n S p M (N - j) H C A s → ∃ s' H' C' A', Fro Pr s B ((N - j) * (K + 4)) s' (NX + 7) ∧ Lq n S p M 0 H' C' A' s' ∧ P N H' C' A' := by
 have go : ∀ (c j : Nat) (s : Rv) (H C A : Int), N - j = c + 1 → P j H C A → Lq n S p M (N - j) H C A s → ∃ s' H' C' A', Fro Pr s B ((N - j) * (K + 4)) s' (NX + 7) ∧ Lq n S p M 0 H' C' A' s' ∧ P N H' C' A' := by
   intro c
   induction c with
   | zero =>
     intro j s H C A e hP h
     obtain ⟨s1, H1, C1, A1, g1, h1, P1⟩ := body j s H C A (by omega) hP h
     rw [e] at h1 ⊢
     obtain ⟨h2, z2⟩ := cnt_blk hn hS hap (by omega) h1
     have g2 := fro_line hl hC.left cnt_ok s1
     have g3 := fro_jump hl hC.right (by decide) (by decide) hB0 hB1 (s1.lin cntI)
     have hj : ¬ (s1.lin cntI).jps 21 = true := by show ¬ (!(s1.lin cntI).z) = true; rw [z2]; simp
     rw [if_neg hj, cnt_wl] at g3
     rw [cnt_wl] at g2
     have e1 : j + 1 = N := by omega
     rw [e1] at P1
     refine ⟨_, _, _, _, Fro.at (Fro.le ((g1.trans g2).trans g3) ?_) (by omega), h2, P1⟩
     show K + 3 + 1 ≤ _
     omega
   | succ c ih =>
     intro j s H C A e hP h
     obtain ⟨s1, H1, C1, A1, g1, h1, P1⟩ := body j s H C A (by omega) hP h
     rw [e] at h1
     obtain ⟨h2, z2⟩ := cnt_blk hn hS hap (by omega) h1
     have g2 := fro_line hl hC.left cnt_ok s1
     have g3 := fro_jump hl hC.right (by decide) (by decide) hB0 hB1 (s1.lin cntI)
     have hj : (s1.lin cntI).jps 21 = true := by show (!(s1.lin cntI).z) = true; rw [z2]; simp
     rw [if_pos hj] at g3
     rw [show c + 1 = N - (j + 1) by omega] at h2
     obtain ⟨s', H', C', A', g4, h4, P4⟩ := ih (j + 1) _ H1 C1 A1 (by omega) P1 h2
     refine ⟨s', H', C', A', Fro.le (((g1.trans g2).trans g3).trans g4) ?_, h4, P4⟩
     show K + 3 + 1 + _ ≤ _
     rw [show N - j = (N - (j + 1)) + 1 by omega, Nat.add_mul]
     omega
 intro j s H C A hj hP h
 exact go (N - j - 1) j s H C A (by omega) hP h
end Go.Proofs.YtlkoidkdeopgjaaGreatDoor
namespace Go.Proofs.YtlkoidkdeopgjaaGreatDoor
open Go.RowKit
set_option linter.unusedSimpArgs false
set_option linter.unusedVariables false
theorem Lq.bd {n S p c : Nat} {M : Nat → Int} {H C A : Int} {s : Rv} (hn : n ≤ 4) (h : Lq n S p M c H C A s) : (0 ≤ H ∧ H < 65536 ^ n) ∧ (0 ≤ C ∧ C < 65536 ^ n) ∧ (0 ≤ A ∧ A < 65536 ^ n) := by
 refine ⟨?_, ?_, ?_⟩
 · rw [← h.hand]; exact nu_bd fun i hi => h.w _ (by omega)
 · rw [← h.copy]; exact nu_bd fun i hi => h.m _
 · rw [← h.a]; exact nu_bd fun i hi => h.m _
def perI (n : Nat) : List Ins := puB n n ++ ([⟨2, 6, 0, ((16 * n : Nat) : Int)⟩, ⟨28, 0, 6, 0⟩, ⟨2, 1, 0, 1⟩] ++ clH n)
theorem nu_nought {f : Nat → Int} : ∀ {n : Nat}, (∀ i, i < n → f i = 0) → nu n f = 0
 | 0, _ => rfl
 | n + 1, h => by rw [nu, nu_nought (n := n) fun i hi => h i (by omega), h n (by omega)]; simp
theorem per_blk {n S p q : Nat} {s : Rv} (hn : n ≤ 4) (hS : S + 1 + n ≤ 65535) (h0 : s.r 0 = (p : Int)) (h1 : s.r 1 = (q : Int)) (h7 : s.r 7 = ((S + 1 + n : Nat) : Int)) (hw : rw8 s) (hm : mw s) (hq : q + n ≤ 65536) (hqS : q + n ≤ S + 1 ∨ S + 1 + n ≤ q) (hp : p + n ≤ S ∨ S + 1 + n ≤ p) :
   Lq n S p s.mem (16 * n) 0 (mnu s q n) (mnu s p n) (s.lin (perI n)) := by
 obtain ⟨a1, a2, a3, a4, a5⟩ := pu_blk s q (S + 1 + n) n h1 h7 hS hw hm hq (by omega) (by omega) n (Nat.le_refl _)
 unfold perI
 rw [lin_append, lin_append]
 generalize s.lin (puB n n) = s1 at *
 rw [lin_cons, lin_cons, lin_one, show (⟨2, 6, 0, ((16 * n : Nat) : Int)⟩ : Ins) = ⟨2, ((6 : Nat) : Int), 0, ((16 * n : Nat) : Int)⟩ from rfl, dd_ldi, show (⟨28, 0, 6, 0⟩ : Ins) = ⟨28, 0, ((6 : Nat) : Int), 0⟩ from rfl, dd_push, show (⟨2, 1, 0, 1⟩ : Ins) = ⟨2, ((1 : Nat) : Int), 0, 1⟩ from rfl, dd_ldi]
 unfold Rv.psh
 dsimp only
 rw [upd_same, upd_other _ 6 7 _ (by omega), a1]
 have el : lw (((S + 1 + n - n : Nat) : Int) - 1) = (S : Int) := by unfold lw; omega
 rw [el, Int.toNat_natCast]
 generalize hs2 : ({ r := upd (upd (upd s1.r (6 : Nat) ((16 * n : Nat) : Int)) 7 (S : Int)) (1 : Nat) 1, mem := upd s1.mem S ((16 * n : Nat) : Int), c := s1.c, z := s1.z, n := s1.n, v := s1.v } : Rv) = s2
 have f1 : s2.r = upd (upd (upd s1.r 6 ((16 * n : Nat) : Int)) 7 (S : Int)) 1 1 := by rw [← hs2]
 have f2 : s2.mem = upd s1.mem S ((16 * n : Nat) : Int) := by rw [← hs2]
 obtain ⟨b1, b2⟩ := cl_blk s2 n hn
 generalize s2.lin (clH n) = s3 at *
 have w16 : wd ((16 * n : Nat) : Int) := by unfold wd; omega
 have wS : wd (S : Int) := by unfold wd; omega
 have w1 : wd 1 := ⟨by decide, by decide⟩
 have w0 : wd 0 := ⟨by decide, by decide⟩
 have hw2 : ∀ j, j < 8 → wd (s2.r j) := by rw [f1]; exact upd_wd (upd_wd (upd_wd a4 w16) wS) w1
 have hm2 : ∀ j, wd (s2.mem j) := by rw [f2]; exact upd_wda a5 w16
 refine ⟨?_, ?_, ?_, ?_, ?_, ?_, ?_, ?_, ?_, ?_⟩
 · rw [b1, if_neg (by omega), f1, upd_other _ _ _ _ (by omega), upd_other _ _ _ _ (by omega), upd_other _ _ _ _ (by omega), a2 0 (by omega) (by omega), h0]
 · rw [b1, if_neg (by omega), f1, upd_same]
 · rw [b1, if_neg (by omega), f1, upd_other _ _ _ _ (by omega), upd_same]
 · intro j hj
   rw [b1]
   split
   · exact w0
   · exact hw2 j hj
 · intro j; rw [b2]; exact hm2 j
 · rw [b2, f2, upd_same]
 · exact nu_nought fun i hi => by rw [b1, if_pos (by omega)]
 · unfold mnu
   refine nu_congr fun i hi => ?_
   rw [b2, f2, upd_other _ _ _ _ (by omega), a3, if_pos (by omega)]
   congr 1
   omega
 · refine mnu_congr fun j j1 j2 => ?_
   rw [b2, f2, upd_other _ _ _ _ (by omega), a3, if_neg (by omega)]
 · intro j j1 j2
   rw [b2, f2, upd_other _ _ _ _ (by omega), a3, if_neg (by omega)]
def drpI (k : Nat) : List Ins := [⟨2, 6, 0, (k : Int)⟩, ⟨5, 7, 6, 0⟩]
theorem drp_blk (k : Nat) (s : Rv) (S : Nat) (h7 : s.r 7 = (S : Int)) (hS : S + k ≤ 65535) (hw : rw8 s) : (s.lin (drpI k)).r 7 = ((S + k : Nat) : Int) ∧ (∀ j, j ≠ 6 → j ≠ 7 → (s.lin (drpI k)).r j = s.r j) ∧ (s.lin (drpI k)).mem = s.mem ∧ rw8 (s.lin (drpI k)) := by
 unfold drpI
 rw [lin_cons, lin_one, show (⟨2, 6, 0, (k : Int)⟩ : Ins) = ⟨2, ((6 : Nat) : Int), 0, (k : Int)⟩ from rfl, dd_ldi]
 generalize hs2 : ({ r := upd s.r (6 : Nat) (k : Int), mem := s.mem, c := s.c, z := s.z, n := s.n, v := s.v } : Rv) = s2
 have f1 : s2.r = upd s.r 6 (k : Int) := by rw [← hs2]
 have f2 : s2.mem = s.mem := by rw [← hs2]
 obtain ⟨d1, d2, -⟩ := dd_sum s2 5 7 6 (.inl rfl)
 rw [if_pos rfl] at d1
 rw [show (⟨5, 7, 6, 0⟩ : Ins) = ⟨5, ((7 : Nat) : Int), ((6 : Nat) : Int), 0⟩ from rfl]
 have g7 : s2.r 7 = (S : Int) := by rw [f1, upd_other _ _ _ _ (by omega), h7]
 have g6 : s2.r 6 = (k : Int) := by rw [f1, upd_same]
 rw [g7, g6] at d1
 have e : lw (sumt (S : Int) (k : Int) false) = ((S + k : Nat) : Int) := by unfold sumt oi lw; simp; omega
 rw [e] at d1
 generalize s2.dd ⟨5, ((7 : Nat) : Int), ((6 : Nat) : Int), 0⟩ = s3 at *
 refine ⟨by rw [d1, upd_same], fun j h6 h7 => by rw [d1, upd_other _ _ _ _ h7, f1, upd_other _ _ _ _ h6], by rw [d2, f2], ?_⟩
 show ∀ j, j < 8 → wd (s3.r j)
 rw [d1, f1]
 exact upd_wd (upd_wd hw (by unfold wd; omega)) (by unfold wd; omega)
structure Did (n p S D : Nat) (X : Int) (s s' : Rv) : Prop where
 r7 : s'.r 7 = ((S + 1 : Nat) : Int)
 w : rw8 s'
 m : mw s'
 a : mnu s' p n = X
 rest : ∀ j, ¬ (p ≤ j ∧ j < p + n) → ¬ (S - D ≤ j ∧ j < S) → s'.mem j = s.mem j
theorem two_pow16 (n : Nat) : (2 : Int) ^ (16 * n) = 65536 ^ n := by
 rw [Int.pow_mul]; rfl
theorem fin_ok (n : Nat) (hn : n ≤ 4) : okL (perI n) = true ∧ okL (drpI (1 + n) ++ stH n) = true ∧ (perI n).length ≤ 15 ∧ (drpI (1 + n) ++ stH n).length ≤ 6 ∧ okL (drpI (1 + n)) = true := by
 have : ∀ n, n < 5 → okL (perI n) = true ∧ okL (drpI (1 + n) ++ stH n) = true ∧ (perI n).length ≤ 15 ∧ (drpI (1 + n) ++ stH n).length ≤ 6 ∧ okL (drpI (1 + n)) = true := by decide
 exact this n (by omega)
theorem fin_blk {n S p : Nat} {M : Nat → Int} {H C A : Int} {s : Rv} (hn : n ≤ 4) (hS : S + 1 + n ≤ 65535) (hpn : p + n ≤ 65536) (hap : p + n ≤ S ∨ S + 1 + n ≤ p) (h : Lq n S p M 0 H C A s) : (s.lin (drpI (1 + n) ++ stH n)).r 7 = ((S + 1 + n : Nat) : Int) ∧ rw8 (s.lin (drpI (1 + n) ++ stH n)) ∧ mw (s.lin (drpI (1 + n) ++ stH n)) ∧ mnu (s.lin (drpI (1 + n) ++ stH n)) p n = H ∧ (∀ j, ¬ (p ≤ j ∧ j < p + n) → ¬ (S ≤ j ∧ j < S + 1 + n) → (s.lin (drpI (1 + n) ++ stH n)).mem j = M j) := by
 rw [lin_append]
 obtain ⟨d1, d2, d3, d4⟩ := drp_blk (1 + n) s S h.r7 (by omega) h.w
 generalize s.lin (drpI (1 + n)) = s1 at *
 obtain ⟨t1, t2⟩ := st_blk s1 p (by rw [d2 0 (by omega) (by omega), h.r0]) n hn hpn
 generalize s1.lin (stH n) = s2 at *
 refine ⟨by rw [t2, d1]; congr 1; omega, by unfold rw8; rw [t2]; exact d4, fun j => ?_, ?_, fun j j1 j2 => ?_⟩
 · rw [t1]
   split
   · exact d4 _ (by omega)
   · rw [d3]; exact h.m j
 · rw [← h.hand]
   refine nu_congr fun i hi => ?_
   rw [t1, if_pos (by omega), d2 _ (by omega) (by omega)]
   congr 1
   omega
 · rw [t1, if_neg j1, d3]; exact h.rest j j1 j2
theorem pop_did {n p S : Nat} {X : Int} {s s1 : Rv} (hn : n ≤ 4) (hS : S + 1 + n ≤ 65534) (h7 : s1.r 7 = ((S + 1 + n : Nat) : Int)) (hw : rw8 s1) (hm : mw s1) (ha : mnu s1 p n = X) (hr : ∀ j, ¬ (p ≤ j ∧ j < p + n) → ¬ (S ≤ j ∧ j < S + 1 + n) → s1.mem j = s.mem j) : Did n p (S + 1 + n) (1 + n) X s s1.pop := by
 refine ⟨?_, ?_, hm, ha, fun j j1 j2 => hr j j1 (by omega)⟩
 · show upd s1.r 7 (lw (s1.r 7 + 1)) 7 = _
   rw [upd_same, h7]; unfold lw; omega
 · exact upd_wd hw (lw_wd _)
end Go.Proofs.YtlkoidkdeopgjaaGreatDoor
