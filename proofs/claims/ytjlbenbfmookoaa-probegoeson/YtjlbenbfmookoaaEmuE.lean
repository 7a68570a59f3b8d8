/-
  Shifts.
-/
import Derived.Test.YtjlbenbfmookoaaEmuC
namespace Go.Proofs.Ytjlbenbfmookoaa
open Go.RowKit
set_option linter.unusedSimpArgs false
set_option linter.unusedVariables false
variable {X : Sd}

theorem or_i64 (i : Nat) (x y : Int) (hx : 0 ≤ x) (hx' : x ≤ 65535) (hd : x % 2 ^ i = 0) (hy : 0 ≤ y) (hy' : y < 2 ^ i) (hy2 : y ≤ 65535) : bits .or .i64 x y = x + y := by
  have e : bits .or .i64 x y = IntKind.i64.wrap (((BitVec.ofInt 64 x ||| BitVec.ofInt 64 y).toNat : Nat) : Int) := rfl
  obtain ⟨a, rfl⟩ : ∃ a : Nat, x = a := ⟨x.toNat, by omega⟩
  obtain ⟨b, rfl⟩ : ∃ b : Nat, y = b := ⟨y.toNat, by omega⟩
  have ha : a % 2 ^ i = 0 := by exact_mod_cast hd
  have hb : b < 2 ^ i := by exact_mod_cast hy'
  obtain ⟨c, rfl⟩ : ∃ c, a = 2 ^ i * c := ⟨a / 2 ^ i, by have := Nat.div_add_mod a (2 ^ i); omega⟩
  have f1 : (BitVec.ofInt 64 ((2 ^ i * c : Nat) : Int)).toNat = 2 ^ i * c := by rw [BitVec.toNat_ofInt]; generalize 2 ^ i * c = z at *; omega
  have f2 : (BitVec.ofInt 64 ((b : Nat) : Int)).toNat = b := by rw [BitVec.toNat_ofInt]; omega
  rw [e, BitVec.toNat_or, f1, f2, ← Nat.two_pow_add_eq_or_of_lt hb, IntKind.wrap_i64]
  generalize 2 ^ i * c = z at *
  omega
theorem and1_i64 (x : Int) : bits .and .i64 x 1 = x % 2 := by
  have e : bits .and .i64 x 1 = IntKind.i64.wrap (((BitVec.ofInt 64 x &&& BitVec.ofInt 64 1).toNat : Nat) : Int) := rfl
  have f : (BitVec.ofInt 64 1).toNat = 2 ^ 1 - 1 := by decide
  rw [e, BitVec.toNat_and, f, Nat.and_two_pow_sub_one_eq_mod, BitVec.toNat_ofInt, IntKind.wrap_i64]
  omega
theorem upb_b (x : Int) (hx : wd x) (c : Bool) : wd (upb x (oi c)) := by unfold wd upb oi at *; split <;> omega
theorem dnb_b (x : Int) (hx : wd x) (i : Int) (h0 : 0 ≤ i) (h1 : i ≤ 1) : wd (dnb x i) := by unfold wd dnb at *; omega
theorem upb_eq (x : Int) (hx : wd x) (i : Int) (h0 : 0 ≤ i) (h1 : i ≤ 1) : bits .or .i64 (bits .and .i64 (x * 2) 65535) i = upb x i := by
  unfold wd at hx
  rw [and_i64, or_i64 1]
  all_goals first | rfl | omega | (unfold lw; omega)
theorem dnb_eq0 (x : Int) (hx : wd x) : bits .or .i64 (x / 2) 0 = dnb x 0 := by
  unfold wd at hx
  rw [or_i64 0]
  all_goals first | (unfold dnb; omega) | omega
theorem dnb_eq1 (x : Int) (hx : wd x) : bits .or .i64 (x / 2) 32768 = dnb x 1 := by
  unfold wd at hx
  have e : bits .or .i64 (x / 2) 32768 = bits .or .i64 32768 (x / 2) := by simp only [bits, BitVec.or_comm]
  rw [e, or_i64 15]
  all_goals first | (unfold dnb; omega) | omega

/-- What a shift of a kind makes, and whether a bit goes out. -/
def shr1 (o : Int) (x : Int) (c : Bool) : Int := if o = 14 then upb x 0 else if o = 15 then upb x (oi c) else if o = 16 then dnb x 0 else if o = 17 then dnb x (x / 32768) else dnb x (oi c)
def shr2 (o : Int) (x : Int) : Bool := if o ≤ 15 then x / 32768 == 1 else x % 2 == 1

set_option maxRecDepth 100000 in
set_option maxHeartbeats 1000000 in
theorem sh14 {w0 w : World} {p q : Nat} {vc vi vo : Value} {m : Ma} {xs bs : List Int} (h : Mach X w0 w p q vc vi vo m xs bs) (d s mm : Int) (hd : 0 ≤ d) (hd' : d ≤ 7) :
    Calls Try.prog 71 #[.pointer (some ⟨p, 0, none⟩), .agg #[.int .i64 14, .int .i64 d, .int .i64 s, .int .i64 mm]] w fun e w' => e = .returned (.tuple #[]) ∧ Mach X w0 w' p q vc vi vo (m.become d (upb (m.reg d) 0) (m.reg d / 32768 == 1)) xs bs := by
  have HM := hideI h
  have c0 := h.reg hd hd'
  obtain ⟨c8, -, -, -, -, -, -, -, -, -, -, -, -⟩ := h.at
  have fz := h.flat
  have hp := h.pw
  have hr := h.fine.reg hd hd'
  have HR := hideI hr
  unfold wd at hr
  have HV := hideI (upb_b _ (unhideI HR) false : wd (upb (m.reg d) 0))
  have a1 := and1_i64 (m.reg d)
  clear h
  have e1 := upb_eq (m.reg d) (unhideI HR) 0 (by decide) (by decide)
  go_enter Try.func71, Try.ntmps71
  go_wp2_with fail
  go_quiet (fail)
  go_wp2_with fail
  refine (become_any (((unhideI HM).new _).drewN _) _ _ _ hd hd' (unhideI HV)).mono ?_
  rintro e w1 ⟨rfl, M1⟩
  have HM1 := hideI M1
  clear M1
  go_wp2_with fail
  go_end0
  exact ⟨rfl, unhideI HM1⟩

set_option maxRecDepth 100000 in
set_option maxHeartbeats 1000000 in
theorem sh15 {w0 w : World} {p q : Nat} {vc vi vo : Value} {m : Ma} {xs bs : List Int} (h : Mach X w0 w p q vc vi vo m xs bs) (d s mm : Int) (hd : 0 ≤ d) (hd' : d ≤ 7) :
    Calls Try.prog 71 #[.pointer (some ⟨p, 0, none⟩), .agg #[.int .i64 15, .int .i64 d, .int .i64 s, .int .i64 mm]] w fun e w' => e = .returned (.tuple #[]) ∧ Mach X w0 w' p q vc vi vo (m.become d (upb (m.reg d) (oi m.c)) (m.reg d / 32768 == 1)) xs bs := by
  have HM := hideI h
  have c0 := h.reg hd hd'
  obtain ⟨c8, -, -, -, -, -, -, -, -, -, -, -, -⟩ := h.at
  have fz := h.flat
  have hp := h.pw
  have hr := h.fine.reg hd hd'
  have HR := hideI hr
  unfold wd at hr
  have HV := hideI (upb_b _ (unhideI HR) _ : wd (upb (m.reg d) (oi m.c)))
  have a1 := and1_i64 (m.reg d)
  clear h
  generalize hcc : m.c = cc at *
  cases cc
  all_goals
    have z0 : oi false = 0 := rfl
    have z1 : oi true = 1 := rfl
    simp only [z0, z1] at HV ⊢
    have e1 := upb_eq (m.reg d) (unhideI HR) 0 (by decide) (by decide)
    have e1' := upb_eq (m.reg d) (unhideI HR) 1 (by decide) (by decide)
    go_enter Try.func71, Try.ntmps71
    go_wp2_with fail
    go_quiet (fail)
    go_wp2_with fail
    refine (become_any (((unhideI HM).new _).drewN _) _ _ _ hd hd' (unhideI HV)).mono ?_
    rintro e w1 ⟨rfl, M1⟩
    have HM1 := hideI M1
    clear M1
    go_wp2_with fail
    go_end0
    exact ⟨rfl, unhideI HM1⟩

set_option maxRecDepth 100000 in
set_option maxHeartbeats 1000000 in
theorem sh16 {w0 w : World} {p q : Nat} {vc vi vo : Value} {m : Ma} {xs bs : List Int} (h : Mach X w0 w p q vc vi vo m xs bs) (d s mm : Int) (hd : 0 ≤ d) (hd' : d ≤ 7) :
    Calls Try.prog 71 #[.pointer (some ⟨p, 0, none⟩), .agg #[.int .i64 16, .int .i64 d, .int .i64 s, .int .i64 mm]] w fun e w' => e = .returned (.tuple #[]) ∧ Mach X w0 w' p q vc vi vo (m.become d (dnb (m.reg d) 0) (m.reg d % 2 == 1)) xs bs := by
  have HM := hideI h
  have c0 := h.reg hd hd'
  obtain ⟨c8, -, -, -, -, -, -, -, -, -, -, -, -⟩ := h.at
  have fz := h.flat
  have hp := h.pw
  have hr := h.fine.reg hd hd'
  have HR := hideI hr
  unfold wd at hr
  have HV := hideI (dnb_b _ (unhideI HR) _ (by decide) (by decide) : wd (dnb (m.reg d) 0))
  have a1 := and1_i64 (m.reg d)
  clear h
  have e1 := dnb_eq0 (m.reg d) (unhideI HR)
  go_enter Try.func71, Try.ntmps71
  go_wp2_with fail
  go_quiet (fail)
  go_wp2_with fail
  refine (become_any (((unhideI HM).new _).drewN _) _ _ _ hd hd' (unhideI HV)).mono ?_
  rintro e w1 ⟨rfl, M1⟩
  have HM1 := hideI M1
  clear M1
  go_wp2_with fail
  go_end0
  exact ⟨rfl, unhideI HM1⟩

set_option maxRecDepth 100000 in
set_option maxHeartbeats 1000000 in
theorem sh17 {w0 w : World} {p q : Nat} {vc vi vo : Value} {m : Ma} {xs bs : List Int} (h : Mach X w0 w p q vc vi vo m xs bs) (d s mm : Int) (hd : 0 ≤ d) (hd' : d ≤ 7) :
    Calls Try.prog 71 #[.pointer (some ⟨p, 0, none⟩), .agg #[.int .i64 17, .int .i64 d, .int .i64 s, .int .i64 mm]] w fun e w' => e = .returned (.tuple #[]) ∧ Mach X w0 w' p q vc vi vo (m.become d (dnb (m.reg d) (m.reg d / 32768)) (m.reg d % 2 == 1)) xs bs := by
  have HM := hideI h
  have c0 := h.reg hd hd'
  obtain ⟨c8, -, -, -, -, -, -, -, -, -, -, -, -⟩ := h.at
  have fz := h.flat
  have hp := h.pw
  have hr := h.fine.reg hd hd'
  have HR := hideI hr
  unfold wd at hr
  have HV := hideI (dnb_b _ (unhideI HR) _ (by omega) (by omega) : wd (dnb (m.reg d) (m.reg d / 32768)))
  have a1 := and1_i64 (m.reg d)
  rcases (show m.reg d / 32768 = 0 ∨ m.reg d / 32768 = 1 by omega) with ht | ht
  all_goals
    rw [ht] at HV ⊢
    clear h
    have e1 := dnb_eq0 (m.reg d) (unhideI HR)
    have e1' := dnb_eq1 (m.reg d) (unhideI HR)
    go_enter Try.func71, Try.ntmps71
    go_wp2_with fail
    go_quiet (fail)
    go_wp2_with fail
    refine (become_any (((unhideI HM).new _).drewN _) _ _ _ hd hd' (unhideI HV)).mono ?_
    rintro e w1 ⟨rfl, M1⟩
    have HM1 := hideI M1
    clear M1
    go_wp2_with fail
    go_end0
    exact ⟨rfl, unhideI HM1⟩

set_option maxRecDepth 100000 in
set_option maxHeartbeats 1000000 in
theorem sh18 {w0 w : World} {p q : Nat} {vc vi vo : Value} {m : Ma} {xs bs : List Int} (h : Mach X w0 w p q vc vi vo m xs bs) (d s mm : Int) (hd : 0 ≤ d) (hd' : d ≤ 7) :
    Calls Try.prog 71 #[.pointer (some ⟨p, 0, none⟩), .agg #[.int .i64 18, .int .i64 d, .int .i64 s, .int .i64 mm]] w fun e w' => e = .returned (.tuple #[]) ∧ Mach X w0 w' p q vc vi vo (m.become d (dnb (m.reg d) (oi m.c)) (m.reg d % 2 == 1)) xs bs := by
  have HM := hideI h
  have c0 := h.reg hd hd'
  obtain ⟨c8, -, -, -, -, -, -, -, -, -, -, -, -⟩ := h.at
  have fz := h.flat
  have hp := h.pw
  have hr := h.fine.reg hd hd'
  have HR := hideI hr
  unfold wd at hr
  have HV := hideI (dnb_b _ (unhideI HR) _ (oi_b _).1 (oi_b _).2 : wd (dnb (m.reg d) (oi m.c)))
  have a1 := and1_i64 (m.reg d)
  clear h
  generalize hcc : m.c = cc at *
  cases cc
  all_goals
    have z0 : oi false = 0 := rfl
    have z1 : oi true = 1 := rfl
    simp only [z0, z1] at HV ⊢
    have e1 := dnb_eq0 (m.reg d) (unhideI HR)
    have e1' := dnb_eq1 (m.reg d) (unhideI HR)
    go_enter Try.func71, Try.ntmps71
    go_wp2_with fail
    go_quiet (fail)
    go_wp2_with fail
    refine (become_any (((unhideI HM).new _).drewN _) _ _ _ hd hd' (unhideI HV)).mono ?_
    rintro e w1 ⟨rfl, M1⟩
    have HM1 := hideI M1
    clear M1
    go_wp2_with fail
    go_end0
    exact ⟨rfl, unhideI HM1⟩

end Go.Proofs.Ytjlbenbfmookoaa
