/-
  Writing: the numbers of a variable of all.
-/
import Derived.Test.YtbakhengcgclmaaGreatDoorSwT
namespace Go.Proofs.YtbakhengcgclmaaGreatDoor
open Go.RowKit Go.Great
set_option linter.unusedSimpArgs false
set_option linter.unusedVariables false

/-- The numbers of a variable. -/
def nuT (g : Gb) : List UInt8 := if 0 < g.size then [123] ++ shC g.init ++ [125] else shC g.init
theorem fiveW_at {w : World} {b : Nat} {x0 x1 x2 x3 x4 : Value} (h : Box w b [x0, x1, x2, x3, x4]) : w.cell? ⟨b, 0, none⟩ = some x0 ∧ w.cell? ⟨b, 1, none⟩ = some x1 ∧ w.cell? ⟨b, 2, none⟩ = some x2 ∧ w.cell? ⟨b, 3, none⟩ = some x3 ∧ w.cell? ⟨b, 4, none⟩ = some x4 :=
  ⟨h.2.1 0 _ rfl, h.2.1 1 _ rfl, h.2.1 2 _ rfl, h.2.1 3 _ rfl, h.2.1 4 _ rfl⟩
set_option maxRecDepth 100000 in
set_option maxHeartbeats 1000000 in
theorem wnumbers_any (g : Gb) (ka : Option Addr) (kc : Nat) (B b n mb : Nat) (t : List UInt8) (w : World) (h : Wz w B b (.map (some mb)) n t) (E : Env B b mb w) (hx : ExL B w (.slice ka g.init.length kc) g.init) (ho : ∀ x ∈ g.init, OkE x) (hl : t.length + (nuT g).length ≤ 1000000000000) :
    Calls Tryz.prog 27 #[.pointer (some ⟨b, 0, none⟩), .agg #[.int .i64 g.b, .bool g.s, .string g.nm, .int .i64 g.size, .slice ka g.init.length kc]] w fun e w' => e = .returned (.tuple #[]) ∧ Wz w' B b (.map (some mb)) n (t ++ nuT g) ∧ Wd B b w w' := by
  have hal := below_a w (.cells #[.int .i64 g.b, .bool g.s, .string g.nm, .int .i64 g.size, .slice ka g.init.length kc] 43)
  have BX := BoxT.new w #[.int .i64 g.b, .bool g.s, .string g.nm, .int .i64 g.size, .slice ka g.init.length kc] 43 (by decide)
  have hlt := h.lt
  have S0 := hideI (show Bn w _ B b n mb t from ⟨h.step hal, E.below hal, Wd.of hal E.le⟩)
  have XA := hideI (fun (W : World) (t' : List UInt8) (s : Bn w W B b n mb t') (hl' : t'.length + (shC g.init).length ≤ 1000000000000) => wexprs_any g.init (fun x hm => wexpr_any x (ho x hm)) B b n mb t' _ W s.z s.e (hx.step s.d.below) ho hl')
  clear h E hx ho
  unfold nuT at *
  by_cases hz : 0 < g.size
  · rw [if_pos hz] at hl ⊢
    have HL := hideI hl
    clear hl
    obtain ⟨-, -, -, c3, -⟩ := fiveW_at BX.box
    have hs0 := BX.lt
    have hb0 := (unhideI S0).z.lt
    have WB := hideI (bn_byte (unhideI S0) 123 (by have := unhideI HL; simp only [List.length_append, List.length_cons, List.length_nil] at this; omega))
    have HBX := hideI BX
    have WBX := hideI (zbyte_any B b n _ t 123 _ (unhideI S0).z (by have := unhideI HL; simp only [List.length_append, List.length_cons, List.length_nil] at this; omega) (unhideI S0).e.le)
    clear BX WB
    go_enter_defers Tryz.func27, Tryz.ntmps27
    go_wp2_with fail
    refine (unhideI WBX).mono ?_
    rintro e W1 ⟨⟨u, rfl⟩, z1, k1⟩
    have bx1 := (unhideI HBX).wf k1.wf (by omega)
    obtain ⟨-, -, -, -, d4⟩ := fiveW_at bx1.box
    have hs1 := bx1.lt
    have hb1 := z1.lt
    have S1 := hideI ((unhideI S0).next k1 z1)
    have CX := hideI (unhideI XA W1 _ (unhideI S1) (by have := unhideI HL; simp only [List.length_append, List.length_cons, List.length_nil] at this ⊢; omega))
    clear WBX z1 k1 bx1 HBX S0 XA c3
    go_wp2_with fail
    refine (unhideI CX).mono ?_
    rintro e W2 ⟨rfl, z2, k2⟩
    have S2 := hideI ((unhideI S1).next k2 z2)
    clear CX z2 k2 S1 d4
    go_wp2_with fail
    refine leaves_cons (f := 28) (args := #[.pointer (some ⟨b, 0, none⟩), .int .u8 125]) (by simp) (by simp [go_sem]) ?_
    refine (zbyteD_any B b n (.map (some mb)) _ 125 .returning W2 (unhideI S2).z (by have := unhideI HL; simp only [List.length_append, List.length_cons, List.length_nil] at this ⊢; omega) (unhideI S2).e.le).mono ?_
    rintro e u' w8 ⟨rfl, ⟨v, rfl⟩, z8, k8⟩
    refine ⟨_, results_none rfl _ _ _, rfl, ?_, (unhideI S2).d.trans k8⟩
    simpa using z8
  · rw [if_neg hz] at hl ⊢
    obtain ⟨-, -, -, c3, c4⟩ := fiveW_at BX.box
    have hs0 := BX.lt
    have CX := hideI (unhideI XA _ _ (unhideI S0) hl)
    clear BX XA hl
    go_enter Tryz.func27, Tryz.ntmps27
    go_wp2_with fail
    refine (unhideI CX).mono ?_
    rintro e W2 ⟨rfl, z2, k2⟩
    have S2 := hideI ((unhideI S0).next k2 z2)
    clear CX z2 k2 S0
    go_wp2_with fail
    first | go_end0 | refine bodyPost_ret (results_none rfl _ _ _) rfl ?_
    exact ⟨rfl, (unhideI S2).z, (unhideI S2).d⟩
end Go.Proofs.YtbakhengcgclmaaGreatDoor

/-
  Writing: functions.
-/
namespace Go.Proofs.YtbakhengcgclmaaGreatDoor
open Go.RowKit Go.Great
set_option linter.unusedSimpArgs false
set_option linter.unusedVariables false

/-- A parameter. -/
def pmT (p : Pm) : List UInt8 := (tyN p.b p.s).data.toList ++ [32] ++ p.nm.data.toList
def psT (ps : List Pm) : List UInt8 := joinC (ps.map pmT)
/-- A function. -/
def fnT (f : Fn8) (n : Nat) : List UInt8 := ((tyN f.b f.s).data.toList ++ [32] ++ f.nm.data.toList) ++ [40] ++ psT f.params ++ [41, 32] ++ blT f.body n ++ [10]
theorem psT_take (ps : List Pm) (i : Nat) (h : i < ps.length) : psT (ps.take (i + 1)) = psT (ps.take i) ++ (if i = 0 then [] else [44, 32]) ++ pmT ps[i] := by
  unfold psT
  rw [List.take_succ_eq_append_getElem h, List.map_append, List.map_singleton, joinC_snoc]
  simp [Nat.min_eq_left (Nat.le_of_lt h)]
theorem psT_le (ps : List Pm) (i : Nat) : (psT (ps.take i)).length ≤ (psT ps).length := by
  unfold psT
  have h := joinC_pre ((ps.take i).map pmT) ((ps.drop i).map pmT)
  rw [← List.map_append, List.take_append_drop] at h
  exact h
/-- On the way through a function. -/
structure Fq (w W : World) (B b n mb : Nat) (f : Fn8) (pa sa : Option Addr) (pc sc : Nat) (t : List UInt8) : Prop where
  bn : Bn w W B b n mb t
  bx : BoxT W w.heap.size #[.string f.nm, .int .i64 f.b, .bool f.s, .slice pa f.params.length pc, .slice sa f.body.length sc] 48
  bl : b < w.heap.size
  hp : PmL B W (.slice pa f.params.length pc) f.params
  hs : SmL B W (.slice sa f.body.length sc) f.body
theorem Fq.next {w W W' : World} {B b n mb : Nat} {f : Fn8} {pa sa : Option Addr} {pc sc : Nat} {t t' : List UInt8} (h : Fq w W B b n mb f pa sa pc sc t) (q : Wd B b W W') (z : Wz W' B b (.map (some mb)) n t') : Fq w W' B b n mb f pa sa pc sc t' :=
  ⟨h.bn.next q z, h.bx.wf q.wf (by have := h.bl; omega), h.bl, h.hp.step q.below, h.hs.step q.below⟩
theorem Fq.begin {w : World} {B b n mb : Nat} {f : Fn8} {pa sa : Option Addr} {pc sc : Nat} {t : List UInt8} (h : Wz w B b (.map (some mb)) n t) (E : Env B b mb w) (hp : PmL B w (.slice pa f.params.length pc) f.params) (hs : SmL B w (.slice sa f.body.length sc) f.body) : Fq w (w.alloc (.cells #[.string f.nm, .int .i64 f.b, .bool f.s, .slice pa f.params.length pc, .slice sa f.body.length sc] 48)) B b n mb f pa sa pc sc t := by
  have hal := below_a w (.cells #[.string f.nm, .int .i64 f.b, .bool f.s, .slice pa f.params.length pc, .slice sa f.body.length sc] 48)
  exact ⟨⟨h.step hal, E.below hal, Wd.of hal E.le⟩, BoxT.new _ _ _ (by decide), h.lt, hp.step (hal.mono E.le), hs.step (hal.mono E.le)⟩
theorem fq_typed {w W : World} {B b n mb : Nat} {f : Fn8} {pa sa : Option Addr} {pc sc : Nat} {t : List UInt8} (h : Fq w W B b n mb f pa sa pc sc t) (yb : Int) (ys : Bool) (nm : ByteArray) (hl : t.length + nm.size ≤ 1000000000000) : Calls Tryz.prog 24 #[.pointer (some ⟨b, 0, none⟩), .agg #[.int .i64 yb, .bool ys], .string nm] W fun e W' => e = .returned (.tuple #[]) ∧ Fq w W' B b n mb f pa sa pc sc (t ++ ((tyN yb ys).data.toList ++ [32] ++ nm.data.toList)) :=
  (wtyped_any B b n _ t yb ys nm W h.bn.z (by omega) h.bn.e.le).mono fun _ _ ⟨h1, h2, h3⟩ => ⟨h1, h.next h3 h2⟩
theorem fq_byte {w W : World} {B b n mb : Nat} {f : Fn8} {pa sa : Option Addr} {pc sc : Nat} {t : List UInt8} (h : Fq w W B b n mb f pa sa pc sc t) (c : UInt8) (hl : t.length + 1 ≤ 1000000000000) : Calls Tryz.prog 28 #[.pointer (some ⟨b, 0, none⟩), .int .u8 ((c.toNat : Nat) : Int)] W fun e W' => (∃ v, e = .returned v) ∧ Fq w W' B b n mb f pa sa pc sc (t ++ [c]) :=
  (zbyte_any B b n _ t c W h.bn.z (by omega) h.bn.e.le).mono fun _ _ ⟨h1, h2, h3⟩ => ⟨h1, h.next h3 h2⟩
theorem fq_str {w W : World} {B b n mb : Nat} {f : Fn8} {pa sa : Option Addr} {pc sc : Nat} {t : List UInt8} (h : Fq w W B b n mb f pa sa pc sc t) (s : ByteArray) (hl : t.length + s.size ≤ 1000000000000) : Calls Tryz.prog 25 #[.pointer (some ⟨b, 0, none⟩), .string s] W fun e W' => (∃ v, e = .returned v) ∧ Fq w W' B b n mb f pa sa pc sc (t ++ s.data.toList) :=
  (zstr_any B b n _ t s W h.bn.z (by omega) h.bn.e.le).mono fun _ _ ⟨h1, h2, h3⟩ => ⟨h1, h.next h3 h2⟩
theorem fq_block {w W : World} {B b n mb : Nat} {f : Fn8} {pa sa : Option Addr} {pc sc : Nat} {t : List UInt8} (h : Fq w W B b n mb f pa sa pc sc t) (ho : ∀ y ∈ f.body, OkS y) (hl : t.length + (blT f.body n).length ≤ 1000000000000) : Calls Tryz.prog 30 #[.pointer (some ⟨b, 0, none⟩), .slice sa f.body.length sc] W fun e W' => e = .returned (.tuple #[]) ∧ Fq w W' B b n mb f pa sa pc sc (t ++ blT f.body n) :=
  (wblock_any f.body (fun y _ => wstat_any y) ho B b n mb t _ W h.bn.z h.bn.e h.hs hl).mono fun _ _ ⟨h1, h2, h3⟩ => ⟨h1, h.next h3 h2⟩
theorem fq_comma {w W : World} {B b n mb : Nat} {f : Fn8} {pa sa : Option Addr} {pc sc : Nat} {t : List UInt8} (h : Fq w W B b n mb f pa sa pc sc t) (i : Nat) (p : Pm) (hl : t.length + 2 ≤ 1099511627776) : Calls Tryz.prog 29 #[.pointer (some ⟨b, 0, none⟩), .int .i64 (i : Int)] (W.alloc (.cells #[.int .i64 p.b, .bool p.s, .string p.nm] 59)) fun e W' => e = .returned (.tuple #[]) ∧ Fq w W' B b n mb f pa sa pc sc (t ++ if i = 0 then [] else [44, 32]) ∧ BoxT W' W.heap.size #[.int .i64 p.b, .bool p.s, .string p.nm] 59 := by
  have ka := below_a W (.cells #[.int .i64 p.b, .bool p.s, .string p.nm] 59)
  have hle := h.bn.e.le
  have hlt := h.bn.z.lt
  have ha := h.next (Wd.of ka hle) (h.bn.z.step ka)
  exact (wcomma_any B b n _ t i _ ha.bn.z hl ha.bn.e.le).mono fun _ _ ⟨h1, h2, h3⟩ => ⟨h1, ha.next h3 h2, (BoxT.new W _ 59 (by decide)).wf h3.wf (by omega)⟩
set_option maxRecDepth 100000 in
set_option maxHeartbeats 1000000 in
theorem wfunc_any (f : Fn8) (pa sa : Option Addr) (pc sc : Nat) (B b n mb : Nat) (t : List UInt8) (w : World) (h : Wz w B b (.map (some mb)) n t) (E : Env B b mb w) (hp : PmL B w (.slice pa f.params.length pc) f.params) (hs : SmL B w (.slice sa f.body.length sc) f.body) (ho : ∀ y ∈ f.body, OkS y) (hl : t.length + (fnT f n).length + 2 ≤ 1000000000000) :
    Calls Tryz.prog 10 #[.pointer (some ⟨b, 0, none⟩), .agg #[.string f.nm, .int .i64 f.b, .bool f.s, .slice pa f.params.length pc, .slice sa f.body.length sc]] w fun e w' => e = .returned (.tuple #[]) ∧ Wz w' B b (.map (some mb)) n (t ++ fnT f n) ∧ Wd B b w w' := by
  obtain ⟨_, _, _, hmax⟩ := hp.slice
  unfold maxLen at hmax
  have hnl : f.nm.data.toList.length = f.nm.size := by simp
  have hlen : (fnT f n).length = ((tyN f.b f.s).data.toList ++ [32] ++ f.nm.data.toList).length + 1 + (psT f.params).length + 2 + (blT f.body n).length + 1 := by unfold fnT; simp only [List.length_append, List.length_cons, List.length_nil]
  have hty : f.nm.size ≤ ((tyN f.b f.s).data.toList ++ [32] ++ f.nm.data.toList).length := by simp only [List.length_append, hnl]; omega
  rw [hlen] at hl
  have HF := hideI (show fnT f n = ((tyN f.b f.s).data.toList ++ [32] ++ f.nm.data.toList) ++ [40] ++ psT f.params ++ [41, 32] ++ blT f.body n ++ [10] from rfl)
  have S0 := hideI (Fq.begin (n := n) h E hp hs)
  have C0 := hideI (fq_typed (unhideI S0) f.b f.s f.nm (by omega))
  generalize (tyN f.b f.s).data.toList ++ [32] ++ f.nm.data.toList = H at *
  have HL := hideI hl
  have HO := hideI ho
  obtain ⟨c0, c1, c2, -, -⟩ := fiveW_at (unhideI S0).bx.box
  have hs0 := (unhideI S0).bx.lt
  clear h E hp hs ho hl hlen hty hnl
  go_enter Tryz.func10, Tryz.ntmps10
  go_wp2_with fail
  refine (unhideI C0).mono ?_
  rintro e W1 ⟨rfl, s1⟩
  have S1 := hideI s1
  have hb1 := s1.bn.z.lt
  have C1 := hideI (fq_byte s1 40 (by have := unhideI HL; simp only [List.length_append]; omega))
  clear C0 s1 S0 c0 c1 c2 hs0
  go_wp2_with fail
  refine (unhideI C1).mono ?_
  rintro e W2 ⟨⟨u, rfl⟩, s2⟩
  have S2 := hideI s2
  obtain ⟨-, -, -, c3, -⟩ := fiveW_at s2.bx.box
  have hs2 := s2.bx.lt
  clear C1 s2 S1
  go_wp2_with fail
  go_loopg [19] f.params.length (fun g y wr => ∃ (i : Nat), i ≤ f.params.length ∧ g = f.params.length - i ∧ y = .int .i64 (i : Int) ∧ Hid (Fq w wr B b n mb f pa sa pc sc (t ++ H ++ [40] ++ psT (f.params.take i))))
  case atStart => exact ⟨0, Nat.zero_le _, rfl, rfl, hideI (by simpa [psT, joinC] using unhideI S2)⟩
  case round =>
    obtain ⟨i, hi, hg, rfl, HC⟩ := hrel
    generalize wr = W0 at *
    clear S2 c3 hs2
    have hb3 : b < W0.heap.size := (unhideI HC).bn.z.lt
    have hs3 : w.heap.size < W0.heap.size := (unhideI HC).bx.lt
    by_cases hlt : i < f.params.length
    · obtain ⟨b1, o1, rfl, hbw, -, x0, x1, x2⟩ := (unhideI HC).hp.read i hlt
      have hiI : (i : Int) < (f.params.length : Int) := by omega
      have hi0 : (0 : Int) ≤ (i : Int) := by omega
      have ht1 := psT_le f.params (i + 1)
      have ET := hideI (psT_take f.params i hlt)
      rw [unhideI ET] at ht1
      simp only [List.length_append] at ht1
      have hpm : f.params[i].nm.size ≤ (pmT f.params[i]).length := by unfold pmT; simp only [List.length_append, ByteArray.size]; simp
      have CM := hideI (fq_comma (unhideI HC) i f.params[i] (by have := unhideI HL; have := psT_le f.params i; simp only [List.length_append, List.length_cons, List.length_nil]; omega))
      have CT := hideI (fun (W : World) (s : Fq w W B b n mb f (some ⟨b1, o1, none⟩) sa pc sc (t ++ H ++ [40] ++ psT (f.params.take i) ++ if i = 0 then [] else [44, 32])) => fq_typed s f.params[i].b f.params[i].s f.params[i].nm (by have := unhideI HL; simp only [List.length_append, List.length_cons, List.length_nil]; omega))
      have EQ := hideI (show (tyN f.params[i].b f.params[i].s).data.toList ++ [32] ++ f.params[i].nm.data.toList = pmT f.params[i] from rfl)
      clear ht1 hpm
      generalize f.params[i] = p at *
      go_wp2_with fail
      refine (unhideI CM).mono ?_
      rintro e w1 ⟨rfl, s1, bx⟩
      have CA := hideI (unhideI CT w1 s1)
      have q0 := bx.box.2.1 0 _ rfl
      have q1 := bx.box.2.1 1 _ rfl
      have q2 := bx.box.2.1 2 _ rfl
      have hs4 := bx.lt
      clear CM CT s1 bx HC x0 x1 x2
      go_wp2_with fail
      refine (unhideI CA).mono ?_
      rintro e w2 ⟨rfl, s2⟩
      have S2 := hideI s2
      clear CA s2 q0 q1 q2
      go_wp2_with fail
      go_roundg (f.params.length - (i + 1))
      case measure => omega
      case rel =>
        refine ⟨i + 1, by omega, rfl, by go_num, ?_⟩
        rw [unhideI ET, ← unhideI EQ]
        exact hideI (by simpa only [List.append_assoc] using unhideI S2)
    · have hiI : ¬ (i : Int) < (f.params.length : Int) := by omega
      have hil : f.params.take i = f.params := List.take_of_length_le (by omega)
      rw [hil] at HC
      clear hil
      have CA := hideI (fq_str (unhideI HC) ⟨#[41, 32]⟩ (by have := unhideI HL; simp only [List.length_append, List.length_cons, List.length_nil]; show _ + 2 ≤ _; omega))
      clear HC
      go_wp2_with fail
      refine (unhideI CA).mono ?_
      rintro e w1 ⟨⟨u1, rfl⟩, s1⟩
      obtain ⟨-, -, -, -, c4⟩ := fiveW_at s1.bx.box
      have hs5 := s1.bx.lt
      have CB := hideI (fq_block s1 (unhideI HO) (by have := unhideI HL; simp only [List.length_append, List.length_cons, List.length_nil]; show _ + 2 + _ ≤ _; omega))
      clear CA s1
      go_wp2_with fail
      refine (unhideI CB).mono ?_
      rintro e w2 ⟨rfl, s2⟩
      have hb6 := s2.bn.z.lt
      have CC := hideI (fq_byte s2 10 (by have := unhideI HL; simp only [List.length_append, List.length_cons, List.length_nil]; show _ + 2 + _ + 1 ≤ _; omega))
      clear CB s2 c4
      go_wp2_with fail
      refine (unhideI CC).mono ?_
      rintro e w3 ⟨⟨u3, rfl⟩, s3⟩
      have S3 := hideI s3
      clear CC s3
      go_wp2_with fail
      first | go_end0 | refine bodyPost_ret (results_none rfl _ _ _) rfl ?_
      refine ⟨rfl, ?_, (unhideI S3).bn.d⟩
      have z := (unhideI S3).bn.z
      rw [unhideI HF]
      simp only [List.append_assoc] at z ⊢
      exact z
end Go.Proofs.YtbakhengcgclmaaGreatDoor

/-
  Writing: variables of all.
-/
namespace Go.Proofs.YtbakhengcgclmaaGreatDoor
open Go.RowKit Go.Great
set_option linter.unusedSimpArgs false
set_option linter.unusedVariables false

def szT (g : Gb) : List UInt8 := if 0 < g.size then [91] ++ Lib.itoa g.size ++ [93] else []
def inT (g : Gb) : List UInt8 := if g.init.length = 0 then [] else [32, 61, 32] ++ nuT g
/-- A variable of all. -/
def glT (g : Gb) : List UInt8 := ((tyN g.b g.s).data.toList ++ [32] ++ g.nm.data.toList) ++ szT g ++ inT g ++ [59, 10]
theorem itoa_short (k : Int) (h0 : 0 ≤ k) (h1 : k ≤ 9223372036854775807) : (Lib.itoa k).length ≤ 20 := by
  obtain ⟨n, rfl⟩ : ∃ n : Nat, k = n := ⟨k.toNat, by omega⟩
  rw [Lib.itoa_nonneg]
  exact decDigits_le n (by omega)
/-- On the way through a variable. -/
structure Gq (w W : World) (B b n mb : Nat) (g : Gb) (ka : Option Addr) (kc : Nat) (t : List UInt8) : Prop where
  bn : Bn w W B b n mb t
  bx : BoxT W w.heap.size #[.int .i64 g.b, .bool g.s, .string g.nm, .int .i64 g.size, .slice ka g.init.length kc] 43
  bl : b < w.heap.size
  hx : ExL B W (.slice ka g.init.length kc) g.init
theorem Gq.next {w W W' : World} {B b n mb : Nat} {g : Gb} {ka : Option Addr} {kc : Nat} {t t' : List UInt8} (h : Gq w W B b n mb g ka kc t) (q : Wd B b W W') (z : Wz W' B b (.map (some mb)) n t') : Gq w W' B b n mb g ka kc t' :=
  ⟨h.bn.next q z, h.bx.wf q.wf (by have := h.bl; omega), h.bl, h.hx.step q.below⟩
theorem Gq.drew {w W : World} {B b n mb : Nat} {g : Gb} {ka : Option Addr} {kc : Nat} {t : List UInt8} (h : Gq w W B b n mb g ka kc t) : Gq w W.drew B b n mb g ka kc t :=
  h.next (Wd.refl _ _ _).drew (h.bn.z.step (Below.drew (Below.refl _ _)))
theorem Gq.begin {w : World} {B b n mb : Nat} {g : Gb} {ka : Option Addr} {kc : Nat} {t : List UInt8} (h : Wz w B b (.map (some mb)) n t) (E : Env B b mb w) (hx : ExL B w (.slice ka g.init.length kc) g.init) : Gq w (w.alloc (.cells #[.int .i64 g.b, .bool g.s, .string g.nm, .int .i64 g.size, .slice ka g.init.length kc] 43)) B b n mb g ka kc t := by
  have hal := below_a w (.cells #[.int .i64 g.b, .bool g.s, .string g.nm, .int .i64 g.size, .slice ka g.init.length kc] 43)
  exact ⟨⟨h.step hal, E.below hal, Wd.of hal E.le⟩, BoxT.new _ _ _ (by decide), h.lt, hx.step (hal.mono E.le)⟩
theorem gq_typed {w W : World} {B b n mb : Nat} {g : Gb} {ka : Option Addr} {kc : Nat} {t : List UInt8} (h : Gq w W B b n mb g ka kc t) (hl : t.length + g.nm.size ≤ 1000000000000) : Calls Tryz.prog 24 #[.pointer (some ⟨b, 0, none⟩), .agg #[.int .i64 g.b, .bool g.s], .string g.nm] W fun e W' => e = .returned (.tuple #[]) ∧ Gq w W' B b n mb g ka kc (t ++ ((tyN g.b g.s).data.toList ++ [32] ++ g.nm.data.toList)) :=
  (wtyped_any B b n _ t g.b g.s g.nm W h.bn.z (by omega) h.bn.e.le).mono fun _ _ ⟨h1, h2, h3⟩ => ⟨h1, h.next h3 h2⟩
theorem gq_str {w W : World} {B b n mb : Nat} {g : Gb} {ka : Option Addr} {kc : Nat} {t : List UInt8} (h : Gq w W B b n mb g ka kc t) (s : ByteArray) (hl : t.length + s.size ≤ 1000000000100) : Calls Tryz.prog 25 #[.pointer (some ⟨b, 0, none⟩), .string s] W fun e W' => (∃ v, e = .returned v) ∧ Gq w W' B b n mb g ka kc (t ++ s.data.toList) :=
  (zstr_any B b n _ t s W h.bn.z (by omega) h.bn.e.le).mono fun _ _ ⟨h1, h2, h3⟩ => ⟨h1, h.next h3 h2⟩
theorem gq_nums {w W : World} {B b n mb : Nat} {g : Gb} {ka : Option Addr} {kc : Nat} {t : List UInt8} (h : Gq w W B b n mb g ka kc t) (ho : ∀ x ∈ g.init, OkE x) (hl : t.length + (nuT g).length ≤ 1000000000000) : Calls Tryz.prog 27 #[.pointer (some ⟨b, 0, none⟩), .agg #[.int .i64 g.b, .bool g.s, .string g.nm, .int .i64 g.size, .slice ka g.init.length kc]] W fun e W' => e = .returned (.tuple #[]) ∧ Gq w W' B b n mb g ka kc (t ++ nuT g) :=
  (wnumbers_any g ka kc B b n mb t W h.bn.z h.bn.e h.hx ho hl).mono fun _ _ ⟨h1, h2, h3⟩ => ⟨h1, h.next h3 h2⟩
theorem gq_itoa {w W : World} {B b n mb : Nat} {g : Gb} {ka : Option Addr} {kc : Nat} {t : List UInt8} (h : Gq w W B b n mb g ka kc t) (h0 : 0 < g.size) (h1 : g.size ≤ 9223372036854775807) : Calls Tryz.prog 26 #[.int .i64 g.size] W fun e W' => e = .returned (.string ⟨(Lib.itoa g.size).toArray⟩) ∧ Gq w W' B b n mb g ka kc t := by
  refine (Tryz.strconv_Itoa g.size (by omega) h1 W h.bn.e.g.tabIs).mono ?_
  rintro e w2 ⟨rfl, q, os, rfl⟩
  have k := Lib.below_grow W.heap.size W (Nat.le_refl _) q os
  exact ⟨rfl, h.next (Wd.of k h.bn.e.le) (h.bn.z.step k)⟩
set_option maxRecDepth 100000 in
set_option maxHeartbeats 2000000 in
theorem wglobal_any (g : Gb) (ka : Option Addr) (kc : Nat) (B b n mb : Nat) (t : List UInt8) (w : World) (h : Wz w B b (.map (some mb)) n t) (E : Env B b mb w) (hx : ExL B w (.slice ka g.init.length kc) g.init) (ho : ∀ x ∈ g.init, OkE x) (hz : g.size ≤ 9223372036854775807) (hl : t.length + (glT g).length ≤ 1000000000000) :
    Calls Tryz.prog 9 #[.pointer (some ⟨b, 0, none⟩), .agg #[.int .i64 g.b, .bool g.s, .string g.nm, .int .i64 g.size, .slice ka g.init.length kc]] w fun e w' => e = .returned (.tuple #[]) ∧ Wz w' B b (.map (some mb)) n (t ++ glT g) ∧ Wd B b w w' := by
  have hnl : g.nm.data.toList.length = g.nm.size := by simp
  have hlen : (glT g).length = ((tyN g.b g.s).data.toList ++ [32] ++ g.nm.data.toList).length + (szT g).length + (inT g).length + 2 := by unfold glT; simp only [List.length_append, List.length_cons, List.length_nil]
  have hty : g.nm.size ≤ ((tyN g.b g.s).data.toList ++ [32] ++ g.nm.data.toList).length := by simp only [List.length_append, hnl]; omega
  rw [hlen] at hl
  have HF := hideI (show glT g = ((tyN g.b g.s).data.toList ++ [32] ++ g.nm.data.toList) ++ szT g ++ inT g ++ [59, 10] from rfl)
  have S0 := hideI (Gq.begin (n := n) h E hx)
  have C0 := hideI (gq_typed (unhideI S0) (by omega))
  generalize (tyN g.b g.s).data.toList ++ [32] ++ g.nm.data.toList = H at *
  have HL := hideI hl
  have HO := hideI ho
  obtain ⟨c0, c1, c2, -, -⟩ := fiveW_at (unhideI S0).bx.box
  have hs0 := (unhideI S0).bx.lt
  have hmx := hx.slice
  clear h E hx ho hl hlen hty hnl
  by_cases hp : 0 < g.size
  · have EZ := hideI (show szT g = [91] ++ Lib.itoa g.size ++ [93] from if_pos hp)
    have hsl := itoa_short g.size (by omega) hz
    have CI := hideI (fun (W : World) (t' : List UInt8) (s : Gq w W B b n mb g ka kc t') => gq_itoa s hp hz)
    generalize Lib.itoa g.size = dz at *
    rw [unhideI EZ] at HL HF
    go_enter Tryz.func9, Tryz.ntmps9
    go_wp2_with fail
    refine (unhideI C0).mono ?_
    rintro e W1 ⟨rfl, s1⟩
    have hb1 := s1.bn.z.lt
    obtain ⟨-, -, -, c3, -⟩ := fiveW_at s1.bx.box
    have hs1 := s1.bx.lt
    have S1 := hideI s1.drew
    clear C0 s1 S0 c0 c1 c2 hs0
    go_wp2_with fail
    refine reg_start (fun W => W.cell? ⟨w.heap.size, 3, none⟩ = some (.int .i64 g.size)) (by kernel_rfl) ?_
    have CC := fun (W : World) (t' : List UInt8) (s : Gq w W B b n mb g ka kc t') => s.bx.box.2.1 3 _ rfl
    clear c3
    have hs1d : w.heap.size < W1.drew.heap.size := hs1
    have hb1d : b < W1.drew.heap.size := hb1
    generalize W1.drew = W2 at *
    refine reg_seg 0 5 4 (by kernel_rfl) (by decide) (by kernel_rfl) (by kernel_rfl) (fun _ _ _ _ _ h => h) ?_
    simp only [List.take_succ_cons, List.take_zero, List.drop_succ_cons, List.drop_zero]
    repeat (refine wpSteady_step (fun K hK => ?_); go_simp; first | (refine steady_of ?_ (fun W hW => ?_) (hK _ ?_); rotate_left; (obtain y0 := hW; go_simp; first | done | rfl); clear hK K) | (refine hK _ ?_; clear hK K))
    refine wpSteady_nil ?_
    refine reg_one 5 3 (by kernel_rfl) (by kernel_rfl) (CC _ _ (unhideI S1)) ?_
    simp only [List.take_succ_cons, List.take_zero, List.drop_succ_cons, List.drop_zero]
    go_wp2_with fail
    refine (unhideI CI _ _ (unhideI S1)).mono ?_
    rintro e W3 ⟨rfl, s3⟩
    have S3 := hideI s3
    have hs3 := s3.bx.lt
    have hb3 := s3.bn.z.lt
    have WS := hideI (gq_str s3 ((⟨#[91]⟩ ++ ⟨dz.toArray⟩) ++ ⟨#[93]⟩) (by have := unhideI HL; rw [ByteArray.size_append, ByteArray.size_append]; simp only [List.length_append, List.length_cons, List.length_nil] at this ⊢; show _ + (1 + dz.length + 1) ≤ _; omega))
    have hz1 : ¬ 9223372036854775807 < 1 + (⟨dz.toArray⟩ : ByteArray).size := by show ¬ _ < 1 + dz.length; omega
    have hz2 : ¬ 9223372036854775807 < 1 + (⟨dz.toArray⟩ : ByteArray).size + 1 := by show ¬ _ < 1 + dz.length + 1; omega
    have ED := hideI (show (((⟨#[91]⟩ ++ ⟨dz.toArray⟩) ++ ⟨#[93]⟩ : ByteArray)).data.toList = [91] ++ dz ++ [93] by rw [cat_list, cat_list])
    generalize (⟨dz.toArray⟩ : ByteArray) = ds at *
    clear s3 CI S1
    go_wp2_with fail
    first | refine next_nil ?_ | refine next_go ?_
    refine reg_seg 6 1 2 (by kernel_rfl) (by decide) (by kernel_rfl) (by kernel_rfl) (fun _ _ _ _ _ h => h) ?_
    simp only [List.take_succ_cons, List.take_zero, List.drop_succ_cons, List.drop_zero]
    repeat (refine wpSteady_step (fun K hK => ?_); go_simp; first | (refine steady_of ?_ (fun W hW => ?_) (hK _ ?_); rotate_left; (obtain y0 := hW; go_simp; first | done | rfl); clear hK K) | (refine hK _ ?_; clear hK K))
    refine wpSteady_nil ?_
    refine reg_seg 7 1 1 (by kernel_rfl) (by decide) (by kernel_rfl) (by kernel_rfl) (fun _ _ _ _ _ h => h) ?_
    simp only [List.take_succ_cons, List.take_zero, List.drop_succ_cons, List.drop_zero]
    repeat (refine wpSteady_step (fun K hK => ?_); go_simp; first | (refine steady_of ?_ (fun W hW => ?_) (hK _ ?_); rotate_left; (obtain y0 := hW; go_simp; first | done | rfl); clear hK K) | (refine hK _ ?_; clear hK K))
    refine wpSteady_nil ?_
    refine reg_one 8 0 (by kernel_rfl) (by kernel_rfl) (CC _ _ (unhideI S3)) ?_
    simp only [List.take_succ_cons, List.take_zero, List.drop_succ_cons, List.drop_zero]
    go_wp2_with fail
    refine (unhideI WS).mono ?_
    rintro e W4 ⟨⟨v4, rfl⟩, s4⟩
    have C4 := CC _ _ s4
    rw [unhideI ED] at s4
    obtain ⟨-, -, -, -, c4⟩ := fiveW_at s4.bx.box
    have hs2 := s4.bx.lt
    have S2 := hideI s4
    clear WS s4 S3
    go_wp2_with fail
    first | refine next_nil ?_ | refine next_go ?_
    refine reg_end (by kernel_rfl) C4 ?_
    clear C4 CC ED hz1 hz2 hsl
    by_cases hi : g.init.length = 0
    · have EI := hideI (show inT g = [] from if_pos hi)
      have hiI : ¬ (0 : Int) < (g.init.length : Int) := by omega
      have hiN : ¬ 0 < g.init.length := by omega
      have CE := hideI (gq_str (unhideI S2) ⟨#[59, 10]⟩ (by have := unhideI HL; simp only [List.length_append, List.length_cons, List.length_nil] at this ⊢; show _ + 2 ≤ _; omega))
      have hb2 := (unhideI S2).bn.z.lt
      clear hi S2
      go_wp2_with fail
      refine (unhideI CE).mono ?_
      rintro e W5 ⟨⟨u5, rfl⟩, s5⟩
      have S5 := hideI s5
      clear CE s5
      go_wp2_with fail
      first | go_end0 | refine bodyPost_ret (results_none rfl _ _ _) rfl ?_
      refine ⟨rfl, ?_, (unhideI S5).bn.d⟩
      have z := (unhideI S5).bn.z
      rw [unhideI HF, unhideI EI]
      simpa only [List.append_assoc, List.nil_append, List.append_nil] using z
    · have EI := hideI (show inT g = [32, 61, 32] ++ nuT g from if_neg hi)
      have hiI : (0 : Int) < (g.init.length : Int) := by omega
      have hiN : 0 < g.init.length := by omega
      have CE := hideI (gq_str (unhideI S2) ⟨#[32, 61, 32]⟩ (by have := unhideI HL; rw [unhideI EI] at this; simp only [List.length_append, List.length_cons, List.length_nil] at this ⊢; show _ + 3 ≤ _; omega))
      have hb2 := (unhideI S2).bn.z.lt
      clear hi S2
      go_wp2_with fail
      refine (unhideI CE).mono ?_
      rintro e W5 ⟨⟨u5, rfl⟩, s5⟩
      obtain ⟨d0, d1, d2, d3, d4⟩ := fiveW_at s5.bx.box
      have hs5 := s5.bx.lt
      have CN := hideI (gq_nums s5 (unhideI HO) (by have := unhideI HL; rw [unhideI EI] at this; simp only [List.length_append, List.length_cons, List.length_nil] at this ⊢; show _ + 3 + _ ≤ _; omega))
      clear CE s5 c4 hs2
      go_wp2_with fail
      refine (unhideI CN).mono ?_
      rintro e W6 ⟨rfl, s6⟩
      have hb6 := s6.bn.z.lt
      have CS := hideI (gq_str s6 ⟨#[59, 10]⟩ (by have := unhideI HL; rw [unhideI EI] at this; simp only [List.length_append, List.length_cons, List.length_nil] at this ⊢; show _ + 3 + _ + 2 ≤ _; omega))
      clear CN s6 d0 d1 d2 d3 d4 hs5
      go_wp2_with fail
      refine (unhideI CS).mono ?_
      rintro e W7 ⟨⟨u7, rfl⟩, s7⟩
      have S7 := hideI s7
      clear CS s7
      go_wp2_with fail
      first | go_end0 | refine bodyPost_ret (results_none rfl _ _ _) rfl ?_
      refine ⟨rfl, ?_, (unhideI S7).bn.d⟩
      have z := (unhideI S7).bn.z
      rw [unhideI HF, unhideI EI]
      simpa only [List.append_assoc, List.nil_append, List.append_nil] using z
  · have EZ := hideI (show szT g = [] from if_neg hp)
    rw [unhideI EZ] at HL HF
    go_enter Tryz.func9, Tryz.ntmps9
    go_wp2_with fail
    refine (unhideI C0).mono ?_
    rintro e W1 ⟨rfl, s1⟩
    obtain ⟨-, -, -, c3, c4⟩ := fiveW_at s1.bx.box
    have hs2 := s1.bx.lt
    have S2 := hideI s1
    clear C0 s1 S0 c0 c1 c2 hs0
    by_cases hi : g.init.length = 0
    · have EI := hideI (show inT g = [] from if_pos hi)
      have hiI : ¬ (0 : Int) < (g.init.length : Int) := by omega
      have hiN : ¬ 0 < g.init.length := by omega
      have CE := hideI (gq_str (unhideI S2) ⟨#[59, 10]⟩ (by have := unhideI HL; simp only [List.length_append, List.length_cons, List.length_nil] at this ⊢; show _ + 2 ≤ _; omega))
      have hb2 := (unhideI S2).bn.z.lt
      clear hi S2
      go_wp2_with fail
      refine (unhideI CE).mono ?_
      rintro e W5 ⟨⟨u5, rfl⟩, s5⟩
      have S5 := hideI s5
      clear CE s5
      go_wp2_with fail
      first | go_end0 | refine bodyPost_ret (results_none rfl _ _ _) rfl ?_
      refine ⟨rfl, ?_, (unhideI S5).bn.d⟩
      have z := (unhideI S5).bn.z
      rw [unhideI HF, unhideI EI]
      simpa only [List.append_assoc, List.nil_append, List.append_nil] using z
    · have EI := hideI (show inT g = [32, 61, 32] ++ nuT g from if_neg hi)
      have hiI : (0 : Int) < (g.init.length : Int) := by omega
      have hiN : 0 < g.init.length := by omega
      have CE := hideI (gq_str (unhideI S2) ⟨#[32, 61, 32]⟩ (by have := unhideI HL; rw [unhideI EI] at this; simp only [List.length_append, List.length_cons, List.length_nil] at this ⊢; show _ + 3 ≤ _; omega))
      have hb2 := (unhideI S2).bn.z.lt
      clear hi S2
      go_wp2_with fail
      refine (unhideI CE).mono ?_
      rintro e W5 ⟨⟨u5, rfl⟩, s5⟩
      obtain ⟨d0, d1, d2, d3, d4⟩ := fiveW_at s5.bx.box
      have hs5 := s5.bx.lt
      have CN := hideI (gq_nums s5 (unhideI HO) (by have := unhideI HL; rw [unhideI EI] at this; simp only [List.length_append, List.length_cons, List.length_nil] at this ⊢; show _ + 3 + _ ≤ _; omega))
      clear CE s5 c4 hs2
      go_wp2_with fail
      refine (unhideI CN).mono ?_
      rintro e W6 ⟨rfl, s6⟩
      have hb6 := s6.bn.z.lt
      have CS := hideI (gq_str s6 ⟨#[59, 10]⟩ (by have := unhideI HL; rw [unhideI EI] at this; simp only [List.length_append, List.length_cons, List.length_nil] at this ⊢; show _ + 3 + _ + 2 ≤ _; omega))
      clear CN s6 d0 d1 d2 d3 d4 hs5
      go_wp2_with fail
      refine (unhideI CS).mono ?_
      rintro e W7 ⟨⟨u7, rfl⟩, s7⟩
      have S7 := hideI s7
      clear CS s7
      go_wp2_with fail
      first | go_end0 | refine bodyPost_ret (results_none rfl _ _ _) rfl ?_
      refine ⟨rfl, ?_, (unhideI S7).bn.d⟩
      have z := (unhideI S7).bn.z
      rw [unhideI HF, unhideI EI]
      simpa only [List.append_assoc, List.nil_append, List.append_nil] using z
end Go.Proofs.YtbakhengcgclmaaGreatDoor
