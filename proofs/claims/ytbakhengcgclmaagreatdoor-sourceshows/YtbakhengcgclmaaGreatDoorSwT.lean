/-
  Writing: statements (written by mkSwT.py).
-/
import Derived.Test.YtbakhengcgclmaaGreatDoorSwS
namespace Go.Proofs.YtbakhengcgclmaaGreatDoor
open Go.RowKit Go.Great
set_option linter.unusedSimpArgs false
set_option linter.unusedVariables false

theorem OkS.parts {x : Sm} (h : OkS x) : OkC x ∧ (x.k = 7 → ∀ y ∈ x.init, OkC y) ∧ (x.k = 7 → ∀ y ∈ x.step, OkC y) ∧ (x.k = 5 ∨ x.k = 6 ∨ x.k = 7 ∨ x.k = 11 → ∀ y ∈ x.body, OkS y) ∧ (x.k = 5 → ∀ y ∈ x.els, OkS y) := by
  cases h with
  | mk _ a b c d e => exact ⟨a, b, c, d, e⟩

theorem sn_asked {w W : World} {B b n mb : Nat} {x : Sm} {v : Sv} {t : List UInt8} (h : Sn w W B b n mb x v t) (a : ByteArray) (ho : OkE x.x) (hl : t.length + (a.size + (shE x.x 1).length + 2) ≤ 1000000000000) : Calls Tryz.prog 66 #[.pointer (some ⟨b, 0, none⟩), .string a, .agg #[.int .i64 x.x.k, .int .u64 x.x.n, .int .i64 x.x.b, .bool x.x.s, .string x.x.nm, v.xk]] W fun e W' => e = .returned (.tuple #[]) ∧ Sn w W' B b n mb x v (t ++ (a.data.toList ++ shE x.x 1 ++ [41, 32])) :=
  (wasked_any a x.x B b n mb t v.xk W h.z h.e h.sv.hx h.ok.2.1 ho hl).mono fun _ _ ⟨h1, h2, h3⟩ => ⟨h1, h.next h3 h2⟩
theorem sn_body {w W : World} {B b n mb : Nat} {x : Sm} {v : Sv} {t : List UInt8} (h : Sn w W B b n mb x v t) (u : Value) (hu : v.body = u) (I : ∀ y ∈ x.body, WSm y) (ho : ∀ y ∈ x.body, OkS y) (hl : t.length + (blT x.body n).length ≤ 1000000000000) : Calls Tryz.prog 30 #[.pointer (some ⟨b, 0, none⟩), u] W fun e W' => e = .returned (.tuple #[]) ∧ Sn w W' B b n mb x v (t ++ blT x.body n) := by
  subst hu
  exact (wblock_any x.body I ho B b n mb t v.body W h.z h.e h.sv.h3 hl).mono fun _ _ ⟨h1, h2, h3⟩ => ⟨h1, h.next h3 h2⟩
theorem sn_els {w W : World} {B b n mb : Nat} {x : Sm} {v : Sv} {t : List UInt8} (h : Sn w W B b n mb x v t) (u : Value) (hu : v.els = u) (I : ∀ y ∈ x.els, WSm y) (ho : ∀ y ∈ x.els, OkS y) (hl : t.length + (blT x.els n).length ≤ 1000000000000) : Calls Tryz.prog 30 #[.pointer (some ⟨b, 0, none⟩), u] W fun e W' => e = .returned (.tuple #[]) ∧ Sn w W' B b n mb x v (t ++ blT x.els n) := by
  subst hu
  exact (wblock_any x.els I ho B b n mb t v.els W h.z h.e h.sv.h4 hl).mono fun _ _ ⟨h1, h2, h3⟩ => ⟨h1, h.next h3 h2⟩
theorem sn_for {w W : World} {B b n mb : Nat} {x : Sm} {v : Sv} {t : List UInt8} (h : Sn w W B b n mb x v t) (hx : x.has = true → OkE x.x) (h1 : ∀ y ∈ x.init, OkC y) (h2 : ∀ y ∈ x.step, OkC y) (hl : t.length + (forT x).length ≤ 1000000000000) : Calls Tryz.prog 67 #[.pointer (some ⟨b, 0, none⟩), .agg (smA x v)] W fun e W' => e = .returned (.tuple #[]) ∧ Sn w W' B b n mb x v (t ++ forT x) :=
  (wfor_any x v B b n mb t W h.z h.e h.sv h.ok hx h1 h2 hl).mono fun _ _ ⟨h1, h2, h3⟩ => ⟨h1, h.next h3 h2⟩
theorem sn_self {w W : World} {B b n mb : Nat} {x : Sm} {v : Sv} {t : List UInt8} (h : Sn w W B b n mb x v t) (ho : OkC x) (hl : t.length + (clT x).length ≤ 1000000000000) : Calls Tryz.prog 68 #[.pointer (some ⟨b, 0, none⟩), .agg (smA x v)] W fun e W' => e = .returned (.tuple #[]) ∧ Sn w W' B b n mb x v (t ++ clT x) :=
  (wclosed_any x v B b n mb t W h.z h.e h.sv h.ok ho hl).mono fun _ _ ⟨h1, h2, h3⟩ => ⟨h1, h.next h3 h2⟩
set_option maxRecDepth 100000 in
set_option maxHeartbeats 1000000 in
theorem wst_ifElse (x : Sm) (IB : ∀ y ∈ x.body, WSm y) (IE : ∀ y ∈ x.els, WSm y) (v : Sv) (B b n mb : Nat) (t : List UInt8) (w : World) (h : Wz w B b (.map (some mb)) n t) (E : Env B b mb w) (hs : SvL B w x v) (hf : SmF x) (ho : OkS x) (hl : t.length + (stT x n).length ≤ 1000000000000) (hk : x.k = 5) (hq : 0 < x.els.length) :
    Calls Tryz.prog 50 #[.pointer (some ⟨b, 0, none⟩), .agg (smA x v)] w fun e w' => e = .returned (.tuple #[]) ∧ Wz w' B b (.map (some mb)) n (t ++ stT x n) ∧ Wd B b w w' := by
  obtain ⟨hc, o1, o2, o3, o4⟩ := ho.parts
  have hT : stT x n = ([105, 102, 32, 40] ++ shE x.x 1 ++ [41, 32]) ++ blT x.body n ++ ([32, 101, 108, 115, 101, 32] ++ blT x.els n) := by rw [stT_eq, if_pos hk, if_pos hq]
  rw [hT] at hl ⊢
  have hx : OkE x.x := hc.hx (by rw [hk]; unfold hasX; simp)
  obtain ⟨ab, cb, eb⟩ := hs.h3.slice
  obtain ⟨ae, ce, ee⟩ := hs.h4.slice
  have hqI : (0 : Int) < (x.els.length : Int) := by omega
  have hmx : x.els.length ≤ 9223372036854775807 := by obtain ⟨_, _, _, hm, -⟩ := hs.h4.at; exact hm
  have S0 := hideI (Sn.begin h E hs hf)
  have hAs := hideI (smA_size x v)
  have C0 := hideI (fun (W : World) (s : Sn w W B b n mb x v (t)) => sn_asked s ⟨#[105, 102, 32, 40]⟩ hx (by show _ + (4 + _ + 2) ≤ _; simp only [List.length_append, List.length_cons, List.length_nil] at hl ⊢; omega))
  have C1 := hideI (fun (W : World) (s : Sn w W B b n mb x v (t ++ ([105, 102, 32, 40] ++ shE x.x 1 ++ [41, 32]))) => sn_body s _ eb IB (o3 (by omega)) (by simp only [List.length_append, List.length_cons, List.length_nil] at hl ⊢; omega))
  have C2 := hideI (fun (W : World) (s : Sn w W B b n mb x v (t ++ ([105, 102, 32, 40] ++ shE x.x 1 ++ [41, 32]) ++ blT x.body n)) => sn_str s ⟨#[32, 101, 108, 115, 101, 32]⟩ (by show _ + 6 ≤ _; simp only [List.length_append, List.length_cons, List.length_nil] at hl ⊢; omega))
  have C3 := hideI (fun (W : World) (s : Sn w W B b n mb x v (t ++ ([105, 102, 32, 40] ++ shE x.x 1 ++ [41, 32]) ++ blT x.body n ++ [32, 101, 108, 115, 101, 32])) => sn_els s _ ee IE (o4 hk) (by simp only [List.length_append, List.length_cons, List.length_nil] at hl ⊢; omega))
  have EB := hideI eb
  have EE := hideI ee
  clear h E hs hf ho hc hl hT o1 o2 o3 o4 IB IE eb ee hx
  obtain ⟨c0, -, -, -, -⟩ := (unhideI S0).bx.own
  rw [hk] at c0
  have HH := (unhideI S0).bx.heap
  generalize hA : smA x v = A at *
  generalize hW : w.alloc (.cells A 90) = W0 at *
  have hs0 : w.heap.size < W0.heap.size := (unhideI S0).bx.lt
  have hb0 : b < W0.heap.size := (unhideI S0).z.lt
  obtain ⟨p0, p1, p2, p3, p4, p5⟩ := (unhideI S0).bx.exX
  have D0 := hideI (unhideI C0 W0 (unhideI S0))
  clear C0
  go_enter Tryz.func50, Tryz.ntmps50
  go_wp2_with (first | (refine wpList_boxTo rfl 90 (.tmp 1) rfl (some 3) rfl _ rfl A rfl ?_; rw [hW]) | (refine wpList_load_row rfl 90 (.tmp 3) rfl w.heap.size rfl _ A _ _ HH Tryz.underlying90 rfl (by rw [unhideI hAs]; exact Tryz.sizeStat) ?_))
  refine (unhideI D0).mono ?_
  rintro e W1 ⟨rfl, s1⟩
  have S1 := hideI s1
  have hs1 : w.heap.size < W1.heap.size := s1.bx.lt
  have hb1 : b < W1.heap.size := s1.z.lt
  obtain ⟨-, -, q1b, q1e⟩ := s1.bx.lists
  rw [unhideI EB] at q1b
  rw [unhideI EE] at q1e
  have D1 := hideI (unhideI C1 W1 s1)
  clear C1 s1 D0 S0
  go_wp2_with fail
  refine (unhideI D1).mono ?_
  rintro e W2 ⟨rfl, s2⟩
  have S2 := hideI s2
  have hs2 : w.heap.size < W2.heap.size := s2.bx.lt
  have hb2 : b < W2.heap.size := s2.z.lt
  obtain ⟨-, -, q2b, q2e⟩ := s2.bx.lists
  rw [unhideI EB] at q2b
  rw [unhideI EE] at q2e
  have D2 := hideI (unhideI C2 W2 s2)
  clear C2 s2 D1 S1
  go_wp2_with fail
  refine (unhideI D2).mono ?_
  rintro e W3 ⟨⟨u2, rfl⟩, s3⟩
  have S3 := hideI s3
  have hs3 : w.heap.size < W3.heap.size := s3.bx.lt
  have hb3 : b < W3.heap.size := s3.z.lt
  obtain ⟨-, -, q3b, q3e⟩ := s3.bx.lists
  rw [unhideI EB] at q3b
  rw [unhideI EE] at q3e
  have D3 := hideI (unhideI C3 W3 s3)
  clear C3 s3 D2 S2
  go_wp2_with fail
  refine (unhideI D3).mono ?_
  rintro e W4 ⟨rfl, s4⟩
  have S4 := hideI s4
  clear s4 D3 S3
  go_wp2_with fail
  first | go_end0 | refine bodyPost_ret (results_none rfl _ _ _) rfl ?_
  have z := (unhideI S4).z
  refine ⟨rfl, ?_, (unhideI S4).d⟩
  simp only [List.append_assoc] at z ⊢
  exact z
set_option maxRecDepth 100000 in
set_option maxHeartbeats 1000000 in
theorem wst_if (x : Sm) (IB : ∀ y ∈ x.body, WSm y) (IE : ∀ y ∈ x.els, WSm y) (v : Sv) (B b n mb : Nat) (t : List UInt8) (w : World) (h : Wz w B b (.map (some mb)) n t) (E : Env B b mb w) (hs : SvL B w x v) (hf : SmF x) (ho : OkS x) (hl : t.length + (stT x n).length ≤ 1000000000000) (hk : x.k = 5) (hq : ¬ 0 < x.els.length) :
    Calls Tryz.prog 50 #[.pointer (some ⟨b, 0, none⟩), .agg (smA x v)] w fun e w' => e = .returned (.tuple #[]) ∧ Wz w' B b (.map (some mb)) n (t ++ stT x n) ∧ Wd B b w w' := by
  obtain ⟨hc, o1, o2, o3, o4⟩ := ho.parts
  have hT : stT x n = ([105, 102, 32, 40] ++ shE x.x 1 ++ [41, 32]) ++ blT x.body n := by rw [stT_eq, if_pos hk, if_neg hq, List.append_nil]
  rw [hT] at hl ⊢
  have hx : OkE x.x := hc.hx (by rw [hk]; unfold hasX; simp)
  obtain ⟨ab, cb, eb⟩ := hs.h3.slice
  obtain ⟨ae, ce, ee⟩ := hs.h4.slice
  have hqI : ¬ (0 : Int) < (x.els.length : Int) := by omega
  have hmx : x.els.length ≤ 9223372036854775807 := by obtain ⟨_, _, _, hm, -⟩ := hs.h4.at; exact hm
  have S0 := hideI (Sn.begin h E hs hf)
  have hAs := hideI (smA_size x v)
  have C0 := hideI (fun (W : World) (s : Sn w W B b n mb x v (t)) => sn_asked s ⟨#[105, 102, 32, 40]⟩ hx (by show _ + (4 + _ + 2) ≤ _; simp only [List.length_append, List.length_cons, List.length_nil] at hl ⊢; omega))
  have C1 := hideI (fun (W : World) (s : Sn w W B b n mb x v (t ++ ([105, 102, 32, 40] ++ shE x.x 1 ++ [41, 32]))) => sn_body s _ eb IB (o3 (by omega)) (by simp only [List.length_append, List.length_cons, List.length_nil] at hl ⊢; omega))
  have EB := hideI eb
  have EE := hideI ee
  clear h E hs hf ho hc hl hT o1 o2 o3 o4 IB IE eb ee hx
  obtain ⟨c0, -, -, -, -⟩ := (unhideI S0).bx.own
  rw [hk] at c0
  have HH := (unhideI S0).bx.heap
  generalize hA : smA x v = A at *
  generalize hW : w.alloc (.cells A 90) = W0 at *
  have hs0 : w.heap.size < W0.heap.size := (unhideI S0).bx.lt
  have hb0 : b < W0.heap.size := (unhideI S0).z.lt
  obtain ⟨p0, p1, p2, p3, p4, p5⟩ := (unhideI S0).bx.exX
  have D0 := hideI (unhideI C0 W0 (unhideI S0))
  clear C0
  go_enter Tryz.func50, Tryz.ntmps50
  go_wp2_with (first | (refine wpList_boxTo rfl 90 (.tmp 1) rfl (some 3) rfl _ rfl A rfl ?_; rw [hW]) | (refine wpList_load_row rfl 90 (.tmp 3) rfl w.heap.size rfl _ A _ _ HH Tryz.underlying90 rfl (by rw [unhideI hAs]; exact Tryz.sizeStat) ?_))
  refine (unhideI D0).mono ?_
  rintro e W1 ⟨rfl, s1⟩
  have S1 := hideI s1
  have hs1 : w.heap.size < W1.heap.size := s1.bx.lt
  have hb1 : b < W1.heap.size := s1.z.lt
  obtain ⟨-, -, q1b, q1e⟩ := s1.bx.lists
  rw [unhideI EB] at q1b
  rw [unhideI EE] at q1e
  have D1 := hideI (unhideI C1 W1 s1)
  clear C1 s1 D0 S0
  go_wp2_with fail
  refine (unhideI D1).mono ?_
  rintro e W2 ⟨rfl, s2⟩
  have S2 := hideI s2
  obtain ⟨-, -, -, q9e⟩ := s2.bx.lists
  rw [unhideI EE] at q9e
  have hs9 : w.heap.size < W2.heap.size := s2.bx.lt
  clear s2 D1 S1
  go_wp2_with fail
  first | go_end0 | refine bodyPost_ret (results_none rfl _ _ _) rfl ?_
  have z := (unhideI S2).z
  refine ⟨rfl, ?_, (unhideI S2).d⟩
  simp only [List.append_assoc] at z ⊢
  exact z
set_option maxRecDepth 100000 in
set_option maxHeartbeats 1000000 in
theorem wst_while (x : Sm) (IB : ∀ y ∈ x.body, WSm y) (IE : ∀ y ∈ x.els, WSm y) (v : Sv) (B b n mb : Nat) (t : List UInt8) (w : World) (h : Wz w B b (.map (some mb)) n t) (E : Env B b mb w) (hs : SvL B w x v) (hf : SmF x) (ho : OkS x) (hl : t.length + (stT x n).length ≤ 1000000000000) (hk : x.k = 6) :
    Calls Tryz.prog 50 #[.pointer (some ⟨b, 0, none⟩), .agg (smA x v)] w fun e w' => e = .returned (.tuple #[]) ∧ Wz w' B b (.map (some mb)) n (t ++ stT x n) ∧ Wd B b w w' := by
  obtain ⟨hc, o1, o2, o3, o4⟩ := ho.parts
  have hT : stT x n = ([119, 104, 105, 108, 101, 32, 40] ++ shE x.x 1 ++ [41, 32]) ++ blT x.body n := by rw [stT_eq, if_neg (by omega), if_pos hk]
  rw [hT] at hl ⊢
  have hx : OkE x.x := hc.hx (by rw [hk]; unfold hasX; simp)
  obtain ⟨ab, cb, eb⟩ := hs.h3.slice
  obtain ⟨ae, ce, ee⟩ := hs.h4.slice
  have hmx : x.els.length ≤ 9223372036854775807 := by obtain ⟨_, _, _, hm, -⟩ := hs.h4.at; exact hm
  have S0 := hideI (Sn.begin h E hs hf)
  have hAs := hideI (smA_size x v)
  have C0 := hideI (fun (W : World) (s : Sn w W B b n mb x v (t)) => sn_asked s ⟨#[119, 104, 105, 108, 101, 32, 40]⟩ hx (by show _ + (7 + _ + 2) ≤ _; simp only [List.length_append, List.length_cons, List.length_nil] at hl ⊢; omega))
  have C1 := hideI (fun (W : World) (s : Sn w W B b n mb x v (t ++ ([119, 104, 105, 108, 101, 32, 40] ++ shE x.x 1 ++ [41, 32]))) => sn_body s _ eb IB (o3 (by omega)) (by simp only [List.length_append, List.length_cons, List.length_nil] at hl ⊢; omega))
  have EB := hideI eb
  have EE := hideI ee
  clear h E hs hf ho hc hl hT o1 o2 o3 o4 IB IE eb ee hx
  obtain ⟨c0, -, -, -, -⟩ := (unhideI S0).bx.own
  rw [hk] at c0
  have HH := (unhideI S0).bx.heap
  generalize hA : smA x v = A at *
  generalize hW : w.alloc (.cells A 90) = W0 at *
  have hs0 : w.heap.size < W0.heap.size := (unhideI S0).bx.lt
  have hb0 : b < W0.heap.size := (unhideI S0).z.lt
  obtain ⟨p0, p1, p2, p3, p4, p5⟩ := (unhideI S0).bx.exX
  have D0 := hideI (unhideI C0 W0 (unhideI S0))
  clear C0
  go_enter Tryz.func50, Tryz.ntmps50
  go_wp2_with (first | (refine wpList_boxTo rfl 90 (.tmp 1) rfl (some 3) rfl _ rfl A rfl ?_; rw [hW]) | (refine wpList_load_row rfl 90 (.tmp 3) rfl w.heap.size rfl _ A _ _ HH Tryz.underlying90 rfl (by rw [unhideI hAs]; exact Tryz.sizeStat) ?_))
  refine (unhideI D0).mono ?_
  rintro e W1 ⟨rfl, s1⟩
  have S1 := hideI s1
  have hs1 : w.heap.size < W1.heap.size := s1.bx.lt
  have hb1 : b < W1.heap.size := s1.z.lt
  obtain ⟨-, -, q1b, q1e⟩ := s1.bx.lists
  rw [unhideI EB] at q1b
  rw [unhideI EE] at q1e
  have D1 := hideI (unhideI C1 W1 s1)
  clear C1 s1 D0 S0
  go_wp2_with fail
  refine (unhideI D1).mono ?_
  rintro e W2 ⟨rfl, s2⟩
  have S2 := hideI s2
  clear s2 D1 S1
  go_wp2_with fail
  first | go_end0 | refine bodyPost_ret (results_none rfl _ _ _) rfl ?_
  have z := (unhideI S2).z
  refine ⟨rfl, ?_, (unhideI S2).d⟩
  simp only [List.append_assoc] at z ⊢
  exact z
set_option maxRecDepth 100000 in
set_option maxHeartbeats 1000000 in
theorem wst_for (x : Sm) (IB : ∀ y ∈ x.body, WSm y) (IE : ∀ y ∈ x.els, WSm y) (v : Sv) (B b n mb : Nat) (t : List UInt8) (w : World) (h : Wz w B b (.map (some mb)) n t) (E : Env B b mb w) (hs : SvL B w x v) (hf : SmF x) (ho : OkS x) (hl : t.length + (stT x n).length ≤ 1000000000000) (hk : x.k = 7) :
    Calls Tryz.prog 50 #[.pointer (some ⟨b, 0, none⟩), .agg (smA x v)] w fun e w' => e = .returned (.tuple #[]) ∧ Wz w' B b (.map (some mb)) n (t ++ stT x n) ∧ Wd B b w w' := by
  obtain ⟨hc, o1, o2, o3, o4⟩ := ho.parts
  have hT : stT x n = forT x ++ blT x.body n := by rw [stT_eq, if_neg (by omega), if_neg (by omega), if_pos hk]
  rw [hT] at hl ⊢
  have hx : x.has = true → OkE x.x := fun e => hc.hx (by rw [hk]; unfold hasX; simp [e])
  obtain ⟨ab, cb, eb⟩ := hs.h3.slice
  obtain ⟨ae, ce, ee⟩ := hs.h4.slice
  have hmx : x.els.length ≤ 9223372036854775807 := by obtain ⟨_, _, _, hm, -⟩ := hs.h4.at; exact hm
  have S0 := hideI (Sn.begin h E hs hf)
  have hAs := hideI (smA_size x v)
  have C0 := hideI (fun (W : World) (s : Sn w W B b n mb x v (t)) => sn_for s hx (o1 hk) (o2 hk) (by simp only [List.length_append, List.length_cons, List.length_nil] at hl ⊢; omega))
  have C1 := hideI (fun (W : World) (s : Sn w W B b n mb x v (t ++ forT x)) => sn_body s _ eb IB (o3 (by omega)) (by simp only [List.length_append, List.length_cons, List.length_nil] at hl ⊢; omega))
  have EB := hideI eb
  have EE := hideI ee
  clear h E hs hf ho hc hl hT o1 o2 o3 o4 IB IE eb ee hx
  obtain ⟨c0, -, -, -, -⟩ := (unhideI S0).bx.own
  rw [hk] at c0
  have HH := (unhideI S0).bx.heap
  generalize hA : smA x v = A at *
  generalize hW : w.alloc (.cells A 90) = W0 at *
  have hs0 : w.heap.size < W0.heap.size := (unhideI S0).bx.lt
  have hb0 : b < W0.heap.size := (unhideI S0).z.lt
  have D0 := hideI (unhideI C0 W0 (unhideI S0))
  clear C0
  go_enter Tryz.func50, Tryz.ntmps50
  go_wp2_with (first | (refine wpList_boxTo rfl 90 (.tmp 1) rfl (some 3) rfl _ rfl A rfl ?_; rw [hW]) | (refine wpList_load_row rfl 90 (.tmp 3) rfl w.heap.size rfl _ A _ _ HH Tryz.underlying90 rfl (by rw [unhideI hAs]; exact Tryz.sizeStat) ?_))
  refine (unhideI D0).mono ?_
  rintro e W1 ⟨rfl, s1⟩
  have S1 := hideI s1
  have hs1 : w.heap.size < W1.heap.size := s1.bx.lt
  have hb1 : b < W1.heap.size := s1.z.lt
  obtain ⟨-, -, q1b, q1e⟩ := s1.bx.lists
  rw [unhideI EB] at q1b
  rw [unhideI EE] at q1e
  have D1 := hideI (unhideI C1 W1 s1)
  clear C1 s1 D0 S0
  go_wp2_with fail
  refine (unhideI D1).mono ?_
  rintro e W2 ⟨rfl, s2⟩
  have S2 := hideI s2
  clear s2 D1 S1
  go_wp2_with fail
  first | go_end0 | refine bodyPost_ret (results_none rfl _ _ _) rfl ?_
  have z := (unhideI S2).z
  refine ⟨rfl, ?_, (unhideI S2).d⟩
  simp only [List.append_assoc] at z ⊢
  exact z
set_option maxRecDepth 100000 in
set_option maxHeartbeats 1000000 in
theorem wst_block (x : Sm) (IB : ∀ y ∈ x.body, WSm y) (IE : ∀ y ∈ x.els, WSm y) (v : Sv) (B b n mb : Nat) (t : List UInt8) (w : World) (h : Wz w B b (.map (some mb)) n t) (E : Env B b mb w) (hs : SvL B w x v) (hf : SmF x) (ho : OkS x) (hl : t.length + (stT x n).length ≤ 1000000000000) (hk : x.k = 11) :
    Calls Tryz.prog 50 #[.pointer (some ⟨b, 0, none⟩), .agg (smA x v)] w fun e w' => e = .returned (.tuple #[]) ∧ Wz w' B b (.map (some mb)) n (t ++ stT x n) ∧ Wd B b w w' := by
  obtain ⟨hc, o1, o2, o3, o4⟩ := ho.parts
  have hT : stT x n = blT x.body n := by rw [stT_eq, if_neg (by omega), if_neg (by omega), if_neg (by omega), if_pos hk]
  rw [hT] at hl ⊢
  obtain ⟨ab, cb, eb⟩ := hs.h3.slice
  obtain ⟨ae, ce, ee⟩ := hs.h4.slice
  have hmx : x.els.length ≤ 9223372036854775807 := by obtain ⟨_, _, _, hm, -⟩ := hs.h4.at; exact hm
  have S0 := hideI (Sn.begin h E hs hf)
  have hAs := hideI (smA_size x v)
  have C0 := hideI (fun (W : World) (s : Sn w W B b n mb x v (t)) => sn_body s _ eb IB (o3 (by omega)) (by skip; omega))
  have EB := hideI eb
  have EE := hideI ee
  clear h E hs hf ho hc hl hT o1 o2 o3 o4 IB IE eb ee
  obtain ⟨c0, -, -, -, -⟩ := (unhideI S0).bx.own
  rw [hk] at c0
  have HH := (unhideI S0).bx.heap
  generalize hA : smA x v = A at *
  generalize hW : w.alloc (.cells A 90) = W0 at *
  have hs0 : w.heap.size < W0.heap.size := (unhideI S0).bx.lt
  have hb0 : b < W0.heap.size := (unhideI S0).z.lt
  obtain ⟨-, -, q0b, q0e⟩ := (unhideI S0).bx.lists
  rw [unhideI EB] at q0b
  rw [unhideI EE] at q0e
  have D0 := hideI (unhideI C0 W0 (unhideI S0))
  clear C0
  go_enter Tryz.func50, Tryz.ntmps50
  go_wp2_with (first | (refine wpList_boxTo rfl 90 (.tmp 1) rfl (some 3) rfl _ rfl A rfl ?_; rw [hW]) | (refine wpList_load_row rfl 90 (.tmp 3) rfl w.heap.size rfl _ A _ _ HH Tryz.underlying90 rfl (by rw [unhideI hAs]; exact Tryz.sizeStat) ?_))
  refine (unhideI D0).mono ?_
  rintro e W1 ⟨rfl, s1⟩
  have S1 := hideI s1
  clear s1 D0 S0
  go_wp2_with fail
  first | go_end0 | refine bodyPost_ret (results_none rfl _ _ _) rfl ?_
  have z := (unhideI S1).z
  refine ⟨rfl, ?_, (unhideI S1).d⟩
  exact z
set_option maxRecDepth 100000 in
set_option maxHeartbeats 1000000 in
theorem wst_other (x : Sm) (IB : ∀ y ∈ x.body, WSm y) (IE : ∀ y ∈ x.els, WSm y) (v : Sv) (B b n mb : Nat) (t : List UInt8) (w : World) (h : Wz w B b (.map (some mb)) n t) (E : Env B b mb w) (hs : SvL B w x v) (hf : SmF x) (ho : OkS x) (hl : t.length + (stT x n).length ≤ 1000000000000) (n5 : ¬ x.k = 5) (n6 : ¬ x.k = 6) (n7 : ¬ x.k = 7) (n11 : ¬ x.k = 11) :
    Calls Tryz.prog 50 #[.pointer (some ⟨b, 0, none⟩), .agg (smA x v)] w fun e w' => e = .returned (.tuple #[]) ∧ Wz w' B b (.map (some mb)) n (t ++ stT x n) ∧ Wd B b w w' := by
  obtain ⟨hc, o1, o2, o3, o4⟩ := ho.parts
  have hT : stT x n = clT x ++ [59] := by rw [stT_eq, if_neg n5, if_neg n6, if_neg n7, if_neg n11]
  rw [hT] at hl ⊢
  obtain ⟨ab, cb, eb⟩ := hs.h3.slice
  obtain ⟨ae, ce, ee⟩ := hs.h4.slice
  have hmx : x.els.length ≤ 9223372036854775807 := by obtain ⟨_, _, _, hm, -⟩ := hs.h4.at; exact hm
  have S0 := hideI (Sn.begin h E hs hf)
  have hAs := hideI (smA_size x v)
  have C0 := hideI (fun (W : World) (s : Sn w W B b n mb x v (t)) => sn_self s hc (by simp only [List.length_append, List.length_cons, List.length_nil] at hl ⊢; omega))
  have C1 := hideI (fun (W : World) (s : Sn w W B b n mb x v (t ++ clT x)) => sn_byte s 59 (by simp only [List.length_append, List.length_cons, List.length_nil] at hl ⊢; omega))
  have EB := hideI eb
  have EE := hideI ee
  clear h E hs hf ho hc hl hT o1 o2 o3 o4 IB IE eb ee
  obtain ⟨c0, -, -, -, -⟩ := (unhideI S0).bx.own
  have e5 : (x.k == 5) = false := beq_eq_false_iff_ne.2 n5
  have e6 : (x.k == 6) = false := beq_eq_false_iff_ne.2 n6
  have e7 : (x.k == 7) = false := beq_eq_false_iff_ne.2 n7
  have e11 : (x.k == 11) = false := beq_eq_false_iff_ne.2 n11
  have HH := (unhideI S0).bx.heap
  generalize hA : smA x v = A at *
  generalize hW : w.alloc (.cells A 90) = W0 at *
  have hs0 : w.heap.size < W0.heap.size := (unhideI S0).bx.lt
  have hb0 : b < W0.heap.size := (unhideI S0).z.lt
  have D0 := hideI (unhideI C0 W0 (unhideI S0))
  clear C0
  go_enter Tryz.func50, Tryz.ntmps50
  go_wp2_with (first | (refine wpList_boxTo rfl 90 (.tmp 1) rfl (some 3) rfl _ rfl A rfl ?_; rw [hW]) | (refine wpList_load_row rfl 90 (.tmp 3) rfl w.heap.size rfl _ A _ _ HH Tryz.underlying90 rfl (by rw [unhideI hAs]; exact Tryz.sizeStat) ?_))
  refine (unhideI D0).mono ?_
  rintro e W1 ⟨rfl, s1⟩
  have S1 := hideI s1
  have hs1 : w.heap.size < W1.heap.size := s1.bx.lt
  have hb1 : b < W1.heap.size := s1.z.lt
  have D1 := hideI (unhideI C1 W1 s1)
  clear C1 s1 D0 S0
  go_wp2_with fail
  refine (unhideI D1).mono ?_
  rintro e W2 ⟨⟨u1, rfl⟩, s2⟩
  have S2 := hideI s2
  clear s2 D1 S1
  go_wp2_with fail
  first | go_end0 | refine bodyPost_ret (results_none rfl _ _ _) rfl ?_
  have z := (unhideI S2).z
  refine ⟨rfl, ?_, (unhideI S2).d⟩
  simp only [List.append_assoc] at z ⊢
  exact z
theorem wstat_any : ∀ x : Sm, WSm x := by
  apply Sm.ind
  intro x _ _ IB IE B b n mb t v w h E hs hf ho hl
  by_cases h5 : x.k = 5
  · by_cases hq : 0 < x.els.length
    · exact wst_ifElse x IB IE v B b n mb t w h E hs hf ho hl h5 hq
    · exact wst_if x IB IE v B b n mb t w h E hs hf ho hl h5 hq
  by_cases h6 : x.k = 6
  · exact wst_while x IB IE v B b n mb t w h E hs hf ho hl h6
  by_cases h7 : x.k = 7
  · exact wst_for x IB IE v B b n mb t w h E hs hf ho hl h7
  by_cases h11 : x.k = 11
  · exact wst_block x IB IE v B b n mb t w h E hs hf ho hl h11
  exact wst_other x IB IE v B b n mb t w h E hs hf ho hl h5 h6 h7 h11
end Go.Proofs.YtbakhengcgclmaaGreatDoor
