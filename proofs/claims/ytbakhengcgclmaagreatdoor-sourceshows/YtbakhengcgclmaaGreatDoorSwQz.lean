/-
  Writing: what stands ahead of a for's body.
-/
import Derived.Test.YtbakhengcgclmaaGreatDoorSwNz
namespace Go.Proofs.YtbakhengcgclmaaGreatDoor
open Go.RowKit Go.Great
set_option linter.unusedSimpArgs false
set_option linter.unusedVariables false

/-- What stands ahead of a for's body. -/
def forT (x : Sm) : List UInt8 := [102, 111, 114, 32, 40] ++ (x.init.map clT).flatten ++ [59] ++ (if x.has = true then [32] ++ shE x.x 1 else []) ++ [59] ++ (x.step.map (fun y => 32 :: clT y)).flatten ++ [41, 32]
theorem Sn.alloc {w W : World} {B b n mb : Nat} {x : Sm} {v : Sv} {t : List UInt8} (h : Sn w W B b n mb x v t) (o : Obj) : Sn w (W.alloc o) B b n mb x v t := by
  have hal := below_a W o
  exact h.next (Wd.of hal h.e.le) (h.z.step hal)
theorem sn_closed {w W W1 : World} {B b n mb : Nat} {x : Sm} {v : Sv} {t : List UInt8} (h : Sn w W1 B b n mb x v t) (y : Sm) (u : Sv) (hy : SvL B W y u) (k : Below B W W1) (hf : SmF y) (ho : OkC y) (hl : t.length + (clT y).length ≤ 1000000000000) : Calls Tryz.prog 68 #[.pointer (some ⟨b, 0, none⟩), .agg (smA y u)] W1 fun e W' => e = .returned (.tuple #[]) ∧ Sn w W' B b n mb x v (t ++ clT y) :=
  (wclosed_any y u B b n mb t W1 h.z h.e (hy.step k) hf ho hl).mono fun _ _ ⟨h1, h2, h3⟩ => ⟨h1, h.next h3 h2⟩
theorem flat_take (f : Sm → List UInt8) (l : List Sm) (i : Nat) (hi : i < l.length) : ((l.take (i + 1)).map f).flatten = ((l.take i).map f).flatten ++ f l[i] := by
  rw [List.take_succ_eq_append_getElem hi, List.map_append, List.flatten_append]; simp only [List.map_cons, List.map_nil, List.flatten_cons, List.flatten_nil, List.append_nil]
theorem flat_take_le (f : Sm → List UInt8) (l : List Sm) (i : Nat) (hi : i < l.length) : ((l.take i).map f).flatten.length + (f l[i]).length ≤ (l.map f).flatten.length := by
  rw [← List.length_append, ← flat_take f l i hi]
  conv => rhs; rw [← List.take_append_drop (i + 1) l, List.map_append, List.flatten_append, List.length_append]
  omega
theorem sn_blank {w W : World} {B b n mb : Nat} {x : Sm} {v : Sv} {t : List UInt8} (h : Sn w W B b n mb x v t) (y : Sm) (u : Sv) (hy : SvL B W y u) (hl : t.length + 1 ≤ 1099511627776) : Calls Tryz.prog 28 #[.pointer (some ⟨b, 0, none⟩), .int .u8 32] (W.alloc (.cells (smA y u) 90)) fun e W' => (∃ v, e = .returned v) ∧ Sn w W' B b n mb x v (t ++ [32]) ∧ SmB W' W.heap.size y u ∧ SvL B W' y u := by
  have ha := h.alloc (.cells (smA y u) 90)
  have ka := below_a W (.cells (smA y u) 90)
  have hlt := h.z.lt
  have hle := h.e.le
  exact (zbyte_any B b n _ t 32 _ ha.z hl ha.e.le).mono fun _ _ ⟨h1, h2, h3⟩ => ⟨h1, ha.next h3 h2, (SmB.new W y u).wf h3.wf (by omega), (hy.step (ka.mono hle)).step h3.below⟩
set_option maxRecDepth 100000 in
set_option maxHeartbeats 2000000 in
theorem wfor_any (x : Sm) (v : Sv) (B b n mb : Nat) (t : List UInt8) (w : World) (h : Wz w B b (.map (some mb)) n t) (E : Env B b mb w) (hs : SvL B w x v) (hf : SmF x) (hx : x.has = true → OkE x.x) (h1 : ∀ y ∈ x.init, OkC y) (h2 : ∀ y ∈ x.step, OkC y) (hl : t.length + (forT x).length ≤ 1000000000000) :
    Calls Tryz.prog 67 #[.pointer (some ⟨b, 0, none⟩), .agg (smA x v)] w fun e w' => e = .returned (.tuple #[]) ∧ Wz w' B b (.map (some mb)) n (t ++ forT x) ∧ Wd B b w w' := by
  obtain ⟨ai, ci, ei, hmi, -⟩ := hs.h1.at
  obtain ⟨ap, cp, ep, hmp, -⟩ := hs.h2.at
  unfold maxLen at hmi hmp
  have S0 := hideI (Sn.begin h E hs hf)
  have EI := hideI ei
  have EP := hideI ep
  clear h E hs hf ei ep
  have hlen : (forT x).length = 5 + (x.init.map clT).flatten.length + 1 + (if x.has = true then [32] ++ shE x.x 1 else []).length + 1 + (x.step.map (fun y => 32 :: clT y)).flatten.length + 2 := by unfold forT; simp only [List.length_append, List.length_cons, List.length_nil]
  rw [hlen] at hl
  have HL := hideI hl
  have hl0 : t.length + 5 ≤ 1000000000000 := by omega
  clear hlen hl
  have H1 := hideI h1
  have H2 := hideI h2
  have HXO := hideI hx
  clear h1 h2 hx
  have hs0 := (unhideI S0).bx.lt
  have hb0 := (unhideI S0).z.lt
  have WS := hideI (sn_str (unhideI S0) ⟨#[102, 111, 114, 32, 40]⟩ (by show _ + 5 ≤ _; omega))
  generalize hA0 : smA x v = A0 at *
  generalize hW : w.alloc (.cells A0 90) = WA at *
  go_enter Tryz.func67, Tryz.ntmps67
  go_wp2_with (refine wpList_boxTo rfl 90 (.tmp 1) rfl (some 3) rfl _ rfl A0 rfl ?_; rw [hW])
  refine (unhideI WS).mono ?_
  rintro e W1 ⟨⟨u, rfl⟩, s1⟩
  have S1 := hideI s1
  obtain ⟨l0, -, -, -⟩ := s1.bx.lists
  rw [unhideI EI] at l0
  have hs1 : w.heap.size < W1.heap.size := s1.bx.lt
  clear WS s1 S0 hs0 hb0 hW
  go_wp2_with fail
  go_loopg [15] x.init.length (fun g y wr => ∃ (i : Nat), i ≤ x.init.length ∧ g = x.init.length - i ∧ y = .int .i64 (i : Int) ∧ Hid (Sn w wr B b n mb x v (t ++ [102, 111, 114, 32, 40] ++ ((x.init.take i).map clT).flatten)))
  case atStart => exact ⟨0, Nat.zero_le _, rfl, rfl, hideI (by simpa using unhideI S1)⟩
  case round =>
    obtain ⟨i, hi, hg, rfl, HC⟩ := hrel
    generalize wr = W0 at *
    clear S1 l0 hs1
    have hb1 : b < W0.heap.size := (unhideI HC).z.lt
    have hs1 : w.heap.size < W0.heap.size := (unhideI HC).bx.lt
    by_cases hlt : i < x.init.length
    · have hxw := (unhideI HC).sv.h1
      rw [unhideI EI] at hxw
      obtain ⟨b1, o1, sv, rfl, hbw, hra, hsv, hf⟩ := hxw.read i hlt
      have HRA := hideI hra
      have ONE := hideI hsv.one
      have hiI : (i : Int) < (x.init.length : Int) := by omega
      have hi0 : (0 : Int) ≤ (i : Int) := by omega
      have ka := below_a W0 (.cells (smA x.init[i] sv) 90)
      have hB := (unhideI HC).e.le
      have CA := hideI (sn_closed ((unhideI HC).alloc (.cells (smA x.init[i] sv) 90)) x.init[i] sv hsv (ka.mono hB) hf (unhideI H1 _ (List.getElem_mem hlt)) (by have := flat_take_le clT x.init i hlt; have := unhideI HL; simp only [List.length_append, List.length_cons, List.length_nil]; omega))
      have NB := hideI (SmB.new W0 x.init[i] sv).heap
      have hAs := hideI (smA_size x.init[i] sv)
      have FT := hideI (flat_take clT x.init i hlt)
      clear hra hxw hsv hf ka hB
      generalize x.init[i] = y at *
      generalize smA y sv = A at *
      go_wp2_with (first | (refine wpList_load_mid rfl 90 (.tmp 17) rfl b1 (o1 + i * 21) rfl A.toList _ (unhideI HRA) Tryz.underlying90 rfl (by rw [Array.length_toList, unhideI hAs]; exact Tryz.sizeStat) ?_) | (refine wpList_store_row rfl 90 (.tmp 5) (.tmp 18) rfl W0.heap.size A rfl rfl _ _ (heapNew0 _ _) (by rw [unhideI hAs]; exact Tryz.sizeStat) (by rw [unhideI hAs]; rfl) (unhideI ONE) ?_; rw [row_alloc]) | (refine wpList_load_row rfl 90 (.tmp 5) rfl W0.heap.size rfl _ A _ _ (unhideI NB) Tryz.underlying90 rfl (by rw [unhideI hAs]; exact Tryz.sizeStat) ?_))
      refine (unhideI CA).mono ?_
      rintro e w1 ⟨rfl, k1⟩
      have K1 := hideI k1
      clear CA k1 HC NB HRA ONE hAs
      go_wp2_with fail
      go_roundg (x.init.length - (i + 1))
      case measure => omega
      case rel =>
        refine ⟨i + 1, by omega, rfl, by go_num, ?_⟩
        rw [unhideI FT, ← List.append_assoc]
        exact K1
    · have hiI : ¬ (i : Int) < (x.init.length : Int) := by omega
      have hil : x.init.take i = x.init := List.take_of_length_le (by omega)
      rw [hil] at HC
      clear hil
      have CB := hideI (sn_byte (unhideI HC) 59 (by have := unhideI HL; simp only [List.length_append, List.length_cons, List.length_nil]; omega))
      go_wp2_with fail
      refine (unhideI CB).mono ?_
      rintro e W3 ⟨⟨u, rfl⟩, s3⟩
      have S3 := hideI s3
      obtain ⟨-, -, -, -, c4⟩ := s3.bx.own
      have hs3 : w.heap.size < W3.heap.size := s3.bx.lt
      have hb3 : b < W3.heap.size := s3.z.lt
      clear CB s3 HC hb1 hs1 EI H1
      by_cases hh : x.has = true
      · rw [hh] at c4
        have hq : (if x.has = true then [32] ++ shE x.x 1 else ([] : List UInt8)) = [32] ++ shE x.x 1 := if_pos hh
        have HL5 := hideI (show (t ++ [102, 111, 114, 32, 40] ++ (x.init.map clT).flatten ++ [59] ++ [32] ++ shE x.x 1).length + (1 + (x.step.map (fun y => 32 :: clT y)).flatten.length + 2) ≤ 1000000000000 by
          have := unhideI HL; rw [hq] at this; simp only [List.length_append, List.length_cons, List.length_nil] at this ⊢; omega)
        have HE5 := hideI (show t ++ forT x = t ++ [102, 111, 114, 32, 40] ++ (x.init.map clT).flatten ++ [59] ++ [32] ++ shE x.x 1 ++ [59] ++ (x.step.map (fun y => 32 :: clT y)).flatten ++ [41, 32] by
          unfold forT; rw [hq]; simp only [List.append_assoc])
        have CX := hideI (fun (W : World) (s : Sn w W B b n mb x v (t ++ [102, 111, 114, 32, 40] ++ (x.init.map clT).flatten ++ [59] ++ [32])) => sn_X s (unhideI HXO hh) (by have := unhideI HL; rw [hq] at this; simp only [List.length_append, List.length_cons, List.length_nil] at this ⊢; omega))
        have CB := hideI (sn_byte (unhideI S3) 32 (by have := unhideI HL; rw [hq] at this; simp only [List.length_append, List.length_cons, List.length_nil] at this ⊢; omega))
        clear hq hh
        go_wp2_with fail
        refine (unhideI CB).mono ?_
        rintro e W4 ⟨⟨u, rfl⟩, s4⟩
        obtain ⟨p0, p1, p2, p3, p4, p5⟩ := s4.bx.exX
        have hs4 : w.heap.size < W4.heap.size := s4.bx.lt
        have CY := hideI (unhideI CX W4 s4)
        clear CB s4 S3 c4 CX
        go_wp2_with fail
        refine (unhideI CY).mono ?_
        rintro e W5 ⟨rfl, s5⟩
        have S5 := hideI s5
        have hb5 : b < W5.heap.size := s5.z.lt
        clear CY s5 p0 p1 p2 p3 p4 p5
        generalize t ++ [102, 111, 114, 32, 40] ++ (x.init.map clT).flatten ++ [59] ++ [32] ++ shE x.x 1 = t5 at *
        have CC := hideI (sn_byte (unhideI S5) 59 (by have := unhideI HL5; omega))
        go_wp2_with fail
        refine (unhideI CC).mono ?_
        rintro e W6 ⟨⟨u, rfl⟩, s6⟩
        have S6 := hideI s6
        obtain ⟨-, l1, -, -⟩ := s6.bx.lists
        rw [unhideI EP] at l1
        have hs6 : w.heap.size < W6.heap.size := s6.bx.lt
        clear CC s6 S5
        go_wp2_with fail
        go_loopg [44] x.step.length (fun g y wr => ∃ (i : Nat), i ≤ x.step.length ∧ g = x.step.length - i ∧ y = .int .i64 (i : Int) ∧ Hid (Sn w wr B b n mb x v (t5 ++ [59] ++ ((x.step.take i).map (fun y => 32 :: clT y)).flatten)))
        case atStart => exact ⟨0, Nat.zero_le _, rfl, rfl, hideI (by simpa using unhideI S6)⟩
        case round =>
          obtain ⟨i, hi, hg, rfl, HC⟩ := hrel
          generalize wr = W0 at *
          clear S6 l1 hs6
          have hb1 : b < W0.heap.size := (unhideI HC).z.lt
          have hs1 : w.heap.size < W0.heap.size := (unhideI HC).bx.lt
          by_cases hlt : i < x.step.length
          · have hxw := (unhideI HC).sv.h2
            rw [unhideI EP] at hxw
            obtain ⟨b1, o1, sv, rfl, hbw, hra, hsv, hf⟩ := hxw.read i hlt
            have HRA := hideI hra
            have ONE := hideI hsv.one
            have hiI : (i : Int) < (x.step.length : Int) := by omega
            have hi0 : (0 : Int) ≤ (i : Int) := by omega
            have HFL : (((x.step.take i).map (fun y => 32 :: clT y)).flatten.length + ((clT x.step[i]).length + 1) ≤ (x.step.map (fun y => 32 :: clT y)).flatten.length) := flat_take_le (fun y => 32 :: clT y) x.step i hlt
            have CA := hideI (sn_blank (unhideI HC) x.step[i] sv hsv (by have := unhideI HL5; simp only [List.length_append, List.length_cons, List.length_nil]; omega))
            have CD := hideI (fun (W : World) (s : Sn w W B b n mb x v (t5 ++ [59] ++ ((x.step.take i).map (fun y => 32 :: clT y)).flatten ++ [32])) (q : SvL B W x.step[i] sv) => sn_closed s x.step[i] sv q (Below.refl _ _) hf (unhideI H2 _ (List.getElem_mem hlt)) (by have := unhideI HL5; simp only [List.length_append, List.length_cons, List.length_nil]; omega))
            have hAs := hideI (smA_size x.step[i] sv)
            have FT := hideI (flat_take (fun y => 32 :: clT y) x.step i hlt)
            have HN := hideI (fun (W : World) (q : SmB W W0.heap.size x.step[i] sv) => q.heap)
            have HN2 := hideI (fun (W : World) (q : SmB W W0.heap.size x.step[i] sv) => q.lt)
            clear hra hxw hsv hf HFL
            generalize x.step[i] = y at *
            generalize smA y sv = A at *
            go_wp2_with (first | (refine wpList_load_mid rfl 90 (.tmp 46) rfl b1 (o1 + i * 21) rfl A.toList _ (unhideI HRA) Tryz.underlying90 rfl (by rw [Array.length_toList, unhideI hAs]; exact Tryz.sizeStat) ?_) | (refine wpList_store_row rfl 90 (.tmp 7) (.tmp 47) rfl W0.heap.size A rfl rfl _ _ (heapNew0 _ _) (by rw [unhideI hAs]; exact Tryz.sizeStat) (by rw [unhideI hAs]; rfl) (unhideI ONE) ?_; rw [row_alloc]))
            refine (unhideI CA).mono ?_
            rintro e w1 ⟨⟨u, rfl⟩, k1, k2, k3⟩
            have CE := hideI (unhideI CD w1 k1 k3)
            have NB := hideI (unhideI HN w1 k2)
            have hs8 : W0.heap.size < w1.heap.size := unhideI HN2 w1 k2
            clear CA k1 k2 k3 HC HRA ONE CD HN HN2
            go_wp2_with (refine wpList_load_row rfl 90 (.tmp 7) rfl W0.heap.size rfl _ A _ _ (unhideI NB) Tryz.underlying90 rfl (by rw [unhideI hAs]; exact Tryz.sizeStat) ?_)
            refine (unhideI CE).mono ?_
            rintro e w2 ⟨rfl, k4⟩
            have K4 := hideI k4
            clear CE k4 NB hAs
            go_wp2_with fail
            go_roundg (x.step.length - (i + 1))
            case measure => omega
            case rel =>
              refine ⟨i + 1, by omega, rfl, by go_num, ?_⟩
              rw [unhideI FT]
              exact hideI (by simpa using unhideI K4)
          · have hiI : ¬ (i : Int) < (x.step.length : Int) := by omega
            have hil : x.step.take i = x.step := List.take_of_length_le (by omega)
            rw [hil] at HC
            clear hil
            have CA := hideI (sn_str (unhideI HC) ⟨#[41, 32]⟩ (by have := unhideI HL5; simp only [List.length_append, List.length_cons, List.length_nil]; show _ + 2 ≤ _; omega))
            clear HC
            go_wp2_with fail
            refine (unhideI CA).mono ?_
            rintro e w1 ⟨⟨u, rfl⟩, k1⟩
            have K1 := hideI k1
            clear CA k1
            go_wp2_with fail
            first | go_end0 | refine bodyPost_ret (results_none rfl _ _ _) rfl ?_
            refine ⟨rfl, ?_, (unhideI K1).d⟩
            rw [unhideI HE5]
            exact (unhideI K1).z
      · have hh2 : x.has = false := by simpa using hh
        rw [hh2] at c4
        have hq : (if x.has = true then [32] ++ shE x.x 1 else ([] : List UInt8)) = [] := if_neg hh
        have HL5 := hideI (show (t ++ [102, 111, 114, 32, 40] ++ (x.init.map clT).flatten ++ [59]).length + (1 + (x.step.map (fun y => 32 :: clT y)).flatten.length + 2) ≤ 1000000000000 by
          have := unhideI HL; rw [hq] at this; simp only [List.length_append, List.length_cons, List.length_nil] at this ⊢; omega)
        have HE5 := hideI (show t ++ forT x = t ++ [102, 111, 114, 32, 40] ++ (x.init.map clT).flatten ++ [59] ++ [59] ++ (x.step.map (fun y => 32 :: clT y)).flatten ++ [41, 32] by
          unfold forT; rw [hq]; simp only [List.append_assoc, List.nil_append])
        have S5 := S3
        have hb5 := hb3
        have hs5 := hs3
        clear hq hh hh2 S3
        generalize W3 = W5 at *
        change Hid (Sn w W5 B b n mb x v (t ++ [102, 111, 114, 32, 40] ++ (x.init.map clT).flatten ++ [59])) at S5
        generalize t ++ [102, 111, 114, 32, 40] ++ (x.init.map clT).flatten ++ [59] = t5 at *
        have CC := hideI (sn_byte (unhideI S5) 59 (by have := unhideI HL5; omega))
        go_wp2_with fail
        refine (unhideI CC).mono ?_
        rintro e W6 ⟨⟨u, rfl⟩, s6⟩
        have S6 := hideI s6
        obtain ⟨-, l1, -, -⟩ := s6.bx.lists
        rw [unhideI EP] at l1
        have hs6 : w.heap.size < W6.heap.size := s6.bx.lt
        clear CC s6 S5
        go_wp2_with fail
        go_loopg [44] x.step.length (fun g y wr => ∃ (i : Nat), i ≤ x.step.length ∧ g = x.step.length - i ∧ y = .int .i64 (i : Int) ∧ Hid (Sn w wr B b n mb x v (t5 ++ [59] ++ ((x.step.take i).map (fun y => 32 :: clT y)).flatten)))
        case atStart => exact ⟨0, Nat.zero_le _, rfl, rfl, hideI (by simpa using unhideI S6)⟩
        case round =>
          obtain ⟨i, hi, hg, rfl, HC⟩ := hrel
          generalize wr = W0 at *
          clear S6 l1 hs6
          have hb1 : b < W0.heap.size := (unhideI HC).z.lt
          have hs1 : w.heap.size < W0.heap.size := (unhideI HC).bx.lt
          by_cases hlt : i < x.step.length
          · have hxw := (unhideI HC).sv.h2
            rw [unhideI EP] at hxw
            obtain ⟨b1, o1, sv, rfl, hbw, hra, hsv, hf⟩ := hxw.read i hlt
            have HRA := hideI hra
            have ONE := hideI hsv.one
            have hiI : (i : Int) < (x.step.length : Int) := by omega
            have hi0 : (0 : Int) ≤ (i : Int) := by omega
            have HFL : (((x.step.take i).map (fun y => 32 :: clT y)).flatten.length + ((clT x.step[i]).length + 1) ≤ (x.step.map (fun y => 32 :: clT y)).flatten.length) := flat_take_le (fun y => 32 :: clT y) x.step i hlt
            have CA := hideI (sn_blank (unhideI HC) x.step[i] sv hsv (by have := unhideI HL5; simp only [List.length_append, List.length_cons, List.length_nil]; omega))
            have CD := hideI (fun (W : World) (s : Sn w W B b n mb x v (t5 ++ [59] ++ ((x.step.take i).map (fun y => 32 :: clT y)).flatten ++ [32])) (q : SvL B W x.step[i] sv) => sn_closed s x.step[i] sv q (Below.refl _ _) hf (unhideI H2 _ (List.getElem_mem hlt)) (by have := unhideI HL5; simp only [List.length_append, List.length_cons, List.length_nil]; omega))
            have hAs := hideI (smA_size x.step[i] sv)
            have FT := hideI (flat_take (fun y => 32 :: clT y) x.step i hlt)
            have HN := hideI (fun (W : World) (q : SmB W W0.heap.size x.step[i] sv) => q.heap)
            have HN2 := hideI (fun (W : World) (q : SmB W W0.heap.size x.step[i] sv) => q.lt)
            clear hra hxw hsv hf HFL
            generalize x.step[i] = y at *
            generalize smA y sv = A at *
            go_wp2_with (first | (refine wpList_load_mid rfl 90 (.tmp 46) rfl b1 (o1 + i * 21) rfl A.toList _ (unhideI HRA) Tryz.underlying90 rfl (by rw [Array.length_toList, unhideI hAs]; exact Tryz.sizeStat) ?_) | (refine wpList_store_row rfl 90 (.tmp 7) (.tmp 47) rfl W0.heap.size A rfl rfl _ _ (heapNew0 _ _) (by rw [unhideI hAs]; exact Tryz.sizeStat) (by rw [unhideI hAs]; rfl) (unhideI ONE) ?_; rw [row_alloc]))
            refine (unhideI CA).mono ?_
            rintro e w1 ⟨⟨u, rfl⟩, k1, k2, k3⟩
            have CE := hideI (unhideI CD w1 k1 k3)
            have NB := hideI (unhideI HN w1 k2)
            have hs8 : W0.heap.size < w1.heap.size := unhideI HN2 w1 k2
            clear CA k1 k2 k3 HC HRA ONE CD HN HN2
            go_wp2_with (refine wpList_load_row rfl 90 (.tmp 7) rfl W0.heap.size rfl _ A _ _ (unhideI NB) Tryz.underlying90 rfl (by rw [unhideI hAs]; exact Tryz.sizeStat) ?_)
            refine (unhideI CE).mono ?_
            rintro e w2 ⟨rfl, k4⟩
            have K4 := hideI k4
            clear CE k4 NB hAs
            go_wp2_with fail
            go_roundg (x.step.length - (i + 1))
            case measure => omega
            case rel =>
              refine ⟨i + 1, by omega, rfl, by go_num, ?_⟩
              rw [unhideI FT]
              exact hideI (by simpa using unhideI K4)
          · have hiI : ¬ (i : Int) < (x.step.length : Int) := by omega
            have hil : x.step.take i = x.step := List.take_of_length_le (by omega)
            rw [hil] at HC
            clear hil
            have CA := hideI (sn_str (unhideI HC) ⟨#[41, 32]⟩ (by have := unhideI HL5; simp only [List.length_append, List.length_cons, List.length_nil]; show _ + 2 ≤ _; omega))
            clear HC
            go_wp2_with fail
            refine (unhideI CA).mono ?_
            rintro e w1 ⟨⟨u, rfl⟩, k1⟩
            have K1 := hideI k1
            clear CA k1
            go_wp2_with fail
            first | go_end0 | refine bodyPost_ret (results_none rfl _ _ _) rfl ?_
            refine ⟨rfl, ?_, (unhideI K1).d⟩
            rw [unhideI HE5]
            exact (unhideI K1).z
end Go.Proofs.YtbakhengcgclmaaGreatDoor

/-
  Writing: how deep; a bracket that closes a block (a deferred call).
-/
namespace Go.Proofs.YtbakhengcgclmaaGreatDoor
open Go.RowKit Go.Great
set_option linter.unusedSimpArgs false
set_option linter.unusedVariables false

theorem Wz.deep {w : World} {B b n : Nat} {mv : Value} {t : List UInt8} (h : Wz w B b mv n t) (m : Nat) : Wz (w.setCell ⟨b, 3, none⟩ (.int .i64 (m : Int))) B b mv m t ∧ Wd B b w (w.setCell ⟨b, 3, none⟩ (.int .i64 (m : Int))) := by
  obtain ⟨g, p, v, hB, hk, hp, hown, hvg, hne⟩ := h
  refine ⟨⟨g, p, v, hB, heap_setCellw hk, hp, own_setRw hown (by rw [hvg]; exact hne), hvg, hne⟩, ?_, Wf.setCell _ _⟩
  exact (Below.refl B w).setCell (p := ⟨b, 3, none⟩) hB _
set_option maxRecDepth 100000 in
set_option maxHeartbeats 1000000 in
theorem wcloseD_any (B b n : Nat) (mv : Value) (t : List UInt8) (u : FrameMode) (w : World) (h : Wz w B b mv (n + 1) t) (hl : t.length + n + 1 ≤ 1000000000000) (hB : B ≤ w.heap.size) :
    CallsD Tryz.prog 48 #[.pointer (some ⟨b, 0, none⟩)] u w fun e u' w' => u' = u ∧ (e = .returned (.tuple #[]) ∧ Wz w' B b mv n (t ++ (List.replicate n 9 ++ [125])) ∧ Wd B b w w') := by
  obtain ⟨z1, k1⟩ := h.deep n
  obtain ⟨c2, c3⟩ := h.cells
  have hlt := h.lt
  have hth := h.thaw 3
  have e1 : ((n + 1 : Nat) : Int) = (n : Int) + 1 := rfl
  rw [e1] at c3
  have es : (n : Int) + 1 - 1 = (n : Int) := by omega
  have hnI : (n : Int) ≤ 1000000000000 := by omega
  have hn0 : (0 : Int) ≤ (n : Int) := by omega
  have hB1 : B ≤ (w.setCell ⟨b, 3, none⟩ (.int .i64 (n : Int))).heap.size := Nat.le_trans hB k1.wf.size
  have TA := hideI (wtabs_any B b n mv t _ z1 (by omega) hB1)
  have K1 := hideI k1
  have hlt1 := z1.lt
  clear z1 k1 h
  go_enter_d Tryz.func48, Tryz.ntmps48
  go_wp2_with fail
  refine (unhideI TA).mono ?_
  rintro e W2 ⟨rfl, z2, k2⟩
  have hb2 := z2.lt
  have WB := hideI (zbyte_any B b n _ _ 125 W2 z2 (by simp only [List.length_append, List.length_replicate]; omega) (Nat.le_trans hB1 k2.wf.size))
  have K2 := hideI ((unhideI K1).trans k2)
  clear TA z2 k2
  go_wp2_with fail
  refine (unhideI WB).mono ?_
  rintro e W3 ⟨⟨u2, rfl⟩, z3, k3⟩
  have Z3 := hideI z3
  have K3 := hideI ((unhideI K2).trans k3)
  clear WB z3 k3
  go_wp2_with fail
  first | go_end0 | go_ret | refine bodyPost_ret (results_none rfl _ _ _) rfl ?_
  refine ⟨rfl, ?_, unhideI K3⟩
  have z := unhideI Z3
  rw [List.append_assoc] at z
  exact z
end Go.Proofs.YtbakhengcgclmaaGreatDoor
