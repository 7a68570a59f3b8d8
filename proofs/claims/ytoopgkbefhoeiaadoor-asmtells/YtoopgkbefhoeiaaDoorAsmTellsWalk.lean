/-
  pairlegallaw4.AsmTells: the walk.
-/
import Derived.Test.YtoopgkbefhoeiaaDoorT4D
import Derived.Test.YtoopgkbefhoeiaaDoorT4H
import Derived.Test.YtoopgkbefhoeiaaDoorRefS
namespace Go.Proofs.YtoopgkbefhoeiaaDoor
open Go.RowKit Go.Maps
set_option linter.unusedSimpArgs false
set_option linter.unusedVariables false

theorem fault_put {w : World} {b : Nat} {a0 a1 : Value} (h : Box w b [a0, a1]) (u0 u1 : Value) : Box ((w.setCell ⟨b, 0, none⟩ u0).setCell ⟨b, 1, none⟩ u1) b [u0, u1] := (h.set (j := 0) (u := u0) (by simp)).set (j := 1) (u := u1) (by simp)
theorem box_2 {w : World} {b c : Nat} {cs : List Value} (h : Box w b cs) (hne : b ≠ c) (u0 u1 : Value) : Box ((w.setCell ⟨c, 0, none⟩ u0).setCell ⟨c, 1, none⟩ u1) b cs := (h.other hne).other hne
theorem lies_2 {w : World} {s n b : Nat} {v : Value} {cs : List Value} (h : Lies w s v n cs) (hne : ∀ k, v.ownBlock = some k → k ≠ b) (u0 u1 : Value) : Lies ((w.setCell ⟨b, 0, none⟩ u0).setCell ⟨b, 1, none⟩ u1) s v n cs := (h.other hne).other hne
theorem size_2 (w : World) (b : Nat) (u0 u1 : Value) : ((w.setCell ⟨b, 0, none⟩ u0).setCell ⟨b, 1, none⟩ u1).heap.size = w.heap.size := by simp
set_option maxRecDepth 100000 in
set_option maxHeartbeats 4000000 in
theorem asmTells_any (l : List Ln) (v : Value) (s : ByteArray) (w : World) (hv : Lns w v l) (G : Gl w) : Calls Tryd.prog 3 #[v, .string s] w fun e w' => e = .returned (.bool true) ∧ Below w.heap.size w w' := by
  have HG := hideI G
  have HL := hideI hv
  have NA := fun w => named_any s w
  have NB := fun w => named4_any s w
  generalize nm s = bb at *
  obtain ⟨ao, ca, rfl, hmax, -⟩ := hv.at
  unfold maxLen at hmax
  clear hv G
  have hbb : (bb != bb) = false := by simp
  go_enter Tryd.func3, Tryd.ntmps3
  go_wp2_with fail
  refine (NA _).mono ?_
  rintro e w1 ⟨rfl, hw1⟩
  subst w1
  go_wp2_with fail
  refine (NB _).mono ?_
  rintro e w2 ⟨rfl, k2⟩
  have K2 := hideI k2
  have L2 := hideI ((unhideI HL).step k2)
  obtain ⟨a5, c5, he5, -, hat5⟩ := (unhideI L2).at
  obtain rfl : ao = a5 := by injection he5
  have HA := hideI hat5
  have HL0 := HL
  clear NA NB k2 he5 hat5 HL
  go_wp2_with fail
  have HW0 := hideI (Below.refl w2.heap.size w2)
  go_loopg [20] l.length (fun g vi ws => ∃ (k : Nat), k ≤ l.length ∧ g = l.length - k ∧ vi = .int .i64 k ∧ Hid (Below w2.heap.size w2 ws))
  case atStart => exact ⟨0, Nat.zero_le _, rfl, rfl, HW0⟩
  case round =>
    obtain ⟨k, hk, hg, rfl, HW⟩ := hrel
    clear HW0
    by_cases hlt : k < l.length
    · have hn : l ≠ [] := by intro h; rw [h] at hlt; simp at hlt
      obtain ⟨b, off, rfl, hb, hc⟩ := (unhideI HA) hn
      obtain ⟨x0, x1, x2, x3, x4, x5⟩ := hc k hlt
      replace x0 := cell_keep (unhideI HW) hb x0
      replace x1 := cell_keep (unhideI HW) hb x1
      replace x2 := cell_keep (unhideI HW) hb x2
      replace x3 := cell_keep (unhideI HW) hb x3
      replace x4 := cell_keep (unhideI HW) hb x4
      replace x5 := cell_keep (unhideI HW) hb x5
      have hki : (k : Int) < (l.length : Int) := by omega
      clear hc
      generalize l[k] = x at *
      have WA := fun w => wrongL_any x w
      have WB := fun w => wrong4_any x w
      unfold aggL at WA WB
      generalize wrgL x = er at *
      have kA := below_a wr (.cells #[.string x.lab, .int .i64 x.i.o, .int .i64 x.i.d, .int .i64 x.i.s, .int .i64 x.i.m, .string x.ref] 27)
      have XU := Box.new wr #[.string x.lab, .int .i64 x.i.o, .int .i64 x.i.d, .int .i64 x.i.s, .int .i64 x.i.m, .string x.ref] 27
      have KA := hideI ((unhideI HW).trans (kA.mono (unhideI HW).size))
      have c0 := XU.2.1 0 _ rfl
      have c1 := XU.2.1 1 _ rfl
      have c2 := XU.2.1 2 _ rfl
      have c3 := XU.2.1 3 _ rfl
      have c4 := XU.2.1 4 _ rfl
      have c5 := XU.2.1 5 _ rfl
      have hlb := XU.1
      clear kA XU HW
      go_wp2_with fail
      generalize wr.alloc (.cells #[.string x.lab, .int .i64 x.i.o, .int .i64 x.i.d, .int .i64 x.i.s, .int .i64 x.i.m, .string x.ref] 27) = wa at *
      generalize wr.heap.size = lb at *
      clear x0 x1 x2 x3 x4 x5
      have hee : (er != er) = false := by simp
      refine wp_region_later (by kernel_rfl) (by kernel_rfl) ?_
      intro L hne lt hlc hlf hlm
      repeat (go_big_quiet_step (first | (go_at_call 6; exact later_call hlm (WA _)) | (go_at_call 7; exact later_call hlm (WB _))))
      refine wpQuiet_nil ?_
      intro wq kq
      clear hlm hlf hlc lt hne L
      obtain ⟨hqc, hqf⟩ := below_cells kq
      have HW2 := hideI ((unhideI KA).trans (kq.mono (unhideI KA).size))
      clear kq hqc hqf c0 c1 c2 c3 c4 c5 WA WB KA
      go_wp2_with fail
      go_roundg (l.length - (k + 1))
      case measure => omega
      case rel => exact ⟨k + 1, by omega, rfl, by go_num, HW2⟩
    · have hkm : ¬ (k : Int) < (l.length : Int) := by omega
      have K3 := hideI (bt (unhideI K2) (unhideI HW))
      have L3 := hideI ((unhideI L2).step (unhideI HW))
      have SA := show_any l _ wr ((unhideI HG).step (unhideI K3)) (unhideI L3)
      have SB := fun w h => show4_any l (.slice ao l.length ca) w h
      generalize shwA l = R at *
      obtain ⟨ss, e4, f4⟩ := R
      dsimp only at SA SB
      have AA := fun w h => asm_any l (.slice ao l.length ca) w h
      have AB := fun w h => assemble4_any l (.slice ao l.length ca) w h
      unfold AsmRet at AB
      generalize asmA l = T at *
      obtain ⟨wl, eT, fT⟩ := T
      dsimp only at AA AB
      clear HA HW K2 L2
      go_wp2_with fail
      refine SA.mono ?_
      rintro e w4 ⟨rfl, k4⟩
      have k5 := below_a w4 (.cells #[.int .i64 e4, .int .i64 f4] 31)
      have B5 := hideI (Box.new w4 #[.int .i64 e4, .int .i64 f4] 31)
      have K5 := hideI (bt (unhideI K3) (bt k4 k5))
      have L5 := hideI ((unhideI L3).step (bt k4 k5))
      have hp4 : w.heap.size ≤ w4.heap.size := (bt (unhideI K3) k4).size
      clear SA k4 k5 K3 L3
      generalize ba ss = sb at *
      go_wp2_with fail
      generalize w4.alloc (.cells #[.int .i64 e4, .int .i64 f4] 31) = w5 at *
      generalize w4.heap.size = p4 at *
      refine (SB _ (unhideI L5)).mono ?_
      rintro e w6 ⟨rfl, k6⟩
      have k7 := below_a w6 (.cells #[.int .i64 e4, .int .i64 f4] 31)
      have s7 : (w6.alloc (.cells #[.int .i64 e4, .int .i64 f4] 31)).heap.size = w6.heap.size + 1 := by simp
      have B7 := hideI ((unhideI B5).step (bt k6 k7))
      have C7 := hideI (Box.new w6 #[.int .i64 e4, .int .i64 f4] 31)
      have K7 := hideI (bt (unhideI K5) (bt k6 k7))
      have L7 := hideI ((unhideI L5).step (bt k6 k7))
      have h46 : p4 < w6.heap.size := Nat.lt_of_lt_of_le (unhideI B5).1 k6.size
      obtain ⟨y0, y1⟩ := (unhideI B7).at2
      obtain ⟨z0, z1⟩ := (unhideI C7).at2
      have hp6 : w.heap.size ≤ w6.heap.size := by omega
      clear SB k6 k7 K5 L5 B5
      go_wp2_with fail
      generalize w6.alloc (.cells #[.int .i64 e4, .int .i64 f4] 31) = w7 at *
      generalize w6.heap.size = p6 at *
      refine (AA _ (unhideI L7)).mono ?_
      rintro e w8 ⟨v8, rfl, i8, o8, k8⟩
      have B8 := (unhideI B7).step k8
      have C8 := (unhideI C7).step k8
      have K8 := hideI (bt (unhideI K7) k8)
      have L8 := (unhideI L7).step k8
      have hs8 := k8.size
      have B9 := hideI (fault_put B8 (.int .i64 eT) (.int .i64 fT))
      have C9 := hideI (box_2 C8 (c := p4) (by omega) (.int .i64 eT) (.int .i64 fT))
      have I9 := hideI (lies_2 i8 (b := p4) (fun k hk => by have := o8 k hk; omega) (.int .i64 eT) (.int .i64 fT))
      have K9 := hideI (below_2 (b := p4) (unhideI K8) hp4 (.int .i64 eT) (.int .i64 fT))
      have L9 := hideI ((unhideI HL0).step (unhideI K9))
      have s9 := size_2 w8 p4 (.int .i64 eT) (.int .i64 fT)
      obtain ⟨q0, q1⟩ := B8.at2
      have q2 := B8.2.2
      have q3 := B8.1
      clear AA y0 y1 z0 z1 k8 i8 B7 C7 K7 L7 B8 C8 K8 L8
      go_wp2_with fail
      generalize (w8.setCell ⟨p4, 0, none⟩ (.int .i64 eT)).setCell ⟨p4, 1, none⟩ (.int .i64 fT) = w9 at *
      refine (AB _ (unhideI L9)).mono ?_
      rintro e w10 ⟨v10, rfl, i10, o10, k10⟩
      have B10 := (unhideI B9).step k10
      have C10 := (unhideI C9).step k10
      have K10 := hideI (bt (unhideI K9) k10)
      have B11 := hideI (box_2 B10 (c := p6) (by omega) (.int .i64 eT) (.int .i64 fT))
      have C11 := hideI (fault_put C10 (.int .i64 eT) (.int .i64 fT))
      have I11 := hideI (lies_2 ((unhideI I9).step k10) (b := p6) (fun k hk => by have := o8 k hk; omega) (.int .i64 eT) (.int .i64 fT))
      have J11 := hideI (lies_2 i10 (b := p6) (fun k hk => by have := o10 k hk; omega) (.int .i64 eT) (.int .i64 fT))
      have K11 := hideI (below_2 (b := p6) (unhideI K10) hp6 (.int .i64 eT) (.int .i64 fT))
      have SM := same1_yes wl v8 v10 _ (unhideI I11) (unhideI J11)
      obtain ⟨r0, r1⟩ := C10.at2
      have r2 := C10.2.2
      have r3 := C10.1
      obtain ⟨y0, y1⟩ := (unhideI B11).at2
      obtain ⟨z0, z1⟩ := (unhideI C11).at2
      clear AB q0 q1 q2 q3 k10 i10 o10 o8 B9 C9 I9 K9 L9 B10 C10 K10 I11 J11 B11 C11
      go_wp2_with fail
      generalize (w10.setCell ⟨p6, 0, none⟩ (.int .i64 eT)).setCell ⟨p6, 1, none⟩ (.int .i64 fT) = w11 at *
      refine SM.mono ?_
      rintro e w12 ⟨rfl, k12⟩
      have K12 := hideI (bt (unhideI K11) k12)
      clear SM k12 K11
      go_wp2_with fail
      go_ret
      exact ⟨rfl, unhideI K12⟩
end Go.Proofs.YtoopgkbefhoeiaaDoor
