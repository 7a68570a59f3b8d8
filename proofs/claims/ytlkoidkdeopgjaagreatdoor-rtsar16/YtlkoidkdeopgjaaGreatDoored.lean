/-
  EmuT, EmuD4, EmuE.
-/
import Derived.Test.YtlkoidkdeopgjaaGreatDoorea
import Derived.Maps.AppendAt
set_option maxHeartbeats 4000000
set_option maxRecDepth 100000
namespace Go.Proofs.YtlkoidkdeopgjaaGreatDoor
open Go.RowKit
set_option linter.unusedSimpArgs false
set_option linter.unusedVariables false
theorem Tryz.infoByte : (Tryz.prog.info? 5).map (fun i => (i.zero, i.size, i.bytes)) = some (some (.int .u8 0), 1, 1) := by kernel_rfl
theorem Byts.at {w : World} {v : Value} {xs : List Int} (h : Byts w v xs) : ∃ ao cap, v = .slice ao xs.length cap ∧ xs.length ≤ maxLen ∧ (xs ≠ [] → ∃ b off, ao = some ⟨b, off, none⟩ ∧ b < w.heap.size ∧ ∀ j (hj : j < xs.length), w.cell? ⟨b, off + j, none⟩ = some (.int .u8 (xs[j]'hj))) := by
 obtain ⟨_, ao, cap, rfl, h3, h4, _, h5⟩ := h
 refine ⟨ao, cap, rfl, Nat.le_trans h3 h4, fun hn => ?_⟩
 obtain ⟨b, off, rfl, hb, hc⟩ := h5 (by intro h; exact hn (List.eq_nil_of_length_eq_zero h))
 refine ⟨b, off, rfl, hb, fun j hj => ?_⟩
 rw [hc j (by omega), List.getElem?_map, List.getElem?_eq_getElem hj]; rfl
theorem Mach.grow {w0 w w3 : World} {p q : Nat} {vc vi vo v3 : Value} {m : Ma} {xs bs : List Int} {x : Int} (h : Mach w0 w p q vc vi vo m xs bs)
   (own3 : w3.ownsRow w0.heap.size 5 1 v3 (m.out.length + 1) (m.out.map byte1 ++ [byte1 x])) (g : w.grownBy w3 vo.ownBlock) (hat : v3.ownBlock = vo.ownBlock ∨ v3.ownBlock = some w.heap.size)
   (hx : 0 ≤ x ∧ x ≤ 255) (hl : m.out.length < 65536) : Mach w0 (w3.setCell ⟨p, 18, none⟩ v3) p q vc vi v3 { m with out := m.out ++ [x] } xs bs := by
 have bp : w3.heap[p]? = w.heap[p]? := g.block p h.box.1 fun e => (h.ho p e.symm).1 rfl
 have bq : w3.heap[q]? = w.heap[q]? := g.block q h.hqw fun e => (h.ho q e.symm).2 rfl
 have hne : ∀ k, v3.ownBlock = some k → k ≠ p ∧ k ≠ q := fun k hk => by
   rcases hat with e | e
   · exact h.ho k (by rw [← e]; exact hk)
   · rw [e] at hk
     have e1 : w.heap.size = k := by simpa using hk
     have := h.box.1
     have := h.hqw
     omega
 have bx : Box w3 p (cellsM m (.slice (some ⟨q, 0, none⟩) 65536 65536) vc vi vo) :=
   ⟨Nat.lt_of_lt_of_le h.box.1 g.size, fun j u hu => by rw [World.cell?_of_block (w := w) (a := ⟨p, j, none⟩) bp]; exact h.box.2.1 j u hu, fun j => by rw [World.frozen?_of_block (w := w) (a := ⟨p, j, none⟩) bp]; exact h.box.2.2 j⟩
 exact {
   box := bx.set (j := 18) (u := v3) (by simp [cellsM])
   hp := h.hp
   hq := h.hq
   hpq := h.hpq
   hqw := by have := Nat.lt_of_lt_of_le h.hqw g.size; simpa [World.setCell] using this
   mem := fun k hk => by rw [World.cell?_of_block (w := w3) (a := ⟨q, k, none⟩) (Below.heap_setCell _ _ _ _ (Ne.symm h.hpq)), World.cell?_of_block (w := w) (a := ⟨q, k, none⟩) bq]; exact h.mem k hk
   frz := fun k => by rw [World.frozen?_setCell, World.frozen?_of_block (w := w) (a := ⟨q, k, none⟩) bq]; exact h.frz k
   code := h.code
   inp := h.inp
   low := (below_own h.low h.low.size h.own g).setCell h.hp _
   own := by
     have := own_set (b := p) (j := 18) (x := v3) own3 fun k hk => (hne k hk).1
     simpa [byte1] using this
   ho := hne
   fine := { h.fine with
     out := by simp; omega
     told := fun y hy => by
       rcases List.mem_append.1 hy with e | e
       · exact h.fine.told y e
       · simp at e; subst e; exact hx } }
theorem own_slc {w : World} {B e s n : Nat} {v : Value} {cs : List Value} (h : w.ownsRow B e s v n cs) : ∃ ao cap, v = .slice ao n cap := by
 rcases h.2 with ⟨rfl, rfl⟩ | ⟨g, cap, _, rfl, _⟩
 · exact ⟨none, 0, rfl⟩
 · exact ⟨_, cap, rfl⟩
theorem u8_wrap (x : Int) : IntKind.u8.wrap x = x % 256 := by simp [IntKind.wrap, IntKind.bits, IntKind.signed]
theorem tell_any {w0 w : World} {p q : Nat} {vc vi vo : Value} {m : Ma} {xs bs : List Int} (h : Mach w0 w p q vc vi vo m xs bs) (x : Int) :
   Calls Tryz.prog 132 #[.pointer (some ⟨p, 0, none⟩), .int .i64 x] w fun e w' => ∃ vo', e = .returned (.tuple #[]) ∧ Mach w0 w' p q vc vi vo' (m.tell x) xs bs := by
 obtain ⟨i0, hi, hz0, hz1, hz2⟩ := info_parts Tryz.infoByte
 have HM := zH h
 obtain ⟨-, -, -, -, -, -, -, -, c16, -, c18, -, -⟩ := h.at
 have fz := h.flat
 have hp := h.pw
 have hB := h.low.size
 have hout := h.fine.out
 have HO := zH h.own
 obtain ⟨ao, cap, rfl⟩ := own_slc h.own
 clear h
 have h8 := u8_wrap x
 by_cases hf : m.out.length = 65536
 · have he : Hid (m.tell x = { m with how := 5 }) := by unfold Hid Ma.tell; rw [if_pos hf]
   rw [uI he]
   go_enter Tryz.func132, Tryz.ntmps132
   go_wp2
   have PM := (uI HM).put (m' := { m with how := 5 }) 16 (.int .i64 5) (by decide) rfl rfl rfl { (uI HM).fine with }
   exact bodyPost_ret (v := .tuple #[]) (by simp [results, Tryz.results132]) rfl ⟨_, rfl, PM⟩
 · have he : Hid (m.tell x = { m with out := m.out ++ [x % 256] }) := by unfold Hid Ma.tell; rw [if_neg hf]
   rw [uI he]
   have hb : ((m.out.length : Int) == 65536) = false := by simp; omega
   have hx : 0 ≤ x % 256 ∧ x % 256 ≤ 255 := by omega
   go_enter Tryz.func132, Tryz.ntmps132
   go_wp2_with (at_builtin; (refine wpList_append_own_at _ rfl (.tmp 17) (.tmp 20) 46 rfl w0.heap.size 5 i0 (.int .u8 0) 1 1 Tryz.underlying46 hi hz0 hz1 hz2 rfl (by decide) (.slice ao m.out.length cap) m.out.length (m.out.map byte1) rfl ((uI HO).alloc _) ⟨_, 0, none⟩ 1 1 [.int .u8 (x % 256)] rfl rfl (one_c1 _ _ _) (one_c2 _ _) (by unfold maxLen; omega) (by omega) (by simp; omega) ?_; intro v3 w3 own3 grow3 _ hat; obtain ⟨a3, c3, rfl⟩ := own_slc own3; have MG := zH (((uI HM).new _).grow own3 grow3 hat hx (by omega)); have gb := grow3.block p (by simp; omega) (fun e => ((uI HM).ho p e.symm).1 rfl); (have fp : w3.frozen? ⟨p, 18, none⟩ = false := by rw [World.frozen?_of_block (a := ⟨p, 18, none⟩) gb]; exact ((uI HM).new _).flat 18); (have cp : w3.cell? ⟨p, 18, none⟩ = some (.slice ao m.out.length cap) := by rw [World.cell?_of_block (a := ⟨p, 18, none⟩) gb]; exact ((uI HM).new _).at.2.2.2.2.2.2.2.2.2.2.1); clear own3 grow3 gb))
   go_end0
   exact ⟨_, rfl, uI MG⟩
theorem take_any {w0 w : World} {p q : Nat} {vc vi vo : Value} {m : Ma} {xs bs : List Int} (h : Mach w0 w p q vc vi vo m xs bs) :
   Calls Tryz.prog 133 #[.pointer (some ⟨p, 0, none⟩)] w fun e w' => e = .returned (.int .i64 (m.took1 bs)) ∧ Mach w0 w' p q vc vi vo (m.take bs) xs bs ∧ Kept w w' p q := by
 have HM := zH h
 obtain ⟨c8, -, -, -, -, -, -, c15, -, -, -, c19, -⟩ := h.at
 have fz := h.flat
 have hp := h.pw
 have hrd := h.fine.rd
 have hin := h.fine.inp
 have hlow := h.low
 obtain ⟨ao, cap, rfl, hmax, hat⟩ := h.inp.at
 clear h
 unfold maxLen at hmax
 by_cases hf : m.rd = bs.length
 · have he : Hid (m.take bs = { m with c := true }) := by unfold Hid Ma.take; rw [if_pos hf]
   have he2 : Hid (m.took1 bs = 0) := by unfold Hid Ma.took1; rw [if_pos hf]
   rw [uI he, uI he2]
   clear hat
   have hb : ((m.rd : Int) == bs.length) = true := by simp [hf]
   go_enter Tryz.func133, Tryz.ntmps133
   go_wp2_with fail
   go_region
   all_goals
     go_wp2_with fail
     go_ret
     exact ⟨rfl, ((uI HM).put (m' := { m with c := true }) 8 (.bool true) (by decide) rfl rfl rfl { (uI HM).fine with }).drew, ((Kept.refl _ _ _).set (.inl rfl)).drew⟩
 · have he : Hid (m.take bs = { m with c := false, rd := m.rd + 1 }) := by unfold Hid Ma.take; rw [if_neg hf]
   have hlt : m.rd < bs.length := by omega
   have hne : bs ≠ [] := by intro h; rw [h] at hlt; simp at hlt
   obtain ⟨b, off, rfl, hbw, hc⟩ := hat hne
   have he2 : Hid (m.took1 bs = bs[m.rd]) := by unfold Hid Ma.took1; rw [if_neg hf, List.getD_eq_getElem?_getD, List.getElem?_eq_getElem hlt]; rfl
   have hbb := hin bs[m.rd] (List.getElem_mem hlt)
   have hcr : w.cell? ⟨b, off + m.rd, none⟩ = some (.int .u8 bs[m.rd]) := by rw [hlow.cell (p := ⟨b, off + m.rd, none⟩) hbw]; exact hc _ hlt
   rw [uI he, uI he2]
   clear hat hc he he2
   generalize bs[m.rd] = x at *
   have hb : ((m.rd : Int) == bs.length) = false := by simp; omega
   have hpb : b ≠ p := by have := (uI HM).hp; omega
   go_enter Tryz.func133, Tryz.ntmps133
   go_wp2_with fail
   go_region
   all_goals
     go_wp2_with fail
     go_quiet (fail)
     go_wp2_with fail
     go_ret
     have P1 := (uI HM).put (m' := { m with c := false }) 8 (.bool false) (by decide) rfl rfl rfl { (uI HM).fine with }
     have P2 := P1.put (m' := { m with c := false, rd := m.rd + 1 }) 19 (.int .i64 ((m.rd : Int) + 1)) (by decide) rfl rfl rfl { P1.fine with rd := by show m.rd + 1 ≤ bs.length; omega }
     exact ⟨rfl, P2.drew.drewN _, ((((Kept.refl _ _ _).set (.inl rfl)).set (.inl rfl)).drew).drewN _⟩
end Go.Proofs.YtlkoidkdeopgjaaGreatDoor
namespace Go.Proofs.YtlkoidkdeopgjaaGreatDoor
open Go.RowKit
set_option linter.unusedSimpArgs false
set_option linter.unusedVariables false
theorem Ma.Fine.took1 {m : Ma} {bs : List Int} (h : m.Fine bs) : wd (m.took1 bs) := by
 unfold Ma.took1 wd
 split
 · omega
 · have hr := h.rd
   by_cases hl : m.rd < bs.length
   · rw [List.getD_eq_getElem?_getD, List.getElem?_eq_getElem hl]
     have := h.inp _ (List.getElem_mem hl)
     simp only [Option.getD_some]; omega
   · omega
theorem do29 {w0 w : World} {p q : Nat} {vc vi vo : Value} {m : Ma} {xs bs : List Int} (h : Mach w0 w p q vc vi vo m xs bs) (d s mm : Int) (hd : 0 ≤ d) (hd' : d ≤ 7) (hs : 0 ≤ s) (hs' : s ≤ 7) (hm : wd mm) :
   Calls Tryz.prog 93 #[.pointer (some ⟨p, 0, none⟩), .agg #[.int .i64 29, .int .i64 d, .int .i64 s, .int .i64 mm]] w fun e w' => ∃ vo', e = .returned (.tuple #[]) ∧ Mach w0 w' p q vc vi vo' (m.pop.setR d (m.ld (m.reg 7))) xs bs := by
 have HM := zH h
 have c0 := h.reg hd hd'
 have c1 := h.reg hs hs'
 have c7 := h.reg7
 obtain ⟨-, -, -, -, c12, c13, -, -, c16, c17, -, -, -⟩ := h.at
 have fz := h.flat
 have fq := h.frz
 have hp := h.pw
 have hqw := h.hqw
 have hpq := h.hpq
 have hrd := h.fine.reg hd hd'
 have hrs := h.fine.reg hs hs'
 have hv := h.fine.ld (h.fine.reg (d := 7) (by decide) (by decide))
 have n1 : w.heap.size ≠ p := by omega
 have n2 : w.heap.size ≠ q := by omega
 clear h
 go_enter Tryz.func93, Tryz.ntmps93
 go_wp2_with fail
 go_region_with (go_at_call 131; refine (pop_any ((uI HM).new _).drew).mono ?_; rintro e w1 ⟨rfl, M1, k1⟩; have HM1 := zH M1; have cd := M1.reg hd hd'; have fz1 := M1.flat; obtain ⟨b0, b1, b2, b3⟩ := ((Box.new w #[.int .i64 29, .int .i64 d, .int .i64 s, .int .i64 mm] 73).drew.kept k1 n1 n2).at4; clear M1 k1)
 all_goals
   go_wp2_with fail
   go_end0
   exact ⟨_, rfl, (uI HM1).sreg d (m.ld (m.reg 7)) hd hd' hv⟩
theorem do30 {w0 w : World} {p q : Nat} {vc vi vo : Value} {m : Ma} {xs bs : List Int} (h : Mach w0 w p q vc vi vo m xs bs) (d s mm : Int) (hd : 0 ≤ d) (hd' : d ≤ 7) (hs : 0 ≤ s) (hs' : s ≤ 7) (hm : wd mm) :
   Calls Tryz.prog 93 #[.pointer (some ⟨p, 0, none⟩), .agg #[.int .i64 30, .int .i64 d, .int .i64 s, .int .i64 mm]] w fun e w' => ∃ vo', e = .returned (.tuple #[]) ∧ Mach w0 w' p q vc vi vo' (m.tell (m.reg s)) xs bs := by
 have HM := zH h
 have c0 := h.reg hd hd'
 have c1 := h.reg hs hs'
 have c7 := h.reg7
 obtain ⟨-, -, -, -, c12, c13, -, -, c16, c17, -, -, -⟩ := h.at
 have fz := h.flat
 have fq := h.frz
 have hp := h.pw
 have hqw := h.hqw
 have hpq := h.hpq
 have hrd := h.fine.reg hd hd'
 have hrs := h.fine.reg hs hs'
 clear h
 go_enter Tryz.func93, Tryz.ntmps93
 go_wp2_with fail
 go_region_with (go_at_call 132; refine (tell_any ((uI HM).new _).drew _).mono ?_; rintro e w1 ⟨vo1, rfl, M1⟩; have HM1 := zH M1; clear M1)
 all_goals
   go_wp2_with fail
   go_end0
   exact ⟨_, rfl, uI HM1⟩
theorem do31 {w0 w : World} {p q : Nat} {vc vi vo : Value} {m : Ma} {xs bs : List Int} (h : Mach w0 w p q vc vi vo m xs bs) (d s mm : Int) (hd : 0 ≤ d) (hd' : d ≤ 7) (hs : 0 ≤ s) (hs' : s ≤ 7) (hm : wd mm) :
   Calls Tryz.prog 93 #[.pointer (some ⟨p, 0, none⟩), .agg #[.int .i64 31, .int .i64 d, .int .i64 s, .int .i64 mm]] w fun e w' => ∃ vo', e = .returned (.tuple #[]) ∧ Mach w0 w' p q vc vi vo' ((m.take bs).setR d (m.took1 bs)) xs bs := by
 have HM := zH h
 have c0 := h.reg hd hd'
 have c1 := h.reg hs hs'
 have c7 := h.reg7
 obtain ⟨-, -, -, -, c12, c13, -, -, c16, c17, -, -, -⟩ := h.at
 have fz := h.flat
 have fq := h.frz
 have hp := h.pw
 have hqw := h.hqw
 have hpq := h.hpq
 have hrd := h.fine.reg hd hd'
 have hrs := h.fine.reg hs hs'
 have hv := h.fine.took1
 have n1 : w.heap.size ≠ p := by omega
 have n2 : w.heap.size ≠ q := by omega
 clear h
 go_enter Tryz.func93, Tryz.ntmps93
 go_wp2_with fail
 go_region_with (go_at_call 133; refine (take_any ((uI HM).new _).drew).mono ?_; rintro e w1 ⟨rfl, M1, k1⟩; have HM1 := zH M1; have cd := M1.reg hd hd'; have fz1 := M1.flat; obtain ⟨b0, b1, b2, b3⟩ := ((Box.new w #[.int .i64 31, .int .i64 d, .int .i64 s, .int .i64 mm] 73).drew.kept k1 n1 n2).at4; clear M1 k1)
 all_goals
   go_wp2_with fail
   go_end0
   exact ⟨_, rfl, (uI HM1).sreg d (m.took1 bs) hd hd' hv⟩
end Go.Proofs.YtlkoidkdeopgjaaGreatDoor
namespace Go.Proofs.YtlkoidkdeopgjaaGreatDoor
open Go.RowKit
set_option linter.unusedSimpArgs false
set_option linter.unusedVariables false
theorem or_i64 (i : Nat) (x y : Int) (hx : 0 ≤ x) (hx' : x ≤ 65535) (hd : x % 2 ^ i = 0) (hy : 0 ≤ y) (hy' : y < 2 ^ i) (hy2 : y ≤ 65535) : bits .or .i64 x y = x + y := by
 have e : bits .or .i64 x y = IntKind.i64.wrap (((BitVec.ofInt 64 x ||| BitVec.ofInt 64 y).toNat : Nat) : Int) := rfl
 obtain ⟨a, rfl⟩ : ∃ a : Nat, x = a := ⟨x.toNat, by omega⟩
 obtain ⟨b, rfl⟩ : ∃ b : Nat, y = b := ⟨y.toNat, by omega⟩
 have ha : a % 2 ^ i = 0 := by exact_mod_cast hd
 have hb : b < 2 ^ i := by exact_mod_cast hy'
 obtain ⟨c, rfl⟩ : ∃ c, a = 2 ^ i * c := ⟨a / 2 ^ i, by have := Nat.div_add_mod a (2 ^ i); omega⟩
 have f1 : (BitVec.ofInt 64 ((2 ^ i * c : Nat) : Int)).toNat = 2 ^ i * c := by rw [BitVec.toNat_ofInt]; generalize 2 ^ i * c = z at *; omega
 have f2 : (BitVec.ofInt 64 ((b : Nat) : Int)).toNat = b := by rw [BitVec.toNat_ofInt]; omega
 rw [e, BitVec.toNat_or, f1, f2, ← Nat.two_pow_add_eq_or_of_lt hb, IntKind.wrap_i64]
 generalize 2 ^ i * c = z at *
 omega
theorem and1_i64 (x : Int) : bits .and .i64 x 1 = x % 2 := by
 have e : bits .and .i64 x 1 = IntKind.i64.wrap (((BitVec.ofInt 64 x &&& BitVec.ofInt 64 1).toNat : Nat) : Int) := rfl
 have f : (BitVec.ofInt 64 1).toNat = 2 ^ 1 - 1 := by decide
 rw [e, BitVec.toNat_and, f, Nat.and_two_pow_sub_one_eq_mod, BitVec.toNat_ofInt, IntKind.wrap_i64]
 omega
theorem upb_b (x : Int) (hx : wd x) (c : Bool) : wd (upb x (oi c)) := by unfold wd upb oi at *; split <;> omega
theorem dnb_b (x : Int) (hx : wd x) (i : Int) (h0 : 0 ≤ i) (h1 : i ≤ 1) : wd (dnb x i) := by unfold wd dnb at *; omega
theorem upb_eq (x : Int) (hx : wd x) (i : Int) (h0 : 0 ≤ i) (h1 : i ≤ 1) : bits .or .i64 (bits .and .i64 (x * 2) 65535) i = upb x i := by
 unfold wd at hx
 rw [and_i64, or_i64 1]
 all_goals first | rfl | omega | (unfold lw; omega)
theorem dnb_eq0 (x : Int) (hx : wd x) : bits .or .i64 (x / 2) 0 = dnb x 0 := by
 unfold wd at hx
 rw [or_i64 0]
 all_goals first | (unfold dnb; omega) | omega
theorem dnb_eq1 (x : Int) (hx : wd x) : bits .or .i64 (x / 2) 32768 = dnb x 1 := by
 unfold wd at hx
 have e : bits .or .i64 (x / 2) 32768 = bits .or .i64 32768 (x / 2) := by simp only [bits, BitVec.or_comm]
 rw [e, or_i64 15]
 all_goals first | (unfold dnb; omega) | omega
theorem sh14 {w0 w : World} {p q : Nat} {vc vi vo : Value} {m : Ma} {xs bs : List Int} (h : Mach w0 w p q vc vi vo m xs bs) (d s mm : Int) (hd : 0 ≤ d) (hd' : d ≤ 7) :
   Calls Tryz.prog 128 #[.pointer (some ⟨p, 0, none⟩), .agg #[.int .i64 14, .int .i64 d, .int .i64 s, .int .i64 mm]] w fun e w' => e = .returned (.tuple #[]) ∧ Mach w0 w' p q vc vi vo (m.become d (upb (m.reg d) 0) (m.reg d / 32768 == 1)) xs bs := by
 have HM := zH h
 have c0 := h.reg hd hd'
 obtain ⟨c8, -, -, -, -, -, -, -, -, -, -, -, -⟩ := h.at
 have fz := h.flat
 have hp := h.pw
 have hr := h.fine.reg hd hd'
 have HR := zH hr
 unfold wd at hr
 have HV := zH (upb_b _ (uI HR) false : wd (upb (m.reg d) 0))
 have a1 := and1_i64 (m.reg d)
 clear h
 have e1 := upb_eq (m.reg d) (uI HR) 0 (by decide) (by decide)
 go_enter Tryz.func128, Tryz.ntmps128
 go_wp2_with fail
 go_quiet (fail)
 go_wp2_with fail
 refine (become_any (((uI HM).new _).drewN _) _ _ _ hd hd' (uI HV)).mono ?_
 rintro e w1 ⟨rfl, M1⟩
 have HM1 := zH M1
 clear M1
 go_wp2_with fail
 go_end0
 exact ⟨rfl, uI HM1⟩
theorem sh15 {w0 w : World} {p q : Nat} {vc vi vo : Value} {m : Ma} {xs bs : List Int} (h : Mach w0 w p q vc vi vo m xs bs) (d s mm : Int) (hd : 0 ≤ d) (hd' : d ≤ 7) :
   Calls Tryz.prog 128 #[.pointer (some ⟨p, 0, none⟩), .agg #[.int .i64 15, .int .i64 d, .int .i64 s, .int .i64 mm]] w fun e w' => e = .returned (.tuple #[]) ∧ Mach w0 w' p q vc vi vo (m.become d (upb (m.reg d) (oi m.c)) (m.reg d / 32768 == 1)) xs bs := by
 have HM := zH h
 have c0 := h.reg hd hd'
 obtain ⟨c8, -, -, -, -, -, -, -, -, -, -, -, -⟩ := h.at
 have fz := h.flat
 have hp := h.pw
 have hr := h.fine.reg hd hd'
 have HR := zH hr
 unfold wd at hr
 have HV := zH (upb_b _ (uI HR) _ : wd (upb (m.reg d) (oi m.c)))
 have a1 := and1_i64 (m.reg d)
 clear h
 generalize hcc : m.c = cc at *
 cases cc
 all_goals
   have z0 : oi false = 0 := rfl
   have z1 : oi true = 1 := rfl
   simp only [z0, z1] at HV ⊢
   have e1 := upb_eq (m.reg d) (uI HR) 0 (by decide) (by decide)
   have e1' := upb_eq (m.reg d) (uI HR) 1 (by decide) (by decide)
   go_enter Tryz.func128, Tryz.ntmps128
   go_wp2_with fail
   go_quiet (fail)
   go_wp2_with fail
   refine (become_any (((uI HM).new _).drewN _) _ _ _ hd hd' (uI HV)).mono ?_
   rintro e w1 ⟨rfl, M1⟩
   have HM1 := zH M1
   clear M1
   go_wp2_with fail
   go_end0
   exact ⟨rfl, uI HM1⟩
theorem sh16 {w0 w : World} {p q : Nat} {vc vi vo : Value} {m : Ma} {xs bs : List Int} (h : Mach w0 w p q vc vi vo m xs bs) (d s mm : Int) (hd : 0 ≤ d) (hd' : d ≤ 7) :
   Calls Tryz.prog 128 #[.pointer (some ⟨p, 0, none⟩), .agg #[.int .i64 16, .int .i64 d, .int .i64 s, .int .i64 mm]] w fun e w' => e = .returned (.tuple #[]) ∧ Mach w0 w' p q vc vi vo (m.become d (dnb (m.reg d) 0) (m.reg d % 2 == 1)) xs bs := by
 have HM := zH h
 have c0 := h.reg hd hd'
 obtain ⟨c8, -, -, -, -, -, -, -, -, -, -, -, -⟩ := h.at
 have fz := h.flat
 have hp := h.pw
 have hr := h.fine.reg hd hd'
 have HR := zH hr
 unfold wd at hr
 have HV := zH (dnb_b _ (uI HR) _ (by decide) (by decide) : wd (dnb (m.reg d) 0))
 have a1 := and1_i64 (m.reg d)
 clear h
 have e1 := dnb_eq0 (m.reg d) (uI HR)
 go_enter Tryz.func128, Tryz.ntmps128
 go_wp2_with fail
 go_quiet (fail)
 go_wp2_with fail
 refine (become_any (((uI HM).new _).drewN _) _ _ _ hd hd' (uI HV)).mono ?_
 rintro e w1 ⟨rfl, M1⟩
 have HM1 := zH M1
 clear M1
 go_wp2_with fail
 go_end0
 exact ⟨rfl, uI HM1⟩
theorem sh17 {w0 w : World} {p q : Nat} {vc vi vo : Value} {m : Ma} {xs bs : List Int} (h : Mach w0 w p q vc vi vo m xs bs) (d s mm : Int) (hd : 0 ≤ d) (hd' : d ≤ 7) :
   Calls Tryz.prog 128 #[.pointer (some ⟨p, 0, none⟩), .agg #[.int .i64 17, .int .i64 d, .int .i64 s, .int .i64 mm]] w fun e w' => e = .returned (.tuple #[]) ∧ Mach w0 w' p q vc vi vo (m.become d (dnb (m.reg d) (m.reg d / 32768)) (m.reg d % 2 == 1)) xs bs := by
 have HM := zH h
 have c0 := h.reg hd hd'
 obtain ⟨c8, -, -, -, -, -, -, -, -, -, -, -, -⟩ := h.at
 have fz := h.flat
 have hp := h.pw
 have hr := h.fine.reg hd hd'
 have HR := zH hr
 unfold wd at hr
 have HV := zH (dnb_b _ (uI HR) _ (by omega) (by omega) : wd (dnb (m.reg d) (m.reg d / 32768)))
 have a1 := and1_i64 (m.reg d)
 rcases (show m.reg d / 32768 = 0 ∨ m.reg d / 32768 = 1 by omega) with ht | ht
 all_goals
   rw [ht] at HV ⊢
   clear h
   have e1 := dnb_eq0 (m.reg d) (uI HR)
   have e1' := dnb_eq1 (m.reg d) (uI HR)
   go_enter Tryz.func128, Tryz.ntmps128
   go_wp2_with fail
   go_quiet (fail)
   go_wp2_with fail
   refine (become_any (((uI HM).new _).drewN _) _ _ _ hd hd' (uI HV)).mono ?_
   rintro e w1 ⟨rfl, M1⟩
   have HM1 := zH M1
   clear M1
   go_wp2_with fail
   go_end0
   exact ⟨rfl, uI HM1⟩
theorem sh18 {w0 w : World} {p q : Nat} {vc vi vo : Value} {m : Ma} {xs bs : List Int} (h : Mach w0 w p q vc vi vo m xs bs) (d s mm : Int) (hd : 0 ≤ d) (hd' : d ≤ 7) :
   Calls Tryz.prog 128 #[.pointer (some ⟨p, 0, none⟩), .agg #[.int .i64 18, .int .i64 d, .int .i64 s, .int .i64 mm]] w fun e w' => e = .returned (.tuple #[]) ∧ Mach w0 w' p q vc vi vo (m.become d (dnb (m.reg d) (oi m.c)) (m.reg d % 2 == 1)) xs bs := by
 have HM := zH h
 have c0 := h.reg hd hd'
 obtain ⟨c8, -, -, -, -, -, -, -, -, -, -, -, -⟩ := h.at
 have fz := h.flat
 have hp := h.pw
 have hr := h.fine.reg hd hd'
 have HR := zH hr
 unfold wd at hr
 have HV := zH (dnb_b _ (uI HR) _ (oi_b _).1 (oi_b _).2 : wd (dnb (m.reg d) (oi m.c)))
 have a1 := and1_i64 (m.reg d)
 clear h
 generalize hcc : m.c = cc at *
 cases cc
 all_goals
   have z0 : oi false = 0 := rfl
   have z1 : oi true = 1 := rfl
   simp only [z0, z1] at HV ⊢
   have e1 := dnb_eq0 (m.reg d) (uI HR)
   have e1' := dnb_eq1 (m.reg d) (uI HR)
   go_enter Tryz.func128, Tryz.ntmps128
   go_wp2_with fail
   go_quiet (fail)
   go_wp2_with fail
   refine (become_any (((uI HM).new _).drewN _) _ _ _ hd hd' (uI HV)).mono ?_
   rintro e w1 ⟨rfl, M1⟩
   have HM1 := zH M1
   clear M1
   go_wp2_with fail
   go_end0
   exact ⟨rfl, uI HM1⟩
end Go.Proofs.YtlkoidkdeopgjaaGreatDoor
