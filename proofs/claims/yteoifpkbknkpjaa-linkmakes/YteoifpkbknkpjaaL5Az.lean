/-
  The document's linker: Begin.
-/
import Derived.Test.YteoifpkbknkpjaaLkH
import Derived.Test.YteoifpkbknkpjaaT4F
import Derived.Test.YteoifpkbknkpjaaLkVz
namespace Go.Proofs.Yteoifpkbknkpjaa
open Go.RowKit
set_option linter.unusedSimpArgs false
set_option linter.unusedVariables false

/-- Words of a unit's lines. -/
def lenU (us : List Un) (u : Int) : Int := wl (us.getD u.toNat ⟨⟨#[]⟩, []⟩).lines
/-- Where units, one behind the other, begin. -/
def begL (us : List Un) : List Int → Int → List Int
  | [], n => [n]
  | u :: r, n => n :: begL us r (n + lenU us u)
theorem wl_lngX (l : List Ln) (k : Nat) (h : k < l.length) : wl (l.take (k + 1)) = wl (l.take k) + lngX (l[k]'h) := wl_take l k h
theorem wl_le (l : List Ln) : 0 ≤ wl l ∧ wl l ≤ 2 * l.length := by
  induction l with
  | nil => simp [wl]
  | cons x r ih =>
    have e := wl_append [x] r
    have lx := lngX_in x
    have e1 : wl [x] = lngX x := by simp [wl, lngX]
    rw [List.singleton_append] at e
    rw [e, e1]
    simp only [List.length_cons]
    omega
theorem wl_take_le (l : List Ln) (k : Nat) (h : l.length ≤ 40000) : 0 ≤ wl (l.take k) ∧ wl (l.take k) ≤ 80000 := by
  have := wl_le (l.take k)
  have e : (l.take k).length ≤ l.length := List.length_take_le' _ _
  omega
/-- What Begin tells. -/
def BegRet (us : List Un) (os : List Int) (w : World) (e : Ending) (w' : World) : Prop := ∃ v', e = .returned v' ∧ Ints w' v' (begL us os 0) ∧ Below w.heap.size w w'
set_option maxRecDepth 100000 in
set_option maxHeartbeats 4000000 in
theorem begin5_any (us : List Un) (v : Value) (os : List Int) (vo : Value) (w : World) (hU : Uns w v us) (hO : Ints w vo os) (hr : ∀ x ∈ os, 0 ≤ x ∧ x < us.length) (hl : ∀ u ∈ us, u.lines.length ≤ 40000) (ho : os.length ≤ 400) :
    Calls Try.prog 12 #[v, vo] w fun e w' => BegRet us os w e w' := by
  obtain ⟨i0, hi0, hz0, hz1, hz2⟩ := info_parts (show (Try.prog.info? 3).map (fun i => (i.zero, i.size, i.bytes)) = some (some (.int .i64 0), 1, 8) by kernel_rfl)
  have HU := hideI hU
  obtain ⟨ao, cap, rfl, hmax, hat⟩ := hU
  obtain ⟨oo, ocap, rfl, homax, hoat⟩ := hO.at
  have HA := hideI hat
  have HO := hideI hoat
  have HR := hideI hr
  have HL := hideI hl
  clear hat hoat hO hr hl
  have hum : us.length ≤ 9223372036854775807 := by unfold maxLen at hmax; omega
  clear hmax homax
  go_enter Try.func12, Try.ntmps12
  go_wp2_with fail
  go_loopg [5, 6, 13] os.length (fun g o a t wr => ∃ (i : Nat) (n : Int) (pre : List Int), i ≤ os.length ∧ g = os.length - i ∧ t = .int .i64 (i : Int) ∧ a = .int .i64 n ∧ 0 ≤ n ∧ n ≤ 80000 * i ∧ pre.length = i ∧ Hid (begL us os 0 = pre ++ begL us (os.drop i) n) ∧ Hid (wr.ownsRow w.heap.size 3 1 o i (pre.map int1)) ∧ Hid (Below w.heap.size w wr))
  case atStart => exact ⟨0, 0, [], by omega, rfl, rfl, rfl, by omega, by omega, rfl, rfl, World.ownsRow_nil _ _ _ _, hideI (Below.refl _ _)⟩
  case round =>
    obtain ⟨i, n, pre, hi, hg, rfl, rfl, hn0, hn1, hpl, HE, hO, hK⟩ := hrel
    have sk := (unhideI hK).size
    by_cases hlt : i < os.length
    · obtain ⟨b, off, rfl, hb, hc⟩ := unhideI HO (by intro h; rw [h] at hlt; simp at hlt)
      have ci := cell_keep (unhideI hK) hb (hc i hlt)
      have hri := unhideI HR os[i] (List.getElem_mem hlt)
      have hd := hideI (List.drop_eq_getElem_cons hlt)
      have hil : (i : Int) < (os.length : Int) := by omega
      clear hc
      generalize os[i] = u at *
      obtain ⟨q, rfl⟩ : ∃ q : Nat, u = q := ⟨u.toNat, by omega⟩
      have hq : q < us.length := by omega
      obtain ⟨ub, uof, uf, rfl, hubl, hucell⟩ := unhideI HA (by intro h; rw [h] at hq; simp at hq)
      obtain ⟨-, u1, uL⟩ := hucell q hq
      obtain ⟨lo, lc, hul2, hlmax, hlat⟩ := uL.at
      rw [hul2] at u1
      have HLA := hideI hlat
      have hll := unhideI HL us[q] (List.getElem_mem hq)
      have hlu : lenU us (q : Int) = wl us[q].lines := by unfold lenU; rw [Int.toNat_natCast, List.getD_eq_getElem?_getD, List.getElem?_eq_getElem hq]; rfl
      have HLU := hideI hlu
      clear hucell hlat uL hlmax hlu
      generalize us[q].lines = lines at *
      have hqI : (q : Int) < (us.length : Int) := by omega
      have hq0 : (0 : Int) ≤ (q : Int) := by omega
      have HE2 : Hid (begL us os 0 = (pre ++ [n]) ++ begL us (os.drop (i + 1)) (n + wl lines)) := by
        unfold Hid
        rw [unhideI HE, unhideI hd, begL, unhideI HLU, List.append_assoc]
        rfl
      clear HE hd hri hul2
      go_wp2_with (at_builtin; refine wpList_append_own _ rfl (.tmp 17) (.tmp 19) 23 rfl w.heap.size 3 i0 (.int .i64 0) 1 8 Try.underlying23 hi0 hz0 hz1 hz2 rfl (by decide) _ _ _ rfl ((unhideI hO).alloc _) ⟨_, 0, none⟩ 1 1 [.int .i64 n] rfl rfl (one_c1 _ _ _) (one_c2 _ _) (by unfold maxLen; omega) (by omega) (by simp; omega) ?_; intro v5 w5 own5 grow5 _; have O5 := hideI (show w5.ownsRow w.heap.size 3 1 v5 (i + 1) ((pre ++ [n]).map int1) by rw [List.map_append]; exact own5); have K5 := hideI (below_own ((unhideI hK).alloc (by omega) _) (by simp; omega) ((unhideI hO).alloc _) grow5); have u5 := cell_keep (unhideI K5) hubl u1; clear own5 grow5)
      have s5 := (unhideI K5).size
      go_loopg [6, 27] lines.length (fun g a t ws => ∃ k : Nat, k ≤ lines.length ∧ g = lines.length - k ∧ t = .int .i64 (k : Int) ∧ a = .int .i64 (n + wl (lines.take k)) ∧ Hid (Below w5.heap.size w5 ws))
      case atStart => exact ⟨0, by omega, rfl, rfl, by simp [wl], hideI (Below.refl _ _)⟩
      case round =>
        obtain ⟨k, hk, hgk, rfl, rfl, hK2⟩ := hrel
        have KW := hideI ((unhideI K5).trans ((unhideI hK2).mono s5))
        by_cases hkl : k < lines.length
        · obtain ⟨b2, off2, rfl, hbw2, hc2⟩ := unhideI HLA (by intro h; rw [h] at hkl; simp at hkl)
          obtain ⟨d0, d1, d2, d3, d4, d5⟩ := hc2 k hkl
          replace d0 := cell_keep (unhideI KW) hbw2 d0
          replace d1 := cell_keep (unhideI KW) hbw2 d1
          replace d2 := cell_keep (unhideI KW) hbw2 d2
          replace d3 := cell_keep (unhideI KW) hbw2 d3
          replace d4 := cell_keep (unhideI KW) hbw2 d4
          replace d5 := cell_keep (unhideI KW) hbw2 d5
          have hkI : (k : Int) < (lines.length : Int) := by omega
          have tk := hideI (wl_lngX lines k hkl)
          have tb := wl_take_le lines k hll
          have LG := hideI (fun W => long4_any lines[k] W)
          have lx := lngX_in lines[k]
          clear hc2 u5
          generalize lines[k] = x at *
          generalize lngX x = lg at *
          generalize wl (lines.take k) = wk at *
          obtain ⟨lab, ⟨o, d, sr, mm⟩, ref⟩ := x
          unfold aggL at LG
          dsimp only at *
          have KB := hideI ((unhideI hK2).trans ((below_a wr (.cells #[.string lab, .int .i64 o, .int .i64 d, .int .i64 sr, .int .i64 mm, .string ref] 54)).mono (unhideI hK2).size))
          go_wp2_with fail
          refine (unhideI LG _).mono ?_
          rintro e w7 ⟨rfl, k7⟩
          have K7 := hideI ((unhideI KB).trans (k7.mono (unhideI KB).size))
          clear k7 KB LG
          go_wp2_with fail
          go_roundg (lines.length - (k + 1))
          case measure => omega
          case rel => exact ⟨k + 1, by omega, rfl, by go_num, by rw [unhideI tk, ← Int.add_assoc], K7⟩
        · have hkI : ¬ (k : Int) < (lines.length : Int) := by omega
          have te : lines.take k = lines := List.take_of_length_le (by omega)
          rw [te]
          have wb := wl_take_le lines lines.length hll
          rw [List.take_length] at wb
          clear te u5
          generalize wl lines = wk at *
          go_wp2_with fail
          go_roundg (os.length - (i + 1))
          case measure => omega
          case rel => exact ⟨i + 1, n + wk, pre ++ [n], by omega, rfl, by go_num, rfl, by omega, by omega, by simp [hpl], HE2, hideI (own_step (unhideI O5) (unhideI hK2)), KW⟩
    · have hil : ¬ (i : Int) < (os.length : Int) := by omega
      have ed : os.drop i = [] := List.drop_eq_nil_of_le (by omega)
      have HE2 : Hid (begL us os 0 = pre ++ [n]) := by unfold Hid; rw [unhideI HE, ed]; rfl
      clear ed HE
      go_wp2_with (at_builtin; refine wpList_append_own _ rfl (.tmp 37) (.tmp 39) 23 rfl w.heap.size 3 i0 (.int .i64 0) 1 8 Try.underlying23 hi0 hz0 hz1 hz2 rfl (by decide) _ _ _ rfl ((unhideI hO).alloc _) ⟨_, 0, none⟩ 1 1 [.int .i64 n] rfl rfl (one_c1 _ _ _) (one_c2 _ _) (by unfold maxLen; omega) (by omega) (by simp; omega) ?_; intro v5 w5 own5 grow5 _; have O5 := hideI (show w5.ownsRow w.heap.size 3 1 v5 (i + 1) ((pre ++ [n]).map int1) by rw [List.map_append]; exact own5); have K5 := hideI (below_own ((unhideI hK).alloc (by omega) _) (by simp; omega) ((unhideI hO).alloc _) grow5); clear own5 grow5)
      have I5 := hideI (show Ints w5 v5 (pre ++ [n]) by
        have := Lies.owned (unhideI O5)
        unfold Ints
        rw [show (pre ++ [n]).length = i + 1 by simp [hpl]]
        exact this)
      go_ret
      exact ⟨_, rfl, by rw [unhideI HE2]; exact unhideI I5, unhideI K5⟩
end Go.Proofs.Yteoifpkbknkpjaa

/-
  The document's linker: where a label lies (the closure of Link).
-/
namespace Go.Proofs.Yteoifpkbknkpjaa
open Go.RowKit Go.Maps
set_option linter.unusedSimpArgs false
set_option linter.unusedVariables false

/-- Where a label of all lies: in the unit that has it. -/
def fdR (us : List Un) (k : List UInt8) (h : Int) : List Int → List Int → Int
  | x :: o, y :: b => if x = h then whrL (uLn us h) k y else fdR us k h o b
  | _, _ => -1
def plcR (us : List Un) (o b : List Int) (k : List UInt8) (m a : Int) : Int := if ownK k = true then whrL (uLn us m) k a else fdR us k (holdU us 0 k) o b
theorem uns_at {w : World} {v : Value} {us : List Un} (h : Uns w v us) {i : Nat} (hi : i < us.length) : ∃ b off cap vl, v = .slice (some ⟨b, off, none⟩) us.length cap ∧ us.length ≤ maxLen ∧ b < w.heap.size ∧ w.cell? ⟨b, off + i * 2, none⟩ = some (.string (us[i]'hi).name) ∧ w.cell? ⟨b, off + i * 2 + 1, none⟩ = some vl ∧ Lns w vl (us[i]'hi).lines := by
  obtain ⟨ao, cap, rfl, hmax, hat⟩ := h
  obtain ⟨b, off, f, rfl, hb, hc⟩ := hat (by intro h; rw [h] at hi; simp at hi)
  obtain ⟨c0, c1, c2⟩ := hc i hi
  exact ⟨b, off, cap, f i, rfl, hmax, hb, c0, c1, c2⟩
set_option maxRecDepth 100000 in
set_option maxHeartbeats 4000000 in
theorem place_any (us : List Un) (o b : List Int) (vu vo vb : Value) (kb ob bb : Nat) (s : ByteArray) (m : Nat) (a : Int) (w : World) (hU : Uns w vu us) (hO : Ints w vo o) (hB : Ints w vb b) (b1 : Box w kb [vu]) (b2 : Box w ob [vo]) (b3 : Box w bb [vb]) (hm : m < us.length) (ha : 0 ≤ a ∧ a ≤ 100000000) (hl : ∀ u ∈ us, u.lines.length ≤ 40000) (hlen : b.length = o.length + 1) (hbb : ∀ x ∈ b, 0 ≤ x ∧ x ≤ 100000000) (hr : ∀ x ∈ o, 0 ≤ x ∧ x < us.length) :
    Calls Try.prog 15 #[.string s, .int .i64 (m : Int), .int .i64 a, .pointer (some ⟨kb, 0, none⟩), .pointer (some ⟨ob, 0, none⟩), .pointer (some ⟨bb, 0, none⟩)] w fun e w' => e = .returned (.int .i64 (plcR us o b s.toList (m : Int) a)) ∧ Below w.heap.size w w' := by
  have OA := hideI (fun W => own5_any s W)
  have p1 := b1.2.1 0 _ rfl
  have HU := hideI hU
  have HL := hideI hl
  by_cases ho : ownK s.toList = true
  · unfold plcR
    rw [if_pos ho, uLn_at hm]
    rw [ho] at OA
    obtain ⟨ub, uof, cap, vl, rfl, hmax, hubl, u0, u1, uL⟩ := uns_at hU hm
    unfold maxLen at hmax
    obtain ⟨lo, lc, rfl, hlmax, hlat⟩ := uL.at
    have WH := hideI (where_any (us[m]'hm).lines _ s a w uL (hl _ (List.getElem_mem hm)) ha.1 ha.2)
    have hmI : (m : Int) < (us.length : Int) := by omega
    clear hlat uL hU hO hB b2 b3 hbb hr hl
    generalize whrL (us[m]'hm).lines s.toList a = R at *
    generalize (us[m]'hm) = u at *
    go_enter Try.func15, Try.ntmps15
    go_wp2_with fail
    refine (unhideI OA _).mono ?_
    rintro e w1 ⟨rfl, hw⟩
    subst w1
    go_wp2_with fail
    refine (unhideI WH).mono ?_
    rintro e w1 ⟨rfl, k1⟩
    go_wp2_with fail
    go_ret
    exact ⟨rfl, k1⟩
  · replace ho : ownK s.toList = false := by simpa using ho
    unfold plcR
    rw [if_neg (by simp [ho])]
    rw [ho] at OA
    have HO := hideI (holder_any us vu s w hU)
    generalize hH : holdU us 0 s.toList = H at *
    generalize hR : fdR us s.toList H o b = R at *
    obtain ⟨ao, ocap, rfl, homax, hoat⟩ := hO.at
    obtain ⟨abx, bcap, rfl, hbmax, hbat⟩ := hB.at
    have HO2 := hideI hoat
    have HB2 := hideI hbat
    have HBB := hideI hbb
    have HRR := hideI hr
    have HR : Hid (fdR us s.toList H (o.drop 0) (b.drop 0) = R) := hR
    have B1 := hideI b1
    have B2 := hideI b2
    have B3 := hideI b3
    clear hR hoat hbat hO hB b1 b2 b3 hbb hr hl hU hH
    unfold maxLen at homax
    clear hbmax
    go_enter Try.func15, Try.ntmps15
    go_wp2_with fail
    refine (unhideI OA _).mono ?_
    rintro e w1 ⟨rfl, hw⟩
    subst w1
    go_wp2_with fail
    refine (unhideI HO).mono ?_
    rintro e w1 ⟨rfl, k1⟩
    have K1 := hideI k1
    have q2 := ((unhideI B2).step k1).2.1 0 _ rfl
    clear k1 HO OA p1
    go_wp2_with fail
    go_loopg [28] o.length (fun g ii ws => ∃ (j : Nat), j ≤ o.length ∧ g = o.length - j ∧ ii = .int .i64 j ∧ Hid (Below w.heap.size w ws) ∧ Hid (fdR us s.toList H (o.drop j) (b.drop j) = R))
    case atStart => exact ⟨0, Nat.zero_le _, rfl, rfl, K1, HR⟩
    case round =>
      obtain ⟨j, hj, hg, rfl, hK, HE⟩ := hrel
      clear HR K1 q2
      by_cases hlt : j < o.length
      · have hjI : (j : Int) < (o.length : Int) := by omega
        have hjb : j < b.length := by omega
        obtain ⟨b0, off0, rfl, hb0, hc0⟩ := (unhideI HO2) (by intro h; rw [h] at hlt; simp at hlt)
        have c0 := cell_keep (unhideI hK) hb0 (hc0 j hlt)
        have hE := unhideI HE
        rw [List.drop_eq_getElem_cons hlt, List.drop_eq_getElem_cons hjb, fdR] at hE
        have hx := unhideI HRR _ (List.getElem_mem hlt)
        have hy := unhideI HBB _ (List.getElem_mem hjb)
        obtain ⟨b5, off5, rfl, hb5, hc5⟩ := (unhideI HB2) (by intro h; rw [h] at hjb; simp at hjb)
        have c5 := cell_keep (unhideI hK) hb5 (hc5 j hjb)
        clear hc0 hc5 HE
        generalize o[j] = x at *
        generalize b[j] = y at *
        by_cases hh : x = H
        · subst hh
          rw [if_pos rfl] at hE
          obtain ⟨h, rfl⟩ : ∃ h : Nat, x = h := ⟨x.toNat, by omega⟩
          have hhl : h < us.length := by omega
          have hhI : (h : Int) < (us.length : Int) := by omega
          rw [uLn_at hhl] at hE
          have BW1 := (unhideI B1).step (unhideI hK)
          have BW3 := (unhideI B3).step (unhideI hK)
          have p1 := BW1.2.1 0 _ rfl
          have p3 := BW3.2.1 0 _ rfl
          have p1b := BW1.1
          have p3b := BW3.1
          have hb5w : b5 < wr.heap.size := Nat.lt_of_lt_of_le hb5 (unhideI hK).size
          obtain ⟨ub, uof, cap, vl, rfl, hmax, hubl, u0, u1, uL⟩ := uns_at ((unhideI HU).step (unhideI hK)) hhl
          unfold maxLen at hmax
          obtain ⟨lo, lc, rfl, hlmax, hlat⟩ := uL.at
          have hll := unhideI HL _ (List.getElem_mem hhl)
          have HLW := hideI uL
          have WH := hideI (fun W hW => where_any (us[h]'hhl).lines (.slice lo (us[h]'hhl).lines.length lc) s y W hW hll hy.1 hy.2)
          rw [hE] at WH
          have hjb2 : (j : Int) < (b.length : Int) := by omega
          clear hlat uL BW1 BW3 hE
          generalize (us[h]'hhl) = u at *
          go_upto_region 8 with fail
          refine wp_region_later (by kernel_rfl) (by kernel_rfl) ?_
          intro L hne lt hlc hlf hlm
          repeat (go_big_quiet_step ((go_at_call 14; exact later_call hlm (unhideI WH _ (Lies.step (unhideI HLW) (hlm.1 _))))))
          refine wpQuiet_nil ?_
          intro wq kq
          clear hlm hlf hlc lt hne L
          obtain ⟨hqc, hqf⟩ := below_cells kq
          go_wp2_with fail
          go_ret
          exact ⟨rfl, bt (unhideI hK) kq⟩
        · rw [if_neg hh] at hE
          have HE := hideI hE
          have hh' : (x == H) = false := by simpa using hh
          clear hE
          go_wp2_with fail
          go_roundg (o.length - (j + 1))
          case measure => omega
          case rel => exact ⟨j + 1, by omega, rfl, by go_num, hK, HE⟩
      · have hjI : ¬ (j : Int) < (o.length : Int) := by omega
        have hE := unhideI HE
        rw [show o.drop j = [] from List.drop_eq_nil_of_le (by omega), fdR] at hE
        subst hE
        clear HE
        go_wp2_with fail
        go_ret
        exact ⟨rfl, unhideI hK⟩
end Go.Proofs.Yteoifpkbknkpjaa
