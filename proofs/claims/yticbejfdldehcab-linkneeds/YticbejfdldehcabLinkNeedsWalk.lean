/-
  LinkNeeds, walked.
-/
import Derived.Test.YticbejfdldehcabAlive5
import Derived.Test.YticbejfdldehcabLkH
import Derived.Deep.OwnRows
namespace Go.Proofs.Yticbejfdldehcab
open Go.RowKit Go.Maps
set_option linter.unusedSimpArgs false
set_option linter.unusedVariables false

theorem link_err {us : List Un} {e : List UInt8} (h : (linkL us e).2.1 ≠ 0) : (linkL us e).1 = im0 := by
  unfold linkL at h ⊢
  by_cases h1 : us.length ≤ 400
  · rw [if_pos h1] at h ⊢
    by_cases h2 : (srv us 0 ⟨[], []⟩).2.1 = 0
    · rw [if_pos h2] at h ⊢
      by_cases h3 : hasA (srv us 0 ⟨[], []⟩).1.owners e = true
      · rw [if_pos h3] at h ⊢
        unfold imL at h ⊢
        by_cases h4 : (wrdS us (srv us 0 ⟨[], []⟩).1 e).1.2.1 = 0
        · rw [if_pos h4] at h; exact absurd rfl h
        · rw [if_neg h4]
      · rw [if_neg h3]
    · rw [if_neg h2]
  · rw [if_neg h1]
/-- How often each unit is there. -/
def cnts (n : Nat) (os : List Int) : List Value := (List.range n).map fun (u : Nat) => .int .i64 ((os.count (u : Int) : Nat) : Int)
def bls (n : Nat) (f : Nat → Bool) : List Value := (List.range n).map fun (u : Nat) => .bool (f u)
theorem cnts_set {n u : Nat} {os : List Int} (hu : u < n) : (cnts n os).set u (.int .i64 ((os.count (u : Int) : Nat) + 1 : Int)) = cnts n (os ++ [(u : Int)]) := by
  apply List.ext_getElem?
  intro i
  unfold cnts
  by_cases e : u = i
  · subst e
    rw [List.getElem?_set_self (by simpa using hu), List.getElem?_map, List.getElem?_range hu]
    simp [List.count_append]
  · rw [List.getElem?_set_ne e, List.getElem?_map, List.getElem?_map]
    by_cases hi : i < n
    · rw [List.getElem?_range hi]
      have : ¬ ((u : Int) = (i : Int)) := by omega
      simp [List.count_append, List.count_singleton, this]
    · rw [List.getElem?_eq_none (by simpa using hi)]; rfl
theorem bls_set {n u : Nat} {f : Nat → Bool} (hu : u < n) : (bls n f).set u (.bool true) = bls n (fun i => f i || (u == i)) := by
  apply List.ext_getElem?
  intro i
  unfold bls
  by_cases e : u = i
  · subst e
    rw [List.getElem?_set_self (by simpa using hu), List.getElem?_map, List.getElem?_range hu]
    simp
  · rw [List.getElem?_set_ne e, List.getElem?_map, List.getElem?_map]
    by_cases hi : i < n
    · rw [List.getElem?_range hi]; simp [e]
    · rw [List.getElem?_eq_none (by simpa using hi)]; rfl
/-- Do lines speak of a unit? -/
def sp1 (us : List Un) (l : List Ln) (u : Nat) : Bool := l.any fun y => !(emp y.ref) && decide (holdU us 0 y.ref.toList = (u : Int))
def spF (us : List Un) (e : List UInt8) (os : List Int) (u : Nat) : Bool := decide (holdU us 0 e = (u : Int)) || os.any fun v => match us[v.toNat]? with | some x => sp1 us x.lines u | none => false
theorem sp1_snoc (us : List Un) (l : List Ln) (y : Ln) (u : Nat) : sp1 us (l ++ [y]) u = (sp1 us l u || (!(emp y.ref) && decide (holdU us 0 y.ref.toList = (u : Int)))) := by simp [sp1]
theorem spF_snoc (us : List Un) (e : List UInt8) (os : List Int) (v : Nat) (hv : v < us.length) (u : Nat) : spF us e (os ++ [(v : Int)]) u = (spF us e os u || sp1 us (us[v]'hv).lines u) := by
  unfold spF
  rw [List.any_append, ← Bool.or_assoc]
  congr 1
  simp only [List.any_cons, List.any_nil, Bool.or_false, Int.toNat_natCast]
  rw [List.getElem?_eq_getElem hv]
theorem spF_iff {us : List Un} {e : List UInt8} (h : (linkL us e).2.1 = 0) {u : Nat} (hu : u < us.length) : spF us e (linkL us e).1.units u = decide ((u : Int) ∈ (linkL us e).1.units) := by
  obtain ⟨h1, h2, h3⟩ := link_needs h
  have h4 := h3 u hu
  have key : spF us e (linkL us e).1.units u = true ↔ (u : Int) ∈ (linkL us e).1.units := by
    rw [h4]
    unfold spF sp1
    rw [Bool.or_eq_true, decide_eq_true_eq, List.any_eq_true]
    refine or_congr Iff.rfl ⟨?_, ?_⟩
    · rintro ⟨v, hv, hm⟩
      obtain ⟨r1, r2⟩ := h1 v hv
      have hv2 : v.toNat < us.length := by omega
      rw [List.getElem?_eq_getElem hv2] at hm
      dsimp only at hm
      rw [List.any_eq_true] at hm
      obtain ⟨y, hy, hb⟩ := hm
      rw [Bool.and_eq_true, Bool.not_eq_true', decide_eq_true_eq] at hb
      exact ⟨v.toNat, hv2, by rw [Int.toNat_of_nonneg r1]; exact hv, y, hy, hb.1, hb.2⟩
    · rintro ⟨v, hv, hm, y, hy, b1, b2⟩
      refine ⟨(v : Int), hm, ?_⟩
      rw [Int.toNat_natCast, List.getElem?_eq_getElem hv]
      dsimp only
      rw [List.any_eq_true]
      exact ⟨y, hy, by rw [b1, b2]; simp⟩
  by_cases hm : (u : Int) ∈ (linkL us e).1.units
  · rw [key.2 hm]; simp [hm]
  · rw [Bool.eq_false_iff.2 (fun hh => hm (key.1 hh))]; simp [hm]
/-- A row that was just made. -/
theorem Rw.made (w : World) (T : TypeId) (x : Value) (n : Nat) (cs : List Value) (h : cs = List.replicate n x) : Rw (w.alloc (.cells (madeCells #[x] n) T)) w.heap.size T cs := by
  subst h
  have hm : madeCells #[x] n = Array.replicate n x := by
    apply Array.ext'
    have : (fun j : Nat => ([x][j % 1]?).getD default) = fun _ => x := by funext j; simp [Nat.mod_one]
    simp [madeCells, this, List.map_const']
  rw [hm]
  refine ⟨Array.replicate n x, ?_, by simp, fun j hj => ?_⟩
  · show (w.heap.push _)[w.heap.size]? = _
    simp
  rw [List.length_replicate] at hj
  simp [hj]
theorem Try.infoBool : (Try.prog.info? 4).map (fun i => (i.zero, i.size, i.bytes)) = some (some (.bool false), 1, 1) := by kernel_rfl
theorem makeI (n : Nat) (hn : n ≤ 1000) (w : World) : (Instr.makeSlice 23 (.int .i64 (n : Int)) (.int .i64 (n : Int))).run Try.prog w = .ok (.slice (some ⟨w.heap.size, 0, none⟩) n n) (w.alloc (.cells (madeCells #[.int .i64 0] n) 3)) :=
  run_make_row' 23 3 (.int .i64 0) 8 Try.underlying23 Try.infoInt rfl .i64 .i64 n (by omega) (by omega) w
theorem makeB (n : Nat) (hn : n ≤ 1000) (w : World) : (Instr.makeSlice 35 (.int .i64 (n : Int)) (.int .i64 (n : Int))).run Try.prog w = .ok (.slice (some ⟨w.heap.size, 0, none⟩) n n) (w.alloc (.cells (madeCells #[.bool false] n) 4)) :=
  run_make_row' 35 4 (.bool false) 1 Try.underlying35 Try.infoBool rfl .i64 .i64 n (by omega) (by omega) w
theorem cnts_nil (n : Nat) : cnts n [] = List.replicate n (.int .i64 0) := by
  unfold cnts
  apply List.ext_getElem?
  intro i
  by_cases hi : i < n
  · rw [List.getElem?_map, List.getElem?_range hi]; simp [hi]
  · rw [List.getElem?_eq_none (by simpa using hi), List.getElem?_eq_none (by simpa using hi)]
theorem bls_nil (n : Nat) : bls n (fun _ => false) = List.replicate n (.bool false) := by
  unfold bls
  apply List.ext_getElem?
  intro i
  by_cases hi : i < n
  · rw [List.getElem?_map, List.getElem?_range hi]; simp [hi]
  · rw [List.getElem?_eq_none (by simpa using hi), List.getElem?_eq_none (by simpa using hi)]
theorem cnts_at {n u : Nat} {os : List Int} (hu : u < n) : (cnts n os)[u]? = some (.int .i64 ((os.count (u : Int) : Nat) : Int)) := by unfold cnts; rw [List.getElem?_map, List.getElem?_range hu]; rfl
theorem bls_at {n u : Nat} {f : Nat → Bool} (hu : u < n) : (bls n f)[u]? = some (.bool (f u)) := by unfold bls; rw [List.getElem?_map, List.getElem?_range hu]; rfl

set_option maxRecDepth 100000 in
set_option maxHeartbeats 8000000 in
theorem walk_linkNeeds (us : List Un) (s : ByteArray) (v : Value) (w : World) (hU : Uns w v us) (_ : ∀ u ∈ us, UnOk u) (hs : s.size ≤ maxLen) :
    Calls Try.prog 4 #[v, .string s] w fun e w' => e = .returned (.bool true) ∧ Below w.heap.size w w' := by
  have HU := hideI hU
  obtain ⟨ao, cap, rfl, humax, huat⟩ := hU
  have HUA := hideI huat
  have LA := fun w h => link_any us (.slice ao us.length cap) s w h hs
  unfold LinkRet at LA
  have LO := fun h => link_ok (us := us) (e := s.toList) h
  have LN := fun h => link_needs (us := us) (e := s.toList) h
  have SF := fun h u hu => spF_iff (us := us) (e := s.toList) h (u := u) hu
  have LE := link_err (us := us) (e := s.toList)
  have HO := fun x w h => holder_any us (.slice ao us.length cap) x w h
  generalize linkL us s.toList = R at *
  obtain ⟨⟨zs, os, sp⟩, er, ef⟩ := R
  dsimp only at LA LO LN SF LE
  clear huat
  by_cases her : er = 0
  · subst her
    obtain ⟨h400, -⟩ := LO rfl
    obtain ⟨n1, n2, -⟩ := LN rfl
    have HSF := hideI (SF rfl)
    clear SF
    have HN1 := hideI n1
    have HN2 := hideI (List.nodup_iff_count.1 n2)
    clear LO LN LE n1 n2
    have hlen : (us.length : Int) ≤ 400 := by omega
    have MI := makeI us.length (by omega)
    have MB := makeB us.length (by omega)
    go_enter Try.func4, Try.ntmps4
    go_wp2_with fail
    refine (alive5 _).mono ?_
    rintro e w1 ⟨rfl, k1⟩
    go_wp2_with fail
    refine (LA _ ((unhideI HU).step k1)).mono ?_
    rintro e w3 ⟨vw, vu, vs, rfl, i1, i2, i3, k3⟩
    have I2 := hideI i2
    obtain ⟨b1, o1, rfl, m1, -⟩ := i1.at
    obtain ⟨b2, o2, rfl, m2, -⟩ := i2.at
    obtain ⟨-, sa, sc, rfl, -⟩ := i3
    have K3 := hideI (bt k1 k3)
    clear k1 k3 i1 i2 LA
    have BI4 := hideI ((Box.new w3 #[.slice b1 zs.length o1, .slice b2 os.length o2, .slice sa sp.length sc] 26).step (below_a _ (.cells #[.int .i64 0, .int .i64 ef] 29)))
    have BF4 := hideI (Box.new (w3.alloc (.cells #[.slice b1 zs.length o1, .slice b2 os.length o2, .slice sa sp.length sc] 26)) #[.int .i64 0, .int .i64 ef] 29)
    simp only [World.size_alloc] at BF4
    have KA4 := bt (below_a w3 (.cells #[.slice b1 zs.length o1, .slice b2 os.length o2, .slice sa sp.length sc] 26)) (below_a _ (.cells #[.int .i64 0, .int .i64 ef] 29))
    have K4 := hideI (bt (unhideI K3) KA4)
    have I4 := hideI (Lies.step (unhideI I2) KA4)
    have s4 : ((w3.alloc (.cells #[.slice b1 zs.length o1, .slice b2 os.length o2, .slice sa sp.length sc] 26)).alloc (.cells #[.int .i64 0, .int .i64 ef] 29)).heap.size = w3.heap.size + 1 + 1 := by simp
    clear KA4
    obtain ⟨f0, -⟩ := (unhideI BF4).at2
    obtain ⟨q0, q1, -⟩ := (unhideI BI4).at3
    go_wp2_with fail
    generalize hw4 : (w3.alloc (.cells #[.slice b1 zs.length o1, .slice b2 os.length o2, .slice sa sp.length sc] 26)).alloc (.cells #[.int .i64 0, .int .i64 ef] 29) = w4 at *
    have R5 := hideI (Rw.made w4 3 (.int .i64 0) us.length (cnts us.length (os.take 0)) (cnts_nil _))
    have K5 := hideI (below_a w4 (.cells (madeCells #[.int .i64 0] us.length) 3))
    have q5 := cell_keep (unhideI K5) (unhideI BI4).1 q1
    rw [s4] at R5
    have HS4 := hideI s4
    have U4 := hideI ((unhideI HU).step (unhideI K4))
    have hos : (os.length : Int) ≤ 9223372036854775807 := by unfold maxLen at m2; omega
    clear hw4 f0 q0
    clear MI
    generalize w4.alloc (.cells (madeCells #[.int .i64 0] us.length) 3) = w5 at *
    clear s4
    go_loopg [51] os.length (fun g ii wr => ∃ (j : Nat), j ≤ os.length ∧ g = os.length - j ∧ ii = .int .i64 j ∧ Hid (Below w4.heap.size w4 wr) ∧ Hid (Rw wr (w3.heap.size + 1 + 1) 3 (cnts us.length (os.take j))))
    case atStart => exact ⟨0, Nat.zero_le _, rfl, rfl, K5, R5⟩
    case round =>
      obtain ⟨j, hj, hg, rfl, HB, HR⟩ := hrel
      clear R5 K5 q5
      by_cases hlt : j < os.length
      · obtain ⟨a', c', e', -, hoat⟩ := (Ints.at (unhideI I4))
        injection e' with e1 e2 e3
        subst e1
        obtain ⟨ob, oof, rfl, hobl, hocell⟩ := hoat (by intro h; rw [h] at hlt; simp at hlt)
        have co := cell_keep (unhideI HB) hobl (hocell j hlt)
        have hom := (unhideI HN1) _ (List.getElem_mem hlt)
        have hc2 := (unhideI HN2) os[j]
        have hct : (os.take j).count os[j] ≤ os.count os[j] := List.Sublist.count_le _ (List.take_sublist _ _)
        have hts : os.take (j + 1) = os.take j ++ [os[j]] := by rw [List.take_add_one, List.getElem?_eq_getElem hlt]; rfl
        obtain ⟨m, hm⟩ : ∃ m : Nat, os[j] = m := ⟨os[j].toNat, by omega⟩
        rw [hm] at co hom hc2 hct hts
        have hmU : m < us.length := by omega
        have cm := (unhideI HR).cell (cnts_at hmU)
        have fm := (unhideI HR).frozen m
        have R2 := hideI ((unhideI HR).set (j := m) (x := .int .i64 (((os.take j).count (m : Int) : Nat) + 1 : Int)) (by simp [cnts]; exact hmU))
        rw [cnts_set hmU, ← hts] at R2
        have HB2 := hideI ((unhideI HB).setCell (p := ⟨w3.heap.size + 1 + 1, m, none⟩) (by rw [unhideI HS4]; exact Nat.le_refl _) (.int .i64 (((os.take j).count (m : Int) : Nat) + 1 : Int)))
        have hmi : (m : Int) < (us.length : Int) := by omega
        generalize (os.take j).count (m : Int) = cc at *
        have hcc : (cc : Int) ≤ 1 := by omega
        clear hoat hocell e2 e3 hts hct hc2
        go_wp2_with fail
        go_roundg (os.length - (j + 1))
        case measure => omega
        case rel => exact ⟨j + 1, by omega, rfl, by go_num, HB2, R2⟩
      · have hjl : j = os.length := by omega
        subst hjl
        rw [List.take_length] at HR
        have R6 := hideI (Rw.made wr 4 (.bool false) us.length (bls us.length (fun _ => false)) (bls_nil _))
        have KA6 := hideI (below_a wr (.cells (madeCells #[.bool false] us.length) 4))
        have HR6 := hideI ((unhideI HR).kpt (Kpt.of (X := fun _ => False) (unhideI KA6)) (fun h => h))
        have HB6 := hideI ((unhideI HB).trans ((unhideI KA6).mono (unhideI HB).size))
        have hsz := (unhideI HB).size
        have hg1 := (unhideI HR).lt
        have HO1 := HO s _ ((unhideI U4).step (unhideI HB6))
        have hho := hold_or us 0 s.toList
        go_wp2_with fail
        clear MB
        refine HO1.mono ?_
        rintro e w7 ⟨rfl, k7⟩
        obtain ⟨g2, hg2⟩ : ∃ g2, g2 = wr.heap.size := ⟨_, rfl⟩
        rw [← hg2] at R6
        have HB7 := hideI ((unhideI HB6).trans (k7.mono (unhideI HB6).size))
        have HR7 := hideI ((unhideI HR6).kpt (Kpt.of (X := fun _ => False) k7) (fun h => h))
        have HQ7 := hideI ((unhideI R6).kpt (Kpt.of (X := fun _ => False) k7) (fun h => h))
        have p7 := cell_keep (unhideI HB7) (unhideI BI4).1 q1
        have hgn : w3.heap.size + 1 + 1 ≠ g2 := by omega
        have hgw : w4.heap.size ≤ g2 := by omega
        rw [← hg2]
        clear k7 HO1 R6 HR6 HB6 KA6 HR hg2 HB hsz hg1
        rcases hho with ⟨hh, -⟩ | ⟨z, hz, hh, -⟩
        · have HF7 : Hid (∀ u, u < us.length → (fun _ => false) u = spF us s.toList (os.take 0) u) := fun u hu => by
            have hne : ¬ ((-1 : Int) = (u : Int)) := by omega
            unfold spF; rw [hh, decide_eq_false hne]; rfl
          rw [hh]
          go_wp2_with fail
          go_loopg [84] os.length (fun g ii wr => ∃ (j : Nat) (f : Nat → Bool), j ≤ os.length ∧ g = os.length - j ∧ ii = .int .i64 j ∧ Hid (Below w4.heap.size w4 wr) ∧ Hid (Rw wr (w3.heap.size + 1 + 1) 3 (cnts us.length os)) ∧ Hid (Rw wr g2 4 (bls us.length f)) ∧ Hid (∀ u, u < us.length → f u = spF us s.toList (os.take j) u))
          case atStart => exact ⟨0, _, Nat.zero_le _, rfl, rfl, HB7, HR7, HQ7, HF7⟩
          case round =>
            obtain ⟨j, f, hj, hg, rfl, HB, HR, HQ, HF⟩ := hrel
            clear HB7 HR7 HQ7 HF7 p7
            by_cases hlt : j < os.length
            · obtain ⟨a', c', e', -, hoat⟩ := (Ints.at (unhideI I4))
              injection e' with e1 e2 e3
              subst e1
              obtain ⟨ob, oof, rfl, hobl, hocell⟩ := hoat (by intro h; rw [h] at hlt; simp at hlt)
              have co := cell_keep (unhideI HB) hobl (hocell j hlt)
              have hom := (unhideI HN1) _ (List.getElem_mem hlt)
              have hts : os.take (j + 1) = os.take j ++ [os[j]] := by rw [List.take_add_one, List.getElem?_eq_getElem hlt]; rfl
              obtain ⟨m, hm⟩ : ∃ m : Nat, os[j] = m := ⟨os[j].toNat, by omega⟩
              rw [hm] at co hom hts
              have hmU : m < us.length := by omega
              obtain ⟨ub, uof, uf, rfl, hubl, hucell⟩ := (unhideI HUA) (by intro h; rw [h] at hmU; simp at hmU)
              obtain ⟨-, u1, uL⟩ := hucell m hmU
              obtain ⟨lo, lc, hul2, hlmax, hlat⟩ := uL.at
              unfold maxLen at hlmax
              rw [hul2] at u1
              have KW := hideI ((unhideI K4).trans ((unhideI HB).mono (unhideI K4).size))
              replace u1 := cell_keep (unhideI KW) hubl u1
              have HLA := hideI hlat
              have hsn := hideI (fun u => spF_snoc us s.toList (os.take j) m hmU u)
              rw [← hts] at hsn
              generalize (us[m]'hmU).lines = lines at *
              clear hucell hlat uL hoat hocell e2 e3
              have hmi : (m : Int) < (us.length : Int) := by omega
              go_wp2_with fail
              go_loopg [94] lines.length (fun g ii ws => ∃ (k : Nat) (f : Nat → Bool), k ≤ lines.length ∧ g = lines.length - k ∧ ii = .int .i64 k ∧ Hid (Below w4.heap.size w4 ws) ∧ Hid (Rw ws (w3.heap.size + 1 + 1) 3 (cnts us.length os)) ∧ Hid (Rw ws g2 4 (bls us.length f)) ∧ Hid (∀ u, u < us.length → f u = (spF us s.toList (os.take j) u || sp1 us (lines.take k) u)))
              case atStart => exact ⟨0, f, Nat.zero_le _, rfl, rfl, HB, HR, HQ, fun u hu => by rw [(unhideI HF) u hu]; simp [sp1]⟩
              case round =>
                obtain ⟨k, f, hk, hgk, rfl, HB2, HR2, HQ2, HF2⟩ := hrel
                clear HB HR HQ HF co u1 KW
                have KW2 := hideI ((unhideI K4).trans ((unhideI HB2).mono (unhideI K4).size))
                by_cases hkl : k < lines.length
                · obtain ⟨b2, off2, rfl, hbw2, hc2⟩ := (unhideI HLA) (by intro h; rw [h] at hkl; simp at hkl)
                  obtain ⟨d0, d1, d2, d3, d4, d5⟩ := hc2 k hkl
                  replace d0 := cell_keep (unhideI KW2) hbw2 d0
                  replace d1 := cell_keep (unhideI KW2) hbw2 d1
                  replace d2 := cell_keep (unhideI KW2) hbw2 d2
                  replace d3 := cell_keep (unhideI KW2) hbw2 d3
                  replace d4 := cell_keep (unhideI KW2) hbw2 d4
                  replace d5 := cell_keep (unhideI KW2) hbw2 d5
                  have ht2 : lines.take (k + 1) = lines.take k ++ [lines[k]] := by rw [List.take_add_one, List.getElem?_eq_getElem hkl]; rfl
                  have hsn2 := hideI (fun u => sp1_snoc us (lines.take k) lines[k] u)
                  rw [← ht2] at hsn2
                  generalize lines[k] = x at *
                  obtain ⟨lab, ⟨o, d, sr, mm⟩, ref⟩ := x
                  clear hc2 ht2
                  dsimp only at *
                  have KA := hideI (below_a wr (.cells #[.string lab, .int .i64 o, .int .i64 d, .int .i64 sr, .int .i64 mm, .string ref] 43))
                  have BX := hideI (Box.new wr #[.string lab, .int .i64 o, .int .i64 d, .int .i64 sr, .int .i64 mm, .string ref] 43)
                  have p2 := (unhideI BX).2.1 2 _ rfl
                  have p5 := (unhideI BX).2.1 5 _ rfl
                  have HO2 := HO ref _ ((unhideI U4).step ((unhideI HB2).trans ((unhideI KA).mono (unhideI HB2).size)))
                  have hho2 := hold_or us 0 ref.toList
                  have ssz := (unhideI HB2).size
                  go_wp2_with fail
                  refine HO2.mono ?_
                  rintro e w8 ⟨rfl, k8⟩
                  have k8' := bt (unhideI KA) k8
                  have HB8 := hideI ((unhideI HB2).trans (k8'.mono (unhideI HB2).size))
                  have HR8 := hideI ((unhideI HR2).kpt (Kpt.of (X := fun _ => False) k8') (fun h => h))
                  have HQ8 := hideI ((unhideI HQ2).kpt (Kpt.of (X := fun _ => False) k8') (fun h => h))
                  have BX8 := hideI ((unhideI BX).step k8)
                  have p8 := (unhideI BX8).2.1 5 _ rfl
                  clear k8 k8' HO2 d0 d1 d2 d3 d4 d5 p2 p5 KA BX
                  by_cases hre : ref.toList.isEmpty = true
                  · have hem : emp ref = true := hre
                    have HF8 : Hid (∀ u, u < us.length → f u = (spF us s.toList (os.take j) u || sp1 us (lines.take (k + 1)) u)) := fun u hu => by rw [(unhideI HF2) u hu, (unhideI hsn2) u, hem]; simp
                    go_wp2_with fail
                    go_roundg (lines.length - (k + 1))
                    case measure => omega
                    case rel => exact ⟨k + 1, f, by omega, rfl, by go_num, HB8, HR8, HQ8, HF8⟩
                  · replace hre : ref.toList.isEmpty = false := by simpa using hre
                    have hem : emp ref = false := hre
                    rcases hho2 with ⟨hh, -⟩ | ⟨z, hz, hh, -⟩
                    · have HF8 : Hid (∀ u, u < us.length → f u = (spF us s.toList (os.take j) u || sp1 us (lines.take (k + 1)) u)) := fun u hu => by
                        have hne : ¬ ((-1 : Int) = (u : Int)) := by omega
                        rw [(unhideI HF2) u hu, (unhideI hsn2) u, hem, hh, decide_eq_false hne]; simp
                      rw [hh]
                      go_wp2_with fail
                      go_roundg (lines.length - (k + 1))
                      case measure => omega
                      case rel => exact ⟨k + 1, f, by omega, rfl, by go_num, HB8, HR8, HQ8, HF8⟩
                    · rw [Nat.zero_add] at hh
                      have HF8 : Hid (∀ u, u < us.length → (f u || (z == u)) = (spF us s.toList (os.take j) u || sp1 us (lines.take (k + 1)) u)) := fun u hu => by
                        have hde : decide ((z : Int) = (u : Int)) = (z == u) := by
                          by_cases e : z = u
                          · subst e; simp
                          · rw [decide_eq_false (by omega), beq_eq_false_iff_ne.2 e]
                        rw [(unhideI HF2) u hu, (unhideI hsn2) u, hem, hh, hde, Bool.or_assoc]; rfl
                      have cz := (unhideI HQ8).cell (bls_at hz)
                      have fz := (unhideI HQ8).frozen z
                      have HQ9 := hideI ((unhideI HQ8).set (j := z) (x := .bool true) (by simp [bls]; exact hz))
                      rw [bls_set hz] at HQ9
                      have KS : Kpt (fun c => c = g2) w8 (w8.setCell ⟨g2, z, none⟩ (.bool true)) := Kpt.setCell _ _ rfl
                      have HR9 := hideI ((unhideI HR8).kpt KS (by omega))
                      have HB9 := hideI ((unhideI HB8).trans (KS.below (unhideI HB8).size (fun c hc => by omega)))
                      have hzi : (z : Int) < (us.length : Int) := by omega
                      rw [hh]
                      clear KS
                      go_wp2_with fail
                      go_roundg (lines.length - (k + 1))
                      case measure => omega
                      case rel => exact ⟨k + 1, _, by omega, rfl, by go_num, HB9, HR9, HQ9, HF8⟩
                · have hkl2 : k = lines.length := by omega
                  subst hkl2
                  rw [List.take_length] at HF2
                  have HF3 : Hid (∀ u, u < us.length → f u = spF us s.toList (os.take (j + 1)) u) := fun u hu => by rw [(unhideI HF2) u hu, (unhideI hsn) u]
                  go_wp2_with fail
                  go_roundg (os.length - (j + 1))
                  case measure => omega
                  case rel => exact ⟨j + 1, f, by omega, rfl, by go_num, HB2, HR2, HQ2, HF3⟩
            · have hjl : j = os.length := by omega
              subst hjl
              rw [List.take_length] at HF
              have HFF : Hid (∀ u, u < us.length → f u = decide ((u : Int) ∈ os)) := fun u hu => by rw [(unhideI HF) u hu, (unhideI HSF) u hu]
              clear HF
              go_wp2_with fail
              go_loopg [116] us.length (fun g ii wr' => ∃ (j q : Nat), j ≤ us.length ∧ g = us.length - j ∧ ii = .int .i64 j ∧ wr' = wr.drewN q)
              case atStart => exact ⟨0, 0, Nat.zero_le _, rfl, rfl, rfl⟩
              case round =>
                obtain ⟨j, q, hj, hg, rfl, rfl⟩ := hrel
                by_cases hlt : j < us.length
                · have c1 := (unhideI HR).cell (cnts_at hlt)
                  have c2 := (unhideI HQ).cell (bls_at hlt)
                  rw [(unhideI HFF) j hlt] at c2
                  have hju : (j : Int) < (us.length : Int) := by omega
                  have hle := (unhideI HN2) (j : Int)
                  by_cases hin : (j : Int) ∈ os
                  · have hc1 : os.count (j : Int) = 1 := by have := List.count_pos_iff.2 hin; omega
                    rw [hc1] at c1
                    rw [decide_eq_true hin] at c2
                    clear hle
                    go_wp2_with fail
                    go_quiet (fail)
                    go_wp2_with fail
                    go_roundg (us.length - (j + 1))
                    case measure => omega
                    case rel => exact ⟨j + 1, _, by omega, rfl, by go_num, rfl⟩
                  · have hc1 : os.count (j : Int) = 0 := List.count_eq_zero.2 hin
                    rw [hc1] at c1
                    rw [decide_eq_false hin] at c2
                    clear hle
                    go_wp2_with fail
                    go_quiet (fail)
                    go_wp2_with fail
                    go_roundg (us.length - (j + 1))
                    case measure => omega
                    case rel => exact ⟨j + 1, _, by omega, rfl, by go_num, rfl⟩
                · go_wp2_with fail
                  go_ret
                  exact ⟨rfl, bdr ((unhideI K4).trans ((unhideI HB).mono (unhideI K4).size)) _⟩
        · rw [Nat.zero_add] at hh
          have HF7 : Hid (∀ u, u < us.length → (false || (z == u)) = spF us s.toList (os.take 0) u) := fun u hu => by
            have hde : decide ((z : Int) = (u : Int)) = (z == u) := by
              by_cases e : z = u
              · subst e; simp
              · rw [decide_eq_false (by omega), beq_eq_false_iff_ne.2 e]
            unfold spF; rw [hh, hde]; simp
          have cz := (unhideI HQ7).cell (bls_at hz)
          have fz := (unhideI HQ7).frozen z
          have HQ9 := hideI ((unhideI HQ7).set (j := z) (x := .bool true) (by simp [bls]; exact hz))
          rw [bls_set hz] at HQ9
          have KS : Kpt (fun c => c = g2) w7 (w7.setCell ⟨g2, z, none⟩ (.bool true)) := Kpt.setCell _ _ rfl
          have HR9 := hideI ((unhideI HR7).kpt KS (by omega))
          have HB9 := hideI ((unhideI HB7).trans (KS.below (unhideI HB7).size (fun c hc => by omega)))
          have hzi : (z : Int) < (us.length : Int) := by omega
          rw [hh]
          clear KS HQ7 HR7 HB7
          have HQ7 := HQ9
          have HR7 := HR9
          have HB7 := HB9
          clear HQ9 HR9 HB9
          clear p7
          have p7 := cell_keep (unhideI HB7) (unhideI BI4).1 q1
          go_wp2_with fail
          go_loopg [84] os.length (fun g ii wr => ∃ (j : Nat) (f : Nat → Bool), j ≤ os.length ∧ g = os.length - j ∧ ii = .int .i64 j ∧ Hid (Below w4.heap.size w4 wr) ∧ Hid (Rw wr (w3.heap.size + 1 + 1) 3 (cnts us.length os)) ∧ Hid (Rw wr g2 4 (bls us.length f)) ∧ Hid (∀ u, u < us.length → f u = spF us s.toList (os.take j) u))
          case atStart => exact ⟨0, _, Nat.zero_le _, rfl, rfl, HB7, HR7, HQ7, HF7⟩
          case round =>
            obtain ⟨j, f, hj, hg, rfl, HB, HR, HQ, HF⟩ := hrel
            clear HB7 HR7 HQ7 HF7 p7
            by_cases hlt : j < os.length
            · obtain ⟨a', c', e', -, hoat⟩ := (Ints.at (unhideI I4))
              injection e' with e1 e2 e3
              subst e1
              obtain ⟨ob, oof, rfl, hobl, hocell⟩ := hoat (by intro h; rw [h] at hlt; simp at hlt)
              have co := cell_keep (unhideI HB) hobl (hocell j hlt)
              have hom := (unhideI HN1) _ (List.getElem_mem hlt)
              have hts : os.take (j + 1) = os.take j ++ [os[j]] := by rw [List.take_add_one, List.getElem?_eq_getElem hlt]; rfl
              obtain ⟨m, hm⟩ : ∃ m : Nat, os[j] = m := ⟨os[j].toNat, by omega⟩
              rw [hm] at co hom hts
              have hmU : m < us.length := by omega
              obtain ⟨ub, uof, uf, rfl, hubl, hucell⟩ := (unhideI HUA) (by intro h; rw [h] at hmU; simp at hmU)
              obtain ⟨-, u1, uL⟩ := hucell m hmU
              obtain ⟨lo, lc, hul2, hlmax, hlat⟩ := uL.at
              unfold maxLen at hlmax
              rw [hul2] at u1
              have KW := hideI ((unhideI K4).trans ((unhideI HB).mono (unhideI K4).size))
              replace u1 := cell_keep (unhideI KW) hubl u1
              have HLA := hideI hlat
              have hsn := hideI (fun u => spF_snoc us s.toList (os.take j) m hmU u)
              rw [← hts] at hsn
              generalize (us[m]'hmU).lines = lines at *
              clear hucell hlat uL hoat hocell e2 e3
              have hmi : (m : Int) < (us.length : Int) := by omega
              go_wp2_with fail
              go_loopg [94] lines.length (fun g ii ws => ∃ (k : Nat) (f : Nat → Bool), k ≤ lines.length ∧ g = lines.length - k ∧ ii = .int .i64 k ∧ Hid (Below w4.heap.size w4 ws) ∧ Hid (Rw ws (w3.heap.size + 1 + 1) 3 (cnts us.length os)) ∧ Hid (Rw ws g2 4 (bls us.length f)) ∧ Hid (∀ u, u < us.length → f u = (spF us s.toList (os.take j) u || sp1 us (lines.take k) u)))
              case atStart => exact ⟨0, f, Nat.zero_le _, rfl, rfl, HB, HR, HQ, fun u hu => by rw [(unhideI HF) u hu]; simp [sp1]⟩
              case round =>
                obtain ⟨k, f, hk, hgk, rfl, HB2, HR2, HQ2, HF2⟩ := hrel
                clear HB HR HQ HF co u1 KW
                have KW2 := hideI ((unhideI K4).trans ((unhideI HB2).mono (unhideI K4).size))
                by_cases hkl : k < lines.length
                · obtain ⟨b2, off2, rfl, hbw2, hc2⟩ := (unhideI HLA) (by intro h; rw [h] at hkl; simp at hkl)
                  obtain ⟨d0, d1, d2, d3, d4, d5⟩ := hc2 k hkl
                  replace d0 := cell_keep (unhideI KW2) hbw2 d0
                  replace d1 := cell_keep (unhideI KW2) hbw2 d1
                  replace d2 := cell_keep (unhideI KW2) hbw2 d2
                  replace d3 := cell_keep (unhideI KW2) hbw2 d3
                  replace d4 := cell_keep (unhideI KW2) hbw2 d4
                  replace d5 := cell_keep (unhideI KW2) hbw2 d5
                  have ht2 : lines.take (k + 1) = lines.take k ++ [lines[k]] := by rw [List.take_add_one, List.getElem?_eq_getElem hkl]; rfl
                  have hsn2 := hideI (fun u => sp1_snoc us (lines.take k) lines[k] u)
                  rw [← ht2] at hsn2
                  generalize lines[k] = x at *
                  obtain ⟨lab, ⟨o, d, sr, mm⟩, ref⟩ := x
                  clear hc2 ht2
                  dsimp only at *
                  have KA := hideI (below_a wr (.cells #[.string lab, .int .i64 o, .int .i64 d, .int .i64 sr, .int .i64 mm, .string ref] 43))
                  have BX := hideI (Box.new wr #[.string lab, .int .i64 o, .int .i64 d, .int .i64 sr, .int .i64 mm, .string ref] 43)
                  have p2 := (unhideI BX).2.1 2 _ rfl
                  have p5 := (unhideI BX).2.1 5 _ rfl
                  have HO2 := HO ref _ ((unhideI U4).step ((unhideI HB2).trans ((unhideI KA).mono (unhideI HB2).size)))
                  have hho2 := hold_or us 0 ref.toList
                  have ssz := (unhideI HB2).size
                  go_wp2_with fail
                  refine HO2.mono ?_
                  rintro e w8 ⟨rfl, k8⟩
                  have k8' := bt (unhideI KA) k8
                  have HB8 := hideI ((unhideI HB2).trans (k8'.mono (unhideI HB2).size))
                  have HR8 := hideI ((unhideI HR2).kpt (Kpt.of (X := fun _ => False) k8') (fun h => h))
                  have HQ8 := hideI ((unhideI HQ2).kpt (Kpt.of (X := fun _ => False) k8') (fun h => h))
                  have BX8 := hideI ((unhideI BX).step k8)
                  have p8 := (unhideI BX8).2.1 5 _ rfl
                  clear k8 k8' HO2 d0 d1 d2 d3 d4 d5 p2 p5 KA BX
                  by_cases hre : ref.toList.isEmpty = true
                  · have hem : emp ref = true := hre
                    have HF8 : Hid (∀ u, u < us.length → f u = (spF us s.toList (os.take j) u || sp1 us (lines.take (k + 1)) u)) := fun u hu => by rw [(unhideI HF2) u hu, (unhideI hsn2) u, hem]; simp
                    go_wp2_with fail
                    go_roundg (lines.length - (k + 1))
                    case measure => omega
                    case rel => exact ⟨k + 1, f, by omega, rfl, by go_num, HB8, HR8, HQ8, HF8⟩
                  · replace hre : ref.toList.isEmpty = false := by simpa using hre
                    have hem : emp ref = false := hre
                    rcases hho2 with ⟨hh, -⟩ | ⟨z, hz, hh, -⟩
                    · have HF8 : Hid (∀ u, u < us.length → f u = (spF us s.toList (os.take j) u || sp1 us (lines.take (k + 1)) u)) := fun u hu => by
                        have hne : ¬ ((-1 : Int) = (u : Int)) := by omega
                        rw [(unhideI HF2) u hu, (unhideI hsn2) u, hem, hh, decide_eq_false hne]; simp
                      rw [hh]
                      go_wp2_with fail
                      go_roundg (lines.length - (k + 1))
                      case measure => omega
                      case rel => exact ⟨k + 1, f, by omega, rfl, by go_num, HB8, HR8, HQ8, HF8⟩
                    · rw [Nat.zero_add] at hh
                      have HF8 : Hid (∀ u, u < us.length → (f u || (z == u)) = (spF us s.toList (os.take j) u || sp1 us (lines.take (k + 1)) u)) := fun u hu => by
                        have hde : decide ((z : Int) = (u : Int)) = (z == u) := by
                          by_cases e : z = u
                          · subst e; simp
                          · rw [decide_eq_false (by omega), beq_eq_false_iff_ne.2 e]
                        rw [(unhideI HF2) u hu, (unhideI hsn2) u, hem, hh, hde, Bool.or_assoc]; rfl
                      have cz := (unhideI HQ8).cell (bls_at hz)
                      have fz := (unhideI HQ8).frozen z
                      have HQ9 := hideI ((unhideI HQ8).set (j := z) (x := .bool true) (by simp [bls]; exact hz))
                      rw [bls_set hz] at HQ9
                      have KS : Kpt (fun c => c = g2) w8 (w8.setCell ⟨g2, z, none⟩ (.bool true)) := Kpt.setCell _ _ rfl
                      have HR9 := hideI ((unhideI HR8).kpt KS (by omega))
                      have HB9 := hideI ((unhideI HB8).trans (KS.below (unhideI HB8).size (fun c hc => by omega)))
                      have hzi : (z : Int) < (us.length : Int) := by omega
                      rw [hh]
                      clear KS
                      go_wp2_with fail
                      go_roundg (lines.length - (k + 1))
                      case measure => omega
                      case rel => exact ⟨k + 1, _, by omega, rfl, by go_num, HB9, HR9, HQ9, HF8⟩
                · have hkl2 : k = lines.length := by omega
                  subst hkl2
                  rw [List.take_length] at HF2
                  have HF3 : Hid (∀ u, u < us.length → f u = spF us s.toList (os.take (j + 1)) u) := fun u hu => by rw [(unhideI HF2) u hu, (unhideI hsn) u]
                  go_wp2_with fail
                  go_roundg (os.length - (j + 1))
                  case measure => omega
                  case rel => exact ⟨j + 1, f, by omega, rfl, by go_num, HB2, HR2, HQ2, HF3⟩
            · have hjl : j = os.length := by omega
              subst hjl
              rw [List.take_length] at HF
              have HFF : Hid (∀ u, u < us.length → f u = decide ((u : Int) ∈ os)) := fun u hu => by rw [(unhideI HF) u hu, (unhideI HSF) u hu]
              clear HF
              go_wp2_with fail
              go_loopg [116] us.length (fun g ii wr' => ∃ (j q : Nat), j ≤ us.length ∧ g = us.length - j ∧ ii = .int .i64 j ∧ wr' = wr.drewN q)
              case atStart => exact ⟨0, 0, Nat.zero_le _, rfl, rfl, rfl⟩
              case round =>
                obtain ⟨j, q, hj, hg, rfl, rfl⟩ := hrel
                by_cases hlt : j < us.length
                · have c1 := (unhideI HR).cell (cnts_at hlt)
                  have c2 := (unhideI HQ).cell (bls_at hlt)
                  rw [(unhideI HFF) j hlt] at c2
                  have hju : (j : Int) < (us.length : Int) := by omega
                  have hle := (unhideI HN2) (j : Int)
                  by_cases hin : (j : Int) ∈ os
                  · have hc1 : os.count (j : Int) = 1 := by have := List.count_pos_iff.2 hin; omega
                    rw [hc1] at c1
                    rw [decide_eq_true hin] at c2
                    clear hle
                    go_wp2_with fail
                    go_quiet (fail)
                    go_wp2_with fail
                    go_roundg (us.length - (j + 1))
                    case measure => omega
                    case rel => exact ⟨j + 1, _, by omega, rfl, by go_num, rfl⟩
                  · have hc1 : os.count (j : Int) = 0 := List.count_eq_zero.2 hin
                    rw [hc1] at c1
                    rw [decide_eq_false hin] at c2
                    clear hle
                    go_wp2_with fail
                    go_quiet (fail)
                    go_wp2_with fail
                    go_roundg (us.length - (j + 1))
                    case measure => omega
                    case rel => exact ⟨j + 1, _, by omega, rfl, by go_num, rfl⟩
                · go_wp2_with fail
                  go_ret
                  exact ⟨rfl, bdr ((unhideI K4).trans ((unhideI HB).mono (unhideI K4).size)) _⟩
  · have he := LE her
    injection he with e1 e2 e3
    subst e1 e2 e3
    have her2 : (er != 0) = true := by simpa using her
    go_enter Try.func4, Try.ntmps4
    go_wp2_with fail
    refine (alive5 _).mono ?_
    rintro e w1 ⟨rfl, k1⟩
    go_wp2_with fail
    refine (LA _ ((unhideI HU).step k1)).mono ?_
    rintro e w3 ⟨vw, vu, vs, rfl, i1, i2, i3, k3⟩
    obtain ⟨b1, o1, rfl, m1, -⟩ := i1.at
    obtain ⟨b2, o2, rfl, m2, -⟩ := i2.at
    obtain ⟨-, sa, sc, rfl, -⟩ := i3
    have K3 := hideI (bt k1 k3)
    have s3 := (unhideI K3).size
    clear k1 k3 i1 i2 LA
    go_wp2_with fail
    go_ret
    exact ⟨rfl, (by repeat (first | exact unhideI K3 | refine Below.setCell ?_ (by first | exact Nat.le_refl _ | (simp; done) | omega | (simp; omega)) _ | refine Below.alloc ?_ (by first | (simp; done) | omega | (simp; omega)) _))⟩
end Go.Proofs.Yticbejfdldehcab
