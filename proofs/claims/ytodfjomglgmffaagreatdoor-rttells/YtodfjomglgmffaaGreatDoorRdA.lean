/-
  asm.Read.
-/
import Derived.Test.YtodfjomglgmffaaGreatDoorRdL
namespace Go.Proofs.YtodfjomglgmffaaGreatDoor
open Go.RowKit Go.Maps
set_option linter.unusedSimpArgs false
set_option linter.unusedVariables false

/-- A text, line by line. -/
def rdT : Nat → List UInt8 → Nat → List Ln → List Ln × Int × Int
  | 0, _, _, acc => (acc, 0, 0)
  | g + 1, t, n, acc =>
    if t = [] then (acc, 0, 0)
    else if rmkA (Lib.cut t [10]).1 = [] then rdT g (Lib.cut t [10]).2.1 (n + 1) acc
    else if (linA (rmkA (Lib.cut t [10]).1)).2 = 0 then rdT g (Lib.cut t [10]).2.1 (n + 1) (acc ++ [(linA (rmkA (Lib.cut t [10]).1)).1])
    else ([], (linA (rmkA (Lib.cut t [10]).1)).2, (n : Int))
def readA (t : List UInt8) : List Ln × Int × Int :=
  if 1048576 < t.length then ([], 4, 0) else if 40000 < lcA t then ([], 5, 0) else rdT t.length t 0 []
theorem rdT_nil (g n : Nat) (acc : List Ln) : rdT g [] n acc = (acc, 0, 0) := by cases g <;> simp [rdT]
theorem rdT_skip {g n : Nat} {t : List UInt8} {acc : List Ln} (h : t ≠ []) (h1 : rmkA (Lib.cut t [10]).1 = []) : rdT (g + 1) t n acc = rdT g (Lib.cut t [10]).2.1 (n + 1) acc := by rw [rdT, if_neg h, if_pos h1]
theorem rdT_line {g n : Nat} {t : List UInt8} {acc : List Ln} (h : t ≠ []) (h1 : rmkA (Lib.cut t [10]).1 ≠ []) (h2 : (linA (rmkA (Lib.cut t [10]).1)).2 = 0) : rdT (g + 1) t n acc = rdT g (Lib.cut t [10]).2.1 (n + 1) (acc ++ [(linA (rmkA (Lib.cut t [10]).1)).1]) := by rw [rdT, if_neg h, if_neg h1, if_pos h2]
theorem rdT_bad {g n : Nat} {t : List UInt8} {acc : List Ln} (h : t ≠ []) (h1 : rmkA (Lib.cut t [10]).1 ≠ []) (h2 : (linA (rmkA (Lib.cut t [10]).1)).2 ≠ 0) : rdT (g + 1) t n acc = ([], (linA (rmkA (Lib.cut t [10]).1)).2, (n : Int)) := by rw [rdT, if_neg h, if_neg h1, if_neg h2]
theorem cut_less {t : List UInt8} {c : UInt8} (h : t ≠ []) : (Lib.cut t [c]).2.1.length < t.length := by
  have := List.length_pos_iff.2 h
  unfold Lib.cut; split
  · simp; omega
  · simpa using this
theorem rmkA_len (s : List UInt8) : (rmkA s).length ≤ s.length := Nat.le_trans (trimA_len _) (cut_len s [59]).1
theorem Tryz.infoLine : (Tryz.prog.info? 40).map (fun i => (i.zero, i.size, i.bytes)) = some (some (.agg #[.string ⟨#[]⟩, .int .i64 0, .int .i64 0, .int .i64 0, .int .i64 0, .string ⟨#[]⟩]), 6, 64) := by kernel_rfl
theorem six_c1 (u : World) (x : Ln) (T : TypeId) (B : Nat) (hB : B = u.heap.size) : ∀ j y, (cellsL x)[j]? = some y → (u.alloc (.cells #[.string x.lab, .int .i64 x.i.o, .int .i64 x.i.d, .int .i64 x.i.s, .int .i64 x.i.m, .string x.ref] T)).cell? ((⟨B, 0, none⟩ : Addr).add j) = some y := by
  subst hB
  unfold cellsL
  intro j x hj
  match j, hj with
  | 0, hj => simp at hj; subst hj; simp [Addr.add]
  | 1, hj => simp at hj; subst hj; simp [Addr.add]
  | 2, hj => simp at hj; subst hj; simp [Addr.add]
  | 3, hj => simp at hj; subst hj; simp [Addr.add]
  | 4, hj => simp at hj; subst hj; simp [Addr.add]
  | 5, hj => simp at hj; subst hj; simp [Addr.add]
theorem six_c2 (x : Ln) : ∀ u ∈ cellsL x, u.oneCell' = true := by intro u hu; simp [cellsL] at hu; rcases hu with rfl | rfl | rfl | rfl | rfl | rfl <;> rfl
theorem own_snocL {w : World} {B : Nat} {v : Value} {l : List Ln} {i : Ln} {n : Nat} {cs : List Value} (h : w.ownsRow B 40 6 v n cs) (e : cs = (l ++ [i]).flatMap cellsL) (hn : n = l.length + 1) : w.ownsRow B 40 6 v (l ++ [i]).length ((l ++ [i]).flatMap cellsL) := by
  have : (l ++ [i]).length = n := by rw [hn]; simp
  rw [← e, this]; exact h
set_option maxRecDepth 100000 in
set_option maxHeartbeats 4000000 in
theorem read_any (s : ByteArray) (w : World) (G : Gl w) : Calls Tryz.prog 9 #[.string s] w fun e w' => ∃ v', e = .returned (.tuple #[v', .agg #[.int .i64 (readA s.data.toList).2.1, .int .i64 (readA s.data.toList).2.2]]) ∧ Lns w' v' (readA s.data.toList).1 ∧ (∀ k, v'.ownBlock = some k → w.heap.size ≤ k) ∧ Below w.heap.size w w' := by
  have hl : s.data.toList.length = s.size := by simp
  by_cases h1 : 1048576 < s.size
  · have hR : readA s.data.toList = ([], 4, 0) := by unfold readA; rw [if_pos (by omega)]
    rw [hR]
    have h1' : (1048576 : Int) < (s.size : Int) := by omega
    go_enter Tryz.func9, Tryz.ntmps9
    go_wp2_with fail
    exact bodyPost_ret (v := .tuple #[.slice none 0 0, .agg #[.int .i64 4, .int .i64 0]]) (by simp [results, Tryz.results9, go_sem]) rfl ⟨_, rfl, Lies.nil _ _, (fun _ h => by cases h), (by repeat (first | exact below_a _ _ | refine Below.setCell ?_ (by first | exact Nat.le_refl _ | (simp; done) | omega | (simp; omega)) _ | refine Below.alloc ?_ (by first | (simp; done) | omega | (simp; omega)) _))⟩
  have h1' : ¬ (1048576 : Int) < (s.size : Int) := by omega
  have LC := fun w => lineCount_any s w (by omega)
  by_cases h2 : 40000 < lcA s.data.toList
  · have hR : readA s.data.toList = ([], 5, 0) := by unfold readA; rw [if_neg (by omega), if_pos h2]
    rw [hR]
    generalize lcA s.data.toList = n at *
    go_enter Tryz.func9, Tryz.ntmps9
    go_wp2_with fail
    refine (LC _).mono ?_
    rintro e w1 ⟨rfl, rfl⟩
    clear LC
    go_wp2_with fail
    exact bodyPost_ret (v := .tuple #[.slice none 0 0, .agg #[.int .i64 5, .int .i64 0]]) (by simp [results, Tryz.results9, go_sem]) rfl ⟨_, rfl, Lies.nil _ _, (fun _ h => by cases h), (by repeat (first | exact below_a _ _ | refine Below.setCell ?_ (by first | exact Nat.le_refl _ | (simp; done) | omega | (simp; omega)) _ | refine Below.alloc ?_ (by first | (simp; done) | omega | (simp; omega)) _))⟩
  have hR : readA s.data.toList = rdT s.data.toList.length s.data.toList 0 [] := by unfold readA; rw [if_neg (by omega), if_neg h2]
  rw [hR]
  clear hR
  generalize hR2 : rdT s.data.toList.length s.data.toList 0 [] = R
  have HR := hideI hR2.symm
  clear hR2
  generalize lcA s.data.toList = n at *
  have G1 := G.step (below_a w (.cells #[.int .i64 0, .int .i64 0] 32))
  have KI := kinds_any _ G1
  obtain ⟨i0, hi, hz0, hz1, hz2⟩ := info_parts Tryz.infoLine
  go_enter Tryz.func9, Tryz.ntmps9
  go_wp2_with fail
  refine (LC _).mono ?_
  rintro e w1 ⟨rfl, rfl⟩
  clear LC
  go_wp2_with fail
  refine KI.mono ?_
  rintro e w2 ⟨mb, rfl, hmb, hM, k2⟩
  simp only [World.size_alloc] at hmb k2
  have HK := hideI (seen k2)
  have HB := hideI ((Box.new w #[.int .i64 0, .int .i64 0] 32).step (by rw [World.size_alloc]; exact k2))
  have hw2 : w.heap.size < w2.heap.size := by have := k2.size; rw [World.size_alloc] at this; omega
  have HG := hideI (G.step (unhideI HK))
  have HM := hideI hM
  clear hM k2 G G1 KI
  go_wp2_with fail
  go_loopg [0, 5, 6] s.size (fun g vt vo vi wr => ∃ (t : ByteArray) (k : Nat) (acc : List Ln), vt = .string t ∧ vi = .int .i64 k ∧ t.size ≤ g ∧ k + t.size ≤ 1048576 ∧ acc.length ≤ k ∧ Hid (wr.ownsRow w2.heap.size 40 6 vo acc.length (acc.flatMap cellsL)) ∧ Hid (Below w2.heap.size w2 wr) ∧ Hid (R = rdT g t.data.toList k acc))
  case atStart => exact ⟨s, 0, [], rfl, rfl, Nat.le_refl _, by omega, Nat.le_refl _, World.ownsRow_nil _ _ _ _, Below.refl _ _, by rw [← hl]; exact HR⟩
  case round =>
    obtain ⟨t, k, acc, rfl, rfl, hg, hk, ha, HO, HW, HE⟩ := hrel
    clear HR
    have hlt : t.data.toList.length = t.size := by simp
    have BW := hideI ((unhideI HB).step (unhideI HW))
    have KW := hideI (bt (unhideI HK) (unhideI HW))
    obtain ⟨f0, f1⟩ := (unhideI BW).at2
    have f2 := (unhideI BW).2.2
    by_cases hne : t.data.toList = []
    · have hem : t.toList.isEmpty = true := by rw [ByteArray.toList_eq, hne]; rfl
      obtain rfl : R = (acc, 0, 0) := by rw [unhideI HE, hne, rdT_nil]
      clear HE
      go_wp2_with fail
      refine bodyPost_ret (v := .tuple #[u5, .agg #[.int .i64 0, .int .i64 0]]) (by simp [results, Tryz.results9, go_sem, f0, f1, f2]) rfl ⟨_, rfl, ?_, (fun c h => by have := ((unhideI HO).lt c h).1; omega), (by repeat (first | exact unhideI KW | refine Below.setCell ?_ (by first | exact Nat.le_refl _ | (simp; done) | omega | (simp; omega)) _ | refine Below.alloc ?_ (by first | (simp; done) | omega | (simp; omega)) _))⟩
      exact Lies.owned (ownsRow_setCell_below (ownsRow_setCell_below (unhideI HO) (by simp; omega) _) (by simp; omega) _)
    · have hem : t.toList.isEmpty = false := by rw [ByteArray.toList_eq]; simpa using hne
      have hpos : 0 < t.size := by rw [← hlt]; exact List.length_pos_iff.2 hne
      obtain ⟨g', rfl⟩ : ∃ g', gk = g' + 1 := ⟨gk - 1, by omega⟩
      have Gr := (unhideI HG).step (unhideI HW)
      obtain ⟨m, hmx⟩ := Gr.mx
      have C := Tryz.strings_Cut t ⟨#[10]⟩ m wr (by omega) hmx
      have hc1 := cut_len t.data.toList [10]
      have hc2 := cut_less (c := 10) hne
      have hc3 := rmkA_len (Lib.cut t.data.toList [10]).1
      have RM := fun w G => remark_any ⟨(Lib.cut t.data.toList [10]).1.toArray⟩ w G (by show (Lib.cut t.data.toList [10]).1.length < _; omega)
      have hda : (⟨(Lib.cut t.data.toList [10]).1.toArray⟩ : ByteArray).data.toList = (Lib.cut t.data.toList [10]).1 := ba_data _
      rw [hda] at RM
      clear hda
      have E1 := hideI (fun h => rdT_skip (g := g') (n := k) (acc := acc) hne h)
      have E2 := hideI (fun h h2 => rdT_line (g := g') (n := k) (acc := acc) hne h h2)
      have E3 := hideI (fun h h2 => rdT_bad (g := g') (n := k) (acc := acc) hne h h2)
      generalize (Lib.cut t.data.toList [10]) = c at *
      generalize rmkA c.1 = rl at *
      go_wp2_with fail
      refine C.mono ?_
      rintro e w3 ⟨rfl, dn, rfl⟩
      clear C
      have K3 : Below wr.heap.size wr (wr.drewN dn) := ⟨rfl, rfl, rfl, Nat.le_refl _, fun _ _ => rfl⟩
      have G3 := Gr.step K3
      go_wp2_with fail
      refine (RM _ G3).mono ?_
      rintro e w4 ⟨rfl, k4⟩
      have K4 := bt K3 k4
      have HK4 := hideI K4
      have G4 := hideI (Gr.step K4)
      clear RM k4 K3 G3 Gr hmx K4
      by_cases hr : rl = []
      · have hE := unhideI E1 hr
        subst hr
        have hbn : ba [] = ⟨#[]⟩ := rfl
        rw [hbn]
        have HW2 := hideI ((unhideI HW).trans ((unhideI HK4).mono (unhideI HW).size))
        have HO2 := hideI (own_step (unhideI HO) (unhideI HK4))
        go_wp2_with fail
        go_roundg g'
        case measure => omega
        case rel => exact ⟨⟨c.2.1.toArray⟩, k + 1, acc, rfl, by go_num, by show c.2.1.length ≤ _; omega, by show k + 1 + c.2.1.length ≤ _; omega, by omega, HO2, HW2, by rw [unhideI HE]; exact hE⟩
      · have hbe : (ba rl).toList.isEmpty = false := by rw [ba_list]; simpa using hr
        have HL := hideI (fun w5 (kk : Below wr.heap.size wr w5) => readLine_any (ba rl) mb w5 ((unhideI HG).step ((unhideI HW).trans (kk.mono (unhideI HW).size))) ((unhideI HM).step ((unhideI HW).trans (kk.mono (unhideI HW).size))) (by rw [ba_size]; omega))
        rw [ba_data] at HL
        generalize linA rl = q at *
        obtain ⟨x, n2⟩ := q
        generalize ba rl = line at *
        go_wp2_with fail
        refine (unhideI HL w4 (unhideI HK4)).mono ?_
        rintro e w5 ⟨rfl, k5⟩
        unfold aggL
        dsimp only
        have K5 := hideI (bt (unhideI HK4) k5)
        have HW5 := hideI ((unhideI HW).trans ((unhideI K5).mono (unhideI HW).size))
        have hw5 : w2.heap.size ≤ w5.heap.size := (unhideI HW5).size
        clear k5 HL f0 f1 f2
        by_cases hn : n2 = 0
        · subst hn
          have hE := unhideI E2 hr rfl
          have HO5 := hideI (own_step (unhideI HO) (unhideI K5))
          go_wp2_with (at_builtin; refine wpList_append_own _ rfl (.tmp 44) (.tmp 46) 30 rfl w2.heap.size 40 i0 (.agg #[.string ⟨#[]⟩, .int .i64 0, .int .i64 0, .int .i64 0, .int .i64 0, .string ⟨#[]⟩]) 6 64 Tryz.underlying30 hi hz0 hz1 hz2 rfl (by decide) _ _ _ rfl (((unhideI HO5).alloc _).alloc _) ⟨_, 0, none⟩ 1 1 (cellsL x) rfl rfl (six_c1 _ x _ _ (by simp)) (six_c2 x) (by unfold maxLen; omega) (by omega) (by simp; omega) ?_; intro v3 w3 own3 grow3 _; have b3 := hideI (below_own (((unhideI HW5).alloc (by omega) _).alloc (by simp; omega) _) (by simp; omega) (((unhideI HO5).alloc _).alloc _) grow3); have O3 := hideI own3; clear own3 grow3)
          go_roundg g'
          case measure => omega
          case rel => exact ⟨⟨c.2.1.toArray⟩, k + 1, acc ++ [x], rfl, by go_num, by show c.2.1.length ≤ _; omega, by show k + 1 + c.2.1.length ≤ _; omega, by simp; omega, own_snocL (unhideI O3) (by simp) rfl, b3, by rw [unhideI HE]; exact hE⟩
        · have hE := unhideI E3 hr hn
          have B5 := (unhideI BW).step (unhideI K5)
          obtain ⟨y0, y1⟩ := B5.at2
          have y2 := B5.2.2
          have y4 : w.heap.size < w5.heap.size := by omega
          have KW5 := hideI (bt (unhideI KW) (unhideI K5))
          obtain rfl : R = ([], n2, (k : Int)) := by rw [unhideI HE]; exact hE
          have hn0 : (n2 == 0) = false := by simpa using hn
          clear HE hE B5
          go_wp2_with fail
          exact bodyPost_ret (v := .tuple #[.slice none 0 0, .agg #[.int .i64 n2, .int .i64 k]]) (by simp [results, Tryz.results9, go_sem, y0, y1, y2, y4]) rfl ⟨_, rfl, Lies.nil _ _, (fun _ h => by cases h), (by repeat (first | exact unhideI KW5 | refine Below.setCell ?_ (by first | exact Nat.le_refl _ | (simp; done) | omega | (simp; omega)) _ | refine Below.alloc ?_ (by first | (simp; done) | omega | (simp; omega)) _))⟩
end Go.Proofs.YtodfjomglgmffaaGreatDoor
