/-
  The document's answer on lines: Read.
-/
import Derived.Test.YtoopgkbefhoeiaaGreatDoorR4T
namespace Go.Proofs.YtoopgkbefhoeiaaGreatDoor
open Go.RowKit
set_option linter.unusedSimpArgs false
set_option linter.unusedVariables false

theorem lns4_mem : ∀ (t cur x : List UInt8), x ∈ lns4 cur t → x.length ≤ cur.length + t.length
  | [], cur, x, h => by
    unfold lns4 at h
    split at h
    · cases h
    · simp at h; subst h; simp
  | c :: t, cur, x, h => by
    unfold lns4 at h
    split at h
    · rcases List.mem_cons.1 h with rfl | h
      · omega
      · have := lns4_mem t [] x h; simp at this ⊢; omega
    · have := lns4_mem t (cur ++ [c]) x h; simp at this ⊢; omega
theorem rdL_step (s : List UInt8) (ls : List (List UInt8)) (n : Nat) (acc : List Ln) : rdL (s :: ls) n acc = if (lin4 s).2.2 = 0 then (if (lin4 s).2.1 = true then rdL ls (n + 1) (acc ++ [(lin4 s).1]) else rdL ls (n + 1) acc) else ([], (lin4 s).2.2, (n : Int)) := by
  rw [lin4_eq, rdL]
  by_cases h : rmkA s = []
  · rw [if_pos h, if_pos h]; rfl
  · rw [if_neg h, if_neg h]
    unfold fin4
    by_cases h2 : (linA (rmkA s)).2 = 0
    · rw [if_pos h2, if_pos h2]; rfl
    · rw [if_neg h2, if_neg h2, if_neg h2]
set_option maxRecDepth 100000 in
set_option maxHeartbeats 4000000 in
theorem read4_any (s : List UInt8) (w : World) : Calls Tryz.prog 7 #[.string (ba s)] w fun e w' => ∃ v', e = .returned (.tuple #[v', .agg #[.int .i64 (readA s).2.1, .int .i64 (readA s).2.2]]) ∧ Lns w' v' (readA s).1 ∧ (∀ k, v'.ownBlock = some k → w.heap.size ≤ k) ∧ Below w.heap.size w w' := by
  rw [readA_lines]
  have hsz : (ba s).size = s.length := ba_size s
  by_cases h1 : 1048576 < s.length
  · rw [if_pos h1]
    have h1' : (1048576 : Int) < ((ba s).size : Int) := by omega
    clear hsz
    go_enter Tryz.func7, Tryz.ntmps7
    go_wp2_with fail
    exact bodyPost_ret (v := .tuple #[.slice none 0 0, .agg #[.int .i64 4, .int .i64 0]]) (by simp [results, Tryz.results7, go_sem]) rfl ⟨_, rfl, Lies.nil _ _, (fun _ h => by cases h), (by repeat (first | exact below_a _ _ | refine Below.setCell ?_ (by first | exact Nat.le_refl _ | (simp; done) | omega | (simp; omega)) _ | refine Below.alloc ?_ (by first | (simp; done) | omega | (simp; omega)) _))⟩
  rw [if_neg h1]
  have h1' : ¬ (1048576 : Int) < ((ba s).size : Int) := by omega
  have LI := fun w => lines4_any s w (by omega)
  have hmem : Hid (∀ x, x ∈ lns4 [] s → x.length ≤ 1048576) := fun x hx => by have := lns4_mem s [] x hx; simp at this; omega
  generalize lns4 [] s = LS at *
  obtain ⟨i0, hi, hz0, hz1, hz2⟩ := info_parts Tryz.infoLine
  have HB0 := hideI (Box.new w #[.int .i64 0, .int .i64 0] 25)
  have K0 := below_a w (.cells #[.int .i64 0, .int .i64 0] 25)
  have HK0 := hideI K0
  have s0 : (w.alloc (.cells #[.int .i64 0, .int .i64 0] 25)).heap.size = w.heap.size + 1 := by simp
  clear hsz K0
  by_cases h2 : 40000 < LS.length
  · rw [if_pos h2]
    go_enter Tryz.func7, Tryz.ntmps7
    go_wp2_with fail
    generalize w.alloc (.cells #[.int .i64 0, .int .i64 0] 25) = w0 at *
    refine (LI _).mono ?_
    rintro e w1 ⟨v, rfl, o1, k1⟩
    obtain ⟨-, ao, rc, rfl, hrc1, hrc2, -, -⟩ := Lies.owned o1
    have B1 := (unhideI HB0).step k1
    obtain ⟨y0, y1⟩ := B1.at2
    have y2 := B1.2.2
    have y4 : w.heap.size < w1.heap.size := B1.1
    have h2' : (40000 : Int) < (LS.length : Int) := by omega
    have KW := hideI (bt (unhideI HK0) k1)
    clear B1 k1 o1 LI HB0 HK0
    go_wp2_with fail
    exact bodyPost_ret (v := .tuple #[.slice none 0 0, .agg #[.int .i64 5, .int .i64 0]]) (by simp [results, Tryz.results7, go_sem, y0, y1, y2, y4]) rfl ⟨_, rfl, Lies.nil _ _, (fun _ h => by cases h), (by repeat (first | exact unhideI KW | refine Below.setCell ?_ (by first | exact Nat.le_refl _ | (simp; done) | omega | (simp; omega)) _ | refine Below.alloc ?_ (by first | (simp; done) | omega | (simp; omega)) _))⟩
  rw [if_neg h2]
  have h2' : ¬ (40000 : Int) < (LS.length : Int) := by omega
  generalize hR : rdL LS 0 [] = R
  have HR : Hid (R = rdL (LS.drop 0) 0 []) := hR.symm
  clear hR
  go_enter Tryz.func7, Tryz.ntmps7
  go_wp2_with fail
  generalize w.alloc (.cells #[.int .i64 0, .int .i64 0] 25) = w0 at *
  refine (LI _).mono ?_
  rintro e w1 ⟨v, rfl, o1, k1⟩
  obtain ⟨-, ao, rc, rfl, hrc1, hrc2, -, hrow⟩ := Lies.owned o1
  have HROW := hideI hrow
  have HB := hideI ((unhideI HB0).step k1)
  have HK := hideI (bt (unhideI HK0) k1)
  have hw1 : w.heap.size < w1.heap.size := (unhideI HB).1
  clear k1 o1 LI HB0 HK0 hrow s0
  go_wp2_with fail
  go_loopg [5, 23] LS.length (fun g vo vi ws => ∃ (k : Nat) (acc : List Ln), vi = .int .i64 k ∧ k ≤ LS.length ∧ g = LS.length - k ∧ acc.length ≤ k ∧ Hid (ws.ownsRow w1.heap.size 36 6 vo acc.length (acc.flatMap cellsL)) ∧ Hid (Below w1.heap.size w1 ws) ∧ Hid (R = rdL (LS.drop k) k acc))
  case atStart => exact ⟨0, [], rfl, Nat.zero_le _, rfl, Nat.le_refl _, World.ownsRow_nil _ _ _ _, Below.refl _ _, HR⟩
  case round =>
    obtain ⟨k, acc, rfl, hk, hg, ha, HO, HW, HE⟩ := hrel
    clear HR
    have BW := hideI ((unhideI HB).step (unhideI HW))
    have KW := hideI (bt (unhideI HK) (unhideI HW))
    have hwr := (unhideI HW).size
    by_cases hlt : k < LS.length
    · obtain ⟨pb, po, rfl, hpb, hpc⟩ := unhideI HROW (by omega)
      have pc := hpc k (by omega)
      rw [show (txs LS)[k]? = some (.string (ba LS[k])) by simp [txs, hlt]] at pc
      rw [← (unhideI HW).cell (p := ⟨pb, po + k, none⟩) hpb] at pc
      have hE := unhideI HE
      rw [List.drop_eq_getElem_cons hlt, rdL_step] at hE
      have hm := unhideI hmem _ (List.getElem_mem hlt)
      have hki : (k : Int) < (LS.length : Int) := by omega
      generalize LS[k] = x at *
      have LN := fun w => line4_any x w hm
      generalize lin4 x = q at *
      obtain ⟨y, sm, er⟩ := q
      dsimp only at *
      have HE2 := hideI hE
      clear hE HE hpc
      go_wp2_with fail
      refine (LN _).mono ?_
      rintro e w5 ⟨rfl, k5⟩
      unfold aggL
      dsimp only
      have HO5 := hideI (own_step (unhideI HO) k5)
      have HW5 := hideI ((unhideI HW).trans (k5.mono hwr))
      have hw5 := (unhideI HW5).size
      have B5 := (unhideI BW).step k5
      obtain ⟨y0, y1⟩ := B5.at2
      have y2 := B5.2.2
      have y4 : w.heap.size < w5.heap.size := B5.1
      have KW5 := hideI (bt (unhideI KW) k5)
      clear k5 LN pc B5
      have hE := unhideI HE2
      by_cases hn : er = 0
      · subst hn
        rw [if_pos rfl] at hE
        cases sm with
        | true =>
          rw [if_pos rfl] at hE
          have HE := hideI hE
          clear hE HE2 y0 y1 y2 y4
          go_wp2_with (at_builtin; refine wpList_append_own _ rfl (.tmp 40) (.tmp 42) 22 rfl w1.heap.size 36 i0 (.agg #[.string ⟨#[]⟩, .int .i64 0, .int .i64 0, .int .i64 0, .int .i64 0, .string ⟨#[]⟩]) 6 64 Tryz.underlying22 hi hz0 hz1 hz2 rfl (by decide) _ _ _ rfl (((unhideI HO5).alloc _).alloc _) ⟨_, 0, none⟩ 1 1 (cellsL y) rfl rfl (six_c1 _ y _ _ (by simp)) (six_c2 y) (by unfold maxLen; omega) (by omega) (by simp; omega) ?_; intro v3 w3 own3 grow3 _; have b3 := hideI (below_own (((unhideI HW5).alloc (by omega) _).alloc (by simp; omega) _) (by simp; omega) (((unhideI HO5).alloc _).alloc _) grow3); have O3 := hideI own3; clear own3 grow3)
          go_roundg (LS.length - (k + 1))
          case measure => omega
          case rel => exact ⟨k + 1, acc ++ [y], by go_num, by omega, rfl, by simp; omega, own_snocL (unhideI O3) (by simp) rfl, b3, HE⟩
        | false =>
          rw [if_neg (by simp)] at hE
          have HE := hideI hE
          clear hE HE2 y0 y1 y2 y4
          have HO6 := hideI ((unhideI HO5).alloc (.cells #[.string y.lab, .int .i64 y.i.o, .int .i64 y.i.d, .int .i64 y.i.s, .int .i64 y.i.m, .string y.ref] 36))
          have HW6 := hideI ((unhideI HW5).alloc (by omega) (.cells #[.string y.lab, .int .i64 y.i.o, .int .i64 y.i.d, .int .i64 y.i.s, .int .i64 y.i.m, .string y.ref] 36))
          go_wp2_with fail
          go_roundg (LS.length - (k + 1))
          case measure => omega
          case rel => exact ⟨k + 1, acc, by go_num, by omega, rfl, by omega, HO6, HW6, HE⟩
      · rw [if_neg hn] at hE
        obtain rfl : R = ([], er, (k : Int)) := hE
        have hn0 : (er == 0) = false := by simpa using hn
        clear HE2
        go_wp2_with fail
        exact bodyPost_ret (v := .tuple #[.slice none 0 0, .agg #[.int .i64 er, .int .i64 k]]) (by simp [results, Tryz.results7, go_sem, y0, y1, y2, y4]) rfl ⟨_, rfl, Lies.nil _ _, (fun _ h => by cases h), (by repeat (first | exact unhideI KW5 | refine Below.setCell ?_ (by first | exact Nat.le_refl _ | (simp; done) | omega | (simp; omega)) _ | refine Below.alloc ?_ (by first | (simp; done) | omega | (simp; omega)) _))⟩
    · have hE := unhideI HE
      have hke : k = LS.length := by omega
      rw [hke, List.drop_length] at hE
      obtain rfl : R = (acc, 0, 0) := hE
      have hki : ¬ (k : Int) < (LS.length : Int) := by omega
      obtain ⟨f0, f1⟩ := (unhideI BW).at2
      have f2 := (unhideI BW).2.2
      clear HE hke
      go_wp2_with fail
      refine bodyPost_ret (v := .tuple #[u5, .agg #[.int .i64 0, .int .i64 0]]) (by simp [results, Tryz.results7, go_sem, f0, f1, f2]) rfl ⟨_, rfl, ?_, (fun c h => by have := ((unhideI HO).lt c h).1; omega), (by repeat (first | exact unhideI KW | refine Below.setCell ?_ (by first | exact Nat.le_refl _ | (simp; done) | omega | (simp; omega)) _ | refine Below.alloc ?_ (by first | (simp; done) | omega | (simp; omega)) _))⟩
      exact Lies.owned (ownsRow_setCell_below (ownsRow_setCell_below (unhideI HO) (by simp; omega) _) (by simp; omega) _)
end Go.Proofs.YtoopgkbefhoeiaaGreatDoor
