/-
  Programs as a whole: the type of a call.
-/
import Derived.Test.YtaidefdbjcgcbaaGreatCcPz
import Derived.Test.YtaidefdbjcgcbaaGreatRegz
namespace Go.Proofs.YtaidefdbjcgcbaaGreat
open Go.RowKit Go.Maps
set_option linter.unusedSimpArgs false
set_option linter.unusedVariables false

theorem zFunc (w : World) : (zeroValue 41).run Tryz.prog w = .ok (.agg #[.string ⟨#[]⟩, .int .i64 0, .bool false, .slice none 0 0, .slice none 0 0]) w := by kernel_rfl
theorem tyEs_len (E : Nev) (L : Loc) : ∀ xs : List Ex, (tyEs E L xs).2 = 0 → (tyEs E L xs).1.length = xs.length := by
  intro xs
  induction xs with
  | nil => intro _; rw [tyEs]; rfl
  | cons x xs ih =>
    intro h
    rw [tyEs] at h ⊢
    split at h
    · rename_i h1; exact absurd h h1
    · rename_i h1
      rw [if_neg h1]
      split at h
      · rename_i h2; exact absurd h h2
      · rename_i h2
        rw [if_neg h2, List.length_cons, List.length_cons, ih (by simpa using h2)]
set_option maxRecDepth 100000 in
set_option maxHeartbeats 2000000 in
theorem called_any (x : Ex) (IH : ∀ y ∈ x.kids, TyC y) (hk4 : x.k = 4) (hlen : x.kids.length ≤ 100) (B : Nat) (w : World) (sb vb fb lb : Nat) (wd : Int) (E : Nev) (L : Loc) (res : Int × Bool) (lp : Nat) (kv : Value) (h : Sc B w sb vb fb lb wd E L res lp) (hx : ExL B w kv x.kids) (hf : ExF x) :
    Calls Tryz.prog 135 #[.pointer (some ⟨sb, 0, none⟩), .agg #[.int .i64 x.k, .int .u64 x.n, .int .i64 x.b, .bool x.s, .string x.nm, kv]] w fun e w' => e = .returned (.tuple #[.agg #[.int .i64 (tyE E L x).1.1, .bool (tyE E L x).1.2], .int .i64 (tyE E L x).2]) ∧ Below w.heap.size w w' := by
  obtain ⟨ka, kc, rfl⟩ : ∃ ao cap, kv = .slice ao x.kids.length cap := by obtain ⟨ao, cap, e, -⟩ := hx.at; exact ⟨ao, cap, e⟩
  obtain ⟨R, hR⟩ : ∃ R, R = tyE E L x := ⟨_, rfl⟩
  rw [← hR]
  have hR : R = match E.f x.nm with
      | none => ((0, false), 7)
      | some (fb, fs, m) => if x.kids.length = m then (if (tyEs E L x.kids).2 = 0 then ((fb, fs), 0) else ((0, false), (tyEs E L x.kids).2)) else ((0, false), 5) := by
    rw [hR]
    obtain ⟨k, n, b, s, nm, kids⟩ := x
    have hk4 : k = 4 := hk4
    rw [tyE, if_pos hk4]
    rfl
  have S0 := hideI (Tv.begin #[.int .i64 0, .bool false] 57 34 hx h.hB)
  have SC0 := hideI (h.step (unhideI S0).d)
  have HI := hideI IH
  have hnm := hf.2
  obtain ⟨a0, a1, a2, a3, a4, a5⟩ := (unhideI S0).A.six8
  have hsA := (unhideI S0).A.1
  clear h hx IH hf hk4
  generalize hW0 : (w.alloc (.cells #[.int .i64 x.k, .int .u64 x.n, .int .i64 x.b, .bool x.s, .string x.nm, .slice ka x.kids.length kc] 57)).alloc (.cells #[.int .i64 0, .bool false] 34) = W0 at *
  have S1 := hideI ((unhideI S0).next (Below.refl _ _).drew)
  have SC1 := hideI ((unhideI SC0).step (Below.refl _ _).drew)
  obtain ⟨⟨v, n, h1, -, -, -⟩, ⟨-, m, g, h5, h6⟩, -⟩ := unhideI SC1
  have c1 := box_cells h1 1 _ rfl
  have hsb := h1.lt
  have R1 := h5.run_ok Tryz.underlying45 (zFunc _) x.nm hnm
  have F1 := h6 x.nm
  have M1 := hideI h5
  clear h1 h5 h6 SC0 S0
  unfold FnV at F1
  cases he : E.f x.nm with
  | none =>
    rw [he] at hR F1
    dsimp only at hR F1
    subst hR
    rw [F1] at R1
    simp only [Option.getD_none, Option.isSome_none] at R1
    have HE := hideI he
    have CL := hideI (fun (W : World) (r : List Value) (s : Tv w W B x ka kc r) (q : Mv W fb m g) (c : W.cell? ⟨sb, 1, none⟩ = some (.map (some fb))) => (⟨c, s.A.2.1 4 _ rfl, by have := q.run_ok Tryz.underlying45 (zFunc _) x.nm hnm; rw [F1] at this; exact this⟩ : W.cell? ⟨sb, 1, none⟩ = some (.map (some fb)) ∧ W.cell? ⟨w.heap.size, 4, none⟩ = some (.string x.nm) ∧ (Instr.lookup 45 (.map (some fb)) (.string x.nm) true).run Tryz.prog W = .ok (.tuple #[.agg #[.string ⟨#[]⟩, .int .i64 0, .bool false, .slice none 0 0, .slice none 0 0], .bool false]) W))
    clear he F1 R1
    go_enter Tryz.func135, Tryz.ntmps135
    go_wp2_with fail
    refine reg_start (fun W => W.cell? ⟨sb, 1, none⟩ = some (.map (some fb)) ∧ W.cell? ⟨w.heap.size, 4, none⟩ = some (.string x.nm) ∧ (Instr.lookup 45 (.map (some fb)) (.string x.nm) true).run Tryz.prog W = .ok (.tuple #[.agg #[.string ⟨#[]⟩, .int .i64 0, .bool false, .slice none 0 0, .slice none 0 0], .bool false]) W) (by kernel_rfl) ?_
    generalize W0.drew = W8 at *
    refine reg_seg 0 11 3 (by kernel_rfl) (by decide) (by kernel_rfl) (by kernel_rfl) (fun _ _ _ _ _ h => h) ?_
    simp only [List.take_succ_cons, List.take_zero, List.drop_succ_cons, List.drop_zero]
    repeat (refine wpSteady_step (fun K hK => ?_); go_simp; first | (refine steady_of ?_ (fun W hW => ?_) (hK _ ?_); rotate_left; (obtain ⟨d0, d1, d2⟩ := hW; go_simp; first | done | rfl); clear hK K) | (refine hK _ ?_; clear hK K))
    refine wpSteady_nil ?_
    refine reg_one 11 2 (by kernel_rfl) (by kernel_rfl) (unhideI CL _ _ (unhideI S1) (unhideI M1) c1) ?_
    simp only [List.take_succ_cons, List.take_zero, List.drop_succ_cons, List.drop_zero]
    go_wp2_with fail
    first | refine next_nil ?_ | refine next_go ?_
    have kz := below_a W8 (.cells #[.string ⟨#[]⟩, .int .i64 0, .bool false, .slice none 0 0, .slice none 0 0] 41)
    refine reg_one 12 1 (by kernel_rfl) (by kernel_rfl) (unhideI CL _ _ ((unhideI S1).next kz) ((unhideI M1).step kz) (cell_keep kz hsb c1)) ?_
    simp only [List.take_succ_cons, List.take_zero, List.drop_succ_cons, List.drop_zero]
    clear kz
    go_wp2_with fail
    first | refine next_nil ?_ | refine next_go ?_
    have kF := below_a W8 (.cells #[.string ⟨#[]⟩, .int .i64 0, .bool false, .slice none 0 0, .slice none 0 0] 41)
    have BF := hideI (Box.new W8 #[.string ⟨#[]⟩, .int .i64 0, .bool false, .slice none 0 0, .slice none 0 0] 41)
    have S2 := hideI ((unhideI S1).next kF)
    have M2 := hideI ((unhideI M1).step kF)
    have SC2 := hideI ((unhideI SC1).step kF)
    have c2 := cell_keep kF hsb c1
    refine reg_one 13 0 (by kernel_rfl) (by kernel_rfl) (unhideI CL _ _ (unhideI S2) (unhideI M2) c2) ?_
    simp only [List.take_succ_cons, List.take_zero, List.drop_succ_cons, List.drop_zero]
    go_wp2_with fail
    first | refine next_nil ?_ | refine next_go ?_
    refine reg_end (by kernel_rfl) (unhideI CL _ _ (unhideI S2) (unhideI M2) c2) ?_
    have HZ := hideI (show w.heap.size + 1 < W8.heap.size from (unhideI S1).R.1)
    have S8 := S1
    clear S1 SC1 M1 kF CL c1 c2 hsb
    have S1 := S2
    clear S2 a0 a1 a2 a3 a4 a5 hsA
    obtain ⟨a0, a1, a2, a3, a4, a5⟩ := (unhideI S1).A.six8
    have hsA := (unhideI S1).A.1
    obtain ⟨z0, z1⟩ := (unhideI S1).R.at2
    have zf := (unhideI S1).R.2.2
    have zl := (unhideI S1).R.1
    go_wp2_with fail
    obtain ⟨p0, p1⟩ := ((unhideI S1).R.two9 (.int .i64 0) (.bool false)).at2
    exact bodyPost_ret (v := .tuple #[.agg #[.int .i64 0, .bool false], .int .i64 7]) (by simp [results, Tryz.results135, go_sem, p0, p1]) rfl ⟨rfl, below_2 (unhideI S1).d (by omega) _ _⟩
  | some q =>
    obtain ⟨qb, qs, qm⟩ := q
    rw [he] at hR F1
    dsimp only at hR F1
    obtain ⟨fn, fa, fc, fba, fbn, fbc, F1⟩ := F1
    rw [F1] at R1
    simp only [Option.getD_some, Option.isSome_some] at R1
    have HE := hideI he
    have CL := hideI (fun (W : World) (r : List Value) (s : Tv w W B x ka kc r) (q : Mv W fb m g) (c : W.cell? ⟨sb, 1, none⟩ = some (.map (some fb))) => (⟨c, s.A.2.1 4 _ rfl, by have := q.run_ok Tryz.underlying45 (zFunc _) x.nm hnm; rw [F1] at this; exact this⟩ : W.cell? ⟨sb, 1, none⟩ = some (.map (some fb)) ∧ W.cell? ⟨w.heap.size, 4, none⟩ = some (.string x.nm) ∧ (Instr.lookup 45 (.map (some fb)) (.string x.nm) true).run Tryz.prog W = .ok (.tuple #[.agg #[.string fn, .int .i64 qb, .bool qs, .slice fa qm fc, .slice fba fbn fbc], .bool true]) W))
    clear he F1 R1
    go_enter Tryz.func135, Tryz.ntmps135
    go_wp2_with fail
    refine reg_start (fun W => W.cell? ⟨sb, 1, none⟩ = some (.map (some fb)) ∧ W.cell? ⟨w.heap.size, 4, none⟩ = some (.string x.nm) ∧ (Instr.lookup 45 (.map (some fb)) (.string x.nm) true).run Tryz.prog W = .ok (.tuple #[.agg #[.string fn, .int .i64 qb, .bool qs, .slice fa qm fc, .slice fba fbn fbc], .bool true]) W) (by kernel_rfl) ?_
    generalize W0.drew = W8 at *
    refine reg_seg 0 11 3 (by kernel_rfl) (by decide) (by kernel_rfl) (by kernel_rfl) (fun _ _ _ _ _ h => h) ?_
    simp only [List.take_succ_cons, List.take_zero, List.drop_succ_cons, List.drop_zero]
    repeat (refine wpSteady_step (fun K hK => ?_); go_simp; first | (refine steady_of ?_ (fun W hW => ?_) (hK _ ?_); rotate_left; (obtain ⟨d0, d1, d2⟩ := hW; go_simp; first | done | rfl); clear hK K) | (refine hK _ ?_; clear hK K))
    refine wpSteady_nil ?_
    refine reg_one 11 2 (by kernel_rfl) (by kernel_rfl) (unhideI CL _ _ (unhideI S1) (unhideI M1) c1) ?_
    simp only [List.take_succ_cons, List.take_zero, List.drop_succ_cons, List.drop_zero]
    go_wp2_with fail
    first | refine next_nil ?_ | refine next_go ?_
    have kz := below_a W8 (.cells #[.string ⟨#[]⟩, .int .i64 0, .bool false, .slice none 0 0, .slice none 0 0] 41)
    refine reg_one 12 1 (by kernel_rfl) (by kernel_rfl) (unhideI CL _ _ ((unhideI S1).next kz) ((unhideI M1).step kz) (cell_keep kz hsb c1)) ?_
    simp only [List.take_succ_cons, List.take_zero, List.drop_succ_cons, List.drop_zero]
    clear kz
    go_wp2_with fail
    first | refine next_nil ?_ | refine next_go ?_
    have kF := below_a W8 (.cells #[.string fn, .int .i64 qb, .bool qs, .slice fa qm fc, .slice fba fbn fbc] 41)
    have BF := hideI (Box.new W8 #[.string fn, .int .i64 qb, .bool qs, .slice fa qm fc, .slice fba fbn fbc] 41)
    have S2 := hideI ((unhideI S1).next kF)
    have M2 := hideI ((unhideI M1).step kF)
    have SC2 := hideI ((unhideI SC1).step kF)
    have c2 := cell_keep kF hsb c1
    refine reg_one 13 0 (by kernel_rfl) (by kernel_rfl) (unhideI CL _ _ (unhideI S2) (unhideI M2) c2) ?_
    simp only [List.take_succ_cons, List.take_zero, List.drop_succ_cons, List.drop_zero]
    go_wp2_with fail
    first | refine next_nil ?_ | refine next_go ?_
    refine reg_end (by kernel_rfl) (unhideI CL _ _ (unhideI S2) (unhideI M2) c2) ?_
    have HZ := hideI (show w.heap.size + 1 < W8.heap.size from (unhideI S1).R.1)
    have S8 := S1
    clear S1 SC1 M1 kF CL c1 c2 hsb
    have S1 := S2
    clear S2 a0 a1 a2 a3 a4 a5 hsA
    obtain ⟨a0, a1, a2, a3, a4, a5⟩ := (unhideI S1).A.six8
    have hsA := (unhideI S1).A.1
    obtain ⟨z0, z1⟩ := (unhideI S1).R.at2
    have zf := (unhideI S1).R.2.2
    have zl := (unhideI S1).R.1
    obtain ⟨u0, u1, u2, u3⟩ : _ ∧ _ ∧ _ ∧ _ := ⟨(unhideI BF).2.1 0 _ rfl, (unhideI BF).2.1 1 _ rfl, (unhideI BF).2.1 2 _ rfl, (unhideI BF).2.1 3 _ rfl⟩
    have hsF := (unhideI BF).1
    clear S8 M2
    generalize hW9 : W8.alloc (.cells #[.string fn, .int .i64 qb, .bool qs, .slice fa qm fc, .slice fba fbn fbc] 41) = W9 at *
    by_cases hl : x.kids.length = qm
    · rw [if_pos hl] at hR
      have hl1 : ((x.kids.length : Int) != (qm : Int)) = false := by rw [hl]; simp
      have hl2 : ((x.kids.length : Int) == (qm : Int)) = true := by rw [hl]; simp
      have CT := hideI (toldTypes_any x.kids (unhideI HI) hlen B _ sb vb fb lb wd E L res lp _ (unhideI SC2) (unhideI S1).hk)
      generalize tyEs E L x.kids = T at *
      obtain ⟨ts, er⟩ := T
      have HRR := hideI hR
      clear hR hl
      go_wp2_with fail
      refine (unhideI CT).mono ?_
      rintro e w3 ⟨v', rfl, hlv, k3, -⟩
      obtain ⟨-, va, vc, rfl, -⟩ := hlv
      have S3 := hideI ((unhideI S1).next k3)
      have BF3 := hideI ((unhideI BF).step k3)
      have HZ3 := hideI (show w.heap.size + 1 ≠ W8.heap.size from by have := unhideI HZ; omega)
      clear k3 S1 BF CT a0 a1 a2 a3 a4 a5 hsA z0 z1 zf zl u0 u1 u2 u3 hsF SC2
      have S1 := S3
      obtain ⟨a0, a1, a2, a3, a4, a5⟩ := (unhideI S1).A.six8
      have hsA := (unhideI S1).A.1
      obtain ⟨z0, z1⟩ := (unhideI S1).R.at2
      have zf := (unhideI S1).R.2.2
      have zl := (unhideI S1).R.1
      obtain ⟨u0, u1, u2, u3⟩ : _ ∧ _ ∧ _ ∧ _ := ⟨(unhideI BF3).2.1 0 _ rfl, (unhideI BF3).2.1 1 _ rfl, (unhideI BF3).2.1 2 _ rfl, (unhideI BF3).2.1 3 _ rfl⟩
      have hsF := (unhideI BF3).1
      by_cases he : er = 0
      · subst he
        obtain rfl : R = ((qb, qs), 0) := by rw [unhideI HRR, if_pos rfl]
        go_wp2_with fail
        obtain ⟨p0, p1⟩ := ((unhideI S3).R.two9 (.int .i64 qb) (.bool qs)).at2
        exact bodyPost_ret (v := .tuple #[.agg #[.int .i64 qb, .bool qs], .int .i64 0]) (by simp [results, Tryz.results135, go_sem, p0, p1]) rfl ⟨rfl, (by repeat (first | exact (unhideI S3).d | refine Below.setCell ?_ (by first | exact Nat.le_refl _ | (simp; done) | omega | (simp; omega)) _ | refine Below.alloc ?_ (by first | (simp; done) | omega | (simp; omega)) _))⟩
      · obtain rfl : R = ((0, false), er) := by rw [unhideI HRR, if_neg he]
        have he1 : (er != 0) = true := bne_iff_ne.2 he
        clear he
        go_wp2_with fail
        obtain ⟨p0, p1⟩ := ((unhideI S3).R.two9 (.int .i64 0) (.bool false)).at2
        exact bodyPost_ret (v := .tuple #[.agg #[.int .i64 0, .bool false], .int .i64 er]) (by simp [results, Tryz.results135, go_sem, p0, p1]) rfl ⟨rfl, (by repeat (first | exact (unhideI S3).d | refine Below.setCell ?_ (by first | exact Nat.le_refl _ | (simp; done) | omega | (simp; omega)) _ | refine Below.alloc ?_ (by first | (simp; done) | omega | (simp; omega)) _))⟩
    · rw [if_neg hl] at hR
      subst hR
      have hl1 : ((x.kids.length : Int) != (qm : Int)) = true := bne_iff_ne.2 (by omega)
      have hl2 : ((x.kids.length : Int) == (qm : Int)) = false := beq_eq_false_iff_ne.2 (by omega)
      clear hl
      go_wp2_with fail
      obtain ⟨p0, p1⟩ := ((unhideI S1).R.two9 (.int .i64 0) (.bool false)).at2
      exact bodyPost_ret (v := .tuple #[.agg #[.int .i64 0, .bool false], .int .i64 5]) (by simp [results, Tryz.results135, go_sem, p0, p1]) rfl ⟨rfl, (by repeat (first | exact (unhideI S1).d | refine Below.setCell ?_ (by first | exact Nat.le_refl _ | (simp; done) | omega | (simp; omega)) _ | refine Below.alloc ?_ (by first | (simp; done) | omega | (simp; omega)) _))⟩
end Go.Proofs.YtaidefdbjcgcbaaGreat
