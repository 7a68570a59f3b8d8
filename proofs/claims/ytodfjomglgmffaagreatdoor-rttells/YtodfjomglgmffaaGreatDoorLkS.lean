/-
  link.surveyed.
-/
import Derived.Test.YtodfjomglgmffaaGreatDoorLkO
import Derived.Deep.AppendLies
namespace Go.Proofs.YtodfjomglgmffaaGreatDoor
open Go.RowKit Go.Maps
set_option linter.unusedSimpArgs false
set_option linter.unusedVariables false

theorem Tryz.infoPart : (Tryz.prog.info? 104).map (fun i => (i.zero, i.size, i.bytes)) = some (some (.agg #[.map none, .int .i64 0, .bool false, .int .i64 0]), 4, 32) := by kernel_rfl
/-- A part's cells: where its places lie, and what is known of it. -/
def cellsP (p : Pt × Nat) : List Value := [.map (some p.2), .int .i64 p.1.n, .bool p.1.put, .int .i64 p.1.start]
theorem cells_c1 (u : World) (l : List Value) (T : TypeId) (B : Nat) (hB : B = u.heap.size) : ∀ j x, l[j]? = some x → (u.alloc (.cells l.toArray T)).cell? ((⟨B, 0, none⟩ : Addr).add j) = some x := by
  intro j x hx
  subst hB
  have e : ((⟨u.heap.size, 0, none⟩ : Addr).add j) = ⟨u.heap.size, j, none⟩ := by unfold Addr.add; split <;> simp_all
  rw [e]
  exact (Box.new u l.toArray T).2.1 j x (by simpa using hx)
theorem cellsP_one (p : Pt × Nat) : ∀ u ∈ cellsP p, u.oneCell' = true := by intro u hu; simp [cellsP] at hu; rcases hu with rfl | rfl | rfl | rfl <;> rfl
theorem srv_next {u : Un} {l : List Un} {n : Nat} {s : Sv} {O : Nmd} (h : (plcA u.lines).2.2.1 = 0) (o : owns u.lines n s.owners = some O) : srv (u :: l) n s = srv l (n + 1) ⟨s.parts ++ [⟨(plcA u.lines).1, (plcA u.lines).2.1, false, 0⟩], O⟩ := by rw [srv, if_pos h, o]
theorem srv_taken {u : Un} {l : List Un} {n : Nat} {s : Sv} (h : (plcA u.lines).2.2.1 = 0) (o : owns u.lines n s.owners = none) : srv (u :: l) n s = (s, 7, n) := by rw [srv, if_pos h, o]
theorem srv_bad {u : Un} {l : List Un} {n : Nat} {s : Sv} (h : (plcA u.lines).2.2.1 ≠ 0) : srv (u :: l) n s = (s, (plcA u.lines).2.2.1, n) := by rw [srv, if_neg h]
theorem owns_len : ∀ (l : List Ln) (n : Int) (O O' : Nmd), owns l n O = some O' → O'.length ≤ O.length + l.length
  | [], _, O, O', h => by simp [owns] at h; simp [h]
  | x :: l, n, O, O', h => by
    by_cases hf : fa x.lab = true
    · by_cases ht : hasA O x.lab.toList = true
      · rw [owns_taken hf ht] at h; cases h
      · rw [owns_next hf (by simpa using ht)] at h
        have := owns_len l n _ _ h
        simp at this ⊢; omega
    · rw [owns_skip (by simpa using hf)] at h
      have := owns_len l n _ _ h
      simp; omega
/-- What lies in memory of parts: their row, and their maps. -/
def Pts (u : World) (B : Nat) (vp : Value) (P : List (Pt × Nat)) : Prop := u.ownsRow B 104 4 vp P.length (P.flatMap cellsP) ∧ ∀ p ∈ P, Mp u p.2 p.1.A ∧ B ≤ p.2
theorem Pts.kpt {X : Nat → Prop} {u u' : World} {B : Nat} {vp : Value} {P : List (Pt × Nat)} (h : Pts u B vp P) (k : Kpt X u u') (hx : ∀ c, B ≤ c → ¬ X c) : Pts u' B vp P :=
  ⟨own_kpt h.1 k (fun c hc => hx c (h.1.lt c hc).1), fun p hp => ⟨(h.2 p hp).1.kpt k (hx _ (h.2 p hp).2), (h.2 p hp).2⟩⟩
theorem Pts.step {u u' : World} {B : Nat} {vp : Value} {P : List (Pt × Nat)} (h : Pts u B vp P) (k : Below u.heap.size u u') : Pts u' B vp P := h.kpt (Kpt.of (X := fun _ => False) k) (fun _ _ h => h)
theorem own_part {u : World} {B : Nat} {v : Value} {P : List (Pt × Nat)} {p : Pt × Nat} {n : Nat} {cs : List Value} (h : u.ownsRow B 104 4 v n cs) (e : cs = (P ++ [p]).flatMap cellsP) (hn : n = P.length + 1) : u.ownsRow B 104 4 v (P ++ [p]).length ((P ++ [p]).flatMap cellsP) := by
  have : (P ++ [p]).length = n := by rw [hn]; simp
  rw [← e, this]; exact h

theorem row_not_map {u : World} {B e s n b : Nat} {v : Value} {cs : List Value} {A : Nmd} (h : u.ownsRow B e s v n cs) (hb : v.ownBlock = some b) (hM : Mp u b A) : False := by
  obtain ⟨D, ⟨es, c, h1, _⟩, _⟩ := hM
  rcases h.2 with ⟨rfl, _⟩ | ⟨g, cap, cur, rfl, _, h2, _⟩
  · cases hb
  · cases hb
    rw [show ({ block := g, off := 0, spot := none } : Addr).block = g from rfl] at h1
    rw [h1] at h2; cases h2
/-- The linker that surveyed hands back. -/
def SrvRet (w w' : World) (v ptr : Value) (R : Sv × Int × Nat) : Prop := R.2.1 = 0 → ∃ (pk ow : Nat) (vp : Value) (P : List (Pt × Nat)), ptr = .pointer (some ⟨pk, 0, none⟩) ∧ w.heap.size ≤ pk ∧ w.heap.size ≤ ow ∧ pk ≠ ow ∧ Box w' pk [v, vp, .map (some ow), .slice none 0 0, .int .i64 0] ∧ Mp w' ow R.1.owners ∧ Pts w' (w.heap.size + 3) vp P ∧ P.map (·.1) = R.1.parts ∧ pk < w.heap.size + 3 ∧ ow < w.heap.size + 3

set_option maxRecDepth 100000 in
set_option maxHeartbeats 4000000 in
theorem surveyed_any (us : List Un) (v : Value) (w : World) (hU : Uns w v us) (hm : us.length ≤ 400) :
    Calls Tryz.prog 22 #[v] w fun e w' => ∃ ptr, e = .returned (.tuple #[ptr, .agg #[.int .i64 (srv us 0 ⟨[], []⟩).2.1, .int .i64 (srv us 0 ⟨[], []⟩).2.2]]) ∧ Below w.heap.size w w' ∧ SrvRet w w' v ptr (srv us 0 ⟨[], []⟩) := by
  have HU := hideI hU
  obtain ⟨ao, cap, rfl, hmax, hat⟩ := hU
  have HA := hideI hat
  clear hat
  unfold maxLen at hmax
  obtain ⟨i0, hi0, hz0, hz1, hz2⟩ := info_parts Tryz.infoPart
  have hmm := @run_makeMap Tryz.prog
  generalize hR : srv us 0 ⟨[], []⟩ = R
  have HR : Hid (srv (us.drop 0) 0 ⟨[], []⟩ = R) := hR
  clear hR
  have W0 : World := w
  have W0 : World := w
  have W0 : World := w
  have W0 : World := w
  go_enter Tryz.func22, Tryz.ntmps22
  go_wp2_with fail
  clear hmm W0
  have B00 := hideI (Box.new ((w.alloc (.cells #[.int .i64 0, .int .i64 0] 32)).alloc (.map #[] 0)) #[.slice ao us.length cap, .slice none 0 0, .map (some (w.heap.size + 1)), .slice none 0 0, .int .i64 0] 80)
  have M00 := hideI ((Mp.made (w.alloc (.cells #[.int .i64 0, .int .i64 0] 32))).step (below_a _ (.cells #[.slice ao us.length cap, .slice none 0 0, .map (some (w.heap.size + 1)), .slice none 0 0, .int .i64 0] 80)))
  simp only [World.size_alloc] at B00 M00
  have K00 : Hid (Below (w.heap.size + 1) (w.alloc (.cells #[.int .i64 0, .int .i64 0] 32)) (((w.alloc (.cells #[.int .i64 0, .int .i64 0] 32)).alloc (.map #[] 0)).alloc (.cells #[.slice ao us.length cap, .slice none 0 0, .map (some (w.heap.size + 1)), .slice none 0 0, .int .i64 0] 80))) := ((Below.refl _ _).alloc (by simp) _).alloc (by simp) _
  have S00 : (((w.alloc (.cells #[.int .i64 0, .int .i64 0] 32)).alloc (.map #[] 0)).alloc (.cells #[.slice ao us.length cap, .slice none 0 0, .map (some (w.heap.size + 1)), .slice none 0 0, .int .i64 0] 80)).heap.size = w.heap.size + 3 := by simp
  generalize ((w.alloc (.cells #[.int .i64 0, .int .i64 0] 32)).alloc (.map #[] 0)).alloc (.cells #[.slice ao us.length cap, .slice none 0 0, .map (some (w.heap.size + 1)), .slice none 0 0, .int .i64 0] 80) = w00 at *
  go_loopg [16] us.length (fun g i wr => ∃ (k : Nat) (s : Sv) (vp : Value) (P : List (Pt × Nat)), k ≤ us.length ∧ g = us.length - k ∧ i = .int .i64 k ∧ P.length ≤ k ∧ s.owners.length ≤ 40000 * k ∧ w.heap.size + 3 ≤ wr.heap.size ∧ Hid (Box wr (w.heap.size + 1 + 1) [.slice ao us.length cap, vp, .map (some (w.heap.size + 1)), .slice none 0 0, .int .i64 0]) ∧ Hid (Mp wr (w.heap.size + 1) s.owners) ∧ Hid (Pts wr (w.heap.size + 3) vp P) ∧ Hid (P.map (·.1) = s.parts) ∧ Hid (Below (w.heap.size + 1) (w.alloc (.cells #[.int .i64 0, .int .i64 0] 32)) wr) ∧ Hid (srv (us.drop k) k s = R))
  case atStart => exact ⟨0, ⟨[], []⟩, _, [], Nat.zero_le _, rfl, rfl, Nat.le_refl _, by simp, by omega, B00, M00, ⟨World.ownsRow_nil _ _ _ _, fun p hp => by cases hp⟩, rfl, K00, HR⟩
  case round =>
    obtain ⟨k, s, vp, P, hk, hg, rfl, hPk, hOk, hsz, HB, HM, HP, HPM, HK, HE⟩ := hrel
    clear B00 M00 K00 S00 HR
    obtain ⟨f0, f1, f2, f3, f4⟩ := fault0 (unhideI HK)
    by_cases hlt : k < us.length
    · have hne : us ≠ [] := by intro h; rw [h] at hlt; simp at hlt
      obtain ⟨b, off, f, rfl, hbw, hc⟩ := (unhideI HA) hne
      have hbs := seen (unhideI HK)
      obtain ⟨c0, c1, hL⟩ := hc k hlt
      replace c0 := cell_keep hbs hbw c0
      replace c1 := cell_keep hbs hbw c1
      replace hL := hL.step hbs
      have hd := hideI (drop_at us k hlt)
      have OWN := fun u hb vo fin O hl hr hB hM hO => own_any w (.slice (some ⟨b, off, none⟩) us.length cap) us (unhideI HU) u hb (w.heap.size + 1 + 1) (w.heap.size + 1) k vp vo fin O hlt hl hr hB hM hO (by omega) (by omega) (by omega)
      generalize us[k] = x at *
      obtain ⟨name, lines⟩ := x
      dsimp only at *
      have HL := hideI hL
      obtain ⟨lo, lc, hfn, -, -⟩ := hL.at
      rw [hfn] at c1
      have HL := hideI (hfn ▸ unhideI HL : Lns wr (.slice lo lines.length lc) lines)
      clear hc hbs hne hL
      have BX := hideI (Box.new wr #[.string name, .slice lo lines.length lc] 36)
      have KA := hideI (below_a wr (.cells #[.string name, .slice lo lines.length lc] 36))
      have PA := fun u h => places_any lines (.slice lo lines.length lc) u h
      unfold PlcRet at PA
      have PX : Hid (Box (wr.alloc (.cells #[.string name, .slice lo lines.length lc] 36)) (w.heap.size + 1 + 1) [.slice (some ⟨b, off, none⟩) us.length cap, vp, .map (some (w.heap.size + 1)), .slice none 0 0, .int .i64 0]) := (unhideI HB).step (unhideI KA)
      by_cases he : (plcA lines).2.2.1 = 0
      · obtain ⟨hl4, hrr⟩ := plcA_right he
        have HRR := hideI hrr
        clear hrr
        cases ho : owns lines k s.owners with
        | none =>
          have hRs : R = (s, 7, k) := by rw [← unhideI HE, unhideI hd, srv_taken (u := ⟨name, lines⟩) he ho]
          subst hRs
          clear HE hd
          generalize plcA lines = Z at *
          obtain ⟨Az, nz, ez, kz⟩ := Z
          dsimp only at *
          subst he
          go_wp2_with fail
          refine (PA _ ((unhideI HL).step (unhideI KA))).mono ?_
          rintro e w1 ⟨u, rfl, m, rfl, hmo, -, k1⟩
          obtain ⟨bm, rfl, hbm, M1⟩ := hmo trivial
          clear hmo
          have K1 := hideI (bt (unhideI KA) k1)
          have KB := hideI (((unhideI HK).trans ((unhideI K1).mono (by omega))).alloc (by have := (unhideI K1).size; omega) (.cells #[.int .i64 0, .int .i64 kz] 32))
          have K2 := hideI (bt (unhideI K1) (below_a w1 (.cells #[.int .i64 0, .int .i64 kz] 32)))
          have OC := OWN _ (seen (unhideI KB)) (.slice none 0 0) 0 s.owners hl4 (unhideI HRR) ((unhideI HB).step (unhideI K2)) ((unhideI HM).step (unhideI K2)) (by omega)
          rw [ho] at OC
          obtain ⟨g0, g1, g2, g3, g4⟩ := fault0 (unhideI KB)
          have s1 := (unhideI K1).size
          clear k1 f0 f1 f2 f3 f4 c0 c1
          go_wp2_with fail
          refine OC.mono ?_
          rintro e w2 ⟨rfl, k2, -⟩
          have KC := hideI ((unhideI KB).trans (k2.below (B := w.heap.size + 1) (by simp; omega) (fun c hc => by omega)))
          clear g0 g1 g2 g3 g4 OC
          obtain ⟨g0, g1, g2, g3, g4⟩ := fault0 (unhideI KC)
          clear k2
          go_wp2_with fail
          exact bodyPost_ret (v := .tuple #[.pointer none, .agg #[.int .i64 7, .int .i64 k]]) (by simp [results, Tryz.results22, go_sem, g0, g1, g2, g3, g4]) rfl ⟨_, rfl, (by repeat (first | exact seen (unhideI KC) | refine Below.setCell ?_ (by first | exact Nat.le_refl _ | (simp; done) | omega | (simp; omega)) _ | refine Below.alloc ?_ (by first | (simp; done) | omega | (simp; omega)) _)), fun h => by cases h⟩
        | some O =>
          have HE2 : Hid (srv (us.drop (k + 1)) (k + 1) ⟨s.parts ++ [⟨(plcA lines).1, (plcA lines).2.1, false, 0⟩], O⟩ = R) := by show _ = R; rw [← unhideI HE, unhideI hd, srv_next (u := ⟨name, lines⟩) he ho]
          have hOl := owns_len _ _ _ _ ho
          clear HE hd
          generalize plcA lines = Z at *
          obtain ⟨Az, nz, ez, kz⟩ := Z
          dsimp only at *
          subst he
          go_wp2_with fail
          refine (PA _ ((unhideI HL).step (unhideI KA))).mono ?_
          rintro e w1 ⟨u, rfl, m, rfl, hmo, -, k1⟩
          obtain ⟨bm, rfl, hbm, M1⟩ := hmo trivial
          clear hmo
          have K1 := hideI (bt (unhideI KA) k1)
          have KB := hideI (((unhideI HK).trans ((unhideI K1).mono (by omega))).alloc (by have := (unhideI K1).size; omega) (.cells #[.int .i64 0, .int .i64 kz] 32))
          have K2 := hideI (bt (unhideI K1) (below_a w1 (.cells #[.int .i64 0, .int .i64 kz] 32)))
          have OC := OWN _ (seen (unhideI KB)) (.slice none 0 0) 0 s.owners hl4 (unhideI HRR) ((unhideI HB).step (unhideI K2)) ((unhideI HM).step (unhideI K2)) (by omega)
          rw [ho] at OC
          have M2 := hideI (M1.step (below_a w1 (.cells #[.int .i64 0, .int .i64 kz] 32)))
          have hbm2 : w.heap.size + 3 ≤ bm := by simp at hbm; omega
          have s1 := (unhideI K1).size
          obtain ⟨g0, g1, g2, g3, g4⟩ := fault0 (unhideI KB)
          clear k1 M1 hbm f0 f1 f2 f3 f4 c0 c1
          go_wp2_with fail
          refine OC.mono ?_
          rintro e w2 ⟨rfl, k2, m2⟩
          have s2 := k2.size
          have s2' : w.heap.size + 3 ≤ w2.heap.size := by simp at s2; omega
          have KC := hideI ((unhideI KB).trans (k2.below (B := w.heap.size + 1) (by simp; omega) (fun c hc => by omega)))
          have B2 := hideI (((unhideI HB).step (unhideI K2)).kpt k2 (by omega))
          have P2 := hideI (((unhideI HP).step (unhideI K2)).kpt k2 (fun c hc h => by omega))
          have M3 := hideI ((unhideI M2).kpt k2 (by omega))
          have O2 := hideI (m2 O rfl)
          clear k2 m2 g0 g1 g2 g3 g4 OC HB HM HP M2 PX
          have e0 := (unhideI B2).2.1 0 _ rfl
          have e1 := (unhideI B2).2.1 1 _ rfl
          have e2 := (unhideI B2).2.2
          have hpl := (unhideI B2).1
          have BA := fun o => (unhideI B2).step (below_a w2 o)
          go_wp2_with (at_builtin; refine wpList_append_lies _ rfl (.tmp 45) (.tmp 49) 78 rfl (w.heap.size + 3) 104 i0 (.agg #[.map none, .int .i64 0, .bool false, .int .i64 0]) 4 32 Tryz.underlying78 hi0 hz0 hz1 hz2 rfl (by decide) _ _ _ rfl ((unhideI P2).1.alloc _) ⟨_, 0, none⟩ 1 1 (cellsP (⟨Az, nz, false, 0⟩, bm)) rfl rfl (cells_c1 _ (cellsP (⟨Az, nz, false, 0⟩, bm)) _ _ (by simp)) (cellsP_one _) (by decide) (by unfold maxLen; omega) (by omega) (by simp; omega) _ rfl ?_; intro g cap3 w3 own3 grow3 hloc hgl; have O3 := hideI own3; have G3 := hideI grow3; have L3 := hideI hloc; have B3 := hideI ((BA _).kpt (Kpt.grown (X := fun c => vp.ownBlock = some c) grow3 (fun _ h => h)) (fun h => by have := ((unhideI P2).1.lt _ h).1; omega)); have r1 := (unhideI B3).2.1 1 _ rfl; have r2 := (unhideI B3).2.2; have hpl3 := (unhideI B3).1; clear own3 grow3 hloc e0 e1 e2 hpl)
          have nrow : ∀ c, vp.ownBlock = some c → w.heap.size + 3 ≤ c := fun c hc => ((unhideI P2).1.lt c hc).1
          have K3a : Kpt (fun c => vp.ownBlock = some c) w2 w3 := (Kpt.of (X := fun _ => False) (below_a w2 (.cells #[.map (some bm), .int .i64 nz, .bool false, .int .i64 0] 104))).trans (Kpt.grown (X := fun c => vp.ownBlock = some c) (unhideI G3) (fun _ h => h)) (fun _ h => h.elim) (fun _ h _ => h)
          have KS : Kpt (fun c => c = w.heap.size + 1 + 1) w3 (w3.setCell ⟨w.heap.size + 1 + 1, 1, none⟩ (.slice (some ⟨g, 0, none⟩) (P.length + 1) cap3)) := Kpt.setCell _ _ rfl
          have hgg : w.heap.size + 3 ≤ g := ((unhideI O3).lt g rfl).1
          have P3 : Hid (Pts (w3.setCell ⟨w.heap.size + 1 + 1, 1, none⟩ (.slice (some ⟨g, 0, none⟩) (P.length + 1) cap3)) (w.heap.size + 3) (.slice (some ⟨g, 0, none⟩) (P.length + 1) cap3) (P ++ [(⟨Az, nz, false, 0⟩, bm)])) := by
            refine ⟨own_part (own_kpt (unhideI O3) KS (fun c hc => by have hgc : g = c := Option.some.inj hc; omega)) (by simp) rfl, fun p hp => ?_⟩
            have key : ∀ (b : Nat) (A : Nmd), Mp w2 b A → w.heap.size + 3 ≤ b → Mp (w3.setCell ⟨w.heap.size + 1 + 1, 1, none⟩ (.slice (some ⟨g, 0, none⟩) (P.length + 1) cap3)) b A := fun b A hM hb3 => (hM.kpt K3a (fun hx => row_not_map (unhideI P2).1 hx hM)).kpt KS (by omega)
            rcases List.mem_append.1 hp with hp | hp
            · exact ⟨key _ _ ((unhideI P2).2 p hp).1 ((unhideI P2).2 p hp).2, ((unhideI P2).2 p hp).2⟩
            · simp at hp; subst hp; exact ⟨key _ _ (unhideI M3) hbm2, hbm2⟩
          have M4 := hideI (((unhideI O2).kpt K3a (fun hx => by have := nrow _ hx; omega)).kpt KS (by omega))
          have B4 := hideI ((unhideI B3).set (j := 1) (u := .slice (some ⟨g, 0, none⟩) (P.length + 1) cap3) (by simp))
          have K4 := hideI ((unhideI KC).trans ((K3a.trans KS (Z := fun c => w.heap.size + 1 ≤ c) (fun c hc => by have := nrow c hc; omega) (fun c hc _ => by omega)).below (B := w.heap.size + 1) (by omega) (fun c hc => hc)))
          have s4 : w.heap.size + 3 ≤ (w3.setCell ⟨w.heap.size + 1 + 1, 1, none⟩ (.slice (some ⟨g, 0, none⟩) (P.length + 1) cap3)).heap.size := by have := K3a.size; simp; omega
          clear K3a KS L3 G3 O3 B3 r1 r2
          go_roundg (us.length - (k + 1))
          case measure => omega
          case rel => exact ⟨k + 1, ⟨s.parts ++ [⟨Az, nz, false, 0⟩], O⟩, _, P ++ [(⟨Az, nz, false, 0⟩, bm)], by omega, rfl, by go_num, by simp; omega, by show O.length ≤ _; omega, s4, B4, M4, P3, by show List.map _ _ = _; rw [List.map_append, unhideI HPM]; rfl, K4, HE2⟩
      · have hRs : R = (s, (plcA lines).2.2.1, k) := by rw [← unhideI HE, unhideI hd, srv_bad (u := ⟨name, lines⟩) he]
        clear HE hd
        generalize plcA lines = Z at *
        obtain ⟨Az, nz, ez, kz⟩ := Z
        dsimp only at *
        subst hRs
        have he2 : (ez != 0) = true := by simpa using he
        have HEZ := hideI he
        go_wp2_with fail
        refine (PA _ ((unhideI HL).step (unhideI KA))).mono ?_
        rintro e w1 ⟨u, rfl, m, rfl, -, hmn, k1⟩
        obtain rfl := hmn (unhideI HEZ)
        have K1 := hideI (bt (unhideI KA) k1)
        have KB := hideI (((unhideI HK).trans ((unhideI K1).mono (by omega))).alloc (by have := (unhideI K1).size; omega) (.cells #[.int .i64 ez, .int .i64 kz] 32))
        have G1 := hideI (Box.new w1 #[.int .i64 ez, .int .i64 kz] 32)
        have s1 := (unhideI K1).size
        obtain ⟨g0, g1, g2, g3, g4⟩ := fault0 (unhideI KB)
        obtain ⟨h0, h1⟩ := (unhideI G1).at2
        have s5 : w.heap.size < w1.heap.size := by omega
        clear k1 f0 f1 f2 f3 f4 c0 c1 OWN he
        go_wp2_with fail
        generalize w1.alloc (.cells #[.int .i64 ez, .int .i64 kz] 32) = w2 at *
        go_region_with fail
        all_goals
          go_wp2_with fail
          exact bodyPost_ret (v := .tuple #[.pointer none, .agg #[.int .i64 ez, .int .i64 k]]) (by simp [results, Tryz.results22, go_sem, g0, g1, g2, g3, g4]) rfl ⟨_, rfl, Below.drew (by repeat (first | exact seen (unhideI KB) | refine Below.setCell ?_ (by first | exact Nat.le_refl _ | (simp; done) | omega | (simp; omega)) _ | refine Below.alloc ?_ (by first | (simp; done) | omega | (simp; omega)) _)), fun h => absurd h (unhideI HEZ)⟩
    · have hkl : k = us.length := by omega
      have hRs : R = (s, 0, 0) := by rw [← unhideI HE, hkl, List.drop_length]; rfl
      subst hRs
      go_wp2_with fail
      refine bodyPost_ret (v := .tuple #[.pointer (some ⟨w.heap.size + 1 + 1, 0, none⟩), .agg #[.int .i64 0, .int .i64 0]]) (by simp [results, Tryz.results22, go_sem, f0, f1, f2, f3, f4]) rfl ⟨_, rfl, (by repeat (first | exact seen (unhideI HK) | refine Below.setCell ?_ (by first | exact Nat.le_refl _ | (simp; done) | omega | (simp; omega)) _ | refine Below.alloc ?_ (by first | (simp; done) | omega | (simp; omega)) _)), fun _ => ⟨w.heap.size + 1 + 1, w.heap.size + 1, vp, P, rfl, by omega, by omega, by omega, ((unhideI HB).other (by omega)).other (by omega), ((unhideI HM).setCell (by omega)).setCell (by omega), ?_, unhideI HPM, by omega, by omega⟩⟩
      exact ((unhideI HP).kpt (Kpt.setCell (X := fun c => c = w.heap.size) _ _ rfl) (fun c hc h => by omega)).kpt (Kpt.setCell (X := fun c => c = w.heap.size) _ _ rfl) (fun c hc h => by omega)
end Go.Proofs.YtodfjomglgmffaaGreatDoor
