/-
  LkR.
-/
import Derived.Test.YtlkoidkdeopgjaaGreatDoorke
import Derived.Deep.AppendLies
set_option maxHeartbeats 4000000
set_option maxRecDepth 100000
namespace Go.Proofs.YtlkoidkdeopgjaaGreatDoor
open Go.RowKit Go.Maps
set_option linter.unusedSimpArgs false
set_option linter.unusedVariables false
theorem resolveL_any {σ γ : Type} (Inv : σ → γ → World → Prop) (Foot : γ → Nat → Prop) (fnd : σ → List UInt8 → σ × Int × Bool) (pb qb : Nat)
   (hlt0 : ∀ s g u k, Inv s g u → Foot g k → k < u.heap.size)
   (hst : ∀ s g u u', Inv s g u → Kpt (fun k => ¬ Foot g k) u u' → Inv s g u')
   (hf : ∀ s g u (x : ByteArray), Inv s g u → nm x = true → Calls Tryz.prog 117 #[.string x, .pointer (some ⟨pb, 0, none⟩), .pointer (some ⟨qb, 0, none⟩)] u fun e u' => e = .returned (.tuple #[.int .i64 (fnd s x.toList).2.1, .bool (fnd s x.toList).2.2]) ∧ 0 ≤ (fnd s x.toList).2.1 ∧ ∃ g', Inv (fnd s x.toList).1 g' u' ∧ Kpt (Foot g) u u' ∧ ∀ k, Foot g' k → Foot g k ∨ u.heap.size ≤ k)
   (l : List Ln) (v : Value) (w : World) (s0 : σ) (gh0 : γ) (hl : Lns w v l) (hr : ∀ x ∈ l, wrgL x = 0) (hmuch : l.length ≤ 40000) (hi : Inv s0 gh0 w) (hv : ∀ b, v.ownBlock = some b → l ≠ [] → ¬ Foot gh0 b) :
   Calls Tryz.prog 83 #[v, .func (.func 117) #[] #[.pointer (some ⟨pb, 0, none⟩), .pointer (some ⟨qb, 0, none⟩)]] w fun e w' => RsvRet Inv Foot w gh0 (rsv fnd l 0 s0 []) e w' := by
 obtain ⟨i0, hi0, hz0, hz1, hz2⟩ := info_parts Tryz.infoInstr
 obtain ⟨ao, cap, rfl, hmax, hat⟩ := hl.at
 clear hl
 have HA := zH hat
 clear hat
 unfold maxLen at hmax
 have HI0 := zH (hst s0 gh0 _ _ hi (Kpt.of (below_a w (.cells #[.int .i64 0, .int .i64 0] 83))))
 have F00 := zH (Box.new w #[.int .i64 0, .int .i64 0] 83)
 have nf0 : ¬ Foot gh0 w.heap.size := fun h => by have := hlt0 s0 gh0 w _ hi h; omega
 have KK0 : Hid (Kpt (Foot gh0) w (w.alloc (.cells #[.int .i64 0, .int .i64 0] 83))) := Kpt.of (below_a _ _)
 clear hi
 generalize hR : rsv fnd l 0 s0 [] = R
 have HR : Hid (R = rsv fnd (l.drop 0) 0 s0 []) := by show R = _; rw [← hR]; rfl
 clear hR
 go_enter Tryz.func83, Tryz.ntmps83
 go_wp2_with fail
 go_loopg [6, 13] l.length (fun g vo i wr => ∃ (k : Nat) (acc : List Ins) (s : σ) (gh : γ), k ≤ l.length ∧ g = l.length - k ∧ i = .int .i64 k ∧ acc.length ≤ k ∧ Hid (wr.ownsRow (w.heap.size + 1) 73 4 vo acc.length (acc.flatMap cells4)) ∧ Hid (∀ c, vo.ownBlock = some c → ¬ Foot gh c) ∧ Hid (Inv s gh wr) ∧ Hid (Box wr w.heap.size [.int .i64 0, .int .i64 0]) ∧ Hid (¬ Foot gh w.heap.size) ∧ Hid (Kpt (Foot gh0) w wr) ∧ Hid (∀ c, Foot gh c → Foot gh0 c ∨ w.heap.size ≤ c) ∧ Hid (R = rsv fnd (l.drop k) k s acc))
 case atStart => exact ⟨0, [], s0, gh0, Nat.zero_le _, rfl, rfl, Nat.le_refl _, World.ownsRow_nil _ _ _ _, (fun c h => by cases h), HI0, F00, nf0, KK0, (fun c h => .inl h), HR⟩
 case round =>
   obtain ⟨k, acc, s, gh, hk, hg, rfl, hal, HO, HV, HI, HFB, HNF, HK, HF, HE⟩ := hrel
   clear HI0 F00 nf0 KK0 HR
   have hws := (uI HFB).1
   by_cases hlt : k < l.length
   · skip
     have hne : l ≠ [] := by intro h; rw [h] at hlt; simp at hlt
     obtain ⟨b, off, rfl, hbw, hc⟩ := (uI HA) hne
     have hbx : ¬ Foot gh b := fun hx => by
       rcases (uI HF) b hx with h | h
       · exact hv b rfl hne h
       · omega
     have hbk : ∀ o, wr.cell? ⟨b, o, none⟩ = w.cell? ⟨b, o, none⟩ := fun o => (uI HK).cell hbw (fun hx => hv b rfl hne hx)
     obtain ⟨c0, c1, c2, c3, c4, c5⟩ := hc k hlt
     rw [← hbk] at c0 c1 c2 c3 c4 c5
     have hd := zH (drop_at l k hlt)
     have hwx := zH (hr l[k] (List.getElem_mem hlt))
     generalize l[k] = x at *
     obtain ⟨lab, ⟨o, d, sr, m⟩, ref⟩ := x
     clear hc hne hbk hbx
     dsimp only at *
     have BX := zH (Box.new wr #[.string lab, .int .i64 o, .int .i64 d, .int .i64 sr, .int .i64 m, .string ref] 75)
     have KA := zH (below_a wr (.cells #[.string lab, .int .i64 o, .int .i64 d, .int .i64 sr, .int .i64 m, .string ref] 75))
     have I1 := zH (hst s gh _ _ (uI HI) (Kpt.of (uI KA)))
     have p0 := (uI BX).2.1 0 _ rfl
     have p1 := (uI BX).2.1 1 _ rfl
     have p2 := (uI BX).2.1 2 _ rfl
     have p3 := (uI BX).2.1 3 _ rfl
     have p4 := (uI BX).2.1 4 _ rfl
     have p5 := (uI BX).2.1 5 _ rfl
     have hsz : (wr.alloc (.cells #[.string lab, .int .i64 o, .int .i64 d, .int .i64 sr, .int .i64 m, .string ref] 75)).heap.size = wr.heap.size + 1 := by simp
     by_cases he : lab.toList.isEmpty = true
     · have he1 : emp lab = true := he
       by_cases hrf : ref.toList.isEmpty = true
       · have HE2 : Hid (R = rsv fnd (l.drop (k + 1)) (k + 1) s (acc ++ [⟨o, d, sr, m⟩])) := by show R = _; rw [uI HE, uI hd, rsv_ins (x := ⟨lab, ⟨o, d, sr, m⟩, ref⟩) he1 (show emp ref = true from hrf)]
         clear HE hd hwx hf
         have OU := zH (own_step (uI HO) (uI KA))
         have HVU := HV
         have IU := I1
         have FU := zH ((uI HFB).step (uI KA))
         have KU := zH ((uI HK).trans (Kpt.of (X := fun _ => False) (uI KA)) (fun _ h => h) (fun _ h _ => h.elim))
         have NFU := HNF
         have HFU := HF
         clear HO HV HI I1 HFB HK HNF HF
         go_wp2_with (at_builtin; refine wpList_append_lies _ rfl (.tmp 39) (.tmp 42) 148 rfl (w.heap.size + 1) 73 i0 (.agg #[.int .i64 0, .int .i64 0, .int .i64 0, .int .i64 0]) 4 32 Tryz.underlying148 hi0 hz0 hz1 hz2 rfl (by decide) _ _ _ rfl ((uI OU).alloc _) ⟨_, 0, none⟩ 1 1 (cells4 ⟨o, d, sr, m⟩) rfl rfl (four_c1 _ ⟨o, d, sr, m⟩ _ _ (by simp)) (four_c2 _) (by decide) (by unfold maxLen; omega) (by omega) (by simp; omega) _ rfl ?_; intro g cap3 w3 own3 grow3 hloc hgl; have O3 := zH own3; have G3 := zH grow3; have L3 := zH hloc; clear own3 grow3 hloc)
         have sU : ((wr.alloc (.cells #[.string lab, .int .i64 o, .int .i64 d, .int .i64 sr, .int .i64 m, .string ref] 75))).heap.size = wr.heap.size + 1 := by simp
         have hgf : ¬ Foot gh g := fun hx => by
           have h1 := hlt0 _ _ _ _ (uI IU) hx
           rcases (uI L3) with h2 | h2
           · exact (uI HVU) g h2 hx
           · simp at h2; omega
         have K3a : Kpt (fun c => u6.ownBlock = some c) ((wr.alloc (.cells #[.string lab, .int .i64 o, .int .i64 d, .int .i64 sr, .int .i64 m, .string ref] 75))) w3 := (Kpt.of (X := fun _ => False) (below_a ((wr.alloc (.cells #[.string lab, .int .i64 o, .int .i64 d, .int .i64 sr, .int .i64 m, .string ref] 75))) (.cells #[.int .i64 o, .int .i64 d, .int .i64 sr, .int .i64 (m)] 73))).trans (Kpt.grown (X := fun c => u6.ownBlock = some c) (uI G3) (fun _ h => h)) (fun _ h => h.elim) (fun _ h _ => h)
         have IZ := zH (hst _ _ _ _ (uI IU) (K3a.mono (fun c hc => (uI HVU) c hc)))
         have FZ := zH ((uI FU).kpt K3a (fun h => by have := ((uI OU).lt _ h).1; omega))
         have KZ := zH ((uI KU).trans K3a (fun _ h => h) (fun c hc hcw => by have := ((uI OU).lt _ hc).1; omega))
         clear G3 L3 K3a
         go_roundg (l.length - (k + 1))
         case measure => omega
         case rel => exact ⟨k + 1, acc ++ [⟨o, d, sr, m⟩], s, gh, by omega, rfl, by go_num, by simp; omega, own_snoc (uI O3) (by simp) rfl, (fun c hc => by cases hc; exact hgf), IZ, FZ, NFU, KZ, HFU, HE2⟩
       · replace hrf : ref.toList.isEmpty = false := by simpa using hrf
         obtain ⟨-, hnm | ⟨hnm, -, -⟩⟩ := wrgL_ins (uI hwx) he1
         · exact absurd (show ref.toList.isEmpty = true from hnm) (by simp [hrf])
         have FD := hf s gh _ ref (uI I1) hnm
         have nx : ¬ Foot gh wr.heap.size := fun hx => by have := hlt0 _ _ _ _ (uI HI) hx; omega
         by_cases ht : (fnd s ref.toList).2.2 = true
         · have HE2 : Hid (R = rsv fnd (l.drop (k + 1)) (k + 1) (fnd s ref.toList).1 (acc ++ [⟨o, d, sr, (fnd s ref.toList).2.1 % 65536⟩])) := by show R = _; rw [uI HE, uI hd, rsv_ref (x := ⟨lab, ⟨o, d, sr, m⟩, ref⟩) he1 (show emp ref = false from hrf) ht]
           rw [ht] at FD
           clear HE hd hwx hf ht
           generalize hs' : (fnd s ref.toList).1 = s' at *
           generalize (fnd s ref.toList).2.1 = pl at *
           clear hs'
           go_wp2_with fail
           refine FD.mono ?_
           rintro e w2 ⟨rfl, hp, gh', i2, k2, f2⟩
           have B2 := zH ((uI BX).kpt k2 nx)
           have hl2 := (uI B2).1
           have nx' : ¬ Foot gh' wr.heap.size := fun hx => by
             rcases f2 _ hx with h | h
             · exact nx h
             · omega
           have KS : Kpt (fun c => c = wr.heap.size) w2 (w2.setCell ⟨wr.heap.size, 4, none⟩ (.int .i64 (pl % 65536))) := Kpt.setCell _ _ rfl
           have B3 := zH ((uI B2).set (j := 4) (u := .int .i64 (pl % 65536)) (by simp))
           have nrow : ∀ c, u6.ownBlock = some c → ¬ Foot gh' c ∧ c ≠ wr.heap.size := fun c hc => by
             have h1 := (uI HO).lt c hc
             refine ⟨fun hx => ?_, by omega⟩
             rcases f2 _ hx with h | h
             · exact (uI HV) c hc h
             · omega
           have OU := zH (own_kpt (own_kpt (own_step (uI HO) (uI KA)) k2 (fun c hc => (uI HV) c hc)) KS (fun c hc => (nrow c hc).2))
           have HVU : Hid (∀ c, u6.ownBlock = some c → ¬ Foot gh' c) := fun c hc => (nrow c hc).1
           have IU := zH (hst s' gh' _ _ i2 (KS.mono (fun c hc => by rw [hc]; exact nx')))
           have FU := zH ((((uI HFB).step (uI KA)).kpt k2 (uI HNF)).kpt KS (by omega))
           have KU := zH ((((uI HK).trans (Kpt.of (X := fun _ => False) (uI KA)) (fun _ h => h) (fun _ h _ => h.elim)).trans k2 (fun _ h => h) (fun c hc hcw => by
             rcases (uI HF) c hc with h | h
             · exact h
             · omega)).trans KS (fun _ h => h) (fun c hc hcw => by omega))
           have NFU : Hid (¬ Foot gh' w.heap.size) := fun hx => by
             rcases f2 _ hx with h | h
             · exact (uI HNF) h
             · omega
           have HFU : Hid (∀ c, Foot gh' c → Foot gh0 c ∨ w.heap.size ≤ c) := fun c hx => by
             rcases f2 _ hx with h | h
             · exact (uI HF) c h
             · right; omega
           have hl3 : (w2.setCell ⟨wr.heap.size, 4, none⟩ (.int .i64 (pl % 65536))).heap.size = w2.heap.size := by simp
           have sk2 := k2.size
           clear p0 p1 p2 p3 p4 p5
           have p0 := (uI B2).2.1 0 _ rfl
           have p1 := (uI B2).2.1 1 _ rfl
           have p2 := (uI B2).2.1 2 _ rfl
           have p3 := (uI B2).2.1 3 _ rfl
           have p4 := (uI B2).2.1 4 _ rfl
           have p5 := (uI B2).2.1 5 _ rfl
           have p6 := (uI B2).2.2
           have q1 := (uI B3).2.1 1 _ rfl
           have q2 := (uI B3).2.1 2 _ rfl
           have q3 := (uI B3).2.1 3 _ rfl
           have q4 := (uI B3).2.1 4 _ rfl
           clear HO HV HI I1 HFB HK HNF HF i2 k2 f2 KS nrow FD
           go_wp2_with (at_builtin; refine wpList_append_lies _ rfl (.tmp 39) (.tmp 42) 148 rfl (w.heap.size + 1) 73 i0 (.agg #[.int .i64 0, .int .i64 0, .int .i64 0, .int .i64 0]) 4 32 Tryz.underlying148 hi0 hz0 hz1 hz2 rfl (by decide) _ _ _ rfl ((uI OU).alloc _) ⟨_, 0, none⟩ 1 1 (cells4 ⟨o, d, sr, pl % 65536⟩) rfl rfl (four_c1 _ ⟨o, d, sr, pl % 65536⟩ _ _ (by simp)) (four_c2 _) (by decide) (by unfold maxLen; omega) (by omega) (by simp; omega) _ rfl ?_; intro g cap3 w3 own3 grow3 hloc hgl; have O3 := zH own3; have G3 := zH grow3; have L3 := zH hloc; clear own3 grow3 hloc)
           have sU : (w2.setCell ⟨wr.heap.size, 4, none⟩ (.int .i64 (pl % 65536))).heap.size = w2.heap.size := by simp
           have hgf : ¬ Foot gh' g := fun hx => by
             have h1 := hlt0 _ _ _ _ (uI IU) hx
             rcases (uI L3) with h2 | h2
             · exact (uI HVU) g h2 hx
             · simp at h2; omega
           have K3a : Kpt (fun c => u6.ownBlock = some c) (w2.setCell ⟨wr.heap.size, 4, none⟩ (.int .i64 (pl % 65536))) w3 := (Kpt.of (X := fun _ => False) (below_a (w2.setCell ⟨wr.heap.size, 4, none⟩ (.int .i64 (pl % 65536))) (.cells #[.int .i64 o, .int .i64 d, .int .i64 sr, .int .i64 (pl % 65536)] 73))).trans (Kpt.grown (X := fun c => u6.ownBlock = some c) (uI G3) (fun _ h => h)) (fun _ h => h.elim) (fun _ h _ => h)
           have IZ := zH (hst _ _ _ _ (uI IU) (K3a.mono (fun c hc => (uI HVU) c hc)))
           have FZ := zH ((uI FU).kpt K3a (fun h => by have := ((uI OU).lt _ h).1; omega))
           have KZ := zH ((uI KU).trans K3a (fun _ h => h) (fun c hc hcw => by have := ((uI OU).lt _ hc).1; omega))
           clear G3 L3 K3a
           go_roundg (l.length - (k + 1))
           case measure => omega
           case rel => exact ⟨k + 1, acc ++ [⟨o, d, sr, pl % 65536⟩], s', gh', by omega, rfl, by go_num, by simp; omega, own_snoc (uI O3) (by simp) rfl, (fun c hc => by cases hc; exact hgf), IZ, FZ, NFU, KZ, HFU, HE2⟩
         · replace ht : (fnd s ref.toList).2.2 = false := by simpa using ht
           have hRq : R = (([], 6, k), (fnd s ref.toList).1) := by rw [uI HE, uI hd, rsv_none (x := ⟨lab, ⟨o, d, sr, m⟩, ref⟩) he1 (show emp ref = false from hrf) ht]
           rw [ht] at FD
           clear HE hd hwx hf ht
           generalize (fnd s ref.toList).1 = s' at *
           generalize (fnd s ref.toList).2.1 = pl at *
           subst hRq
           go_wp2_with fail
           refine FD.mono ?_
           rintro e w2 ⟨rfl, hp, gh', i2, k2, f2⟩
           have FU := zH (((uI HFB).step (uI KA)).kpt k2 (uI HNF))
           have KU := zH (((uI HK).trans (Kpt.of (X := fun _ => False) (uI KA)) (fun _ h => h) (fun _ h _ => h.elim)).trans k2 (fun _ h => h) (fun c hc hcw => by
             rcases (uI HF) c hc with h | h
             · exact h
             · omega))
           have NFU : ¬ Foot gh' w.heap.size := fun hx => by
             rcases f2 _ hx with h | h
             · exact (uI HNF) h
             · omega
           have HFU : ∀ c, Foot gh' c → Foot gh0 c ∨ w.heap.size ≤ c := fun c hx => by
             rcases f2 _ hx with h | h
             · exact (uI HF) c h
             · right; omega
           have NF2 := zH NFU
           have HF2 := zH HFU
           have I2 := zH i2
           obtain ⟨f0, f1⟩ := (uI FU).at2
           have f3 := (uI FU).2.2
           clear HO HV HI I1 HFB HK HNF HF i2 k2 f2 FD NFU HFU p0 p1 p2 p3 p4 p5
           go_wp2_with fail
           refine bodyPost_ret (v := .tuple #[.slice none 0 0, .agg #[.int .i64 6, .int .i64 k]]) (by simp [results, Tryz.results83, go_sem, f0, f1, f3]) rfl ?_
           unfold RsvRet
           refine ⟨_, gh', rfl, Lies.nil _ _, (fun c h => by cases h), ?_, ?_, uI HF2⟩
           · exact hst s' gh' _ _ (uI I2) ((Kpt.setCell _ _ (uI NF2)).trans (Kpt.setCell _ _ (uI NF2)) (fun _ h => h) (fun _ h _ => h))
           · exact ((uI KU).trans (Kpt.setCell (X := fun c => c = w.heap.size) _ _ rfl) (fun _ h => h) (fun _ h h2 => by omega)).trans (Kpt.setCell (X := fun c => c = w.heap.size) _ _ rfl) (fun _ h => h) (fun _ h h2 => by omega)
     · replace he : lab.toList.isEmpty = false := by simpa using he
       have HE2 : Hid (R = rsv fnd (l.drop (k + 1)) (k + 1) s acc) := by show R = _; rw [uI HE, uI hd, rsv_lab (x := ⟨lab, ⟨o, d, sr, m⟩, ref⟩) (show emp lab = false from he)]
       clear HE hd
       go_wp2_with fail
       go_roundg (l.length - (k + 1))
       case measure => omega
       case rel => exact ⟨k + 1, acc, s, gh, by omega, rfl, by go_num, by omega, own_step (uI HO) (uI KA), HV, I1, (uI HFB).step (uI KA), HNF, (uI HK).trans (Kpt.of (X := fun _ => False) (uI KA)) (fun _ h => h) (fun _ h _ => h.elim), HF, HE2⟩
   · have hkl : k = l.length := by omega
     obtain ⟨f0, f1⟩ := (uI HFB).at2
     have f2 := (uI HFB).2.2
     go_wp2_with fail
     obtain rfl : R = ((acc, 0, 0), s) := by rw [uI HE, hkl, List.drop_length]; rfl
     refine bodyPost_ret (v := .tuple #[u6, .agg #[.int .i64 0, .int .i64 0]]) (by simp [results, Tryz.results83, go_sem, f0, f1, f2]) rfl ?_
     unfold RsvRet
     refine ⟨_, gh, rfl, Lies.owned (ownsRow_setCell_below (ownsRow_setCell_below (uI HO) (by simp) _) (by simp) _), (fun c h => ⟨Nat.le_of_succ_le ((uI HO).lt c h).1, (uI HV) c h⟩), ?_, ?_, uI HF⟩
     · exact hst s gh _ _ (uI HI) ((Kpt.setCell _ _ (uI HNF)).trans (Kpt.setCell _ _ (uI HNF)) (fun _ h => h) (fun _ h _ => h))
     · exact ((uI HK).trans (Kpt.setCell (X := fun c => c = w.heap.size) _ _ rfl) (fun _ h => h) (fun _ h h2 => by omega)).trans (Kpt.setCell (X := fun c => c = w.heap.size) _ _ rfl) (fun _ h => h) (fun _ h h2 => by omega)
end Go.Proofs.YtlkoidkdeopgjaaGreatDoor
