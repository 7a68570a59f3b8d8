/-
  RtH, RtU, RdO, RtO.
-/
import Derived.Test.YtlkoidkdeopgjaaGreatDoorwg
import Derived.Test.YtlkoidkdeopgjaaGreatDoordc
import Derived.Test.YtlkoidkdeopgjaaGreatDoorkf
import Derived.Test.YtlkoidkdeopgjaaGreatDoorkh
import Derived.Test.YtlkoidkdeopgjaaGreatDoorda
import Derived.Test.YtlkoidkdeopgjaaGreatDoorRows
import Derived.Lib.LaidTab
import Derived.Lib.LaidU8
import Derived.LaidSub
import Derived.MakeChecks
import Derived.OpenShut
set_option maxHeartbeats 4000000
set_option maxRecDepth 100000
namespace Go.Proofs.YtlkoidkdeopgjaaGreatDoor
open Go.RowKit Go.Maps
set_option linter.unusedSimpArgs false
set_option linter.unusedVariables false
def unL : List Un := nmL.map fun s => ⟨sb s, (readA (rtxt s).1).1⟩
def nmAt (j : Nat) : List UInt8 := nmL.getD j []
def lnAt (j : Nat) : List Ln := (readA (rtxt (nmAt j)).1).1
def ucs (k : Nat) (f : Nat → Value) : List Value := (List.range k).flatMap fun j => [.string (sb (nmAt j)), f j]
theorem ucs_succ (k : Nat) (f f' : Nat → Value) (h : ∀ j, j < k → f' j = f j) : ucs (k + 1) f' = ucs k f ++ [.string (sb (nmAt k)), f' k] := by
 unfold ucs
 rw [List.range_succ, List.flatMap_append]
 congr 1
 · simp only [List.flatMap]
   congr 1
   exact List.map_congr_left fun j hj => by rw [h j (List.mem_range.1 hj)]
theorem ucs_len (k : Nat) (f : Nat → Value) : (ucs k f).length = k * 2 := by
 induction k with
 | zero => rfl
 | succ k ih => rw [ucs_succ k f f (fun _ _ => rfl), List.length_append, ih]; simp; omega
theorem ucs_at (f : Nat → Value) : ∀ (k j : Nat), j < k → (ucs k f)[j * 2]? = some (.string (sb (nmAt j))) ∧ (ucs k f)[j * 2 + 1]? = some (f j)
 | 0, j, h => by omega
 | k + 1, j, h => by
   rw [ucs_succ k f f (fun _ _ => rfl)]
   by_cases e : j = k
   · subst e
     have := ucs_len j f
     rw [List.getElem?_append_right (by omega), List.getElem?_append_right (by omega), this]
     simp
   · obtain ⟨h1, h2⟩ := ucs_at f k j (by omega)
     have := ucs_len k f
     rw [List.getElem?_append_left (by omega), List.getElem?_append_left (by omega)]
     exact ⟨h1, h2⟩
theorem nmL_len : nmL.length = 24 := by rfl
theorem nmAt_len (j : Nat) : (nmAt j).length ≤ 10 := by
 have h : ∀ j, j < 24 → (nmAt j).length ≤ 10 := by decide +kernel
 by_cases hj : j < 24
 · exact h j hj
 · unfold nmAt; rw [List.getD_eq_getElem?_getD, List.getElem?_eq_none (by rw [nmL_len]; omega)]; simp
theorem Tryz.infoUnit : (Tryz.prog.info? 78).map (fun i => (i.zero, i.size, i.bytes)) = some (some (.agg #[.string ⟨#[]⟩, .slice none 0 0]), 2, 40) := by kernel_rfl
theorem two_c1 (u : World) (x y : Value) (T : TypeId) (B : Nat) (hB : B = u.heap.size) : ∀ (j : Nat) z, [x, y][j]? = some z → (u.alloc (.cells #[x, y] T)).cell? ((⟨B, 0, none⟩ : Addr).add j) = some z := by
 subst hB
 intro j z hj
 match j, hj with
 | 0, hj => simp at hj; subst hj; simp [Addr.add]
 | 1, hj => simp at hj; subst hj; simp [Addr.add]
structure Ga (w : World) : Prop where
 z : Gz w
 l : Gl w
theorem Ga.step {w w' : World} (h : Ga w) (k : Below w.heap.size w w') : Ga w' := ⟨h.z.step k, h.l.step k⟩
structure UnAt (w : World) (B : Nat) (v : Value) (k : Nat) (f : Nat → Value) : Prop where
 own : w.ownsRow B 78 2 v k (ucs k f)
 lns : ∀ j, j < k → Lns w (f j) (lnAt j)
 far : ∀ j, j < k → (lnAt j).length ≠ 0 → ∀ c, (f j).ownBlock = some c → c < w.heap.size ∧ v.ownBlock ≠ some c
theorem UnAt.step {w w' : World} {B k : Nat} {v : Value} {f : Nat → Value} (h : UnAt w B v k f) (b : Below w.heap.size w w') : UnAt w' B v k f :=
 ⟨own_step h.own b, fun j hj => Lies.step (h.lns j hj) b, fun j hj hz c hc => ⟨Nat.lt_of_lt_of_le (h.far j hj hz c hc).1 b.size, (h.far j hj hz c hc).2⟩⟩
theorem UnAt.low {w : World} {B B' k : Nat} {v : Value} {f : Nat → Value} (h : UnAt w B v k f) (hB : B' ≤ B) : UnAt w B' v k f := by
 refine ⟨⟨h.own.1, ?_⟩, h.lns, h.far⟩
 rcases h.own.2 with hn | ⟨g, cap, cur, hv, hb, r⟩
 · exact .inl hn
 · exact .inr ⟨g, cap, cur, hv, Nat.le_trans hB hb, r⟩
theorem lies_grown {w w' : World} {s n : Nat} {v : Value} {cs : List Value} {row : Option Nat} (h : Lies w s v n cs) (k : w.grownBy w' row) (hx : n ≠ 0 → ∀ b, v.ownBlock = some b → row ≠ some b) : Lies w' s v n cs := by
 obtain ⟨h1, ao, cap, h2, h3, h4, h6, h5⟩ := h
 refine ⟨h1, ao, cap, h2, h3, h4, h6, fun hn => ?_⟩
 obtain ⟨b, off, e, hb, hc⟩ := h5 hn
 refine ⟨b, off, e, Nat.lt_of_lt_of_le hb k.size, fun j hj => ?_⟩
 rw [← hc j hj]
 have hne : some b ≠ row := fun e2 => hx hn b (by rw [h2, e]; rfl) e2.symm
 have := k.block b hb hne
 unfold World.cell?
 simp only [this]
theorem un_put {w w' : World} {B k : Nat} {v v' x : Value} {f : Nat → Value} (h : UnAt w B v k f) (g : w.grownBy w' v.ownBlock) (ho : w'.ownsRow B 78 2 v' (k + 1) (ucs k f ++ [.string (sb (nmAt k)), x])) (hv : v'.ownBlock = v.ownBlock ∨ v'.ownBlock = some w.heap.size) (hl : Lns w x (lnAt k)) (hxo : (lnAt k).length ≠ 0 → ∀ c, x.ownBlock = some c → c < w.heap.size ∧ v.ownBlock ≠ some c) : UnAt w' B v' (k + 1) (fun j => if j = k then x else f j) := by
 have fr : ∀ c, c < w.heap.size → v.ownBlock ≠ some c → v'.ownBlock ≠ some c := fun c hc hn e => by
   rcases hv with h1 | h1
   · rw [h1] at e; exact hn e
   · rw [h1] at e; injection e with e; omega
 refine ⟨?_, fun j hj => ?_, fun j hj hz c hc => ?_⟩
 · rw [ucs_succ k f (fun j => if j = k then x else f j) (fun j hj => if_neg (by omega))]
   simpa using ho
 · by_cases e : j = k
   · subst e; simp only [if_true]; exact lies_grown hl g (fun hz b hb => (hxo hz b hb).2)
   · simp only [if_neg e]; exact lies_grown (h.lns j (by omega)) g (fun hz b hb => (h.far j (by omega) hz b hb).2)
 · by_cases e : j = k
   · subst e
     simp only [if_true] at hc
     exact ⟨Nat.lt_of_lt_of_le (hxo hz c hc).1 g.size, fr c (hxo hz c hc).1 (hxo hz c hc).2⟩
   · simp only [if_neg e] at hc
     have q := h.far j (by omega) hz c hc
     exact ⟨Nat.lt_of_lt_of_le q.1 g.size, fr c q.1 q.2⟩
theorem lies_lt {w : World} {s n : Nat} {v : Value} {cs : List Value} (h : Lies w s v n cs) : ∀ c, v.ownBlock = some c → n ≠ 0 → c < w.heap.size := by
 obtain ⟨h1, ao, cap, rfl, h3, h4, h6, h5⟩ := h
 intro c hc hn
 obtain ⟨b, off, rfl, hb, -⟩ := h5 hn
 simp [Value.ownBlock] at hc
 omega
theorem units_any (w : World) (G : Ga w) : Calls Tryz.prog 44 #[] w fun e w' => ∃ v f, e = .returned v ∧ UnAt w' w.heap.size v 24 f ∧ Below w.heap.size w w' := by
 obtain ⟨i0, hi, hz0, hz1, hz2⟩ := info_parts Tryz.infoUnit
 have NA := zH (names_any w G.z)
 have HG := zH G
 clear G
 go_enter Tryz.func44, Tryz.ntmps44
 go_wp2_with fail
 refine (uI NA).mono ?_
 rintro e w1 ⟨v, rfl, ln, k1, -⟩
 rw [nmL_len] at ln
 have LN := zH ln
 have K1 := zH k1
 have HG1 := zH ((uI HG).step k1)
 obtain ⟨-, ao, cap, rfl, hc1, hc2, -, hat⟩ := ln
 have HAT := zH hat
 have hs1 := k1.size
 clear NA k1 hat
 go_wp2_with fail
 go_loopg [1, 10] 24 (fun gm vu t wr => ∃ (k : Nat) (f : Nat → Value), k ≤ 24 ∧ gm = 24 - k ∧ t = .int .i64 (k : Int) ∧ Hid (UnAt wr w1.heap.size vu k f) ∧ Hid (Below w1.heap.size w1 wr))
 case atStart => exact ⟨0, fun _ => .nilFunc, Nat.zero_le _, rfl, rfl, ⟨World.ownsRow_nil _ _ _ _, fun j hj => by omega, fun j hj => by omega⟩, Below.refl _ _⟩
 case round =>
   obtain ⟨k, f, hk, hgm, rfl, HU, HB⟩ := hrel
   by_cases hlt : k < 24
   · obtain ⟨nb, no, rfl, hnb, hcell⟩ := uI HAT (by omega)
     have cn : wr.cell? ⟨nb, no + k, none⟩ = some (.string (sb (nmAt k))) := by
       refine cell_keep (uI HB) hnb ?_
       rw [hcell k (by omega), List.getElem?_map]
       unfold nmAt
       rw [List.getD_eq_getElem?_getD, List.getElem?_eq_getElem (show k < nmL.length by rw [nmL_len]; omega)]
       rfl
     have hkI : (k : Int) < 24 := by omega
     have hk0 : (0 : Int) ≤ (k : Int) := by omega
     have hnI : nb < w1.heap.size := hnb
     have GW := (uI HG1).step (uI HB)
     have TX := zH (text_any (nmAt k) wr GW.z (by have := nmAt_len k; unfold maxLen; omega))
     have HGW := zH GW
     clear hcell GW
     generalize wr = W0 at *
     have LA := zH (show lnAt k = (readA (rtxt (nmAt k)).1).1 from rfl)
     go_wp2_with fail
     refine (uI TX).mono ?_
     rintro e w2 ⟨rfl, k2⟩
     have RD := zH (read_any (sb (rtxt (nmAt k)).1) w2 ((uI HGW).step k2).l)
     rw [sb_list] at RD
     have K2 := zH k2
     clear TX k2 cn
     generalize rtxt (nmAt k) = tx at *
     generalize readA tx.1 = rd at *
     obtain ⟨ls, er, ef⟩ := rd
     dsimp only at RD LA
     go_wp2_with fail
     refine (uI RD).mono ?_
     rintro e w3 ⟨v3, rfl, l3, o3, k3⟩
     have ka := below_a w3 (.cells #[.int .i64 er, .int .i64 ef] 83)
     have kA := btR (btR (uI K2) k3) ka
     have U4 := zH ((uI HU).step kA)
     have L4 : Hid (Lns (w3.alloc (.cells #[.int .i64 er, .int .i64 ef] 83)) v3 (lnAt k)) := by rw [uI LA]; exact Lies.step l3 ka
     have hvb : (lnAt k).length ≠ 0 → ∀ c, v3.ownBlock = some c → c < (w3.alloc (.cells #[.int .i64 er, .int .i64 ef] 83)).heap.size ∧ u1.ownBlock ≠ some c := fun hz c hc => by
       rw [uI LA] at hz
       have q1 := o3 c hc
       have q2 := (uI K2).size
       refine ⟨?_, fun e => ?_⟩
       · have := lies_lt l3 c hc hz
         simp; omega
       · have := ((uI HU).own.lt c e).2
         omega
     have HVB := zH hvb
     have B4 := zH ((uI HB).trans (kA.mono (uI HB).size))
     have hs4 : w.heap.size ≤ (w3.alloc (.cells #[.int .i64 er, .int .i64 ef] 83)).heap.size := Nat.le_trans hs1 (uI B4).size
     have hs3 : w1.heap.size ≤ w3.heap.size := by have a := k3.size; have b := (uI K2).size; have c := (uI HB).size; omega
     obtain ⟨-, a3, c3, rfl, -⟩ := l3
     clear RD o3 k3 ka kA hvb HU K2 HGW
     go_wp2_with (at_builtin; (refine wpList_append_own_at _ rfl (.tmp 24) (.tmp 28) 70 rfl w1.heap.size 78 i0 (.agg #[.string ⟨#[]⟩, .slice none 0 0]) 2 40 Tryz.underlying70 hi hz0 hz1 hz2 rfl (by decide) _ _ _ rfl ((uI U4).own.alloc _) ⟨_, 0, none⟩ 1 1 [.string (sb (nmAt k)), .slice a3 ls.length c3] rfl rfl (two_c1 _ _ _ _ _ (by simp)) (by intro u hu; simp at hu; rcases hu with rfl | rfl <;> rfl) (by unfold maxLen; omega) (by omega) (by simp; omega) ?_; intro v5 w5 own5 grow5 _ at5; have N5 := zH (un_put ((uI U4).step (below_a _ _)) grow5 own5 at5 (Lies.step (uI L4) (below_a _ _)) (fun hz c hc => ⟨Nat.lt_of_lt_of_le ((uI HVB) hz c hc).1 (by simp), ((uI HVB) hz c hc).2⟩)); have K5 := zH (below_own ((uI B4).alloc (by have := (uI B4).size; omega) _) (by simp; omega) ((uI U4).own.alloc _) grow5); clear own5 grow5 at5))
     go_roundg (24 - (k + 1))
     case measure => omega
     case rel => exact ⟨k + 1, _, by omega, rfl, by go_num, N5, K5⟩
   · have hkI : ¬ (k : Int) < 24 := by omega
     have HKE := zH (show k = 24 by omega)
     go_wp2_with fail
     go_ret
     refine ⟨_, rfl, ⟨f, ?_⟩, btR (uI K1) (uI HB)⟩
     have := uI HU
     rw [uI HKE] at this
     exact this.low hs1
end Go.Proofs.YtlkoidkdeopgjaaGreatDoor
namespace Go.Proofs.YtlkoidkdeopgjaaGreatDoor
open Go.RowKit Go.Maps
set_option linter.unusedSimpArgs false
set_option linter.unusedVariables false
theorem own_new (u : World) (cs : Array Value) (T : TypeId) (s n : Nat) (h : cs.size = n * s) (hn : n ≤ maxLen) : (u.alloc (.cells cs T)).ownsRow u.heap.size T s (.slice (some ⟨u.heap.size, 0, none⟩) n n) n cs.toList := by
 refine ⟨by simpa using h, .inr ⟨u.heap.size, n, cs, rfl, Nat.le_refl _, heapNewR _ _, Nat.le_refl _, hn, h, ?_⟩⟩
 rw [← h]
 exact List.take_of_length_le (by simp)
theorem unL_len : unL.length = 24 := by unfold unL; rw [List.length_map, nmL_len]
theorem unL_at (j : Nat) (h : j < 24) : unL[j]? = some ⟨sb (nmAt j), lnAt j⟩ := by
 unfold unL lnAt nmAt
 rw [List.getElem?_map, List.getD_eq_getElem?_getD, List.getElem?_eq_getElem (show j < nmL.length by rw [nmL_len]; omega)]
 rfl
theorem uns_all {W : World} {B : Nat} {v x : Value} {f : Nat → Value} {nm : ByteArray} {ls : List Ln} (ho : W.ownsRow B 78 2 v 25 (ucs 24 f ++ [.string nm, x])) (hl : ∀ j, j < 24 → Lns W (f j) (lnAt j)) (hx : Lns W x ls) : Uns W v (unL ++ [⟨nm, ls⟩]) := by
 have hlen : (unL ++ [(⟨nm, ls⟩ : Un)]).length = 25 := by rw [List.length_append, unL_len]; rfl
 obtain ⟨-, ao, cap, rfl, h3, h4, -, h5⟩ := Lies.owned ho
 refine ⟨ao, cap, by rw [hlen], by rw [hlen]; unfold maxLen; omega, fun _ => ?_⟩
 obtain ⟨b, off, rfl, hb, hc⟩ := h5 (by omega)
 refine ⟨b, off, fun j => if j = 24 then x else f j, rfl, hb, fun j hj => ?_⟩
 rw [hlen] at hj
 have hul := ucs_len 24 f
 by_cases e : j = 24
 · subst e
   have e1 : (unL ++ [(⟨nm, ls⟩ : Un)])[24]? = some ⟨nm, ls⟩ := by rw [List.getElem?_append_right (by rw [unL_len]; omega), unL_len]; rfl
   have e2 : (unL ++ [(⟨nm, ls⟩ : Un)])[24]'(by rw [hlen]; omega) = ⟨nm, ls⟩ := by rw [List.getElem?_eq_getElem (by rw [hlen]; omega)] at e1; exact Option.some.inj e1
   rw [e2]
   refine ⟨?_, ?_, by simpa using hx⟩
   · rw [hc (24 * 2) (by omega), List.getElem?_append_right (by omega), hul]; rfl
   · rw [Nat.add_assoc, hc (24 * 2 + 1) (by omega), List.getElem?_append_right (by omega), hul]; rfl
 · have hj2 : j < 24 := by omega
   have e1 : (unL ++ [(⟨nm, ls⟩ : Un)])[j]? = some ⟨sb (nmAt j), lnAt j⟩ := by rw [List.getElem?_append_left (by rw [unL_len]; omega)]; exact unL_at j hj2
   have e2 : (unL ++ [(⟨nm, ls⟩ : Un)])[j]'(by rw [hlen]; omega) = ⟨sb (nmAt j), lnAt j⟩ := by rw [List.getElem?_eq_getElem (by rw [hlen]; omega)] at e1; exact Option.some.inj e1
   rw [e2]
   obtain ⟨q1, q2⟩ := ucs_at f 24 j hj2
   refine ⟨?_, ?_, by show Lns W (if j = 24 then x else f j) (lnAt j); rw [if_neg e]; exact hl j hj2⟩
   · rw [hc (j * 2) (by omega), List.getElem?_append_left (by omega)]; exact q1
   · rw [Nat.add_assoc, hc (j * 2 + 1) (by omega), List.getElem?_append_left (by omega)]; show _ = some (if j = 24 then x else f j); rw [if_neg e]; exact q2
theorem own_sliceR {w : World} {B e s n : Nat} {v : Value} {cs : List Value} (h : w.ownsRow B e s v n cs) : ∃ ao cap, v = .slice ao n cap := by
 rcases h.2 with ⟨hv, h0⟩ | ⟨g, cap, cur, hv, _⟩
 · exact ⟨none, 0, by rw [hv, h0]⟩
 · exact ⟨_, _, hv⟩
theorem main_list : (⟨#[109, 97, 105, 110]⟩ : ByteArray).toList = [109, 97, 105, 110] := by rw [ByteArray.toList_eq]
end Go.Proofs.YtlkoidkdeopgjaaGreatDoor
namespace Go.Proofs.YtlkoidkdeopgjaaGreatDoor
open Go.RowKit
set_option linter.unusedSimpArgs false
set_option linter.unusedVariables false
theorem cells_of_strs {H : Type} {enc : TypeId × Value → H} {P : Program} {w : World} {base : Nat} {sp : Nat → Bool} {held : Bool} {fuel : Nat} {t e : TypeId} {n : Nat} {cs : List Value} {ls : List (List UInt8)} {p : List MemPlace}
   (ht : P.underlying t = some (.array n e)) (he : P.underlying e = some .string) (hce : P.cellsOf e = 1) (hct : P.cellsOf t = n)
   (h : DataW.trod enc P w base sp held fuel t cs = some (.agg (ls.map fun l => .lit (.string l)), p)) : cs = ls.map fun l => Value.string (ba l) := by
 obtain ⟨xs, m, -, hx, hl, hxl, hat⟩ := DataW.trod_array ht h
 have hxs : xs.map (·.1) = ls.map fun l => (DataW.lit (.string l) : DataW H) := by
   have := congrArg Prod.fst hx
   simpa using this.symm
 have hll : ls.length = n := by
   have := congrArg List.length hxs
   simp at this; omega
 rw [hct] at hl
 apply List.ext_getElem?
 intro i
 by_cases hi : i < n
 · have h1 := hat i hi
   have hix : i < xs.length := by omega
   rw [List.getElem?_eq_getElem hix] at h1
   obtain ⟨s, hs, hv, -⟩ := DataW.trod_string he h1
   have h2 : cs[i]? = some (.string s) := by
     have := congrArg (·[0]?) hs
     simpa [hce, List.getElem?_take, List.getElem?_drop] using this
   have h3 : (xs.map (·.1))[i]? = some (DataW.lit (.string s.data.toList) : DataW H) := by
     rw [List.getElem?_map, List.getElem?_eq_getElem hix]; simp [hv]
   rw [hxs, List.getElem?_map, Option.map_eq_some_iff] at h3
   obtain ⟨l, hl1, hl2⟩ := h3
   simp only [DataW.lit.injEq, Lit.string.injEq] at hl2
   rw [h2, List.getElem?_map, hl1]
   simp [ba, hl2]
 · rw [List.getElem?_eq_none (by omega), List.getElem?_eq_none (by simp; omega)]
theorem iface_of_trod {H : Type} {enc : TypeId × Value → H} {P : Program} {w : World} {base : Nat} {sp : Nat → Bool} {held : Bool} {fuel : Nat} {t : TypeId} {cs : List Value} {ms : Array (String × TypeId)} {nm : String} {d : DataW H} {p : List MemPlace}
   (ht : P.underlying t = some (.interface ms)) (h : DataW.trod enc P w base sp held fuel t cs = some (.iface nm d, p)) : ∃ te pe, cs = [.iface te pe] := by
 cases fuel with
 | zero => simp [DataW.trod] at h
 | succ m =>
   unfold DataW.trod at h
   rw [ht] at h
   split at h <;> simp_all
theorem heap_of_var {P : Program} {w : World} {n : String} {g : Nat} {cs : Array Value} (hg : P.globalNamed n = some g) (h : w.var? P n = some cs) : ∃ t fr, w.heap[g]? = some (.cells cs t fr) := by
 simp only [World.var?, hg, Option.bind_some] at h
 split at h
 · rename_i c t fr hh
   injection h with h
   subst h
   exact ⟨_, _, hh⟩
 · cases h
theorem gPow : Tryz.prog.globalNamed "internal/strconv.uint64pow10" = some 3 := by kernel_rfl
theorem gRng : Tryz.prog.globalNamed "strconv.ErrRange" = some 9 := by kernel_rfl
theorem gSyn : Tryz.prog.globalNamed "strconv.ErrSyntax" = some 8 := by kernel_rfl
theorem gKw : Tryz.prog.globalNamed "pairlegal/asm.kindWords" = some 1 := by kernel_rfl
theorem tPow : (Tryz.prog.globals[3]?).map (·.type) = some 255 := by kernel_rfl
theorem tRng : (Tryz.prog.globals[9]?).map (·.type) = some 170 := by kernel_rfl
theorem tSyn : (Tryz.prog.globals[8]?).map (·.type) = some 170 := by kernel_rfl
theorem tKw : (Tryz.prog.globals[1]?).map (·.type) = some 176 := by kernel_rfl
theorem cU : Tryz.prog.cellsOf 22 = 1 := by kernel_rfl
theorem cS : Tryz.prog.cellsOf 9 = 1 := by kernel_rfl
theorem cP : Tryz.prog.cellsOf 255 = 20 := by kernel_rfl
theorem cK : Tryz.prog.cellsOf 176 = 33 := by kernel_rfl
theorem maxInt_open {W : World} (h : W.ShapedOpen Tryz.prog) : ∃ m, W.cell? ⟨2, 0, none⟩ = some (.int .i64 m) :=
 Go.Proofs.cell_of_shapedOpen_int (zero := #[.int .i64 0]) (t := 3) h (of_decide_eq_true (by kernel_rfl)) (by kernel_rfl) rfl (by kernel_rfl) (by kernel_rfl) Tryz.underlying3
theorem gl_of {L : List (String × DataW Unit)} {W : World} {n1 n2 : String} {d1 d2 : DataW Unit} (hL : laidMet Tryz.prog L W) (hsh : W.ShapedOpen Tryz.prog)
   (m1 : ("internal/strconv.uint64pow10", Lib.tabData .u64 Lib.pow10Tab) ∈ L) (m2 : ("strconv.ErrRange", .iface n1 d1) ∈ L) (m3 : ("strconv.ErrSyntax", .iface n2 d2) ∈ L) (m4 : ("pairlegal/asm.kindWords", .agg (kwL.map fun l => .lit (.string l))) ∈ L) : Gl W := by
 obtain ⟨g, t, cs, fuel, p, a1, a2, a3, a4⟩ := Lib.laidMet.reads hL m1
 obtain rfl := Option.some.inj (gPow.symm.trans a1)
 obtain rfl := Option.some.inj (tPow.symm.trans a2)
 obtain ⟨g, t, cs2, fuel2, p2, b1, b2, b3, b4⟩ := Lib.laidMet.reads hL m2
 obtain rfl := Option.some.inj (gRng.symm.trans b1)
 obtain rfl := Option.some.inj (tRng.symm.trans b2)
 obtain ⟨g, t, cs3, fuel3, p3, c1, c2, c3, c4⟩ := Lib.laidMet.reads hL m3
 obtain rfl := Option.some.inj (gSyn.symm.trans c1)
 obtain rfl := Option.some.inj (tSyn.symm.trans c2)
 obtain ⟨g, t, cs4, fuel4, p4, e1, e2, e3, e4⟩ := Lib.laidMet.reads hL m4
 obtain rfl := Option.some.inj (gKw.symm.trans e1)
 obtain rfl := Option.some.inj (tKw.symm.trans e2)
 obtain ⟨te, pe, h2⟩ := iface_of_trod Tryz.underlying170 b4
 obtain ⟨tf, pf, h3⟩ := iface_of_trod Tryz.underlying170 c4
 have h4 := cells_of_strs Tryz.underlying176 Tryz.underlying9 cS cK e4
 refine ⟨maxInt_open hsh, ⟨tf, pf, ?_⟩, ⟨te, pe, ?_⟩, ?_, ?_⟩
 · rw [World.var?_cell gSyn c3 0, ← Array.getElem?_toList, h3]; rfl
 · rw [World.var?_cell gRng b3 0, ← Array.getElem?_toList, h2]; rfl
 · unfold Lib.TabIs
   rw [a3, ← Lib.cells_of_tab Tryz.underlying255 Tryz.underlying22 cU cP a4]
 · obtain ⟨tk, fr, hh⟩ := heap_of_var gKw e3
   exact ⟨tk, fr, by rw [hh, ← h4]⟩
end Go.Proofs.YtlkoidkdeopgjaaGreatDoor
namespace Go.Proofs.YtlkoidkdeopgjaaGreatDoor
open Go.RowKit
set_option linter.unusedSimpArgs false
set_option linter.unusedVariables false
theorem gSz : Tryz.prog.globalNamed "pairlegal/rt.sizes" = some 0 := by kernel_rfl
theorem tSz : (Tryz.prog.globals[0]?).map (·.type) = some 121 := by kernel_rfl
theorem cI1 : Tryz.prog.cellsOf 3 = 1 := by kernel_rfl
theorem cS3 : Tryz.prog.cellsOf 121 = 3 := by kernel_rfl
theorem gz_of {L : List (String × DataW Unit)} {W : World} (hL : laidMet Tryz.prog L W) (m : ("pairlegal/rt.sizes", Lib.tabData .i64 [1, 2, 4]) ∈ L) : Gz W := by
 obtain ⟨g, t, cs, fuel, p, a1, a2, a3, a4⟩ := Lib.laidMet.reads hL m
 obtain rfl := Option.some.inj (gSz.symm.trans a1)
 obtain rfl := Option.some.inj (tSz.symm.trans a2)
 have h := Lib.cells_of_tab Tryz.underlying121 Tryz.underlying3 cI1 cS3 a4
 obtain ⟨tk, fr, hh⟩ := heap_of_var gSz a3
 have e : cs = #[.int .i64 1, .int .i64 2, .int .i64 4] := Array.ext' (by rw [h]; rfl)
 exact ⟨tk, fr, by rw [hh, e]⟩
end Go.Proofs.YtlkoidkdeopgjaaGreatDoor
