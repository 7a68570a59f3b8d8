/-
  RdS, RdL, RdA.
-/
import Derived.Test.YtlkoidkdeopgjaaGreatDoordb
set_option maxHeartbeats 4000000
set_option maxRecDepth 100000
namespace Go.Proofs.YtlkoidkdeopgjaaGreatDoor
open Go.RowKit Go.Maps
set_option linter.unusedSimpArgs false
set_option linter.unusedVariables false
def fldA (f : Fk) (x : Ln) (s : List UInt8) : Option Ln :=
 match f with
 | .d => (regA s).map fun n => ⟨x.lab, ⟨x.i.o, n, x.i.s, x.i.m⟩, x.ref⟩
 | .s => (regA s).map fun n => ⟨x.lab, ⟨x.i.o, x.i.d, n, x.i.m⟩, x.ref⟩
 | .i => immA x s
def lnZ : Ln := ⟨⟨#[]⟩, ⟨0, 0, 0, 0⟩, ⟨#[]⟩⟩
def rdF : List Fk → List UInt8 → Bool → Ln → Ln × Int
 | [], _, more, x => if more = true then (lnZ, 5) else (x, 0)
 | f :: fs, rest, more, x =>
   if more = true then
     (match fldA f x (trimA (Lib.cut rest [44]).1) with
      | some y => rdF fs (Lib.cut rest [44]).2.1 (Lib.cut rest [44]).2.2 y
      | none => (lnZ, 2))
   else (lnZ, 5)
def insA (op : Int) (rest : List UInt8) : Ln × Int := rdF (fks op) rest (!rest.isEmpty) ⟨⟨#[]⟩, ⟨op, 0, 0, 0⟩, ⟨#[]⟩⟩
theorem rdF_none {f : Fk} {fs : List Fk} {rest : List UInt8} {x : Ln} : rdF (f :: fs) rest false x = (lnZ, 5) := by rw [rdF, if_neg (by simp)]
theorem rdF_bad {f : Fk} {fs : List Fk} {rest : List UInt8} {x : Ln} (h : fldA f x (trimA (Lib.cut rest [44]).1) = none) : rdF (f :: fs) rest true x = (lnZ, 2) := by rw [rdF, if_pos rfl, h]
theorem rdF_next {f : Fk} {fs : List Fk} {rest : List UInt8} {x y : Ln} (h : fldA f x (trimA (Lib.cut rest [44]).1) = some y) : rdF (f :: fs) rest true x = rdF fs (Lib.cut rest [44]).2.1 (Lib.cut rest [44]).2.2 y := by rw [rdF, if_pos rfl, h]
theorem trimA_len (s : List UInt8) : (trimA s).length ≤ s.length := by
 unfold trimA Lib.trimS Lib.trimLeftS Lib.trimRightS
 have h1 := (List.dropWhile_suffix (l := ((s.reverse.dropWhile ([32, 9].contains ·)).reverse)) ([32, 9].contains ·)).length_le
 have h2 := (List.dropWhile_suffix (l := s.reverse) ([32, 9].contains ·)).length_le
 simp only [List.length_reverse] at h1 h2
 exact Nat.le_trans h1 h2
theorem RdrL.kpt {w w' : World} {lb : Nat} {fs : List Fk} {vs : List Value} (h : RdrL w lb (fun _ => False) fs vs) (k : Kpt (fun b => b = lb) w w') : RdrL w' lb (fun _ => False) fs vs := ⟨h.1, fun j f hj => by
 obtain ⟨u, h1, h2⟩ := h.2 j f hj
 exact ⟨u, h1, h2.kpt k (fun _ _ _ hn => hn) (fun _ _ h => h)⟩⟩
theorem enters {f : FuncId} {fn : Func} (hf : Tryz.prog.funcs[f]? = some fn) (hn : (fn.name == "runtime.NumGoroutine") = false) (hb : fn.body.isNone = false) (args : Array Value) (w : World) : Sem.run Tryz.prog (callFunc f args) w = .ok (.enter f args) w := by
 have hn' : ¬ fn.name = "runtime.NumGoroutine" := by simpa using hn
 have hb' : ¬ fn.body = none := fun h => by rw [h] at hb; cases hb
 simp [callFunc, go_sem, hf, hn', hb']
theorem rdr_form {w : World} {lb : Nat} {X : Nat → Prop} {f : Fk} {u : Value} (h : Rdr w lb X f u) : ∃ n b, u = .func (.func n) #[] #[.pointer (some ⟨b, 0, none⟩)] ∧ ∀ args w, Sem.run Tryz.prog (callFunc n args) w = .ok (.enter n args) w := by
 cases f with
 | d => obtain ⟨sb, pb, h1, -⟩ := h; exact ⟨_, _, h1, enters Tryz.func226 (by kernel_rfl) (by kernel_rfl)⟩
 | s => obtain ⟨sb, pb, h1, -⟩ := h; exact ⟨_, _, h1, enters Tryz.func226 (by kernel_rfl) (by kernel_rfl)⟩
 | i => obtain ⟨pb, h1, -⟩ := h; exact ⟨_, _, h1, enters Tryz.func229 (by kernel_rfl) (by kernel_rfl)⟩
theorem func_inj {n n' b b' : Nat} (h : Value.func (.func n) #[] #[.pointer (some ⟨b, 0, none⟩)] = .func (.func n') #[] #[.pointer (some ⟨b', 0, none⟩)]) : n = n' ∧ b = b' := by
 injection h with h1 h2 h3
 injection h1 with h1
 simp at h3
 exact ⟨h1, h3⟩
theorem rdr_call (f : Fk) (s : ByteArray) (lb n b : Nat) (x : Ln) (w : World) (G : Gl w) (hB : LnBox w lb x) (hs : s.size ≤ 1048576) (hr : Rdr w lb (fun _ => False) f (.func (.func n) #[] #[.pointer (some ⟨b, 0, none⟩)])) : Calls Tryz.prog n #[.string s, .pointer (some ⟨b, 0, none⟩)] w fun e w' => e = .returned (.bool (fldA f x s.data.toList).isSome) ∧ (∀ y, fldA f x s.data.toList = some y → LnBox w' lb y) ∧ Kpt (fun k => k = lb) w w' := by
 cases f with
 | d =>
   obtain ⟨sb, pb, h1, h2, h3, -⟩ := hr
   obtain ⟨rfl, rfl⟩ := func_inj h1
   refine (regD_any s b pb lb x w G hB h3 h2 hs).mono ?_
   rintro e w' ⟨h4, h5, h6⟩
   unfold fldA
   refine ⟨by rw [h4]; simp, fun y hy => ?_, h6⟩
   obtain ⟨n, hn, rfl⟩ := Option.map_eq_some_iff.1 hy
   exact h5 n hn
 | s =>
   obtain ⟨sb, pb, h1, h2, h3, -⟩ := hr
   obtain ⟨rfl, rfl⟩ := func_inj h1
   refine (regS_any s b pb lb x w G hB h3 h2 hs).mono ?_
   rintro e w' ⟨h4, h5, h6⟩
   unfold fldA
   refine ⟨by rw [h4]; simp, fun y hy => ?_, h6⟩
   obtain ⟨n, hn, rfl⟩ := Option.map_eq_some_iff.1 hy
   exact h5 n hn
 | i =>
   obtain ⟨pb, h1, h3, -⟩ := hr
   obtain ⟨rfl, rfl⟩ := func_inj h1
   exact immR_any s b lb x w G hB h3 hs
theorem resL {fn : Func} {p q : Tmp} (h : fn.results = #[.cell p 75, .tmp q]) {w : World} {b : Nat} {x : Ln} {n : Int} {tmps : Array Value} (hB : LnBox w b x) (hp : tmps.getD p undef = .pointer (some ⟨b, 0, none⟩)) (hq : tmps.getD q undef = .int .i64 n) : (results fn tmps).run Tryz.prog w = .ok (.tuple #[aggL x, .int .i64 n]) w := by
 have hp' : tmps[p]?.getD undef = .pointer (some ⟨b, 0, none⟩) := by simpa using hp
 have hq' : tmps[q]?.getD undef = .int .i64 n := by simpa using hq
 have r0 := hB.2.1 0 _ rfl
 have r1 := hB.2.1 1 _ rfl
 have r2 := hB.2.1 2 _ rfl
 have r3 := hB.2.1 3 _ rfl
 have r4 := hB.2.1 4 _ rfl
 have r5 := hB.2.1 5 _ rfl
 simp [results, h, hp', hq', go_sem, aggL, r0, r1, r2, r3, r4, r5]
theorem LnBox.all {w : World} {b : Nat} {x y : Ln} (h : LnBox w b x) : LnBox ((((((w.setCell ⟨b, 0, none⟩ (.string y.lab)).setCell ⟨b, 1, none⟩ (.int .i64 y.i.o)).setCell ⟨b, 2, none⟩ (.int .i64 y.i.d)).setCell ⟨b, 3, none⟩ (.int .i64 y.i.s)).setCell ⟨b, 4, none⟩ (.int .i64 y.i.m)).setCell ⟨b, 5, none⟩ (.string y.ref)) b y :=
 ((((((Box.set h (by simp)).set (by simp)).set (by simp)).set (by simp)).set (by simp)).set (by simp))
theorem below_all {w u : World} {B b : Nat} {v0 v1 v2 v3 v4 v5 : Value} (h : Below B w u) (hb : B ≤ b) : Below B w ((((((u.setCell ⟨b, 0, none⟩ v0).setCell ⟨b, 1, none⟩ v1).setCell ⟨b, 2, none⟩ v2).setCell ⟨b, 3, none⟩ v3).setCell ⟨b, 4, none⟩ v4).setCell ⟨b, 5, none⟩ v5) :=
 (((((h.setCell hb _).setCell hb _).setCell hb _).setCell hb _).setCell hb _).setCell hb _
theorem readInstr_any (op : Int) (rest : ByteArray) (w : World) (G : Gl w) (hs : rest.size ≤ 1048576) : Calls Tryz.prog 114 #[.int .i64 op, .string rest] w fun e w' => e = .returned (.tuple #[aggL (insA op rest.data.toList).1, .int .i64 (insA op rest.data.toList).2]) ∧ Below w.heap.size w w' := by
 have hst : rest.toList = rest.data.toList := ByteArray.toList_eq rest
 have K0 := bt (below_a w (.cells #[.string ⟨#[]⟩, .int .i64 0, .int .i64 0, .int .i64 0, .int .i64 0, .string ⟨#[]⟩] 75)) (below_a _ (.cells #[.string ⟨#[]⟩, .int .i64 op, .int .i64 0, .int .i64 0, .int .i64 0, .string ⟨#[]⟩] 75))
 have BR := zH ((Box.new w #[.string ⟨#[]⟩, .int .i64 0, .int .i64 0, .int .i64 0, .int .i64 0, .string ⟨#[]⟩] 75).step (below_a _ (.cells #[.string ⟨#[]⟩, .int .i64 op, .int .i64 0, .int .i64 0, .int .i64 0, .string ⟨#[]⟩] 75)))
 have BL := Box.new (w.alloc (.cells #[.string ⟨#[]⟩, .int .i64 0, .int .i64 0, .int .i64 0, .int .i64 0, .string ⟨#[]⟩] 75)) #[.string ⟨#[]⟩, .int .i64 op, .int .i64 0, .int .i64 0, .int .i64 0, .string ⟨#[]⟩] 75
 simp only [World.size_alloc] at BL
 have HBL : Hid (LnBox ((w.alloc (.cells #[.string ⟨#[]⟩, .int .i64 0, .int .i64 0, .int .i64 0, .int .i64 0, .string ⟨#[]⟩] 75)).alloc (.cells #[.string ⟨#[]⟩, .int .i64 op, .int .i64 0, .int .i64 0, .int .i64 0, .string ⟨#[]⟩] 75)) (w.heap.size + 1) ⟨⟨#[]⟩, ⟨op, 0, 0, 0⟩, ⟨#[]⟩⟩) := BL
 have RA := readers_any (w.heap.size + 1) ⟨⟨#[]⟩, ⟨op, 0, 0, 0⟩, ⟨#[]⟩⟩ _ (uI HBL)
 unfold FrRet at RA
 dsimp only at RA
 generalize hR : insA op rest.data.toList = R
 have HR : Hid (rdF ((fks op).drop 0) rest.data.toList (!rest.data.toList.isEmpty) ⟨⟨#[]⟩, ⟨op, 0, 0, 0⟩, ⟨#[]⟩⟩ = R) := hR
 generalize fks op = fs at *
 clear hR BL
 have HK0 := zH K0
 have HG := zH G
 clear K0 G
 go_enter Tryz.func114, Tryz.ntmps114
 go_wp2_with fail
 generalize (w.alloc (.cells #[.string ⟨#[]⟩, .int .i64 0, .int .i64 0, .int .i64 0, .int .i64 0, .string ⟨#[]⟩] 75)).alloc (.cells #[.string ⟨#[]⟩, .int .i64 op, .int .i64 0, .int .i64 0, .int .i64 0, .string ⟨#[]⟩] 75) = w2 at *
 refine RA.mono ?_
 rintro e w3 ⟨vr, vs, rfl, l3, r3, k3, o3⟩
 obtain ⟨-, ro, rc, rfl, hrc1, hrc2, -, hrow⟩ := id l3
 have HROW := zH hrow
 have L3 := zH (uI HBL |>.step k3)
 have R3 := zH r3
 have B3 := zH ((uI BR).step k3)
 have K3 := zH (bt (uI HK0) k3)
 have s2 := (uI HBL).1
 have s3 := k3.size
 have hO3 := zH o3
 clear l3 r3 k3 o3 hrow RA BR HBL HK0
 have hvl := (uI R3).1
 go_wp2_with fail
 go_loopg [1, 7, 18] vs.length (fun g vt vm ii wr => ∃ (k : Nat) (t : ByteArray) (more : Bool) (x : Ln), k ≤ vs.length ∧ g = vs.length - k ∧ ii = .int .i64 k ∧ vt = .string t ∧ vm = .bool more ∧ t.size ≤ 1048576 ∧ Hid (LnBox wr (w.heap.size + 1) x) ∧ Hid (Kpt (fun b => b = w.heap.size + 1) w3 wr) ∧ Hid (rdF (fs.drop k) t.data.toList more x = R))
 case atStart => exact ⟨0, rest, _, ⟨⟨#[]⟩, ⟨op, 0, 0, 0⟩, ⟨#[]⟩⟩, Nat.zero_le _, rfl, rfl, rfl, rfl, hs, L3, Kpt.refl _ _, by show rdF _ _ (!rest.data.isEmpty) _ = R; rw [← Array.isEmpty_toList]; exact HR⟩
 case round =>
   obtain ⟨k, t, more, x, hk, hg, rfl, rfl, rfl, ht, HL, HK, HE⟩ := hrel
   clear HR L3
   have BR := zH ((uI B3).kpt (uI HK) (by omega))
   have KW := zH ((uI K3).trans ((uI HK).below (B := w.heap.size) (by have := (uI K3).size; omega) (fun b hb => by omega)))
   have r0 := (uI BR).2.1 0 _ rfl
   have r1 := (uI BR).2.1 1 _ rfl
   have r2 := (uI BR).2.1 2 _ rfl
   have r3 := (uI BR).2.1 3 _ rfl
   have r4 := (uI BR).2.1 4 _ rfl
   have r5 := (uI BR).2.1 5 _ rfl
   have r6 := (uI BR).2.2
   by_cases hlt : k < vs.length
   · have hkf : k < fs.length := by omega
     have hkm : rc ≤ maxLen := hrc2
     unfold maxLen at hkm
     have hd := drop_at fs k hkf
     obtain ⟨u, hu, hru⟩ := (uI R3).2 k _ (List.getElem?_eq_getElem hkf)
     have RU := zH (hru.kpt (Y := fun _ => False) (uI HK) (fun _ _ _ hn => hn) (fun _ _ h => h))
     obtain ⟨n, b, rfl, hcf⟩ := rdr_form hru
     have HCF := zH hcf
     clear hcf
     rw [hd] at HE
     generalize (fs[k]'hkf) = f at *
     obtain ⟨rb, roff, rfl, hrbl, hrcell⟩ := (uI HROW) (by omega)
     have cu := hrcell k (by omega)
     rw [hu] at cu
     have hrbn : rb ≠ w.heap.size + 1 := by have := (uI hO3) rb rfl; omega
     rw [← (uI HK).cell hrbl hrbn] at cu
     have hki : (k : Int) < (vs.length : Int) := by omega
     clear hrcell hru hu hd
     by_cases hm : more = true
     · subst hm
       have Gr := (uI HG).step (uI KW)
       obtain ⟨m, hmx⟩ := Gr.mx
       have C := Tryz.strings_Cut t ⟨#[44]⟩ m wr (by omega) hmx
       have hl := cut_len t.data.toList [44]
       have hl2 : t.data.toList.length = t.size := by simp
       have hl3 := trimA_len (Lib.cut t.data.toList [44]).1
       have TR := fun w => trimmed_any (ba (Lib.cut t.data.toList [44]).1) w (by rw [ba_size]; omega)
       have RC := fun (w' : World) (kk : Below wr.heap.size wr w') => rdr_call f (ba (trimA (Lib.cut t.data.toList [44]).1)) (w.heap.size + 1) n b x w' (Gr.step kk) ((uI HL).step kk) (by rw [ba_size]; omega) ((uI RU).kpt (Y := fun _ => False) (Kpt.of (X := fun b => b = w.heap.size + 1) kk) (fun _ _ _ hn => hn) (fun _ _ h => h))
       rw [ba_data] at TR
       simp only [ba_data] at RC
       have HE1 : Hid (fldA f x (trimA (Lib.cut t.data.toList [44]).1) = none → R = (lnZ, 2)) := fun h => by rw [← uI HE]; exact rdF_bad h
       have HE2 : Hid (∀ y, fldA f x (trimA (Lib.cut t.data.toList [44]).1) = some y → rdF (fs.drop (k + 1)) (Lib.cut t.data.toList [44]).2.1 (Lib.cut t.data.toList [44]).2.2 y = R) := fun y h => by rw [← uI HE]; exact (rdF_next h).symm
       clear HE Gr hmx hl3
       unfold ba at TR RC
       generalize (Lib.cut t.data.toList [44]) = c at *
       generalize trimA c.1 = tc at *
       go_wp2_with fail
       refine C.mono ?_
       rintro e w4 ⟨rfl, dn, rfl⟩
       clear C
       go_wp2_with fail
       refine (TR _).mono ?_
       rintro e w5 ⟨rfl, k5⟩
       have k45 : Below wr.heap.size wr w5 := ⟨k5.os, k5.tape, k5.output, k5.size, k5.block⟩
       clear TR k5
       go_wp2_with fail
       rw [uI HCF, Oper.upon_enter]
       refine (RC _ k45).mono ?_
       rintro e w6 ⟨rfl, h6, k6⟩
       have K6 := zH k6
       have H6 := zH h6
       have K5 := zH k45
       clear RC h6 k6 k45
       rcases hf : fldA f x tc with _ | y
       · have hRs := uI HE1 hf
         subst hRs
         simp only [Option.isSome_none]
         have B6 := ((uI BR).step (uI K5)).kpt (uI K6) (by omega)
         have y0 := B6.2.1 0 _ rfl
         have y1 := B6.2.1 1 _ rfl
         have y2 := B6.2.1 2 _ rfl
         have y3 := B6.2.1 3 _ rfl
         have y4 := B6.2.1 4 _ rfl
         have y5 := B6.2.1 5 _ rfl
         have y6 := B6.2.2
         have KW6 := ((uI KW).trans ((uI K5).mono (uI KW).size)).trans ((uI K6).below (B := w.heap.size) (by have := (uI KW).size; have := (uI K5).size; omega) (fun b hb => by omega))
         go_wp2_with fail
         exact bodyPost_ret (resL Tryz.results114 (LnBox.all (x := lnZ) (y := lnZ) B6) rfl rfl) rfl ⟨rfl, below_all KW6 (Nat.le_refl _)⟩
       · have L6 := uI H6 y hf
         have E6 := uI HE2 y hf
         simp only [Option.isSome_some]
         go_wp2_with fail
         go_roundg (vs.length - (k + 1))
         case measure => omega
         case rel => exact ⟨k + 1, ⟨c.2.1.toArray⟩, c.2.2, y, by omega, rfl, by go_num, rfl, rfl, by show c.2.1.length ≤ 1048576; omega, L6, ((uI HK).trans (Z := fun b => b = w.heap.size + 1) (Kpt.of (X := fun b => b = w.heap.size + 1) (uI K5)) (fun _ h => h) (fun _ h _ => h)).trans (uI K6) (fun _ h => h) (fun _ h _ => h), E6⟩
     · replace hm : more = false := by simpa using hm
       subst hm
       have hRs : R = (lnZ, 5) := by rw [← uI HE]; exact rdF_none
       subst hRs
       clear HE
       go_wp2_with fail
       exact bodyPost_ret (resL Tryz.results114 (LnBox.all (x := lnZ) (y := lnZ) (uI BR)) rfl rfl) rfl ⟨rfl, below_all (uI KW) (Nat.le_refl _)⟩
   · have hke : k = fs.length := by omega
     rw [hke, List.drop_length] at HE
     by_cases hm : more = true
     · subst hm
       have hRs : R = (lnZ, 5) := by rw [← uI HE]; rfl
       subst hRs
       clear HE
       go_wp2_with fail
       exact bodyPost_ret (resL Tryz.results114 (LnBox.all (x := lnZ) (y := lnZ) (uI BR)) rfl rfl) rfl ⟨rfl, below_all (uI KW) (Nat.le_refl _)⟩
     · replace hm : more = false := by simpa using hm
       subst hm
       have hRs : R = (x, 0) := by rw [← uI HE]; rfl
       subst hRs
       clear HE
       have l0 := (uI HL).2.1 0 _ rfl
       have l1 := (uI HL).2.1 1 _ rfl
       have l2 := (uI HL).2.1 2 _ rfl
       have l3 := (uI HL).2.1 3 _ rfl
       have l4 := (uI HL).2.1 4 _ rfl
       have l5 := (uI HL).2.1 5 _ rfl
       go_wp2_with fail
       exact bodyPost_ret (resL Tryz.results114 (LnBox.all (x := lnZ) (y := x) (uI BR)) rfl rfl) rfl ⟨rfl, below_all (uI KW) (Nat.le_refl _)⟩
end Go.Proofs.YtlkoidkdeopgjaaGreatDoor
namespace Go.Proofs.YtlkoidkdeopgjaaGreatDoor
open Go.RowKit Go.Maps
set_option linter.unusedSimpArgs false
set_option linter.unusedVariables false
def linA (s : List UInt8) : Ln × Int :=
 if Lib.hasSuffix s [58] = true then
   (if nm (ba (Lib.trimSuffix s [58])) = true then (⟨ba (Lib.trimSuffix s [58]), ⟨0, 0, 0, 0⟩, ⟨#[]⟩⟩, 0) else (lnZ, 7))
 else if hasA kdA (Lib.cut s [32]).1 = true then insA (atA kdA (Lib.cut s [32]).1) (Lib.cut s [32]).2.1
 else (lnZ, 1)
theorem readLine_any (s : ByteArray) (b : Nat) (w : World) (G : Gl w) (hM : Mp w b kdA) (hs : s.size ≤ 1048576) : Calls Tryz.prog 79 #[.string s, .map (some b)] w fun e w' => e = .returned (.tuple #[aggL (linA s.data.toList).1, .int .i64 (linA s.data.toList).2]) ∧ Below w.heap.size w w' := by
 have hl : s.data.toList.length = s.size := by simp
 have CS := fun w => Tryz.strings_CutSuffix s ⟨#[58]⟩ w (by omega)
 generalize hR : linA s.data.toList = R
 unfold linA at hR
 have HR := zH hR
 clear hR
 have BR := Box.new w #[.string ⟨#[]⟩, .int .i64 0, .int .i64 0, .int .i64 0, .int .i64 0, .string ⟨#[]⟩] 75
 have K0 := below_a w (.cells #[.string ⟨#[]⟩, .int .i64 0, .int .i64 0, .int .i64 0, .int .i64 0, .string ⟨#[]⟩] 75)
 have HB := zH BR
 have HK := zH K0
 have HG := zH (G.step K0)
 have HM := zH (hM.step K0)
 clear BR K0 G hM
 go_enter Tryz.func79, Tryz.ntmps79
 go_wp2_with fail
 refine (CS _).mono ?_
 rintro e w1 ⟨rfl, rfl⟩
 clear CS
 generalize w.alloc (.cells #[.string ⟨#[]⟩, .int .i64 0, .int .i64 0, .int .i64 0, .int .i64 0, .string ⟨#[]⟩] 75) = w1 at *
 have r0 := (uI HB).2.1 0 _ rfl
 have r1 := (uI HB).2.1 1 _ rfl
 have r2 := (uI HB).2.1 2 _ rfl
 have r3 := (uI HB).2.1 3 _ rfl
 have r4 := (uI HB).2.1 4 _ rfl
 have r5 := (uI HB).2.1 5 _ rfl
 have r6 := (uI HB).2.2
 by_cases h1 : Lib.hasSuffix s.data.toList [58] = true
 · have N := fun w => named_any (ba (Lib.trimSuffix s.data.toList [58])) w
   have KE := fun (h : (ba (Lib.trimSuffix s.data.toList [58])).size ≤ 281474976710656) w => kept_any (ba (Lib.trimSuffix s.data.toList [58])) w h
   have HR1 := uI HR
   rw [if_pos h1] at HR1
   clear HR
   have hba : ba (Lib.trimSuffix s.data.toList [58]) = ⟨(Lib.trimSuffix s.data.toList [58]).toArray⟩ := rfl
   rw [hba] at N KE HR1
   generalize (Lib.trimSuffix s.data.toList [58]).toArray = nb at *
   by_cases h2 : nm ⟨nb⟩ = true
   · rw [if_pos h2] at HR1
     subst HR1
     have KN := KE (Nat.le_trans (nm_size h2).1 (by decide))
     clear KE
     go_wp2_with fail
     refine (N _).mono ?_
     rintro e w2 ⟨rfl, rfl⟩
     rw [h2]
     clear N
     go_wp2_with fail
     refine (KN _).mono ?_
     rintro e w3 ⟨rfl, k3⟩
     have B3 := (uI HB).step k3
     have y0 := B3.2.1 0 _ rfl
     have y1 := B3.2.1 1 _ rfl
     have y2 := B3.2.1 2 _ rfl
     have y3 := B3.2.1 3 _ rfl
     have y4 := B3.2.1 4 _ rfl
     have y5 := B3.2.1 5 _ rfl
     have y6 := B3.2.2
     have KW := zH (bt (uI HK) k3)
     clear KN k3 r0 r1 r2 r3 r4 r5 r6
     go_wp2_with fail
     exact bodyPost_ret (resL Tryz.results79 (LnBox.all (x := lnZ) (y := ⟨⟨nb⟩, ⟨0, 0, 0, 0⟩, ⟨#[]⟩⟩) B3) rfl rfl) rfl ⟨rfl, below_all (uI KW) (Nat.le_refl _)⟩
   · replace h2 : nm ⟨nb⟩ = false := by simpa using h2
     rw [if_neg (by rw [h2]; simp)] at HR1
     subst HR1
     go_wp2_with fail
     refine (N _).mono ?_
     rintro e w2 ⟨rfl, rfl⟩
     rw [h2]
     clear N KE
     go_wp2_with fail
     exact bodyPost_ret (resL Tryz.results79 (LnBox.all (x := lnZ) (y := lnZ) (uI HB)) rfl rfl) rfl ⟨rfl, below_all (uI HK) (Nat.le_refl _)⟩
 · have HR1 := uI HR
   rw [if_neg h1] at HR1
   clear HR
   replace h1 : Lib.hasSuffix s.data.toList [58] = false := by simpa using h1
   obtain ⟨m, hmx⟩ := (uI HG).mx
   have C := Tryz.strings_Cut s ⟨#[32]⟩ m w1 (by omega) hmx
   have hl1 := cut_len s.data.toList [32]
   generalize (Lib.cut s.data.toList [32]) = c at *
   have RI := fun w G => readInstr_any (atA kdA c.1) ⟨c.2.1.toArray⟩ w G (by show c.2.1.length ≤ _; omega)
   have hsz : (⟨c.1.toArray⟩ : ByteArray).size ≤ maxLen := by show c.1.length ≤ _; unfold maxLen; omega
   have htl : (⟨c.1.toArray⟩ : ByteArray).toList = c.1 := ba_list _
   by_cases h2 : hasA kdA c.1 = true
   · rw [if_pos h2] at HR1
     have RI2 : ∀ w, Gl w → Calls Tryz.prog 114 #[.int .i64 (atA kdA c.1), .string ⟨c.2.1.toArray⟩] w fun e w' => e = .returned (.tuple #[aggL R.1, .int .i64 R.2]) ∧ Below w.heap.size w w' := fun w G => by
       have := RI w G
       rw [show (⟨c.2.1.toArray⟩ : ByteArray).data.toList = c.2.1 from ba_data _, HR1] at this
       exact this
     clear RI HR1
     go_wp2_with fail
     refine C.mono ?_
     rintro e w2 ⟨rfl, dn, rfl⟩
     have M2 := zH ((uI HM).step (⟨rfl, rfl, rfl, Nat.le_refl _, fun _ _ => rfl⟩ : Below w1.heap.size w1 (w1.drewN dn)))
     have K2 : Below w1.heap.size w1 (w1.drewN dn) := ⟨rfl, rfl, rfl, Nat.le_refl _, fun _ _ => rfl⟩
     have G2 := (uI HG).step K2
     go_wp2_with (at_lookup; refine wpList_look_ok rfl (.tmp 33) (.tmp 34) rfl b kdA rfl (uI M2) _ rfl hsz ?_; rw [htl, h2])
     refine (RI2 _ G2).mono ?_
     rintro e w3 ⟨rfl, k3⟩
     have K3 := bt K2 k3
     have B3 := (uI HB).step K3
     have y0 := B3.2.1 0 _ rfl
     have y1 := B3.2.1 1 _ rfl
     have y2 := B3.2.1 2 _ rfl
     have y3 := B3.2.1 3 _ rfl
     have y4 := B3.2.1 4 _ rfl
     have y5 := B3.2.1 5 _ rfl
     have y6 := B3.2.2
     have KW := zH (bt (uI HK) K3)
     clear RI2 k3 K3 G2 K2 C r0 r1 r2 r3 r4 r5 r6
     obtain ⟨x, n⟩ := R
     unfold aggL
     dsimp only
     go_wp2_with fail
     exact bodyPost_ret (resL Tryz.results79 (LnBox.all (x := lnZ) (y := x) B3) rfl rfl) rfl ⟨rfl, below_all (uI KW) (Nat.le_refl _)⟩
   · replace h2 : hasA kdA c.1 = false := by simpa using h2
     rw [if_neg (by rw [h2]; simp)] at HR1
     subst HR1
     clear RI
     go_wp2_with fail
     refine C.mono ?_
     rintro e w2 ⟨rfl, dn, rfl⟩
     have K2 : Below w1.heap.size w1 (w1.drewN dn) := ⟨rfl, rfl, rfl, Nat.le_refl _, fun _ _ => rfl⟩
     have M2 := zH ((uI HM).step K2)
     have B3 := (uI HB).step K2
     have y0 := B3.2.1 0 _ rfl
     have y1 := B3.2.1 1 _ rfl
     have y2 := B3.2.1 2 _ rfl
     have y3 := B3.2.1 3 _ rfl
     have y4 := B3.2.1 4 _ rfl
     have y5 := B3.2.1 5 _ rfl
     have y6 := B3.2.2
     have KW := zH (bt (uI HK) K2)
     clear K2 C r0 r1 r2 r3 r4 r5 r6
     go_wp2_with (at_lookup; refine wpList_look_ok rfl (.tmp 33) (.tmp 34) rfl b kdA rfl (uI M2) _ rfl hsz ?_; rw [htl, h2])
     exact bodyPost_ret (resL Tryz.results79 (LnBox.all (x := lnZ) (y := lnZ) B3) rfl rfl) rfl ⟨rfl, below_all (uI KW) (Nat.le_refl _)⟩
end Go.Proofs.YtlkoidkdeopgjaaGreatDoor
namespace Go.Proofs.YtlkoidkdeopgjaaGreatDoor
open Go.RowKit Go.Maps
set_option linter.unusedSimpArgs false
set_option linter.unusedVariables false
def rdT : Nat → List UInt8 → Nat → List Ln → List Ln × Int × Int
 | 0, _, _, acc => (acc, 0, 0)
 | g + 1, t, n, acc =>
   if t = [] then (acc, 0, 0)
   else if rmkA (Lib.cut t [10]).1 = [] then rdT g (Lib.cut t [10]).2.1 (n + 1) acc
   else if (linA (rmkA (Lib.cut t [10]).1)).2 = 0 then rdT g (Lib.cut t [10]).2.1 (n + 1) (acc ++ [(linA (rmkA (Lib.cut t [10]).1)).1])
   else ([], (linA (rmkA (Lib.cut t [10]).1)).2, (n : Int))
def readA (t : List UInt8) : List Ln × Int × Int :=
 if 1048576 < t.length then ([], 4, 0) else if 40000 < lcA t then ([], 5, 0) else rdT t.length t 0 []
theorem rdT_nil (g n : Nat) (acc : List Ln) : rdT g [] n acc = (acc, 0, 0) := by cases g <;> simp [rdT]
theorem rdT_skip {g n : Nat} {t : List UInt8} {acc : List Ln} (h : t ≠ []) (h1 : rmkA (Lib.cut t [10]).1 = []) : rdT (g + 1) t n acc = rdT g (Lib.cut t [10]).2.1 (n + 1) acc := by rw [rdT, if_neg h, if_pos h1]
theorem rdT_line {g n : Nat} {t : List UInt8} {acc : List Ln} (h : t ≠ []) (h1 : rmkA (Lib.cut t [10]).1 ≠ []) (h2 : (linA (rmkA (Lib.cut t [10]).1)).2 = 0) : rdT (g + 1) t n acc = rdT g (Lib.cut t [10]).2.1 (n + 1) (acc ++ [(linA (rmkA (Lib.cut t [10]).1)).1]) := by rw [rdT, if_neg h, if_neg h1, if_pos h2]
theorem rdT_bad {g n : Nat} {t : List UInt8} {acc : List Ln} (h : t ≠ []) (h1 : rmkA (Lib.cut t [10]).1 ≠ []) (h2 : (linA (rmkA (Lib.cut t [10]).1)).2 ≠ 0) : rdT (g + 1) t n acc = ([], (linA (rmkA (Lib.cut t [10]).1)).2, (n : Int)) := by rw [rdT, if_neg h, if_neg h1, if_neg h2]
theorem cut_less {t : List UInt8} {c : UInt8} (h : t ≠ []) : (Lib.cut t [c]).2.1.length < t.length := by
 have := List.length_pos_iff.2 h
 unfold Lib.cut; split
 · simp; omega
 · simpa using this
theorem rmkA_len (s : List UInt8) : (rmkA s).length ≤ s.length := Nat.le_trans (trimA_len _) (cut_len s [59]).1
theorem Tryz.infoLine : (Tryz.prog.info? 75).map (fun i => (i.zero, i.size, i.bytes)) = some (some (.agg #[.string ⟨#[]⟩, .int .i64 0, .int .i64 0, .int .i64 0, .int .i64 0, .string ⟨#[]⟩]), 6, 64) := by kernel_rfl
theorem six_c1 (u : World) (x : Ln) (T : TypeId) (B : Nat) (hB : B = u.heap.size) : ∀ j y, (cellsL x)[j]? = some y → (u.alloc (.cells #[.string x.lab, .int .i64 x.i.o, .int .i64 x.i.d, .int .i64 x.i.s, .int .i64 x.i.m, .string x.ref] T)).cell? ((⟨B, 0, none⟩ : Addr).add j) = some y := by
 subst hB
 unfold cellsL
 intro j x hj
 match j, hj with
 | 0, hj => simp at hj; subst hj; simp [Addr.add]
 | 1, hj => simp at hj; subst hj; simp [Addr.add]
 | 2, hj => simp at hj; subst hj; simp [Addr.add]
 | 3, hj => simp at hj; subst hj; simp [Addr.add]
 | 4, hj => simp at hj; subst hj; simp [Addr.add]
 | 5, hj => simp at hj; subst hj; simp [Addr.add]
theorem six_c2 (x : Ln) : ∀ u ∈ cellsL x, u.oneCell' = true := by intro u hu; simp [cellsL] at hu; rcases hu with rfl | rfl | rfl | rfl | rfl | rfl <;> rfl
theorem own_snocL {w : World} {B : Nat} {v : Value} {l : List Ln} {i : Ln} {n : Nat} {cs : List Value} (h : w.ownsRow B 75 6 v n cs) (e : cs = (l ++ [i]).flatMap cellsL) (hn : n = l.length + 1) : w.ownsRow B 75 6 v (l ++ [i]).length ((l ++ [i]).flatMap cellsL) := by
 have : (l ++ [i]).length = n := by rw [hn]; simp
 rw [← e, this]; exact h
theorem read_any (s : ByteArray) (w : World) (G : Gl w) : Calls Tryz.prog 61 #[.string s] w fun e w' => ∃ v', e = .returned (.tuple #[v', .agg #[.int .i64 (readA s.data.toList).2.1, .int .i64 (readA s.data.toList).2.2]]) ∧ Lns w' v' (readA s.data.toList).1 ∧ (∀ k, v'.ownBlock = some k → w.heap.size ≤ k) ∧ Below w.heap.size w w' := by
 have hl : s.data.toList.length = s.size := by simp
 by_cases h1 : 1048576 < s.size
 · have hR : readA s.data.toList = ([], 4, 0) := by unfold readA; rw [if_pos (by omega)]
   rw [hR]
   have h1' : (1048576 : Int) < (s.size : Int) := by omega
   go_enter Tryz.func61, Tryz.ntmps61
   go_wp2_with fail
   exact bodyPost_ret (v := .tuple #[.slice none 0 0, .agg #[.int .i64 4, .int .i64 0]]) (by simp [results, Tryz.results61, go_sem]) rfl ⟨_, rfl, Lies.nil _ _, (fun _ h => by cases h), (by repeat (first | exact below_a _ _ | refine Below.setCell ?_ (by first | exact Nat.le_refl _ | (simp; done) | omega | (simp; omega)) _ | refine Below.alloc ?_ (by first | (simp; done) | omega | (simp; omega)) _))⟩
 have h1' : ¬ (1048576 : Int) < (s.size : Int) := by omega
 have LC := fun w => lineCount_any s w (by omega)
 by_cases h2 : 40000 < lcA s.data.toList
 · have hR : readA s.data.toList = ([], 5, 0) := by unfold readA; rw [if_neg (by omega), if_pos h2]
   rw [hR]
   generalize lcA s.data.toList = n at *
   go_enter Tryz.func61, Tryz.ntmps61
   go_wp2_with fail
   refine (LC _).mono ?_
   rintro e w1 ⟨rfl, rfl⟩
   clear LC
   go_wp2_with fail
   exact bodyPost_ret (v := .tuple #[.slice none 0 0, .agg #[.int .i64 5, .int .i64 0]]) (by simp [results, Tryz.results61, go_sem]) rfl ⟨_, rfl, Lies.nil _ _, (fun _ h => by cases h), (by repeat (first | exact below_a _ _ | refine Below.setCell ?_ (by first | exact Nat.le_refl _ | (simp; done) | omega | (simp; omega)) _ | refine Below.alloc ?_ (by first | (simp; done) | omega | (simp; omega)) _))⟩
 have hR : readA s.data.toList = rdT s.data.toList.length s.data.toList 0 [] := by unfold readA; rw [if_neg (by omega), if_neg h2]
 rw [hR]
 clear hR
 generalize hR2 : rdT s.data.toList.length s.data.toList 0 [] = R
 have HR := zH hR2.symm
 clear hR2
 generalize lcA s.data.toList = n at *
 have G1 := G.step (below_a w (.cells #[.int .i64 0, .int .i64 0] 83))
 have KI := kinds_any _ G1
 obtain ⟨i0, hi, hz0, hz1, hz2⟩ := info_parts Tryz.infoLine
 go_enter Tryz.func61, Tryz.ntmps61
 go_wp2_with fail
 refine (LC _).mono ?_
 rintro e w1 ⟨rfl, rfl⟩
 clear LC
 go_wp2_with fail
 refine KI.mono ?_
 rintro e w2 ⟨mb, rfl, hmb, hM, k2⟩
 simp only [World.size_alloc] at hmb k2
 have HK := zH (seen k2)
 have HB := zH ((Box.new w #[.int .i64 0, .int .i64 0] 83).step (by rw [World.size_alloc]; exact k2))
 have hw2 : w.heap.size < w2.heap.size := by have := k2.size; rw [World.size_alloc] at this; omega
 have HG := zH (G.step (uI HK))
 have HM := zH hM
 clear hM k2 G G1 KI
 go_wp2_with fail
 go_loopg [0, 5, 6] s.size (fun g vt vo vi wr => ∃ (t : ByteArray) (k : Nat) (acc : List Ln), vt = .string t ∧ vi = .int .i64 k ∧ t.size ≤ g ∧ k + t.size ≤ 1048576 ∧ acc.length ≤ k ∧ Hid (wr.ownsRow w2.heap.size 75 6 vo acc.length (acc.flatMap cellsL)) ∧ Hid (Below w2.heap.size w2 wr) ∧ Hid (R = rdT g t.data.toList k acc))
 case atStart => exact ⟨s, 0, [], rfl, rfl, Nat.le_refl _, by omega, Nat.le_refl _, World.ownsRow_nil _ _ _ _, Below.refl _ _, by rw [← hl]; exact HR⟩
 case round =>
   obtain ⟨t, k, acc, rfl, rfl, hg, hk, ha, HO, HW, HE⟩ := hrel
   clear HR
   have hlt : t.data.toList.length = t.size := by simp
   have BW := zH ((uI HB).step (uI HW))
   have KW := zH (bt (uI HK) (uI HW))
   obtain ⟨f0, f1⟩ := (uI BW).at2
   have f2 := (uI BW).2.2
   by_cases hne : t.data.toList = []
   · have hem : t.toList.isEmpty = true := by rw [ByteArray.toList_eq, hne]; rfl
     obtain rfl : R = (acc, 0, 0) := by rw [uI HE, hne, rdT_nil]
     clear HE
     go_wp2_with fail
     refine bodyPost_ret (v := .tuple #[u5, .agg #[.int .i64 0, .int .i64 0]]) (by simp [results, Tryz.results61, go_sem, f0, f1, f2]) rfl ⟨_, rfl, ?_, (fun c h => by have := ((uI HO).lt c h).1; omega), (by repeat (first | exact uI KW | refine Below.setCell ?_ (by first | exact Nat.le_refl _ | (simp; done) | omega | (simp; omega)) _ | refine Below.alloc ?_ (by first | (simp; done) | omega | (simp; omega)) _))⟩
     exact Lies.owned (ownsRow_setCell_below (ownsRow_setCell_below (uI HO) (by simp; omega) _) (by simp; omega) _)
   · have hem : t.toList.isEmpty = false := by rw [ByteArray.toList_eq]; simpa using hne
     have hpos : 0 < t.size := by rw [← hlt]; exact List.length_pos_iff.2 hne
     obtain ⟨g', rfl⟩ : ∃ g', gk = g' + 1 := ⟨gk - 1, by omega⟩
     have Gr := (uI HG).step (uI HW)
     obtain ⟨m, hmx⟩ := Gr.mx
     have C := Tryz.strings_Cut t ⟨#[10]⟩ m wr (by omega) hmx
     have hc1 := cut_len t.data.toList [10]
     have hc2 := cut_less (c := 10) hne
     have hc3 := rmkA_len (Lib.cut t.data.toList [10]).1
     have RM := fun w G => remark_any ⟨(Lib.cut t.data.toList [10]).1.toArray⟩ w G (by show (Lib.cut t.data.toList [10]).1.length < _; omega)
     have hda : (⟨(Lib.cut t.data.toList [10]).1.toArray⟩ : ByteArray).data.toList = (Lib.cut t.data.toList [10]).1 := ba_data _
     rw [hda] at RM
     clear hda
     have E1 := zH (fun h => rdT_skip (g := g') (n := k) (acc := acc) hne h)
     have E2 := zH (fun h h2 => rdT_line (g := g') (n := k) (acc := acc) hne h h2)
     have E3 := zH (fun h h2 => rdT_bad (g := g') (n := k) (acc := acc) hne h h2)
     generalize (Lib.cut t.data.toList [10]) = c at *
     generalize rmkA c.1 = rl at *
     go_wp2_with fail
     refine C.mono ?_
     rintro e w3 ⟨rfl, dn, rfl⟩
     clear C
     have K3 : Below wr.heap.size wr (wr.drewN dn) := ⟨rfl, rfl, rfl, Nat.le_refl _, fun _ _ => rfl⟩
     have G3 := Gr.step K3
     go_wp2_with fail
     refine (RM _ G3).mono ?_
     rintro e w4 ⟨rfl, k4⟩
     have K4 := bt K3 k4
     have HK4 := zH K4
     have G4 := zH (Gr.step K4)
     clear RM k4 K3 G3 Gr hmx K4
     by_cases hr : rl = []
     · have hE := uI E1 hr
       subst hr
       have hbn : ba [] = ⟨#[]⟩ := rfl
       rw [hbn]
       have HW2 := zH ((uI HW).trans ((uI HK4).mono (uI HW).size))
       have HO2 := zH (own_step (uI HO) (uI HK4))
       go_wp2_with fail
       go_roundg g'
       case measure => omega
       case rel => exact ⟨⟨c.2.1.toArray⟩, k + 1, acc, rfl, by go_num, by show c.2.1.length ≤ _; omega, by show k + 1 + c.2.1.length ≤ _; omega, by omega, HO2, HW2, by rw [uI HE]; exact hE⟩
     · have hbe : (ba rl).toList.isEmpty = false := by rw [ba_list]; simpa using hr
       have HL := zH (fun w5 (kk : Below wr.heap.size wr w5) => readLine_any (ba rl) mb w5 ((uI HG).step ((uI HW).trans (kk.mono (uI HW).size))) ((uI HM).step ((uI HW).trans (kk.mono (uI HW).size))) (by rw [ba_size]; omega))
       rw [ba_data] at HL
       generalize linA rl = q at *
       obtain ⟨x, n2⟩ := q
       generalize ba rl = line at *
       go_wp2_with fail
       refine (uI HL w4 (uI HK4)).mono ?_
       rintro e w5 ⟨rfl, k5⟩
       unfold aggL
       dsimp only
       have K5 := zH (bt (uI HK4) k5)
       have HW5 := zH ((uI HW).trans ((uI K5).mono (uI HW).size))
       have hw5 : w2.heap.size ≤ w5.heap.size := (uI HW5).size
       clear k5 HL f0 f1 f2
       by_cases hn : n2 = 0
       · subst hn
         have hE := uI E2 hr rfl
         have HO5 := zH (own_step (uI HO) (uI K5))
         go_wp2_with (at_builtin; refine wpList_append_own _ rfl (.tmp 44) (.tmp 46) 76 rfl w2.heap.size 75 i0 (.agg #[.string ⟨#[]⟩, .int .i64 0, .int .i64 0, .int .i64 0, .int .i64 0, .string ⟨#[]⟩]) 6 64 Tryz.underlying76 hi hz0 hz1 hz2 rfl (by decide) _ _ _ rfl (((uI HO5).alloc _).alloc _) ⟨_, 0, none⟩ 1 1 (cellsL x) rfl rfl (six_c1 _ x _ _ (by simp)) (six_c2 x) (by unfold maxLen; omega) (by omega) (by simp; omega) ?_; intro v3 w3 own3 grow3 _; have b3 := zH (below_own (((uI HW5).alloc (by omega) _).alloc (by simp; omega) _) (by simp; omega) (((uI HO5).alloc _).alloc _) grow3); have O3 := zH own3; clear own3 grow3)
         go_roundg g'
         case measure => omega
         case rel => exact ⟨⟨c.2.1.toArray⟩, k + 1, acc ++ [x], rfl, by go_num, by show c.2.1.length ≤ _; omega, by show k + 1 + c.2.1.length ≤ _; omega, by simp; omega, own_snocL (uI O3) (by simp) rfl, b3, by rw [uI HE]; exact hE⟩
       · have hE := uI E3 hr hn
         have B5 := (uI BW).step (uI K5)
         obtain ⟨y0, y1⟩ := B5.at2
         have y2 := B5.2.2
         have y4 : w.heap.size < w5.heap.size := by omega
         have KW5 := zH (bt (uI KW) (uI K5))
         obtain rfl : R = ([], n2, (k : Int)) := by rw [uI HE]; exact hE
         have hn0 : (n2 == 0) = false := by simpa using hn
         clear HE hE B5
         go_wp2_with fail
         exact bodyPost_ret (v := .tuple #[.slice none 0 0, .agg #[.int .i64 n2, .int .i64 k]]) (by simp [results, Tryz.results61, go_sem, y0, y1, y2, y4]) rfl ⟨_, rfl, Lies.nil _ _, (fun _ h => by cases h), (by repeat (first | exact uI KW5 | refine Below.setCell ?_ (by first | exact Nat.le_refl _ | (simp; done) | omega | (simp; omega)) _ | refine Below.alloc ?_ (by first | (simp; done) | omega | (simp; omega)) _))⟩
end Go.Proofs.YtlkoidkdeopgjaaGreatDoor
