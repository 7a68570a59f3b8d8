/-
  asm.readInstr: the fields of a kind.
-/
import Derived.Test.YtodfjomglgmffaaGreatDoorRdR
namespace Go.Proofs.YtodfjomglgmffaaGreatDoor
open Go.RowKit Go.Maps
set_option linter.unusedSimpArgs false
set_option linter.unusedVariables false

/-- A line with one more field read. -/
def fldA (f : Fk) (x : Ln) (s : List UInt8) : Option Ln :=
  match f with
  | .d => (regA s).map fun n => ⟨x.lab, ⟨x.i.o, n, x.i.s, x.i.m⟩, x.ref⟩
  | .s => (regA s).map fun n => ⟨x.lab, ⟨x.i.o, x.i.d, n, x.i.m⟩, x.ref⟩
  | .i => immA x s
def lnZ : Ln := ⟨⟨#[]⟩, ⟨0, 0, 0, 0⟩, ⟨#[]⟩⟩
/-- Fields one by one, with commas between them. -/
def rdF : List Fk → List UInt8 → Bool → Ln → Ln × Int
  | [], _, more, x => if more = true then (lnZ, 5) else (x, 0)
  | f :: fs, rest, more, x =>
    if more = true then
      (match fldA f x (trimA (Lib.cut rest [44]).1) with
       | some y => rdF fs (Lib.cut rest [44]).2.1 (Lib.cut rest [44]).2.2 y
       | none => (lnZ, 2))
    else (lnZ, 5)
def insA (op : Int) (rest : List UInt8) : Ln × Int := rdF (fks op) rest (!rest.isEmpty) ⟨⟨#[]⟩, ⟨op, 0, 0, 0⟩, ⟨#[]⟩⟩
theorem rdF_none {f : Fk} {fs : List Fk} {rest : List UInt8} {x : Ln} : rdF (f :: fs) rest false x = (lnZ, 5) := by rw [rdF, if_neg (by simp)]
theorem rdF_bad {f : Fk} {fs : List Fk} {rest : List UInt8} {x : Ln} (h : fldA f x (trimA (Lib.cut rest [44]).1) = none) : rdF (f :: fs) rest true x = (lnZ, 2) := by rw [rdF, if_pos rfl, h]
theorem rdF_next {f : Fk} {fs : List Fk} {rest : List UInt8} {x y : Ln} (h : fldA f x (trimA (Lib.cut rest [44]).1) = some y) : rdF (f :: fs) rest true x = rdF fs (Lib.cut rest [44]).2.1 (Lib.cut rest [44]).2.2 y := by rw [rdF, if_pos rfl, h]
theorem trimA_len (s : List UInt8) : (trimA s).length ≤ s.length := by
  unfold trimA Lib.trimS Lib.trimLeftS Lib.trimRightS
  have h1 := (List.dropWhile_suffix (l := ((s.reverse.dropWhile ([32, 9].contains ·)).reverse)) ([32, 9].contains ·)).length_le
  have h2 := (List.dropWhile_suffix (l := s.reverse) ([32, 9].contains ·)).length_le
  simp only [List.length_reverse] at h1 h2
  exact Nat.le_trans h1 h2
theorem RdrL.kpt {w w' : World} {lb : Nat} {fs : List Fk} {vs : List Value} (h : RdrL w lb (fun _ => False) fs vs) (k : Kpt (fun b => b = lb) w w') : RdrL w' lb (fun _ => False) fs vs := ⟨h.1, fun j f hj => by
  obtain ⟨u, h1, h2⟩ := h.2 j f hj
  exact ⟨u, h1, h2.kpt k (fun _ _ _ hn => hn) (fun _ _ h => h)⟩⟩
theorem enters {f : FuncId} {fn : Func} (hf : Tryz.prog.funcs[f]? = some fn) (hn : (fn.name == "runtime.NumGoroutine") = false) (hb : fn.body.isNone = false) (args : Array Value) (w : World) : Sem.run Tryz.prog (callFunc f args) w = .ok (.enter f args) w := by
  have hn' : ¬ fn.name = "runtime.NumGoroutine" := by simpa using hn
  have hb' : ¬ fn.body = none := fun h => by rw [h] at hb; cases hb
  simp [callFunc, go_sem, hf, hn', hb']
/-- Any reader: its form, and what it does. -/
theorem rdr_form {w : World} {lb : Nat} {X : Nat → Prop} {f : Fk} {u : Value} (h : Rdr w lb X f u) : ∃ n b, u = .func (.func n) #[] #[.pointer (some ⟨b, 0, none⟩)] ∧ ∀ args w, Sem.run Tryz.prog (callFunc n args) w = .ok (.enter n args) w := by
  cases f with
  | d => obtain ⟨sb, pb, h1, -⟩ := h; exact ⟨_, _, h1, enters Tryz.func149 (by kernel_rfl) (by kernel_rfl)⟩
  | s => obtain ⟨sb, pb, h1, -⟩ := h; exact ⟨_, _, h1, enters Tryz.func149 (by kernel_rfl) (by kernel_rfl)⟩
  | i => obtain ⟨pb, h1, -⟩ := h; exact ⟨_, _, h1, enters Tryz.func152 (by kernel_rfl) (by kernel_rfl)⟩
theorem func_inj {n n' b b' : Nat} (h : Value.func (.func n) #[] #[.pointer (some ⟨b, 0, none⟩)] = .func (.func n') #[] #[.pointer (some ⟨b', 0, none⟩)]) : n = n' ∧ b = b' := by
  injection h with h1 h2 h3
  injection h1 with h1
  simp at h3
  exact ⟨h1, h3⟩
theorem rdr_call (f : Fk) (s : ByteArray) (lb n b : Nat) (x : Ln) (w : World) (G : Gl w) (hB : LnBox w lb x) (hs : s.size ≤ 1048576) (hr : Rdr w lb (fun _ => False) f (.func (.func n) #[] #[.pointer (some ⟨b, 0, none⟩)])) : Calls Tryz.prog n #[.string s, .pointer (some ⟨b, 0, none⟩)] w fun e w' => e = .returned (.bool (fldA f x s.data.toList).isSome) ∧ (∀ y, fldA f x s.data.toList = some y → LnBox w' lb y) ∧ Kpt (fun k => k = lb) w w' := by
  cases f with
  | d =>
    obtain ⟨sb, pb, h1, h2, h3, -⟩ := hr
    obtain ⟨rfl, rfl⟩ := func_inj h1
    refine (regD_any s b pb lb x w G hB h3 h2 hs).mono ?_
    rintro e w' ⟨h4, h5, h6⟩
    unfold fldA
    refine ⟨by rw [h4]; simp, fun y hy => ?_, h6⟩
    obtain ⟨n, hn, rfl⟩ := Option.map_eq_some_iff.1 hy
    exact h5 n hn
  | s =>
    obtain ⟨sb, pb, h1, h2, h3, -⟩ := hr
    obtain ⟨rfl, rfl⟩ := func_inj h1
    refine (regS_any s b pb lb x w G hB h3 h2 hs).mono ?_
    rintro e w' ⟨h4, h5, h6⟩
    unfold fldA
    refine ⟨by rw [h4]; simp, fun y hy => ?_, h6⟩
    obtain ⟨n, hn, rfl⟩ := Option.map_eq_some_iff.1 hy
    exact h5 n hn
  | i =>
    obtain ⟨pb, h1, h3, -⟩ := hr
    obtain ⟨rfl, rfl⟩ := func_inj h1
    exact immR_any s b lb x w G hB h3 hs
/-- What a row of results says whose first cell block holds a line. -/
theorem resL {fn : Func} {p q : Tmp} (h : fn.results = #[.cell p 40, .tmp q]) {w : World} {b : Nat} {x : Ln} {n : Int} {tmps : Array Value} (hB : LnBox w b x) (hp : tmps.getD p undef = .pointer (some ⟨b, 0, none⟩)) (hq : tmps.getD q undef = .int .i64 n) : (results fn tmps).run Tryz.prog w = .ok (.tuple #[aggL x, .int .i64 n]) w := by
  have hp' : tmps[p]?.getD undef = .pointer (some ⟨b, 0, none⟩) := by simpa using hp
  have hq' : tmps[q]?.getD undef = .int .i64 n := by simpa using hq
  have r0 := hB.2.1 0 _ rfl
  have r1 := hB.2.1 1 _ rfl
  have r2 := hB.2.1 2 _ rfl
  have r3 := hB.2.1 3 _ rfl
  have r4 := hB.2.1 4 _ rfl
  have r5 := hB.2.1 5 _ rfl
  simp [results, h, hp', hq', go_sem, aggL, r0, r1, r2, r3, r4, r5]
theorem LnBox.all {w : World} {b : Nat} {x y : Ln} (h : LnBox w b x) : LnBox ((((((w.setCell ⟨b, 0, none⟩ (.string y.lab)).setCell ⟨b, 1, none⟩ (.int .i64 y.i.o)).setCell ⟨b, 2, none⟩ (.int .i64 y.i.d)).setCell ⟨b, 3, none⟩ (.int .i64 y.i.s)).setCell ⟨b, 4, none⟩ (.int .i64 y.i.m)).setCell ⟨b, 5, none⟩ (.string y.ref)) b y :=
  ((((((Box.set h (by simp)).set (by simp)).set (by simp)).set (by simp)).set (by simp)).set (by simp))
theorem below_all {w u : World} {B b : Nat} {v0 v1 v2 v3 v4 v5 : Value} (h : Below B w u) (hb : B ≤ b) : Below B w ((((((u.setCell ⟨b, 0, none⟩ v0).setCell ⟨b, 1, none⟩ v1).setCell ⟨b, 2, none⟩ v2).setCell ⟨b, 3, none⟩ v3).setCell ⟨b, 4, none⟩ v4).setCell ⟨b, 5, none⟩ v5) :=
  (((((h.setCell hb _).setCell hb _).setCell hb _).setCell hb _).setCell hb _).setCell hb _
set_option maxRecDepth 100000 in
set_option maxHeartbeats 4000000 in
theorem readInstr_any (op : Int) (rest : ByteArray) (w : World) (G : Gl w) (hs : rest.size ≤ 1048576) : Calls Tryz.prog 44 #[.int .i64 op, .string rest] w fun e w' => e = .returned (.tuple #[aggL (insA op rest.data.toList).1, .int .i64 (insA op rest.data.toList).2]) ∧ Below w.heap.size w w' := by
  have hst : rest.toList = rest.data.toList := ByteArray.toList_eq rest
  have K0 := bt (below_a w (.cells #[.string ⟨#[]⟩, .int .i64 0, .int .i64 0, .int .i64 0, .int .i64 0, .string ⟨#[]⟩] 40)) (below_a _ (.cells #[.string ⟨#[]⟩, .int .i64 op, .int .i64 0, .int .i64 0, .int .i64 0, .string ⟨#[]⟩] 40))
  have BR := hideI ((Box.new w #[.string ⟨#[]⟩, .int .i64 0, .int .i64 0, .int .i64 0, .int .i64 0, .string ⟨#[]⟩] 40).step (below_a _ (.cells #[.string ⟨#[]⟩, .int .i64 op, .int .i64 0, .int .i64 0, .int .i64 0, .string ⟨#[]⟩] 40)))
  have BL := Box.new (w.alloc (.cells #[.string ⟨#[]⟩, .int .i64 0, .int .i64 0, .int .i64 0, .int .i64 0, .string ⟨#[]⟩] 40)) #[.string ⟨#[]⟩, .int .i64 op, .int .i64 0, .int .i64 0, .int .i64 0, .string ⟨#[]⟩] 40
  simp only [World.size_alloc] at BL
  have HBL : Hid (LnBox ((w.alloc (.cells #[.string ⟨#[]⟩, .int .i64 0, .int .i64 0, .int .i64 0, .int .i64 0, .string ⟨#[]⟩] 40)).alloc (.cells #[.string ⟨#[]⟩, .int .i64 op, .int .i64 0, .int .i64 0, .int .i64 0, .string ⟨#[]⟩] 40)) (w.heap.size + 1) ⟨⟨#[]⟩, ⟨op, 0, 0, 0⟩, ⟨#[]⟩⟩) := BL
  have RA := readers_any (w.heap.size + 1) ⟨⟨#[]⟩, ⟨op, 0, 0, 0⟩, ⟨#[]⟩⟩ _ (unhideI HBL)
  unfold FrRet at RA
  dsimp only at RA
  generalize hR : insA op rest.data.toList = R
  have HR : Hid (rdF ((fks op).drop 0) rest.data.toList (!rest.data.toList.isEmpty) ⟨⟨#[]⟩, ⟨op, 0, 0, 0⟩, ⟨#[]⟩⟩ = R) := hR
  generalize fks op = fs at *
  clear hR BL
  have HK0 := hideI K0
  have HG := hideI G
  clear K0 G
  go_enter Tryz.func44, Tryz.ntmps44
  go_wp2_with fail
  generalize (w.alloc (.cells #[.string ⟨#[]⟩, .int .i64 0, .int .i64 0, .int .i64 0, .int .i64 0, .string ⟨#[]⟩] 40)).alloc (.cells #[.string ⟨#[]⟩, .int .i64 op, .int .i64 0, .int .i64 0, .int .i64 0, .string ⟨#[]⟩] 40) = w2 at *
  refine RA.mono ?_
  rintro e w3 ⟨vr, vs, rfl, l3, r3, k3, o3⟩
  obtain ⟨-, ro, rc, rfl, hrc1, hrc2, -, hrow⟩ := id l3
  have HROW := hideI hrow
  have L3 := hideI (unhideI HBL |>.step k3)
  have R3 := hideI r3
  have B3 := hideI ((unhideI BR).step k3)
  have K3 := hideI (bt (unhideI HK0) k3)
  have s2 := (unhideI HBL).1
  have s3 := k3.size
  have hO3 := hideI o3
  clear l3 r3 k3 o3 hrow RA BR HBL HK0
  have hvl := (unhideI R3).1
  go_wp2_with fail
  go_loopg [1, 7, 18] vs.length (fun g vt vm ii wr => ∃ (k : Nat) (t : ByteArray) (more : Bool) (x : Ln), k ≤ vs.length ∧ g = vs.length - k ∧ ii = .int .i64 k ∧ vt = .string t ∧ vm = .bool more ∧ t.size ≤ 1048576 ∧ Hid (LnBox wr (w.heap.size + 1) x) ∧ Hid (Kpt (fun b => b = w.heap.size + 1) w3 wr) ∧ Hid (rdF (fs.drop k) t.data.toList more x = R))
  case atStart => exact ⟨0, rest, _, ⟨⟨#[]⟩, ⟨op, 0, 0, 0⟩, ⟨#[]⟩⟩, Nat.zero_le _, rfl, rfl, rfl, rfl, hs, L3, Kpt.refl _ _, by show rdF _ _ (!rest.data.isEmpty) _ = R; rw [← Array.isEmpty_toList]; exact HR⟩
  case round =>
    obtain ⟨k, t, more, x, hk, hg, rfl, rfl, rfl, ht, HL, HK, HE⟩ := hrel
    clear HR L3
    have BR := hideI ((unhideI B3).kpt (unhideI HK) (by omega))
    have KW := hideI ((unhideI K3).trans ((unhideI HK).below (B := w.heap.size) (by have := (unhideI K3).size; omega) (fun b hb => by omega)))
    have r0 := (unhideI BR).2.1 0 _ rfl
    have r1 := (unhideI BR).2.1 1 _ rfl
    have r2 := (unhideI BR).2.1 2 _ rfl
    have r3 := (unhideI BR).2.1 3 _ rfl
    have r4 := (unhideI BR).2.1 4 _ rfl
    have r5 := (unhideI BR).2.1 5 _ rfl
    have r6 := (unhideI BR).2.2
    by_cases hlt : k < vs.length
    · have hkf : k < fs.length := by omega
      have hkm : rc ≤ maxLen := hrc2
      unfold maxLen at hkm
      have hd := drop_at fs k hkf
      obtain ⟨u, hu, hru⟩ := (unhideI R3).2 k _ (List.getElem?_eq_getElem hkf)
      have RU := hideI (hru.kpt (Y := fun _ => False) (unhideI HK) (fun _ _ _ hn => hn) (fun _ _ h => h))
      obtain ⟨n, b, rfl, hcf⟩ := rdr_form hru
      have HCF := hideI hcf
      clear hcf
      rw [hd] at HE
      generalize (fs[k]'hkf) = f at *
      obtain ⟨rb, roff, rfl, hrbl, hrcell⟩ := (unhideI HROW) (by omega)
      have cu := hrcell k (by omega)
      rw [hu] at cu
      have hrbn : rb ≠ w.heap.size + 1 := by have := (unhideI hO3) rb rfl; omega
      rw [← (unhideI HK).cell hrbl hrbn] at cu
      have hki : (k : Int) < (vs.length : Int) := by omega
      clear hrcell hru hu hd
      by_cases hm : more = true
      · subst hm
        have Gr := (unhideI HG).step (unhideI KW)
        obtain ⟨m, hmx⟩ := Gr.mx
        have C := Tryz.strings_Cut t ⟨#[44]⟩ m wr (by omega) hmx
        have hl := cut_len t.data.toList [44]
        have hl2 : t.data.toList.length = t.size := by simp
        have hl3 := trimA_len (Lib.cut t.data.toList [44]).1
        have TR := fun w => trimmed_any (ba (Lib.cut t.data.toList [44]).1) w (by rw [ba_size]; omega)
        have RC := fun (w' : World) (kk : Below wr.heap.size wr w') => rdr_call f (ba (trimA (Lib.cut t.data.toList [44]).1)) (w.heap.size + 1) n b x w' (Gr.step kk) ((unhideI HL).step kk) (by rw [ba_size]; omega) ((unhideI RU).kpt (Y := fun _ => False) (Kpt.of (X := fun b => b = w.heap.size + 1) kk) (fun _ _ _ hn => hn) (fun _ _ h => h))
        rw [ba_data] at TR
        simp only [ba_data] at RC
        have HE1 : Hid (fldA f x (trimA (Lib.cut t.data.toList [44]).1) = none → R = (lnZ, 2)) := fun h => by rw [← unhideI HE]; exact rdF_bad h
        have HE2 : Hid (∀ y, fldA f x (trimA (Lib.cut t.data.toList [44]).1) = some y → rdF (fs.drop (k + 1)) (Lib.cut t.data.toList [44]).2.1 (Lib.cut t.data.toList [44]).2.2 y = R) := fun y h => by rw [← unhideI HE]; exact (rdF_next h).symm
        clear HE Gr hmx hl3
        unfold ba at TR RC
        generalize (Lib.cut t.data.toList [44]) = c at *
        generalize trimA c.1 = tc at *
        go_wp2_with fail
        refine C.mono ?_
        rintro e w4 ⟨rfl, dn, rfl⟩
        clear C
        go_wp2_with fail
        refine (TR _).mono ?_
        rintro e w5 ⟨rfl, k5⟩
        have k45 : Below wr.heap.size wr w5 := ⟨k5.os, k5.tape, k5.output, k5.size, k5.block⟩
        clear TR k5
        go_wp2_with fail
        rw [unhideI HCF, Oper.upon_enter]
        refine (RC _ k45).mono ?_
        rintro e w6 ⟨rfl, h6, k6⟩
        have K6 := hideI k6
        have H6 := hideI h6
        have K5 := hideI k45
        clear RC h6 k6 k45
        rcases hf : fldA f x tc with _ | y
        · have hRs := unhideI HE1 hf
          subst hRs
          simp only [Option.isSome_none]
          have B6 := ((unhideI BR).step (unhideI K5)).kpt (unhideI K6) (by omega)
          have y0 := B6.2.1 0 _ rfl
          have y1 := B6.2.1 1 _ rfl
          have y2 := B6.2.1 2 _ rfl
          have y3 := B6.2.1 3 _ rfl
          have y4 := B6.2.1 4 _ rfl
          have y5 := B6.2.1 5 _ rfl
          have y6 := B6.2.2
          have KW6 := ((unhideI KW).trans ((unhideI K5).mono (unhideI KW).size)).trans ((unhideI K6).below (B := w.heap.size) (by have := (unhideI KW).size; have := (unhideI K5).size; omega) (fun b hb => by omega))
          go_wp2_with fail
          exact bodyPost_ret (resL Tryz.results44 (LnBox.all (x := lnZ) (y := lnZ) B6) rfl rfl) rfl ⟨rfl, below_all KW6 (Nat.le_refl _)⟩
        · have L6 := unhideI H6 y hf
          have E6 := unhideI HE2 y hf
          simp only [Option.isSome_some]
          go_wp2_with fail
          go_roundg (vs.length - (k + 1))
          case measure => omega
          case rel => exact ⟨k + 1, ⟨c.2.1.toArray⟩, c.2.2, y, by omega, rfl, by go_num, rfl, rfl, by show c.2.1.length ≤ 1048576; omega, L6, ((unhideI HK).trans (Z := fun b => b = w.heap.size + 1) (Kpt.of (X := fun b => b = w.heap.size + 1) (unhideI K5)) (fun _ h => h) (fun _ h _ => h)).trans (unhideI K6) (fun _ h => h) (fun _ h _ => h), E6⟩
      · replace hm : more = false := by simpa using hm
        subst hm
        have hRs : R = (lnZ, 5) := by rw [← unhideI HE]; exact rdF_none
        subst hRs
        clear HE
        go_wp2_with fail
        exact bodyPost_ret (resL Tryz.results44 (LnBox.all (x := lnZ) (y := lnZ) (unhideI BR)) rfl rfl) rfl ⟨rfl, below_all (unhideI KW) (Nat.le_refl _)⟩
    · have hke : k = fs.length := by omega
      rw [hke, List.drop_length] at HE
      by_cases hm : more = true
      · subst hm
        have hRs : R = (lnZ, 5) := by rw [← unhideI HE]; rfl
        subst hRs
        clear HE
        go_wp2_with fail
        exact bodyPost_ret (resL Tryz.results44 (LnBox.all (x := lnZ) (y := lnZ) (unhideI BR)) rfl rfl) rfl ⟨rfl, below_all (unhideI KW) (Nat.le_refl _)⟩
      · replace hm : more = false := by simpa using hm
        subst hm
        have hRs : R = (x, 0) := by rw [← unhideI HE]; rfl
        subst hRs
        clear HE
        have l0 := (unhideI HL).2.1 0 _ rfl
        have l1 := (unhideI HL).2.1 1 _ rfl
        have l2 := (unhideI HL).2.1 2 _ rfl
        have l3 := (unhideI HL).2.1 3 _ rfl
        have l4 := (unhideI HL).2.1 4 _ rfl
        have l5 := (unhideI HL).2.1 5 _ rfl
        go_wp2_with fail
        exact bodyPost_ret (resL Tryz.results44 (LnBox.all (x := lnZ) (y := x) (unhideI BR)) rfl rfl) rfl ⟨rfl, below_all (unhideI KW) (Nat.le_refl _)⟩
end Go.Proofs.YtodfjomglgmffaaGreatDoor
