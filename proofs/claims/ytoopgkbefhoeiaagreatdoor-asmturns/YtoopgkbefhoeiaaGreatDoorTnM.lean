/-
  What is written is read, and what is read is right: plain lists, no program in sight; then pairlegalref4.Bare.
-/
import Derived.Test.YtoopgkbefhoeiaaGreatDoorShL
import Derived.Test.YtoopgkbefhoeiaaGreatDoorR4S
import Derived.Test.YtoopgkbefhoeiaaGreatDoorRefB
namespace Go.Proofs.YtoopgkbefhoeiaaGreatDoor
open Go.RowKit
set_option linter.unusedSimpArgs false
set_option linter.unusedVariables false

/-- A line with its own fields alone. -/
def bareL (x : Ln) : Ln := if emp x.lab = false then ⟨x.lab, ⟨0, 0, 0, 0⟩, ⟨#[]⟩⟩ else ⟨⟨#[]⟩, bare x.i, x.ref⟩
/-- A sign that parts nothing. -/
def okC (c : UInt8) : Bool := (c != 9) && (c != 10) && (c != 32) && (c != 44) && (c != 58) && (c != 59)
theorem ok_ne {c : UInt8} (h : okC c = true) : c ≠ 9 ∧ c ≠ 10 ∧ c ≠ 32 ∧ c ≠ 44 ∧ c ≠ 58 ∧ c ≠ 59 := by
  unfold okC at h
  simp only [Bool.and_eq_true, bne_iff_ne] at h
  obtain ⟨⟨⟨⟨⟨h1, h2⟩, h3⟩, h4⟩, h5⟩, h6⟩ := h
  exact ⟨h1, h2, h3, h4, h5, h6⟩
def okT (t : List UInt8) : Prop := t ≠ [] ∧ ∀ c ∈ t, okC c = true
theorem ok_of {c : UInt8} (h : ∀ d : UInt8, (d = 9 ∨ d = 10 ∨ d = 32 ∨ d = 44 ∨ d = 58 ∨ d = 59) → c.toNat ≠ d.toNat) : okC c = true := by
  unfold okC
  simp only [Bool.and_eq_true, bne_iff_ne]
  have k : ∀ d : UInt8, (d = 9 ∨ d = 10 ∨ d = 32 ∨ d = 44 ∨ d = 58 ∨ d = 59) → c ≠ d := fun d hd e => h d hd (by rw [e])
  exact ⟨⟨⟨⟨⟨k 9 (by simp), k 10 (by simp)⟩, k 32 (by simp)⟩, k 44 (by simp)⟩, k 58 (by simp)⟩, k 59 (by simp)⟩
theorem ok_nat {c : UInt8} (h : (97 ≤ c.toNat ∧ c.toNat ≤ 122) ∨ c.toNat = 95 ∨ (48 ≤ c.toNat ∧ c.toNat ≤ 57) ∨ c.toNat = 46) : okC c = true := by
  refine ok_of ?_
  intro d hd e
  rcases hd with rfl | rfl | rfl | rfl | rfl | rfl
  · have : (9 : UInt8).toNat = 9 := rfl
    omega
  · have : (10 : UInt8).toNat = 10 := rfl
    omega
  · have : (32 : UInt8).toNat = 32 := rfl
    omega
  · have : (44 : UInt8).toNat = 44 := rfl
    omega
  · have : (58 : UInt8).toNat = 58 := rfl
    omega
  · have : (59 : UInt8).toNat = 59 := rfl
    omega
theorem fits_all (s : ByteArray) : ∀ (n j : Nat), fits s n j = true → ∀ k, j ≤ k → k < j + n → fitC (byt s k) (k == 0) = true
  | 0, j, _, k, h1, h2 => by omega
  | n + 1, j, h, k, h1, h2 => by
    rw [fits, Bool.and_eq_true] at h
    by_cases hk : k = j
    · rw [hk]; exact h.1
    · exact fits_all s n (j + 1) h.2 k (by omega) (by omega)
theorem nm_ok {s : ByteArray} (h : nm s = true) : okT s.toList ∧ ∃ c r, s.toList = c :: r ∧ ¬ (48 ≤ c.toNat ∧ c.toNat ≤ 57) := by
  have hne := (nm_size h).2
  unfold nm at h
  simp only [Bool.and_eq_true] at h
  have hf := fits_all s s.size 0 h.2
  have hl : s.toList.length = s.size := by rw [ByteArray.toList_eq]; simp
  have hg : ∀ (k : Nat) (hk : k < s.toList.length), fitC ((s.toList[k].toNat : Nat) : Int) (k == 0) = true := by
    intro k hk
    have hk2 : k < s.size := by omega
    have := hf k (Nat.zero_le _) (by omega)
    rw [byt_at hk2] at this
    have e : s.toList[k] = s[k] := by simp only [ByteArray.toList_eq]; rfl
    rw [e]
    exact this
  have hfit : ∀ (c : UInt8) (b : Bool), fitC ((c.toNat : Nat) : Int) b = true → (97 ≤ c.toNat ∧ c.toNat ≤ 122) ∨ c.toNat = 95 ∨ ((48 ≤ c.toNat ∧ c.toNat ≤ 57) ∧ b = false) ∨ c.toNat = 46 := by
    intro c b hc
    unfold fitC at hc
    simp only [Bool.or_eq_true, Bool.and_eq_true, decide_eq_true_eq, Bool.not_eq_true'] at hc
    rcases hc with (((hc | hc) | ⟨hc, hb⟩) | ⟨hc, hb⟩)
    · exact .inl (by omega)
    · exact .inr (.inl (by omega))
    · exact .inr (.inr (.inl ⟨by omega, hb⟩))
    · exact .inr (.inr (.inr (by omega)))
  refine ⟨⟨?_, ?_⟩, ?_⟩
  · intro e; rw [e] at hne; cases hne
  · intro c hc
    obtain ⟨k, hk, rfl⟩ := List.getElem_of_mem hc
    refine ok_nat ?_
    rcases hfit _ _ (hg k hk) with h | h | h | h
    · exact .inl h
    · exact .inr (.inl h)
    · exact .inr (.inr (.inl h.1))
    · exact .inr (.inr (.inr h))
  · cases hs : s.toList with
    | nil => rw [hs] at hne; cases hne
    | cons c r =>
      refine ⟨c, r, rfl, ?_⟩
      have h0 := hg 0 (by rw [hs]; simp)
      have e : s.toList[0]'(by rw [hs]; simp) = c := by simp only [hs, List.getElem_cons_zero]
      rw [e] at h0
      rcases hfit _ _ h0 with h | h | ⟨-, h⟩ | h
      · omega
      · omega
      · cases h
      · omega
theorem can_ok {s : List UInt8} (h : can s = true) : okT s := by
  unfold can at h
  simp only [Bool.and_eq_true] at h
  obtain ⟨⟨h1, h2⟩, -⟩ := h
  refine ⟨(fun e => by rw [e] at h1; cases h1), ?_⟩
  intro c hc
  unfold dgs at h2
  have := List.all_eq_true.1 h2 c hc
  simp only [Bool.and_eq_true, decide_eq_true_eq] at this
  exact ok_nat (.inr (.inr (.inl this)))
theorem itoa_can {n : Int} (h : 0 ≤ n) : can (Lib.itoa n) = true ∧ (vlN 0 (Lib.itoa n) : Int) = n := by
  obtain ⟨k, rfl⟩ : ∃ k : Nat, n = k := ⟨n.toNat, by omega⟩
  rw [Lib.itoa_nonneg]
  obtain ⟨c1, c2⟩ := can_dec k
  exact ⟨c1, by rw [c2]⟩
theorem num_itoa {n most : Int} (h : 0 ≤ n ∧ n ≤ most) (hm : most ≤ 65535) : numA (Lib.itoa n) most = some n := by
  obtain ⟨c1, c2⟩ := itoa_can h.1
  rw [numA_eq _ _ hm, if_pos ⟨c1, itoa_len ⟨h.1, by omega⟩, by rw [c2]; exact h.2⟩, c2]
theorem reg_ok {n : Int} (h : 0 ≤ n ∧ n ≤ 7) : okT (rgT n) ∧ regA (rgT n) = some n := by
  have c := can_ok (itoa_can h.1).1
  refine ⟨⟨by unfold rgT; simp, ?_⟩, ?_⟩
  · intro x hx
    unfold rgT at hx
    rcases List.mem_cons.1 hx with rfl | hx
    · decide
    · exact c.2 x hx
  · unfold regA rgT
    have e1 : Lib.hasPrefix (114 :: Lib.itoa n) [114] = true := by
      unfold Lib.hasPrefix
      rw [List.isPrefixOf_iff_prefix]
      exact ⟨Lib.itoa n, rfl⟩
    have e2 : Lib.trimPrefix (114 :: Lib.itoa n) [114] = Lib.itoa n := by unfold Lib.trimPrefix; rw [e1]; rfl
    rw [if_pos e1, e2]
    exact num_itoa h (by omega)
theorem nm_num {s : ByteArray} (h : nm s = true) : numA s.toList 65535 = none := by
  rw [numA_eq _ _ (by omega), if_neg]
  rintro ⟨hc, -⟩
  obtain ⟨-, c, r, e, hn⟩ := nm_ok h
  rw [e] at hc
  unfold can dgs at hc
  simp only [Bool.and_eq_true, List.all_cons, decide_eq_true_eq] at hc
  exact hn hc.1.2.1
theorem kw_ok : ∀ k : Fin 33, kwL[k.val]'(by have := k.2; exact this) ≠ [] ∧ (kwL[k.val]'(by have := k.2; exact this)).all okC = true := by decide
theorem kwO_ok (o : Int) (h0 : 0 ≤ o) (h1 : o ≤ 32) : okT (kwO o) := by
  obtain ⟨k, hk, -, e⟩ := kwO_at o h0 h1
  rw [e]
  obtain ⟨c1, c2⟩ := kw_ok ⟨k, hk⟩
  exact ⟨c1, fun c hc => List.all_eq_true.1 c2 c hc⟩
theorem kwO_op (o : Int) (h0 : 0 ≤ o) (h1 : o ≤ 32) : hasA kdA (kwO o) = true ∧ atA kdA (kwO o) = o := by
  obtain ⟨k, hk, e0, e⟩ := kwO_at o h0 h1
  rw [e, e0]
  exact (opK_at ⟨k, hk⟩).2
theorem ok_end {t : List UInt8} (h : okT t) : ∃ c u v d, t = c :: u ∧ t = v ++ [d] ∧ okC c = true ∧ okC d = true := by
  obtain ⟨h1, h2⟩ := h
  rcases List.eq_nil_or_concat t with rfl | ⟨v, d, e⟩
  · exact absurd rfl h1
  · rw [List.concat_eq_append] at e
    cases t with
    | nil => exact absurd rfl h1
    | cons c u => exact ⟨c, u, v, d, rfl, e, h2 c List.mem_cons_self, h2 d (by rw [e]; simp)⟩
theorem trim_id {s u v : List UInt8} {c d : UInt8} (h1 : s = c :: u) (h2 : s = v ++ [d]) (hc : okC c = true) (hd : d ≠ 32 ∧ d ≠ 9) : trimA s = s := by
  have k1 := ok_ne hc
  rw [← trim_comm]
  rw [h1, left_stop k1.2.2.1 k1.1, ← h1, h2]
  exact right_stop hd.1 hd.2
theorem trim_ok {t : List UInt8} (h : okT t) : trimA t = t := by
  obtain ⟨c, u, v, d, e1, e2, hc, hd⟩ := ok_end h
  have k := ok_ne hd
  exact trim_id e1 e2 hc ⟨k.2.2.1, k.1⟩
theorem join_cons (t t2 : List UInt8) (ts : List (List UInt8)) : Lib.join (t :: t2 :: ts) [44, 32] = t ++ 44 :: 32 :: Lib.join (t2 :: ts) [44, 32] := by
  unfold Lib.join
  simp [List.intercalate]
theorem join_one (t : List UInt8) : Lib.join [t] [44, 32] = t := by unfold Lib.join; simp [List.intercalate]
/-- Fields that are written one behind the other are read one by one. -/
theorem rdF_join : ∀ (ts : List (List UInt8)) (fs : List Fk) (bl : List UInt8) (x : Ln), ts ≠ [] → (∀ t ∈ ts, okT t) → (∀ y ∈ bl, y = 32 ∨ y = 9) → fs.length = ts.length → rdF fs (bl ++ Lib.join ts [44, 32]) true x = rdP fs ts x
  | [], _, _, _, h, _, _, _ => absurd rfl h
  | [t], fs, bl, x, _, ht, hb, hf => by
    obtain ⟨f, rfl⟩ : ∃ f, fs = [f] := List.length_eq_one_iff.1 hf
    have ok := ht t (by simp)
    have hc := cut_none 44 (bl ++ t) (fun y hy => by
      rcases List.mem_append.1 hy with h | h
      · rcases hb y h with rfl | rfl <;> decide
      · exact (ok_ne (ok.2 y h)).2.2.2.1)
    rw [join_one, rdF, hc, if_pos rfl, trim_pre _ bl hb, trim_ok ok, rdP]
    dsimp only
    cases fldA f x t with
    | none => rfl
    | some y => rfl
  | t :: t2 :: ts, fs, bl, x, _, ht, hb, hf => by
    obtain ⟨f, fs, rfl⟩ : ∃ f fs', fs = f :: fs' := by cases fs with | nil => simp at hf | cons f fs => exact ⟨f, fs, rfl⟩
    have ok := ht t (by simp)
    have hc := cut_at 44 (bl ++ t) (32 :: Lib.join (t2 :: ts) [44, 32]) (fun y hy => by
      rcases List.mem_append.1 hy with h | h
      · rcases hb y h with rfl | rfl <;> decide
      · exact (ok_ne (ok.2 y h)).2.2.2.1)
    rw [List.append_assoc] at hc
    rw [join_cons, rdF, hc, if_pos rfl, trim_pre _ bl hb, trim_ok ok, rdP]
    dsimp only
    cases fldA f x t with
    | none => rfl
    | some y => exact rdF_join (t2 :: ts) fs [32] y (by simp) (fun t h => ht t (List.mem_cons_of_mem _ h)) (fun y hy => by simp at hy; exact .inl hy) (by simpa using hf)
/-- The line's text without its end. -/
def shB (x : Ln) : List UInt8 :=
  if emp x.lab = false then x.lab.toList ++ [58]
  else 9 :: (kwO x.i.o ++ (if shF x = [] then [] else 32 :: Lib.join (shF x) [44, 32]))
theorem shL_B (x : Ln) : shL x = shB x ++ [10] := by
  unfold shL shB
  split
  · simp
  · simp

theorem emp_eq {s : ByteArray} (h : emp s = true) : s = ⟨#[]⟩ := by
  have := emp_size h
  rw [← ba_toList s]
  unfold emp at h
  rw [List.isEmpty_iff.1 h]
  rfl
theorem emp_nil : emp ⟨#[]⟩ = true := by unfold emp; rw [ByteArray.toList_eq]; rfl
theorem isZ_eq {i : Ins} (h : isZ i = true) : i = ⟨0, 0, 0, 0⟩ := by
  obtain ⟨o, d, s, m⟩ := i
  unfold isZ at h
  simp only [Bool.and_eq_true, beq_iff_eq] at h
  obtain ⟨⟨⟨rfl, rfl⟩, rfl⟩, rfl⟩ := h
  rfl
/-- What a right instruction's line keeps to. -/
def rightI (x : Ln) : Prop := 0 ≤ x.i.o ∧ x.i.o ≤ 32 ∧ (hD x.i.o = true → 0 ≤ x.i.d ∧ x.i.d ≤ 7) ∧ (hS x.i.o = true → 0 ≤ x.i.s ∧ x.i.s ≤ 7) ∧ (hI x.i.o = true → 0 ≤ x.i.m ∧ x.i.m ≤ 65535) ∧ (emp x.ref = true ∨ (emp x.ref = false ∧ nm x.ref = true ∧ may x.i.o = true ∧ x.i.m = 0))
theorem imm_ok {x : Ln} (h : rightI x) (hi : hI x.i.o = true) : okT (if emp x.ref = true then Lib.itoa x.i.m else x.ref.toList) ∧ ∀ y : Ln, y.i.o = x.i.o → y.i.m = 0 → y.ref = ⟨#[]⟩ → fldA .i y (if emp x.ref = true then Lib.itoa x.i.m else x.ref.toList) = some ⟨y.lab, ⟨y.i.o, y.i.d, y.i.s, x.i.m⟩, x.ref⟩ := by
  obtain ⟨-, -, -, -, hm, hr⟩ := h
  have hm := hm hi
  rcases hr with hr | ⟨h0, hn, hy, hz⟩
  · rw [if_pos hr]
    refine ⟨can_ok (itoa_can hm.1).1, ?_⟩
    intro y h1 h2 h3
    show immA y _ = _
    rw [immA_num (num_itoa hm (by omega)), emp_eq hr, h3]
  · rw [if_neg (by rw [h0]; simp)]
    refine ⟨(nm_ok hn).1, ?_⟩
    intro y h1 h2 h3
    show immA y _ = _
    rw [immA_ref (nm_num hn) (by rw [h1]; exact hy) (by rw [ba_toList]; exact hn), ba_toList, hz, ← h2]
theorem shF_ok {x : Ln} (h : rightI x) : ∀ t ∈ shF x, okT t := by
  intro t ht
  obtain ⟨-, -, hd, hs, -, -⟩ := id h
  unfold shF at ht
  rw [List.mem_append, List.mem_append] at ht
  rcases ht with (ht | ht) | ht
  · by_cases a : hD x.i.o = true
    · rw [if_pos a] at ht; simp at ht; rw [ht]; exact (reg_ok (hd a)).1
    · rw [if_neg a] at ht; cases ht
  · by_cases a : hS x.i.o = true
    · rw [if_pos a] at ht; simp at ht; rw [ht]; exact (reg_ok (hs a)).1
    · rw [if_neg a] at ht; cases ht
  · by_cases a : hI x.i.o = true
    · rw [if_pos a, List.mem_singleton] at ht; rw [ht]; exact (imm_ok h a).1
    · rw [if_neg a] at ht; cases ht
theorem shF_fks (x : Ln) : (fks x.i.o).length = (shF x).length := by
  unfold fks shF
  cases hD x.i.o <;> cases hS x.i.o <;> cases hI x.i.o <;> rfl
theorem shF_read {x : Ln} (h : rightI x) : rdP (fks x.i.o) (shF x) ⟨⟨#[]⟩, ⟨x.i.o, 0, 0, 0⟩, ⟨#[]⟩⟩ = (⟨⟨#[]⟩, bare x.i, x.ref⟩, 0) := by
  have FI := fun hi => (imm_ok h hi).2
  obtain ⟨-, -, hd, hs, -, hr⟩ := id h
  have FD : hD x.i.o = true → ∀ y : Ln, fldA .d y (rgT x.i.d) = some ⟨y.lab, ⟨y.i.o, x.i.d, y.i.s, y.i.m⟩, y.ref⟩ := fun a y => by
    show (regA _).map _ = _
    rw [(reg_ok (hd a)).2]; rfl
  have FS : hS x.i.o = true → ∀ y : Ln, fldA .s y (rgT x.i.s) = some ⟨y.lab, ⟨y.i.o, y.i.d, x.i.s, y.i.m⟩, y.ref⟩ := fun a y => by
    show (regA _).map _ = _
    rw [(reg_ok (hs a)).2]; rfl
  have FR : hI x.i.o = false → x.ref = ⟨#[]⟩ := fun a => by
    rcases hr with hr | ⟨-, -, hy, -⟩
    · exact emp_eq hr
    · unfold may at hy; rw [a] at hy; cases hy
  obtain ⟨lab, ⟨o, d, s, m⟩, ref⟩ := x
  dsimp only at *
  unfold fks shF bare
  dsimp only
  generalize (if emp ref = true then Lib.itoa m else ref.toList) = e at *
  generalize rgT d = td at *
  generalize rgT s = ts at *
  clear h hd hs hr
  cases a : hD o <;> cases b : hS o <;> cases c : hI o <;> simp only [a, b, c, Bool.false_eq_true, if_false, if_true, List.nil_append, List.cons_append] at *
  · rw [FR trivial]; rfl
  · rw [rdP, FI trivial _ rfl rfl rfl]; rfl
  · rw [rdP, FS trivial, FR trivial]; rfl
  · rw [rdP, FS trivial]; dsimp only; rw [rdP, FI trivial _ rfl rfl rfl]; rfl
  · rw [rdP, FD trivial, FR trivial]; rfl
  · rw [rdP, FD trivial]; dsimp only; rw [rdP, FI trivial _ rfl rfl rfl]; rfl
  · rw [rdP, FD trivial]; dsimp only; rw [rdP, FS trivial, FR trivial]; rfl
  · rw [rdP, FD trivial]; dsimp only; rw [rdP, FS trivial]; dsimp only; rw [rdP, FI trivial _ rfl rfl rfl]; rfl
theorem join_mem : ∀ (ts : List (List UInt8)), (∀ t ∈ ts, okT t) → ∀ c ∈ Lib.join ts [44, 32], okC c = true ∨ c = 44 ∨ c = 32
  | [], _, c, hc => by cases hc
  | [t], h, c, hc => by rw [join_one] at hc; exact .inl ((h t (by simp)).2 c hc)
  | t :: t2 :: ts, h, c, hc => by
    rw [join_cons, List.mem_append, List.mem_cons, List.mem_cons] at hc
    rcases hc with hc | rfl | rfl | hc
    · exact .inl ((h t (by simp)).2 c hc)
    · exact .inr (.inl rfl)
    · exact .inr (.inr rfl)
    · exact join_mem (t2 :: ts) (fun t ht => h t (List.mem_cons_of_mem _ ht)) c hc
theorem join_end : ∀ (ts : List (List UInt8)), ts ≠ [] → (∀ t ∈ ts, okT t) → ∃ v d, Lib.join ts [44, 32] = v ++ [d] ∧ okC d = true
  | [], h, _ => absurd rfl h
  | [t], _, h => by
    obtain ⟨-, -, v, d, -, e, -, hd⟩ := ok_end (h t (by simp))
    exact ⟨v, d, by rw [join_one]; exact e, hd⟩
  | t :: t2 :: ts, _, h => by
    obtain ⟨v, d, e, hd⟩ := join_end (t2 :: ts) (by simp) (fun t ht => h t (List.mem_cons_of_mem _ ht))
    exact ⟨t ++ 44 :: 32 :: v, d, by rw [join_cons, e]; simp, hd⟩
theorem no_suffix {v : List UInt8} {x : UInt8} (hx : x ≠ 58) : ¬ Lib.hasSuffix (v ++ [x]) [58] = true := by
  unfold Lib.hasSuffix
  rw [List.isSuffixOf_iff_suffix]
  rintro ⟨u, e⟩
  have := List.append_inj_right' e rfl
  exact hx (by simpa using this.symm)
theorem right_cases {x : Ln} (h : wrgL x = 0) : (emp x.lab = false ∧ nm x.lab = true) ∨ (emp x.lab = true ∧ rightI x) := by
  rcases right_facts h with ⟨h1, h2, -, -⟩ | ⟨h1, -, h3, h4, h5, h6, h7, h8⟩
  · exact .inl ⟨h1, h2⟩
  · refine .inr ⟨h1, h3, h4, h5, h6, h7, ?_⟩
    rcases h8 with h | h
    · exact .inl h
    · by_cases e : emp x.ref = true
      · exact .inl e
      · exact .inr ⟨by simpa using e, h⟩
/-- A right line, written, is read as the line with its own fields. -/
theorem lin_read {x : Ln} (h : wrgL x = 0) : rmkA (shB x) ≠ [] ∧ linA (rmkA (shB x)) = (bareL x, 0) ∧ ∀ c ∈ shB x, c ≠ 10 := by
  rcases right_cases h with ⟨h1, h2⟩ | ⟨h1, h2⟩
  · have ok := (nm_ok h2).1
    have e0 : shB x = x.lab.toList ++ [58] := by unfold shB; rw [if_pos h1]
    have hmem : ∀ c ∈ shB x, c ≠ 10 ∧ c ≠ 59 := by
      intro c hc
      rw [e0, List.mem_append] at hc
      rcases hc with hc | hc
      · have := ok_ne (ok.2 c hc); exact ⟨this.2.1, this.2.2.2.2.2⟩
      · simp at hc; subst hc; decide
    have e1 : rmkA (shB x) = x.lab.toList ++ [58] := by
      unfold rmkA
      rw [cut_none 59 _ (fun c hc => (hmem c hc).2), e0]
      obtain ⟨c, u, -, -, e2, -, hc, -⟩ := ok_end ok
      exact trim_id (c := c) (u := u ++ [58]) (v := x.lab.toList) (d := 58) (by rw [e2]; rfl) rfl hc (by decide)
    refine ⟨by rw [e1]; simp, ?_, fun c hc => (hmem c hc).1⟩
    rw [e1]
    have e2 : Lib.hasSuffix (x.lab.toList ++ [58]) [58] = true := by
      unfold Lib.hasSuffix
      rw [List.isSuffixOf_iff_suffix]
      exact ⟨x.lab.toList, rfl⟩
    have e3 : Lib.trimSuffix (x.lab.toList ++ [58]) [58] = x.lab.toList := by unfold Lib.trimSuffix; rw [e2]; simp
    unfold linA bareL
    rw [if_pos e2, e3, ba_toList, if_pos h2, if_pos h1]
  · have okf := shF_ok h2
    have hk := kwO_ok x.i.o h2.1 h2.2.1
    have hop := kwO_op x.i.o h2.1 h2.2.1
    have hrd := shF_read h2
    have hlen := shF_fks x
    obtain ⟨c, u, v, d, e2, e3, hc, hd⟩ := ok_end hk
    have eb : bareL x = ⟨⟨#[]⟩, bare x.i, x.ref⟩ := by unfold bareL; rw [if_neg (by rw [h1]; simp)]
    by_cases hf : shF x = []
    · have e0 : shB x = 9 :: kwO x.i.o := by unfold shB; rw [if_neg (by rw [h1]; simp), if_pos hf]; simp
      have hmem : ∀ c ∈ shB x, c ≠ 10 ∧ c ≠ 59 := by
        intro c hc
        rw [e0, List.mem_cons] at hc
        rcases hc with rfl | hc
        · decide
        · have := ok_ne (hk.2 c hc); exact ⟨this.2.1, this.2.2.2.2.2⟩
      have e1 : rmkA (shB x) = kwO x.i.o := by
        unfold rmkA
        rw [cut_none 59 _ (fun c hc => (hmem c hc).2), e0]
        show trimA ([9] ++ kwO x.i.o) = _
        rw [trim_pre _ [9] (fun y hy => by simp at hy; exact .inr hy), trim_ok hk]
      refine ⟨by rw [e1, e2]; simp, ?_, fun c hc => (hmem c hc).1⟩
      have e4 : ¬ Lib.hasSuffix (kwO x.i.o) [58] = true := by rw [e3]; exact no_suffix (ok_ne hd).2.2.2.2.1
      rw [hf] at hrd hlen
      have e5 : fks x.i.o = [] := List.length_eq_zero_iff.1 hlen
      rw [e1]
      unfold linA
      rw [if_neg e4, cut_none 32 _ (fun c hc => (ok_ne (hk.2 c hc)).2.2.1), if_pos hop.1]
      dsimp only
      rw [hop.2]
      unfold insA
      rw [e5] at hrd ⊢
      rw [eb, ← hrd]
      rfl
    · have e0 : shB x = 9 :: (kwO x.i.o ++ 32 :: Lib.join (shF x) [44, 32]) := by unfold shB; rw [if_neg (by rw [h1]; simp), if_neg hf]
      have hjm := join_mem (shF x) okf
      obtain ⟨jv, jd, je, jo⟩ := join_end (shF x) hf okf
      have hmem : ∀ c ∈ shB x, c ≠ 10 ∧ c ≠ 59 := by
        intro c hc
        rw [e0, List.mem_cons, List.mem_append, List.mem_cons] at hc
        rcases hc with rfl | hc | rfl | hc
        · decide
        · have := ok_ne (hk.2 c hc); exact ⟨this.2.1, this.2.2.2.2.2⟩
        · decide
        · rcases hjm c hc with h | rfl | rfl
          · have := ok_ne h; exact ⟨this.2.1, this.2.2.2.2.2⟩
          · decide
          · decide
      have jo' := ok_ne jo
      have e6 : kwO x.i.o ++ 32 :: Lib.join (shF x) [44, 32] = (kwO x.i.o ++ 32 :: jv) ++ [jd] := by rw [je]; simp
      have e1 : rmkA (shB x) = kwO x.i.o ++ 32 :: Lib.join (shF x) [44, 32] := by
        unfold rmkA
        rw [cut_none 59 _ (fun c hc => (hmem c hc).2), e0]
        show trimA ([9] ++ _) = _
        rw [trim_pre _ [9] (fun y hy => by simp at hy; exact .inr hy)]
        exact trim_id (c := c) (u := u ++ 32 :: Lib.join (shF x) [44, 32]) (by rw [e2]; rfl) e6 hc ⟨jo'.2.2.1, jo'.1⟩
      refine ⟨by rw [e1, e2]; simp, ?_, fun c hc => (hmem c hc).1⟩
      have e4 : ¬ Lib.hasSuffix (kwO x.i.o ++ 32 :: Lib.join (shF x) [44, 32]) [58] = true := by rw [e6]; exact no_suffix jo'.2.2.2.2.1
      rw [e1]
      unfold linA
      rw [if_neg e4, cut_at 32 _ _ (fun c hc => (ok_ne (hk.2 c hc)).2.2.1), if_pos hop.1]
      dsimp only
      rw [hop.2]
      unfold insA
      have e7 : (!(Lib.join (shF x) [44, 32]).isEmpty) = true := by rw [je]; simp
      rw [e7]
      have := rdF_join (shF x) (fks x.i.o) [] ⟨⟨#[]⟩, ⟨x.i.o, 0, 0, 0⟩, ⟨#[]⟩⟩ hf okf (fun y hy => by cases hy) hlen
      rw [List.nil_append] at this
      rw [this, hrd, eb]
theorem lns4_end (a t : List UInt8) (h : ∀ c ∈ a, c ≠ 10) : lns4 [] (a ++ 10 :: t) = a :: lns4 [] t := by
  rw [lns4_cut (a ++ 10 :: t) [] (by simp), cut_at 10 a t h]
  rfl
theorem lns4_flat : ∀ (l : List Ln), (∀ x ∈ l, wrgL x = 0) → lns4 [] (l.flatMap shL) = l.map shB
  | [], _ => rfl
  | x :: l, h => by
    have hx := lin_read (h x (by simp))
    rw [List.flatMap_cons, shL_B, List.append_assoc, List.map_cons]
    show lns4 [] (shB x ++ 10 :: l.flatMap shL) = _
    rw [lns4_end _ _ hx.2.2, lns4_flat l fun y hy => h y (List.mem_cons_of_mem _ hy)]
theorem rdL_flat : ∀ (l : List Ln) (n : Nat) (acc : List Ln), (∀ x ∈ l, wrgL x = 0) → rdL (l.map shB) n acc = (acc ++ l.map bareL, 0, 0)
  | [], n, acc, _ => by simp [rdL]
  | x :: l, n, acc, h => by
    have hx := lin_read (h x (by simp))
    rw [List.map_cons, rdL, if_neg hx.1, hx.2.1, if_pos rfl, rdL_flat l _ _ fun y hy => h y (List.mem_cons_of_mem _ hy)]
    simp
theorem shwT_of : ∀ (l : List Ln) (n : Nat) (acc : List UInt8), (∀ x ∈ l, wrgL x = 0) → shwT l n acc = (acc ++ l.flatMap shL, 0, 0)
  | [], n, acc, _ => by simp [shwT]
  | x :: l, n, acc, h => by
    rw [shwT, if_pos (h x (by simp)), shwT_of l _ _ fun y hy => h y (List.mem_cons_of_mem _ hy)]
    simp
theorem shwT_ok : ∀ (l : List Ln) (n : Nat) (acc : List UInt8), (shwT l n acc).2.1 = 0 → ∀ x ∈ l, wrgL x = 0
  | [], n, acc, _ => fun x hx => by cases hx
  | x :: l, n, acc, h => by
    rw [shwT] at h
    by_cases hx : wrgL x = 0
    · rw [if_pos hx] at h
      intro y hy
      rcases List.mem_cons.1 hy with rfl | hy
      · exact hx
      · exact shwT_ok l _ _ h y hy
    · rw [if_neg hx] at h
      exact absurd h hx
theorem turn1 (l : List Ln) (h : (shwA l).2.1 = 0) (hs : (shwA l).1.length ≤ 1048576) : readA (shwA l).1 = (l.map bareL, 0, 0) := by
  unfold shwA at *
  by_cases hl : 40000 < l.length
  · rw [if_pos hl] at h; cases h
  · rw [if_neg hl] at h hs ⊢
    have hr := shwT_ok l 0 [] h
    rw [shwT_of l 0 [] hr] at hs ⊢
    dsimp only at hs ⊢
    rw [List.nil_append] at hs ⊢
    rw [readA_lines, if_neg (by omega), lns4_flat l hr, if_neg (by rw [List.length_map]; exact hl), rdL_flat l 0 [] hr]
    rfl

theorem num_in {s : List UInt8} {most n : Int} (hm : most ≤ 65535) (h : numA s most = some n) : 0 ≤ n ∧ n ≤ most := by
  rw [numA_eq _ _ hm] at h
  by_cases hc : can s = true ∧ s.length ≤ 5 ∧ (vlN 0 s : Int) ≤ most
  · rw [if_pos hc] at h
    have := Option.some.inj h
    have := hc.2.2
    omega
  · rw [if_neg hc] at h; cases h
theorem reg_in {s : List UInt8} {n : Int} (h : regA s = some n) : 0 ≤ n ∧ n ≤ 7 := by
  unfold regA at h
  by_cases hp : Lib.hasPrefix s [114] = true
  · rw [if_pos hp] at h; exact num_in (by omega) h
  · rw [if_neg hp] at h; cases h
theorem fld_is_d {x y : Ln} {p : List UInt8} (h : fldA .d x p = some y) : ∃ n, (0 ≤ n ∧ n ≤ 7) ∧ y = ⟨x.lab, ⟨x.i.o, n, x.i.s, x.i.m⟩, x.ref⟩ := by
  replace h : (regA p).map _ = some y := h
  obtain ⟨n, h1, h2⟩ := Option.map_eq_some_iff.1 h
  exact ⟨n, reg_in h1, h2.symm⟩
theorem fld_is_s {x y : Ln} {p : List UInt8} (h : fldA .s x p = some y) : ∃ n, (0 ≤ n ∧ n ≤ 7) ∧ y = ⟨x.lab, ⟨x.i.o, x.i.d, n, x.i.m⟩, x.ref⟩ := by
  replace h : (regA p).map _ = some y := h
  obtain ⟨n, h1, h2⟩ := Option.map_eq_some_iff.1 h
  exact ⟨n, reg_in h1, h2.symm⟩
theorem fld_is_i {x y : Ln} {p : List UInt8} (h : fldA .i x p = some y) : (∃ n, (0 ≤ n ∧ n ≤ 65535) ∧ y = ⟨x.lab, ⟨x.i.o, x.i.d, x.i.s, n⟩, x.ref⟩) ∨ (may x.i.o = true ∧ nm (ba p) = true ∧ y = ⟨x.lab, x.i, ba p⟩) := by
  replace h : immA x p = some y := h
  cases hn : numA p 65535 with
  | some n => rw [immA_num hn] at h; exact .inl ⟨n, num_in (by omega) hn, (Option.some.inj h).symm⟩
  | none =>
    by_cases hm : may x.i.o = true ∧ nm (ba p) = true
    · rw [immA_ref hn hm.1 hm.2] at h; exact .inr ⟨hm.1, hm.2, (Option.some.inj h).symm⟩
    · rw [immA_no hn hm] at h; cases h
theorem rdP_ok {f : Fk} {fs : List Fk} {ps : List (List UInt8)} {x y : Ln} (h : rdP (f :: fs) ps x = (y, 0)) : ∃ p ps' z, fldA f x p = some z ∧ rdP fs ps' z = (y, 0) := by
  cases ps with
  | nil => rw [rdP] at h; cases h
  | cons p ps =>
    rw [rdP] at h
    cases hf : fldA f x p with
    | none => rw [hf] at h; cases h
    | some z => rw [hf] at h; exact ⟨p, ps, z, hf, h⟩
theorem rdP_end {ps : List (List UInt8)} {x y : Ln} (h : rdP [] ps x = (y, 0)) : y = x := by
  cases ps with
  | nil => rw [rdP] at h; exact (congrArg Prod.fst h).symm
  | cons p ps => rw [rdP] at h; cases h
/-- A read instruction's line. -/
def gotI (o : Int) (y : Ln) : Prop := ∃ d s m ref, y = ⟨⟨#[]⟩, ⟨o, d, s, m⟩, ref⟩ ∧ (hD o = true → 0 ≤ d ∧ d ≤ 7) ∧ (hD o = false → d = 0) ∧ (hS o = true → 0 ≤ s ∧ s ≤ 7) ∧ (hS o = false → s = 0) ∧ (hI o = true → 0 ≤ m ∧ m ≤ 65535) ∧ (hI o = false → m = 0) ∧ (ref = ⟨#[]⟩ ∨ (nm ref = true ∧ may o = true ∧ m = 0))
theorem got_read {o : Int} {ps : List (List UInt8)} {y : Ln} (h : rdP (fks o) ps ⟨⟨#[]⟩, ⟨o, 0, 0, 0⟩, ⟨#[]⟩⟩ = (y, 0)) : gotI o y := by
  unfold fks at h
  unfold gotI
  have fin : ∀ (x z : Ln) (p : List UInt8), x.i.m = 0 → x.ref = ⟨#[]⟩ → fldA .i x p = some z → ∃ m ref, z = ⟨x.lab, ⟨x.i.o, x.i.d, x.i.s, m⟩, ref⟩ ∧ (0 ≤ m ∧ m ≤ 65535) ∧ (ref = ⟨#[]⟩ ∨ (nm ref = true ∧ may x.i.o = true ∧ m = 0)) := by
    intro x z p h1 h2 h3
    rcases fld_is_i h3 with ⟨n, hn, rfl⟩ | ⟨k1, k2, rfl⟩
    · exact ⟨n, x.ref, rfl, hn, .inl h2⟩
    · exact ⟨x.i.m, ba p, rfl, by omega, .inr ⟨k2, k1, h1⟩⟩
  cases a : hD o <;> cases b : hS o <;> cases c : hI o <;> simp only [a, b, c, Bool.false_eq_true, if_false, if_true, List.nil_append, List.cons_append] at h
  · obtain rfl := rdP_end h
    exact ⟨0, 0, 0, _, rfl, by simp, by simp, by simp, by simp, by simp, by simp, .inl rfl⟩
  · obtain ⟨p, q, z, h1, h2⟩ := rdP_ok h
    obtain rfl := rdP_end h2
    obtain ⟨m, ref, rfl, h3, h4⟩ := fin _ _ _ rfl rfl h1
    exact ⟨_, _, _, _, rfl, by simp, by simp, by simp, by simp, by simpa using h3, by simp, h4⟩
  · obtain ⟨p, q, z, h1, h2⟩ := rdP_ok h
    obtain rfl := rdP_end h2
    obtain ⟨n, hn, rfl⟩ := fld_is_s h1
    exact ⟨_, _, _, _, rfl, by simp, by simp, by simpa using hn, by simp, by simp, by simp, .inl rfl⟩
  · obtain ⟨p, q, z, h1, h2⟩ := rdP_ok h
    obtain ⟨n, hn, rfl⟩ := fld_is_s h1
    obtain ⟨p, q, z, h1, h2⟩ := rdP_ok h2
    obtain rfl := rdP_end h2
    obtain ⟨m, ref, rfl, h3, h4⟩ := fin _ _ _ rfl rfl h1
    exact ⟨_, _, _, _, rfl, by simp, by simp, by simpa using hn, by simp, by simpa using h3, by simp, h4⟩
  · obtain ⟨p, q, z, h1, h2⟩ := rdP_ok h
    obtain rfl := rdP_end h2
    obtain ⟨n, hn, rfl⟩ := fld_is_d h1
    exact ⟨_, _, _, _, rfl, by simpa using hn, by simp, by simp, by simp, by simp, by simp, .inl rfl⟩
  · obtain ⟨p, q, z, h1, h2⟩ := rdP_ok h
    obtain ⟨n, hn, rfl⟩ := fld_is_d h1
    obtain ⟨p, q, z, h1, h2⟩ := rdP_ok h2
    obtain rfl := rdP_end h2
    obtain ⟨m, ref, rfl, h3, h4⟩ := fin _ _ _ rfl rfl h1
    exact ⟨_, _, _, _, rfl, by simpa using hn, by simp, by simp, by simp, by simpa using h3, by simp, h4⟩
  · obtain ⟨p, q, z, h1, h2⟩ := rdP_ok h
    obtain ⟨n, hn, rfl⟩ := fld_is_d h1
    obtain ⟨p, q, z, h1, h2⟩ := rdP_ok h2
    obtain rfl := rdP_end h2
    obtain ⟨k, hk, rfl⟩ := fld_is_s h1
    exact ⟨_, _, _, _, rfl, by simpa using hn, by simp, by simpa using hk, by simp, by simp, by simp, .inl rfl⟩
  · obtain ⟨p, q, z, h1, h2⟩ := rdP_ok h
    obtain ⟨n, hn, rfl⟩ := fld_is_d h1
    obtain ⟨p, q, z, h1, h2⟩ := rdP_ok h2
    obtain ⟨k, hk, rfl⟩ := fld_is_s h1
    obtain ⟨p, q, z, h1, h2⟩ := rdP_ok h2
    obtain rfl := rdP_end h2
    obtain ⟨m, ref, rfl, h3, h4⟩ := fin _ _ _ rfl rfl h1
    exact ⟨_, _, _, _, rfl, by simpa using hn, by simp, by simpa using hk, by simp, by simpa using h3, by simp, h4⟩
theorem got_right {o : Int} {y : Ln} (h0 : 0 ≤ o) (h1 : o ≤ 32) (h : gotI o y) : wrgL y = 0 ∧ bareL y = y := by
  obtain ⟨d, s, m, ref, rfl, d1, d0, s1, s0, m1, m0, hr⟩ := h
  have he : ¬ emp (⟨#[]⟩ : ByteArray) = false := by rw [emp_nil]; simp
  have hw : wrg ⟨o, d, s, m⟩ = 0 := wr_of h0 h1 d1 s1 m1
  have hb : bare ⟨o, d, s, m⟩ = ⟨o, d, s, m⟩ := by
    unfold bare
    dsimp only
    have e1 : (if hD o = true then d else 0) = d := by
      by_cases a : hD o = true
      · rw [if_pos a]
      · rw [if_neg a, d0 (by simpa using a)]
    have e2 : (if hS o = true then s else 0) = s := by
      by_cases a : hS o = true
      · rw [if_pos a]
      · rw [if_neg a, s0 (by simpa using a)]
    have e3 : (if hI o = true then m else 0) = m := by
      by_cases a : hI o = true
      · rw [if_pos a]
      · rw [if_neg a, m0 (by simpa using a)]
    rw [e1, e2, e3]
  constructor
  · unfold wrgL
    dsimp only
    rw [if_neg he, if_neg (by rw [hw]; simp)]
    rcases hr with rfl | ⟨k1, k2, k3⟩
    · rw [if_pos emp_nil]
    · by_cases e : emp ref = true
      · rw [if_pos e]
      · rw [if_neg e, if_pos k1, if_pos ⟨k2, k3⟩]
  · unfold bareL
    dsimp only
    rw [if_neg he, hb]
theorem lin_right {u : List UInt8} (h : (linA u).2 = 0) : wrgL (linA u).1 = 0 ∧ bareL (linA u).1 = (linA u).1 := by
  unfold linA at *
  by_cases h1 : Lib.hasSuffix u [58] = true
  · rw [if_pos h1] at h ⊢
    by_cases h2 : nm (ba (Lib.trimSuffix u [58])) = true
    · rw [if_pos h2] at h ⊢
      have h3 : emp (ba (Lib.trimSuffix u [58])) = false := (nm_size h2).2
      constructor
      · unfold wrgL
        dsimp only
        rw [if_pos h3, if_pos h2, if_pos ⟨emp_nil, rfl⟩]
      · unfold bareL
        dsimp only
        rw [if_pos h3]
    · rw [if_neg h2] at h; cases h
  · rw [if_neg h1] at h ⊢
    rcases opK_eq (Lib.cut u [32]).1 with ⟨-, o2⟩ | ⟨k, hk, -, o2, o3⟩
    · rw [o2, if_neg (by simp)] at h; cases h
    · rw [if_pos o2, o3] at h ⊢
      unfold insA at h ⊢
      rw [rdF_ps _ _ _ _ _ (Nat.le_refl _)] at h ⊢
      exact got_right (by omega) (by omega) (got_read (Prod.ext rfl h))
theorem rdL_right : ∀ (ls : List (List UInt8)) (n : Nat) (acc : List Ln), (∀ x ∈ acc, wrgL x = 0 ∧ bareL x = x) → (rdL ls n acc).2.1 = 0 → (∀ x ∈ (rdL ls n acc).1, wrgL x = 0 ∧ bareL x = x) ∧ (rdL ls n acc).1.length ≤ acc.length + ls.length
  | [], n, acc, ha, _ => ⟨ha, Nat.le_refl _⟩
  | s :: ls, n, acc, ha, h => by
    rw [rdL] at h ⊢
    by_cases h1 : rmkA s = []
    · rw [if_pos h1] at h ⊢
      have ih := rdL_right ls _ _ ha h
      exact ⟨ih.1, by have := ih.2; simp; omega⟩
    · rw [if_neg h1] at h ⊢
      by_cases h2 : (linA (rmkA s)).2 = 0
      · rw [if_pos h2] at h ⊢
        have ih := rdL_right ls (n + 1) (acc ++ [(linA (rmkA s)).1]) (fun x hx => by
          rcases List.mem_append.1 hx with hx | hx
          · exact ha x hx
          · simp at hx; subst hx; exact lin_right h2) h
        exact ⟨ih.1, by have := ih.2; simp at this ⊢; omega⟩
      · rw [if_neg h2] at h; exact absurd h h2
theorem turn2 (t : List UInt8) (h : (readA t).2.1 = 0) : (shwA (readA t).1).2.1 = 0 ∧ ((shwA (readA t).1).1.length ≤ 1048576 → readA (shwA (readA t).1).1 = ((readA t).1, 0, 0)) := by
  have key : (∀ x ∈ (readA t).1, wrgL x = 0 ∧ bareL x = x) ∧ (readA t).1.length ≤ 40000 := by
    rw [readA_lines] at *
    by_cases h1 : 1048576 < t.length
    · rw [if_pos h1] at h; cases h
    · rw [if_neg h1] at h ⊢
      by_cases h2 : 40000 < (lns4 [] t).length
      · rw [if_pos h2] at h; cases h
      · rw [if_neg h2] at h ⊢
        have := rdL_right (lns4 [] t) 0 [] (fun x hx => by cases hx) h
        exact ⟨this.1, by have := this.2; simp at this; omega⟩
  generalize (readA t).1 = k at *
  have h0 : (shwA k).2.1 = 0 := by
    unfold shwA
    rw [if_neg (by omega), shwT_of k 0 [] fun x hx => (key.1 x hx).1]
  refine ⟨h0, fun hs => ?_⟩
  rw [turn1 k h0 hs]
  congr 1
  conv => rhs; rw [← List.map_id k]
  exact List.map_congr_left fun x hx => (key.1 x hx).2

theorem resL1 {fn : Func} {p : Tmp} (h : fn.results = #[.cell p 36]) {w : World} {b : Nat} {x : Ln} {tmps : Array Value} (hB : LnBox w b x) (hp : tmps.getD p undef = .pointer (some ⟨b, 0, none⟩)) : (results fn tmps).run Tryz.prog w = .ok (aggL x) w := by
  have hp' : tmps[p]?.getD undef = .pointer (some ⟨b, 0, none⟩) := by simpa using hp
  have r0 := hB.2.1 0 _ rfl
  have r1 := hB.2.1 1 _ rfl
  have r2 := hB.2.1 2 _ rfl
  have r3 := hB.2.1 3 _ rfl
  have r4 := hB.2.1 4 _ rfl
  have r5 := hB.2.1 5 _ rfl
  simp [results, h, hp', go_sem, aggL, r0, r1, r2, r3, r4, r5]
set_option maxRecDepth 100000 in
set_option maxHeartbeats 4000000 in
theorem bareL_any (x : Ln) (w : World) : Calls Tryz.prog 11 #[aggL x] w fun e w' => e = .returned (aggL (bareL x)) ∧ Below w.heap.size w w' := by
  unfold bareL
  have BA := fun w => bare_any x.i w
  unfold agg at BA
  by_cases h1 : emp x.lab = false
  · rw [if_pos h1]
    have h1' : x.lab.toList.isEmpty = false := h1
    clear BA
    unfold aggL
    dsimp only
    go_enter Tryz.func11, Tryz.ntmps11
    go_wp2_with fail
    exact bodyPost_ret (v := .agg #[.string x.lab, .int .i64 0, .int .i64 0, .int .i64 0, .int .i64 0, .string ⟨#[]⟩]) (by simp [results, Tryz.results11, go_sem]) rfl ⟨rfl, (by repeat (first | exact below_a _ _ | refine Below.setCell ?_ (by first | exact Nat.le_refl _ | (simp; done) | omega | (simp; omega)) _ | refine Below.alloc ?_ (by first | (simp; done) | omega | (simp; omega)) _))⟩
  · rw [if_neg h1]
    have h1' : x.lab.toList.isEmpty = true := by unfold emp at h1; simpa using h1
    unfold aggL
    dsimp only
    generalize bare x.i = bi at *
    obtain ⟨bo, bd, bs, bm⟩ := bi
    dsimp only at *
    have B0 := Box.new w #[.string x.lab, .int .i64 x.i.o, .int .i64 x.i.d, .int .i64 x.i.s, .int .i64 x.i.m, .string x.ref] 36
    have K0 := below_a w (.cells #[.string x.lab, .int .i64 x.i.o, .int .i64 x.i.d, .int .i64 x.i.s, .int .i64 x.i.m, .string x.ref] 36)
    have s0 : (w.alloc (.cells #[.string x.lab, .int .i64 x.i.o, .int .i64 x.i.d, .int .i64 x.i.s, .int .i64 x.i.m, .string x.ref] 36)).heap.size = w.heap.size + 1 := by simp
    have C0 := Box.new (w.alloc (.cells #[.string x.lab, .int .i64 x.i.o, .int .i64 x.i.d, .int .i64 x.i.s, .int .i64 x.i.m, .string x.ref] 36)) #[.string ⟨#[]⟩, .int .i64 0, .int .i64 0, .int .i64 0, .int .i64 0, .string ⟨#[]⟩] 36
    have K1 := below_a (w.alloc (.cells #[.string x.lab, .int .i64 x.i.o, .int .i64 x.i.d, .int .i64 x.i.s, .int .i64 x.i.m, .string x.ref] 36)) (.cells #[.string ⟨#[]⟩, .int .i64 0, .int .i64 0, .int .i64 0, .int .i64 0, .string ⟨#[]⟩] 36)
    have B1 := hideI (B0.step K1)
    rw [s0] at C0
    have C1 := hideI C0
    have KK := hideI (bt K0 K1)
    clear B0 K0 C0 K1
    go_enter Tryz.func11, Tryz.ntmps11
    go_wp2_with fail
    generalize (w.alloc (.cells #[.string x.lab, .int .i64 x.i.o, .int .i64 x.i.d, .int .i64 x.i.s, .int .i64 x.i.m, .string x.ref] 36)).alloc (.cells #[.string ⟨#[]⟩, .int .i64 0, .int .i64 0, .int .i64 0, .int .i64 0, .string ⟨#[]⟩] 36) = w2 at *
    have BU := unhideI B1
    have c0 := BU.2.1 0 _ rfl
    have c1 := BU.2.1 1 _ rfl
    have c2 := BU.2.1 2 _ rfl
    have c3 := BU.2.1 3 _ rfl
    have c4 := BU.2.1 4 _ rfl
    have c5 := BU.2.1 5 _ rfl
    clear BU
    go_region_with ((go_at_call 15; refine (BA _).mono ?_; rintro e w4 ⟨rfl, k4⟩; have k5 : Below w2.heap.size w2 w4 := ⟨k4.os, k4.tape, k4.output, k4.size, k4.block⟩; have BU := (unhideI B1).step k5; have CU := (unhideI C1).step k5; have HC : Hid (LnBox w4 (w.heap.size + 1) ⟨⟨#[]⟩, ⟨0, 0, 0, 0⟩, ⟨#[]⟩⟩) := CU; have KU := hideI (bt (unhideI KK) k5); have d5 := BU.2.1 5 _ rfl; have e1 : w.heap.size < w4.heap.size := BU.1; have e2 : w.heap.size + 1 < w4.heap.size := CU.1; have e3 := CU.2.2; have e4 := CU.2.1 0 _ rfl; have e5 := CU.2.1 1 _ rfl; have e6 := CU.2.1 2 _ rfl; have e7 := CU.2.1 3 _ rfl; have e8 := CU.2.1 4 _ rfl; have e9 := CU.2.1 5 _ rfl; clear BU CU k4 k5))
    all_goals
      have BW := hideI (LnBox.all (y := ⟨⟨#[]⟩, ⟨bo, bd, bs, bm⟩, x.ref⟩) (unhideI HC))
      have KW := hideI (below_all (b := w.heap.size + 1) (v0 := .string ⟨#[]⟩) (v1 := .int .i64 bo) (v2 := .int .i64 bd) (v3 := .int .i64 bs) (v4 := .int .i64 bm) (v5 := .string x.ref) (unhideI KU) (Nat.le_succ _))
      clear d5 e1 e2 e3 e4 e5 e6 e7 e8 e9
      go_wp2_with fail
      exact bodyPost_ret (v := aggL ⟨⟨#[]⟩, ⟨bo, bd, bs, bm⟩, x.ref⟩) (resL1 Tryz.results11 (unhideI BW) rfl) rfl ⟨rfl, unhideI KW⟩
end Go.Proofs.YtoopgkbefhoeiaaGreatDoor
