/-
  Writing: the document's answer: any statement (written by mkRsH.py).
-/
import Derived.Test.YtbakhengcgclmaaGreatDoorRsH
import Derived.Test.YtbakhengcgclmaaGreatDoorRsJ
namespace Go.Proofs.YtbakhengcgclmaaGreatDoor
open Go.RowKit Go.Great
set_option linter.unusedSimpArgs false
set_option linter.unusedVariables false

theorem rwrite_any : ∀ x : Sm, RWr x := by
  apply Sm.ind
  intro x I1 I2 I3 I4 B n v w hs hB hf ho hd hl
  cases hh : x.has
  · by_cases h2 : x.k = 2
    · exact rwr_2n x v B n w hs hB hf ho hd hl h2 hh
    by_cases h3 : x.k = 3
    · exact rwr_3n x v B n w hs hB hf ho hd hl h3 hh
    by_cases h4 : x.k = 4
    · exact rwr_4n x v B n w hs hB hf ho hd hl h4 hh
    by_cases h8 : x.k = 8
    · exact rwr_8n x v B n w hs hB hf ho hd hl h8 hh
    by_cases h9 : x.k = 9
    · exact rwr_9n x v B n w hs hB hf ho hd hl h9 hh
    by_cases h10 : x.k = 10
    · exact rwr_10n x v B n w hs hB hf ho hd hl h10 hh
    by_cases h5 : x.k = 5
    · by_cases hq : 0 < x.els.length
      · exact rwr_5en x I3 I4 v B n w hs hB hf ho hd hl h5 hh hq
      · exact rwr_5n x I3 I4 v B n w hs hB hf ho hd hl h5 hh (by omega)
    by_cases h6 : x.k = 6
    · exact rwr_6n x I3 I4 v B n w hs hB hf ho hd hl h6 hh
    by_cases h11 : x.k = 11
    · exact rwr_11n x I3 I4 v B n w hs hB hf ho hd hl h11 hh
    by_cases h7 : x.k = 7
    · exact rwr_7n x I3 v B n w hs hB hf ho hd hl h7 hh
    exact rwr_0n x v B n w hs hB hf ho hd hl (by omega) hh
  · by_cases h2 : x.k = 2
    · exact rwr_2h x v B n w hs hB hf ho hd hl h2 hh
    by_cases h3 : x.k = 3
    · exact rwr_3h x v B n w hs hB hf ho hd hl h3 hh
    by_cases h4 : x.k = 4
    · exact rwr_4h x v B n w hs hB hf ho hd hl h4 hh
    by_cases h8 : x.k = 8
    · exact rwr_8h x v B n w hs hB hf ho hd hl h8 hh
    by_cases h9 : x.k = 9
    · exact rwr_9h x v B n w hs hB hf ho hd hl h9 hh
    by_cases h10 : x.k = 10
    · exact rwr_10h x v B n w hs hB hf ho hd hl h10 hh
    by_cases h5 : x.k = 5
    · by_cases hq : 0 < x.els.length
      · exact rwr_5eh x I3 I4 v B n w hs hB hf ho hd hl h5 hh hq
      · exact rwr_5h x I3 I4 v B n w hs hB hf ho hd hl h5 hh (by omega)
    by_cases h6 : x.k = 6
    · exact rwr_6h x I3 I4 v B n w hs hB hf ho hd hl h6 hh
    by_cases h11 : x.k = 11
    · exact rwr_11h x I3 I4 v B n w hs hB hf ho hd hl h11 hh
    by_cases h7 : x.k = 7
    · exact rwr_7h x I3 v B n w hs hB hf ho hd hl h7 hh
    exact rwr_0h x v B n w hs hB hf ho hd hl (by omega) hh
end Go.Proofs.YtbakhengcgclmaaGreatDoor
