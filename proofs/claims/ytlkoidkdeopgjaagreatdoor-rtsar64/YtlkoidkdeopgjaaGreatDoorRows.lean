/-
  NARROWER THAN 'FOR EVERY INPUT', by the rows' own cells (each row's printed sentence says how): RtSrem16: laid · RtSrem32: laid · RtSrem64: laid · RtShl16: laid · RtShl32: laid · RtShl64: laid · RtShr16: laid · RtShr32: laid · RtShr64: laid · RtSar16: laid · RtSar32: laid · RtSar64: laid.
  DERIVED. THE GIVEN ROWS OF THIS SEAT. 12 by the template 'for every input the law returns true; each argument reads behind the call as it read before'; 0 by the template 'total and deterministic' (their statements: YtlkoidkdeopgjaaGreatDoorTotals.lean).
  GIVEN WITH THE SEED: the statements are not yours to turn. If you find one false, say at which input.
  Laid BY PROGRAM, IN A SANDBOX (cutbox-rows.mjs): the forced cells as the released guide's own fill.sh prints them over the translation 7d4ff9eabf1acfc1… (all of the seat's roots in one cut). By AI agents, Wed Nov 11 2026. No macro, syntax, notation, axiom, sorry.
-/
import Derived.Test.YtlkoidkdeopgjaaGreatDoorChecked
import GoSem.PinnedTables
import GoSem.Claim
import GoSem.ClaimJoined
import GoSem.ClaimMapViews
import Derived.JoinedTies
import Derived.KernelRfl
namespace Go.Proofs.YtlkoidkdeopgjaaGreatDoor
/- THE CELL 'sum', in the pinned program and in every row, IS THE sha256 OF THE DUMP (.gsa) THAT YtlkoidkdeopgjaaGreatDoorProg.lean LOADS. Nothing in Lean hashes anything: it is a label: what it is worth is what the hold of that sum in a sandbox is worth. -/
noncomputable def Tryz.pinned : Pinned := { name := "ytlkoidkdeopgjaagreatdoor", sum := "7d4ff9eabf1acfc13ea9ff208683d9ada41fc9b7fbdb05ff3f46eb4df9452716", checked := Tryz.checked }
namespace Rows
def none {H : Type} : Left H := { results := [], args := [] }

/- WHAT THE LISTED PACKAGE-LEVEL VARIABLES READ AS WHEN THE CALL BEGINS. Each datum BY PROGRAM (the guide's laid-datum.mjs) off the statement by which the dump's own 'gosem.cut.vars' lays the variable. In a bare row this is a premise. The card (YtlkoidkdeopgjaaGreatDoorCards.lean) ties it to the program's text. -/
def laid_math_bits_deBruijn32tab {H : Type} : DataW H := .agg [.lit (.int .u8 0), .lit (.int .u8 1), .lit (.int .u8 28), .lit (.int .u8 2), .lit (.int .u8 29), .lit (.int .u8 14), .lit (.int .u8 24), .lit (.int .u8 3), .lit (.int .u8 30), .lit (.int .u8 22), .lit (.int .u8 20), .lit (.int .u8 15), .lit (.int .u8 25), .lit (.int .u8 17), .lit (.int .u8 4), .lit (.int .u8 8), .lit (.int .u8 31), .lit (.int .u8 27), .lit (.int .u8 13), .lit (.int .u8 23), .lit (.int .u8 21), .lit (.int .u8 19), .lit (.int .u8 16), .lit (.int .u8 7), .lit (.int .u8 26), .lit (.int .u8 12), .lit (.int .u8 18), .lit (.int .u8 6), .lit (.int .u8 11), .lit (.int .u8 5), .lit (.int .u8 10), .lit (.int .u8 9)]
def laid_math_bits_deBruijn64tab {H : Type} : DataW H := .agg [.lit (.int .u8 0), .lit (.int .u8 1), .lit (.int .u8 56), .lit (.int .u8 2), .lit (.int .u8 57), .lit (.int .u8 49), .lit (.int .u8 28), .lit (.int .u8 3), .lit (.int .u8 61), .lit (.int .u8 58), .lit (.int .u8 42), .lit (.int .u8 50), .lit (.int .u8 38), .lit (.int .u8 29), .lit (.int .u8 17), .lit (.int .u8 4), .lit (.int .u8 62), .lit (.int .u8 47), .lit (.int .u8 59), .lit (.int .u8 36), .lit (.int .u8 45), .lit (.int .u8 43), .lit (.int .u8 51), .lit (.int .u8 22), .lit (.int .u8 53), .lit (.int .u8 39), .lit (.int .u8 33), .lit (.int .u8 30), .lit (.int .u8 24), .lit (.int .u8 18), .lit (.int .u8 12), .lit (.int .u8 5), .lit (.int .u8 63), .lit (.int .u8 55), .lit (.int .u8 48), .lit (.int .u8 27), .lit (.int .u8 60), .lit (.int .u8 41), .lit (.int .u8 37), .lit (.int .u8 16), .lit (.int .u8 46), .lit (.int .u8 35), .lit (.int .u8 44), .lit (.int .u8 21), .lit (.int .u8 52), .lit (.int .u8 32), .lit (.int .u8 23), .lit (.int .u8 11), .lit (.int .u8 54), .lit (.int .u8 26), .lit (.int .u8 40), .lit (.int .u8 15), .lit (.int .u8 34), .lit (.int .u8 20), .lit (.int .u8 31), .lit (.int .u8 10), .lit (.int .u8 25), .lit (.int .u8 14), .lit (.int .u8 19), .lit (.int .u8 9), .lit (.int .u8 13), .lit (.int .u8 8), .lit (.int .u8 7), .lit (.int .u8 6)]
def laid_internal_strconv_uint64pow10 {H : Type} : DataW H := .agg [.lit (.int .u64 1), .lit (.int .u64 10), .lit (.int .u64 100), .lit (.int .u64 1000), .lit (.int .u64 10000), .lit (.int .u64 100000), .lit (.int .u64 1000000), .lit (.int .u64 10000000), .lit (.int .u64 100000000), .lit (.int .u64 1000000000), .lit (.int .u64 10000000000), .lit (.int .u64 100000000000), .lit (.int .u64 1000000000000), .lit (.int .u64 10000000000000), .lit (.int .u64 100000000000000), .lit (.int .u64 1000000000000000), .lit (.int .u64 10000000000000000), .lit (.int .u64 100000000000000000), .lit (.int .u64 1000000000000000000), .lit (.int .u64 10000000000000000000)]
def laid_unicode_utf8_acceptRanges {H : Type} : DataW H := .agg [.agg [.lit (.int .u8 128), .lit (.int .u8 191)], .agg [.lit (.int .u8 160), .lit (.int .u8 191)], .agg [.lit (.int .u8 128), .lit (.int .u8 159)], .agg [.lit (.int .u8 144), .lit (.int .u8 191)], .agg [.lit (.int .u8 128), .lit (.int .u8 143)], .agg [.lit (.int .u8 0), .lit (.int .u8 0)], .agg [.lit (.int .u8 0), .lit (.int .u8 0)], .agg [.lit (.int .u8 0), .lit (.int .u8 0)], .agg [.lit (.int .u8 0), .lit (.int .u8 0)], .agg [.lit (.int .u8 0), .lit (.int .u8 0)], .agg [.lit (.int .u8 0), .lit (.int .u8 0)], .agg [.lit (.int .u8 0), .lit (.int .u8 0)], .agg [.lit (.int .u8 0), .lit (.int .u8 0)], .agg [.lit (.int .u8 0), .lit (.int .u8 0)], .agg [.lit (.int .u8 0), .lit (.int .u8 0)], .agg [.lit (.int .u8 0), .lit (.int .u8 0)]]
def laid_strconv_ErrRange {H : Type} : DataW H := .iface "*errors.errorString" (.ptr (.agg [.lit (.string [118, 97, 108, 117, 101, 32, 111, 117, 116, 32, 111, 102, 32, 114, 97, 110, 103, 101])]))
def laid_strconv_ErrSyntax {H : Type} : DataW H := .iface "*errors.errorString" (.ptr (.agg [.lit (.string [105, 110, 118, 97, 108, 105, 100, 32, 115, 121, 110, 116, 97, 120])]))
def laid_pairlegal_asm_kindWords {H : Type} : DataW H := .agg [.lit (.string [104, 97, 108, 116]), .lit (.string [109, 111, 118]), .lit (.string [108, 100, 105]), .lit (.string [108, 100]), .lit (.string [115, 116]), .lit (.string [97, 100, 100]), .lit (.string [97, 100, 99]), .lit (.string [115, 117, 98]), .lit (.string [115, 98, 99]), .lit (.string [97, 110, 100]), .lit (.string [111, 114]), .lit (.string [120, 111, 114]), .lit (.string [99, 109, 112]), .lit (.string [99, 112, 99]), .lit (.string [115, 104, 108]), .lit (.string [114, 111, 108]), .lit (.string [115, 104, 114]), .lit (.string [115, 97, 114]), .lit (.string [114, 111, 114]), .lit (.string [106, 109, 112]), .lit (.string [106, 122]), .lit (.string [106, 110, 122]), .lit (.string [106, 99]), .lit (.string [106, 110, 99]), .lit (.string [106, 108, 116]), .lit (.string [106, 103, 101]), .lit (.string [99, 97, 108, 108]), .lit (.string [114, 101, 116]), .lit (.string [112, 117, 115, 104]), .lit (.string [112, 111, 112]), .lit (.string [111, 117, 116]), .lit (.string [105, 110]), .lit (.string [116, 114, 97, 112])]
def laid_pairlegal_rt_sizes {H : Type} : DataW H := .agg [.lit (.int .i64 1), .lit (.int .i64 2), .lit (.int .i64 4)]
/-- One of Go's own tables, pinned by name: the form's constant. -/
def laid_unicode_utf8_first : DataW Unit := Go.Pinned.utf8First

/-- 'pairlegallaw6.RtSrem16': WHATEVER THE INPUT: true; the input reads as it did. -/
def rtSrem16Spec : ChangeSpec := { name := "rtSrem16", fn := fun _ => fun
  | [d1, d2, d3, d4, d5, d6] => { results := [.lit (.bool true)], args := [d1, d2, d3, d4, d5, d6] }
  | _ => none }
def rtSrem16Row : OpenClaim := { program := "ytlkoidkdeopgjaagreatdoor", sum := "7d4ff9eabf1acfc13ea9ff208683d9ada41fc9b7fbdb05ff3f46eb4df9452716", func := "pairlegal/pairlegallaw6.RtSrem16", spec := "rtSrem16", inPlace := ["internal/abi.NoEscape", "internal/bytealg.MakeNoZero", "internal/bytealg.CountString", "internal/bytealg.IndexByteString", "internal/bytealg.IndexString"], unfollowed := true, recurses := true, named := ["pairlegal/rt.sizes", "internal/strconv.uint64pow10", "math/bits.deBruijn32tab", "math/bits.deBruijn64tab", "internal/bytealg.MaxLen", "pairlegal/asm.kindWords", "unicode/utf8.first", "unicode/utf8.acceptRanges", "strconv.ErrSyntax", "strconv.ErrRange"], apart := false, laid := [("math/bits.deBruijn32tab", laid_math_bits_deBruijn32tab), ("math/bits.deBruijn64tab", laid_math_bits_deBruijn64tab), ("internal/strconv.uint64pow10", laid_internal_strconv_uint64pow10), ("unicode/utf8.acceptRanges", laid_unicode_utf8_acceptRanges), ("strconv.ErrRange", laid_strconv_ErrRange), ("strconv.ErrSyntax", laid_strconv_ErrSyntax), ("pairlegal/asm.kindWords", laid_pairlegal_asm_kindWords), ("pairlegal/rt.sizes", laid_pairlegal_rt_sizes), ("unicode/utf8.first", laid_unicode_utf8_first)] }
def RtSrem16Said : Prop := rtSrem16Row.holds Tryz.pinned (OpenSpec.ofChange rtSrem16Spec)

/-- ITS FALSE NEIGHBOUR: 'it returns false'. Refute it at one input. -/
def rtSrem16Wrong : ChangeSpec := { name := "rtSrem16", fn := fun _ => fun
  | [d1, d2, d3, d4, d5, d6] => { results := [.lit (.bool false)], args := [d1, d2, d3, d4, d5, d6] }
  | _ => none }
def RtSrem16WrongFalsely : Prop := rtSrem16Row.holds Tryz.pinned (OpenSpec.ofChange rtSrem16Wrong)

/-- 'pairlegallaw6.RtSrem32': WHATEVER THE INPUT: true; the input reads as it did. -/
def rtSrem32Spec : ChangeSpec := { name := "rtSrem32", fn := fun _ => fun
  | [d1, d2, d3, d4, d5, d6] => { results := [.lit (.bool true)], args := [d1, d2, d3, d4, d5, d6] }
  | _ => none }
def rtSrem32Row : OpenClaim := { program := "ytlkoidkdeopgjaagreatdoor", sum := "7d4ff9eabf1acfc13ea9ff208683d9ada41fc9b7fbdb05ff3f46eb4df9452716", func := "pairlegal/pairlegallaw6.RtSrem32", spec := "rtSrem32", inPlace := ["internal/abi.NoEscape", "internal/bytealg.MakeNoZero", "internal/bytealg.CountString", "internal/bytealg.IndexByteString", "internal/bytealg.IndexString"], unfollowed := true, recurses := true, named := ["pairlegal/rt.sizes", "internal/strconv.uint64pow10", "math/bits.deBruijn32tab", "math/bits.deBruijn64tab", "internal/bytealg.MaxLen", "pairlegal/asm.kindWords", "unicode/utf8.first", "unicode/utf8.acceptRanges", "strconv.ErrSyntax", "strconv.ErrRange"], apart := false, laid := [("math/bits.deBruijn32tab", laid_math_bits_deBruijn32tab), ("math/bits.deBruijn64tab", laid_math_bits_deBruijn64tab), ("internal/strconv.uint64pow10", laid_internal_strconv_uint64pow10), ("unicode/utf8.acceptRanges", laid_unicode_utf8_acceptRanges), ("strconv.ErrRange", laid_strconv_ErrRange), ("strconv.ErrSyntax", laid_strconv_ErrSyntax), ("pairlegal/asm.kindWords", laid_pairlegal_asm_kindWords), ("pairlegal/rt.sizes", laid_pairlegal_rt_sizes), ("unicode/utf8.first", laid_unicode_utf8_first)] }
def RtSrem32Said : Prop := rtSrem32Row.holds Tryz.pinned (OpenSpec.ofChange rtSrem32Spec)

/-- ITS FALSE NEIGHBOUR: 'it returns false'. Refute it at one input. -/
def rtSrem32Wrong : ChangeSpec := { name := "rtSrem32", fn := fun _ => fun
  | [d1, d2, d3, d4, d5, d6] => { results := [.lit (.bool false)], args := [d1, d2, d3, d4, d5, d6] }
  | _ => none }
def RtSrem32WrongFalsely : Prop := rtSrem32Row.holds Tryz.pinned (OpenSpec.ofChange rtSrem32Wrong)

/-- 'pairlegallaw6.RtSrem64': WHATEVER THE INPUT: true; the input reads as it did. -/
def rtSrem64Spec : ChangeSpec := { name := "rtSrem64", fn := fun _ => fun
  | [d1, d2, d3, d4, d5, d6] => { results := [.lit (.bool true)], args := [d1, d2, d3, d4, d5, d6] }
  | _ => none }
def rtSrem64Row : OpenClaim := { program := "ytlkoidkdeopgjaagreatdoor", sum := "7d4ff9eabf1acfc13ea9ff208683d9ada41fc9b7fbdb05ff3f46eb4df9452716", func := "pairlegal/pairlegallaw6.RtSrem64", spec := "rtSrem64", inPlace := ["internal/abi.NoEscape", "internal/bytealg.MakeNoZero", "internal/bytealg.CountString", "internal/bytealg.IndexByteString", "internal/bytealg.IndexString"], unfollowed := true, recurses := true, named := ["pairlegal/rt.sizes", "internal/strconv.uint64pow10", "math/bits.deBruijn32tab", "math/bits.deBruijn64tab", "internal/bytealg.MaxLen", "pairlegal/asm.kindWords", "unicode/utf8.first", "unicode/utf8.acceptRanges", "strconv.ErrSyntax", "strconv.ErrRange"], apart := false, laid := [("math/bits.deBruijn32tab", laid_math_bits_deBruijn32tab), ("math/bits.deBruijn64tab", laid_math_bits_deBruijn64tab), ("internal/strconv.uint64pow10", laid_internal_strconv_uint64pow10), ("unicode/utf8.acceptRanges", laid_unicode_utf8_acceptRanges), ("strconv.ErrRange", laid_strconv_ErrRange), ("strconv.ErrSyntax", laid_strconv_ErrSyntax), ("pairlegal/asm.kindWords", laid_pairlegal_asm_kindWords), ("pairlegal/rt.sizes", laid_pairlegal_rt_sizes), ("unicode/utf8.first", laid_unicode_utf8_first)] }
def RtSrem64Said : Prop := rtSrem64Row.holds Tryz.pinned (OpenSpec.ofChange rtSrem64Spec)

/-- ITS FALSE NEIGHBOUR: 'it returns false'. Refute it at one input. -/
def rtSrem64Wrong : ChangeSpec := { name := "rtSrem64", fn := fun _ => fun
  | [d1, d2, d3, d4, d5, d6] => { results := [.lit (.bool false)], args := [d1, d2, d3, d4, d5, d6] }
  | _ => none }
def RtSrem64WrongFalsely : Prop := rtSrem64Row.holds Tryz.pinned (OpenSpec.ofChange rtSrem64Wrong)

/-- 'pairlegallaw6.RtShl16': WHATEVER THE INPUT: true; the input reads as it did. -/
def rtShl16Spec : ChangeSpec := { name := "rtShl16", fn := fun _ => fun
  | [d1, d2, d3, d4, d5, d6] => { results := [.lit (.bool true)], args := [d1, d2, d3, d4, d5, d6] }
  | _ => none }
def rtShl16Row : OpenClaim := { program := "ytlkoidkdeopgjaagreatdoor", sum := "7d4ff9eabf1acfc13ea9ff208683d9ada41fc9b7fbdb05ff3f46eb4df9452716", func := "pairlegal/pairlegallaw6.RtShl16", spec := "rtShl16", inPlace := ["internal/abi.NoEscape", "internal/bytealg.MakeNoZero", "internal/bytealg.CountString", "internal/bytealg.IndexByteString", "internal/bytealg.IndexString"], unfollowed := true, recurses := true, named := ["pairlegal/rt.sizes", "internal/strconv.uint64pow10", "math/bits.deBruijn32tab", "math/bits.deBruijn64tab", "internal/bytealg.MaxLen", "pairlegal/asm.kindWords", "unicode/utf8.first", "unicode/utf8.acceptRanges", "strconv.ErrSyntax", "strconv.ErrRange"], apart := false, laid := [("math/bits.deBruijn32tab", laid_math_bits_deBruijn32tab), ("math/bits.deBruijn64tab", laid_math_bits_deBruijn64tab), ("internal/strconv.uint64pow10", laid_internal_strconv_uint64pow10), ("unicode/utf8.acceptRanges", laid_unicode_utf8_acceptRanges), ("strconv.ErrRange", laid_strconv_ErrRange), ("strconv.ErrSyntax", laid_strconv_ErrSyntax), ("pairlegal/asm.kindWords", laid_pairlegal_asm_kindWords), ("pairlegal/rt.sizes", laid_pairlegal_rt_sizes), ("unicode/utf8.first", laid_unicode_utf8_first)] }
def RtShl16Said : Prop := rtShl16Row.holds Tryz.pinned (OpenSpec.ofChange rtShl16Spec)

/-- ITS FALSE NEIGHBOUR: 'it returns false'. Refute it at one input. -/
def rtShl16Wrong : ChangeSpec := { name := "rtShl16", fn := fun _ => fun
  | [d1, d2, d3, d4, d5, d6] => { results := [.lit (.bool false)], args := [d1, d2, d3, d4, d5, d6] }
  | _ => none }
def RtShl16WrongFalsely : Prop := rtShl16Row.holds Tryz.pinned (OpenSpec.ofChange rtShl16Wrong)

/-- 'pairlegallaw6.RtShl32': WHATEVER THE INPUT: true; the input reads as it did. -/
def rtShl32Spec : ChangeSpec := { name := "rtShl32", fn := fun _ => fun
  | [d1, d2, d3, d4, d5, d6] => { results := [.lit (.bool true)], args := [d1, d2, d3, d4, d5, d6] }
  | _ => none }
def rtShl32Row : OpenClaim := { program := "ytlkoidkdeopgjaagreatdoor", sum := "7d4ff9eabf1acfc13ea9ff208683d9ada41fc9b7fbdb05ff3f46eb4df9452716", func := "pairlegal/pairlegallaw6.RtShl32", spec := "rtShl32", inPlace := ["internal/abi.NoEscape", "internal/bytealg.MakeNoZero", "internal/bytealg.CountString", "internal/bytealg.IndexByteString", "internal/bytealg.IndexString"], unfollowed := true, recurses := true, named := ["pairlegal/rt.sizes", "internal/strconv.uint64pow10", "math/bits.deBruijn32tab", "math/bits.deBruijn64tab", "internal/bytealg.MaxLen", "pairlegal/asm.kindWords", "unicode/utf8.first", "unicode/utf8.acceptRanges", "strconv.ErrSyntax", "strconv.ErrRange"], apart := false, laid := [("math/bits.deBruijn32tab", laid_math_bits_deBruijn32tab), ("math/bits.deBruijn64tab", laid_math_bits_deBruijn64tab), ("internal/strconv.uint64pow10", laid_internal_strconv_uint64pow10), ("unicode/utf8.acceptRanges", laid_unicode_utf8_acceptRanges), ("strconv.ErrRange", laid_strconv_ErrRange), ("strconv.ErrSyntax", laid_strconv_ErrSyntax), ("pairlegal/asm.kindWords", laid_pairlegal_asm_kindWords), ("pairlegal/rt.sizes", laid_pairlegal_rt_sizes), ("unicode/utf8.first", laid_unicode_utf8_first)] }
def RtShl32Said : Prop := rtShl32Row.holds Tryz.pinned (OpenSpec.ofChange rtShl32Spec)

/-- ITS FALSE NEIGHBOUR: 'it returns false'. Refute it at one input. -/
def rtShl32Wrong : ChangeSpec := { name := "rtShl32", fn := fun _ => fun
  | [d1, d2, d3, d4, d5, d6] => { results := [.lit (.bool false)], args := [d1, d2, d3, d4, d5, d6] }
  | _ => none }
def RtShl32WrongFalsely : Prop := rtShl32Row.holds Tryz.pinned (OpenSpec.ofChange rtShl32Wrong)

/-- 'pairlegallaw6.RtShl64': WHATEVER THE INPUT: true; the input reads as it did. -/
def rtShl64Spec : ChangeSpec := { name := "rtShl64", fn := fun _ => fun
  | [d1, d2, d3, d4, d5, d6] => { results := [.lit (.bool true)], args := [d1, d2, d3, d4, d5, d6] }
  | _ => none }
def rtShl64Row : OpenClaim := { program := "ytlkoidkdeopgjaagreatdoor", sum := "7d4ff9eabf1acfc13ea9ff208683d9ada41fc9b7fbdb05ff3f46eb4df9452716", func := "pairlegal/pairlegallaw6.RtShl64", spec := "rtShl64", inPlace := ["internal/abi.NoEscape", "internal/bytealg.MakeNoZero", "internal/bytealg.CountString", "internal/bytealg.IndexByteString", "internal/bytealg.IndexString"], unfollowed := true, recurses := true, named := ["pairlegal/rt.sizes", "internal/strconv.uint64pow10", "math/bits.deBruijn32tab", "math/bits.deBruijn64tab", "internal/bytealg.MaxLen", "pairlegal/asm.kindWords", "unicode/utf8.first", "unicode/utf8.acceptRanges", "strconv.ErrSyntax", "strconv.ErrRange"], apart := false, laid := [("math/bits.deBruijn32tab", laid_math_bits_deBruijn32tab), ("math/bits.deBruijn64tab", laid_math_bits_deBruijn64tab), ("internal/strconv.uint64pow10", laid_internal_strconv_uint64pow10), ("unicode/utf8.acceptRanges", laid_unicode_utf8_acceptRanges), ("strconv.ErrRange", laid_strconv_ErrRange), ("strconv.ErrSyntax", laid_strconv_ErrSyntax), ("pairlegal/asm.kindWords", laid_pairlegal_asm_kindWords), ("pairlegal/rt.sizes", laid_pairlegal_rt_sizes), ("unicode/utf8.first", laid_unicode_utf8_first)] }
def RtShl64Said : Prop := rtShl64Row.holds Tryz.pinned (OpenSpec.ofChange rtShl64Spec)

/-- ITS FALSE NEIGHBOUR: 'it returns false'. Refute it at one input. -/
def rtShl64Wrong : ChangeSpec := { name := "rtShl64", fn := fun _ => fun
  | [d1, d2, d3, d4, d5, d6] => { results := [.lit (.bool false)], args := [d1, d2, d3, d4, d5, d6] }
  | _ => none }
def RtShl64WrongFalsely : Prop := rtShl64Row.holds Tryz.pinned (OpenSpec.ofChange rtShl64Wrong)

/-- 'pairlegallaw6.RtShr16': WHATEVER THE INPUT: true; the input reads as it did. -/
def rtShr16Spec : ChangeSpec := { name := "rtShr16", fn := fun _ => fun
  | [d1, d2, d3, d4, d5, d6] => { results := [.lit (.bool true)], args := [d1, d2, d3, d4, d5, d6] }
  | _ => none }
def rtShr16Row : OpenClaim := { program := "ytlkoidkdeopgjaagreatdoor", sum := "7d4ff9eabf1acfc13ea9ff208683d9ada41fc9b7fbdb05ff3f46eb4df9452716", func := "pairlegal/pairlegallaw6.RtShr16", spec := "rtShr16", inPlace := ["internal/abi.NoEscape", "internal/bytealg.MakeNoZero", "internal/bytealg.CountString", "internal/bytealg.IndexByteString", "internal/bytealg.IndexString"], unfollowed := true, recurses := true, named := ["pairlegal/rt.sizes", "internal/strconv.uint64pow10", "math/bits.deBruijn32tab", "math/bits.deBruijn64tab", "internal/bytealg.MaxLen", "pairlegal/asm.kindWords", "unicode/utf8.first", "unicode/utf8.acceptRanges", "strconv.ErrSyntax", "strconv.ErrRange"], apart := false, laid := [("math/bits.deBruijn32tab", laid_math_bits_deBruijn32tab), ("math/bits.deBruijn64tab", laid_math_bits_deBruijn64tab), ("internal/strconv.uint64pow10", laid_internal_strconv_uint64pow10), ("unicode/utf8.acceptRanges", laid_unicode_utf8_acceptRanges), ("strconv.ErrRange", laid_strconv_ErrRange), ("strconv.ErrSyntax", laid_strconv_ErrSyntax), ("pairlegal/asm.kindWords", laid_pairlegal_asm_kindWords), ("pairlegal/rt.sizes", laid_pairlegal_rt_sizes), ("unicode/utf8.first", laid_unicode_utf8_first)] }
def RtShr16Said : Prop := rtShr16Row.holds Tryz.pinned (OpenSpec.ofChange rtShr16Spec)

/-- ITS FALSE NEIGHBOUR: 'it returns false'. Refute it at one input. -/
def rtShr16Wrong : ChangeSpec := { name := "rtShr16", fn := fun _ => fun
  | [d1, d2, d3, d4, d5, d6] => { results := [.lit (.bool false)], args := [d1, d2, d3, d4, d5, d6] }
  | _ => none }
def RtShr16WrongFalsely : Prop := rtShr16Row.holds Tryz.pinned (OpenSpec.ofChange rtShr16Wrong)

/-- 'pairlegallaw6.RtShr32': WHATEVER THE INPUT: true; the input reads as it did. -/
def rtShr32Spec : ChangeSpec := { name := "rtShr32", fn := fun _ => fun
  | [d1, d2, d3, d4, d5, d6] => { results := [.lit (.bool true)], args := [d1, d2, d3, d4, d5, d6] }
  | _ => none }
def rtShr32Row : OpenClaim := { program := "ytlkoidkdeopgjaagreatdoor", sum := "7d4ff9eabf1acfc13ea9ff208683d9ada41fc9b7fbdb05ff3f46eb4df9452716", func := "pairlegal/pairlegallaw6.RtShr32", spec := "rtShr32", inPlace := ["internal/abi.NoEscape", "internal/bytealg.MakeNoZero", "internal/bytealg.CountString", "internal/bytealg.IndexByteString", "internal/bytealg.IndexString"], unfollowed := true, recurses := true, named := ["pairlegal/rt.sizes", "internal/strconv.uint64pow10", "math/bits.deBruijn32tab", "math/bits.deBruijn64tab", "internal/bytealg.MaxLen", "pairlegal/asm.kindWords", "unicode/utf8.first", "unicode/utf8.acceptRanges", "strconv.ErrSyntax", "strconv.ErrRange"], apart := false, laid := [("math/bits.deBruijn32tab", laid_math_bits_deBruijn32tab), ("math/bits.deBruijn64tab", laid_math_bits_deBruijn64tab), ("internal/strconv.uint64pow10", laid_internal_strconv_uint64pow10), ("unicode/utf8.acceptRanges", laid_unicode_utf8_acceptRanges), ("strconv.ErrRange", laid_strconv_ErrRange), ("strconv.ErrSyntax", laid_strconv_ErrSyntax), ("pairlegal/asm.kindWords", laid_pairlegal_asm_kindWords), ("pairlegal/rt.sizes", laid_pairlegal_rt_sizes), ("unicode/utf8.first", laid_unicode_utf8_first)] }
def RtShr32Said : Prop := rtShr32Row.holds Tryz.pinned (OpenSpec.ofChange rtShr32Spec)

/-- ITS FALSE NEIGHBOUR: 'it returns false'. Refute it at one input. -/
def rtShr32Wrong : ChangeSpec := { name := "rtShr32", fn := fun _ => fun
  | [d1, d2, d3, d4, d5, d6] => { results := [.lit (.bool false)], args := [d1, d2, d3, d4, d5, d6] }
  | _ => none }
def RtShr32WrongFalsely : Prop := rtShr32Row.holds Tryz.pinned (OpenSpec.ofChange rtShr32Wrong)

/-- 'pairlegallaw6.RtShr64': WHATEVER THE INPUT: true; the input reads as it did. -/
def rtShr64Spec : ChangeSpec := { name := "rtShr64", fn := fun _ => fun
  | [d1, d2, d3, d4, d5, d6] => { results := [.lit (.bool true)], args := [d1, d2, d3, d4, d5, d6] }
  | _ => none }
def rtShr64Row : OpenClaim := { program := "ytlkoidkdeopgjaagreatdoor", sum := "7d4ff9eabf1acfc13ea9ff208683d9ada41fc9b7fbdb05ff3f46eb4df9452716", func := "pairlegal/pairlegallaw6.RtShr64", spec := "rtShr64", inPlace := ["internal/abi.NoEscape", "internal/bytealg.MakeNoZero", "internal/bytealg.CountString", "internal/bytealg.IndexByteString", "internal/bytealg.IndexString"], unfollowed := true, recurses := true, named := ["pairlegal/rt.sizes", "internal/strconv.uint64pow10", "math/bits.deBruijn32tab", "math/bits.deBruijn64tab", "internal/bytealg.MaxLen", "pairlegal/asm.kindWords", "unicode/utf8.first", "unicode/utf8.acceptRanges", "strconv.ErrSyntax", "strconv.ErrRange"], apart := false, laid := [("math/bits.deBruijn32tab", laid_math_bits_deBruijn32tab), ("math/bits.deBruijn64tab", laid_math_bits_deBruijn64tab), ("internal/strconv.uint64pow10", laid_internal_strconv_uint64pow10), ("unicode/utf8.acceptRanges", laid_unicode_utf8_acceptRanges), ("strconv.ErrRange", laid_strconv_ErrRange), ("strconv.ErrSyntax", laid_strconv_ErrSyntax), ("pairlegal/asm.kindWords", laid_pairlegal_asm_kindWords), ("pairlegal/rt.sizes", laid_pairlegal_rt_sizes), ("unicode/utf8.first", laid_unicode_utf8_first)] }
def RtShr64Said : Prop := rtShr64Row.holds Tryz.pinned (OpenSpec.ofChange rtShr64Spec)

/-- ITS FALSE NEIGHBOUR: 'it returns false'. Refute it at one input. -/
def rtShr64Wrong : ChangeSpec := { name := "rtShr64", fn := fun _ => fun
  | [d1, d2, d3, d4, d5, d6] => { results := [.lit (.bool false)], args := [d1, d2, d3, d4, d5, d6] }
  | _ => none }
def RtShr64WrongFalsely : Prop := rtShr64Row.holds Tryz.pinned (OpenSpec.ofChange rtShr64Wrong)

/-- 'pairlegallaw6.RtSar16': WHATEVER THE INPUT: true; the input reads as it did. -/
def rtSar16Spec : ChangeSpec := { name := "rtSar16", fn := fun _ => fun
  | [d1, d2, d3, d4, d5, d6] => { results := [.lit (.bool true)], args := [d1, d2, d3, d4, d5, d6] }
  | _ => none }
def rtSar16Row : OpenClaim := { program := "ytlkoidkdeopgjaagreatdoor", sum := "7d4ff9eabf1acfc13ea9ff208683d9ada41fc9b7fbdb05ff3f46eb4df9452716", func := "pairlegal/pairlegallaw6.RtSar16", spec := "rtSar16", inPlace := ["internal/abi.NoEscape", "internal/bytealg.MakeNoZero", "internal/bytealg.CountString", "internal/bytealg.IndexByteString", "internal/bytealg.IndexString"], unfollowed := true, recurses := true, named := ["pairlegal/rt.sizes", "internal/strconv.uint64pow10", "math/bits.deBruijn32tab", "math/bits.deBruijn64tab", "internal/bytealg.MaxLen", "pairlegal/asm.kindWords", "unicode/utf8.first", "unicode/utf8.acceptRanges", "strconv.ErrSyntax", "strconv.ErrRange"], apart := false, laid := [("math/bits.deBruijn32tab", laid_math_bits_deBruijn32tab), ("math/bits.deBruijn64tab", laid_math_bits_deBruijn64tab), ("internal/strconv.uint64pow10", laid_internal_strconv_uint64pow10), ("unicode/utf8.acceptRanges", laid_unicode_utf8_acceptRanges), ("strconv.ErrRange", laid_strconv_ErrRange), ("strconv.ErrSyntax", laid_strconv_ErrSyntax), ("pairlegal/asm.kindWords", laid_pairlegal_asm_kindWords), ("pairlegal/rt.sizes", laid_pairlegal_rt_sizes), ("unicode/utf8.first", laid_unicode_utf8_first)] }
def RtSar16Said : Prop := rtSar16Row.holds Tryz.pinned (OpenSpec.ofChange rtSar16Spec)

/-- ITS FALSE NEIGHBOUR: 'it returns false'. Refute it at one input. -/
def rtSar16Wrong : ChangeSpec := { name := "rtSar16", fn := fun _ => fun
  | [d1, d2, d3, d4, d5, d6] => { results := [.lit (.bool false)], args := [d1, d2, d3, d4, d5, d6] }
  | _ => none }
def RtSar16WrongFalsely : Prop := rtSar16Row.holds Tryz.pinned (OpenSpec.ofChange rtSar16Wrong)

/-- 'pairlegallaw6.RtSar32': WHATEVER THE INPUT: true; the input reads as it did. -/
def rtSar32Spec : ChangeSpec := { name := "rtSar32", fn := fun _ => fun
  | [d1, d2, d3, d4, d5, d6] => { results := [.lit (.bool true)], args := [d1, d2, d3, d4, d5, d6] }
  | _ => none }
def rtSar32Row : OpenClaim := { program := "ytlkoidkdeopgjaagreatdoor", sum := "7d4ff9eabf1acfc13ea9ff208683d9ada41fc9b7fbdb05ff3f46eb4df9452716", func := "pairlegal/pairlegallaw6.RtSar32", spec := "rtSar32", inPlace := ["internal/abi.NoEscape", "internal/bytealg.MakeNoZero", "internal/bytealg.CountString", "internal/bytealg.IndexByteString", "internal/bytealg.IndexString"], unfollowed := true, recurses := true, named := ["pairlegal/rt.sizes", "internal/strconv.uint64pow10", "math/bits.deBruijn32tab", "math/bits.deBruijn64tab", "internal/bytealg.MaxLen", "pairlegal/asm.kindWords", "unicode/utf8.first", "unicode/utf8.acceptRanges", "strconv.ErrSyntax", "strconv.ErrRange"], apart := false, laid := [("math/bits.deBruijn32tab", laid_math_bits_deBruijn32tab), ("math/bits.deBruijn64tab", laid_math_bits_deBruijn64tab), ("internal/strconv.uint64pow10", laid_internal_strconv_uint64pow10), ("unicode/utf8.acceptRanges", laid_unicode_utf8_acceptRanges), ("strconv.ErrRange", laid_strconv_ErrRange), ("strconv.ErrSyntax", laid_strconv_ErrSyntax), ("pairlegal/asm.kindWords", laid_pairlegal_asm_kindWords), ("pairlegal/rt.sizes", laid_pairlegal_rt_sizes), ("unicode/utf8.first", laid_unicode_utf8_first)] }
def RtSar32Said : Prop := rtSar32Row.holds Tryz.pinned (OpenSpec.ofChange rtSar32Spec)

/-- ITS FALSE NEIGHBOUR: 'it returns false'. Refute it at one input. -/
def rtSar32Wrong : ChangeSpec := { name := "rtSar32", fn := fun _ => fun
  | [d1, d2, d3, d4, d5, d6] => { results := [.lit (.bool false)], args := [d1, d2, d3, d4, d5, d6] }
  | _ => none }
def RtSar32WrongFalsely : Prop := rtSar32Row.holds Tryz.pinned (OpenSpec.ofChange rtSar32Wrong)

/-- 'pairlegallaw6.RtSar64': WHATEVER THE INPUT: true; the input reads as it did. -/
def rtSar64Spec : ChangeSpec := { name := "rtSar64", fn := fun _ => fun
  | [d1, d2, d3, d4, d5, d6] => { results := [.lit (.bool true)], args := [d1, d2, d3, d4, d5, d6] }
  | _ => none }
def rtSar64Row : OpenClaim := { program := "ytlkoidkdeopgjaagreatdoor", sum := "7d4ff9eabf1acfc13ea9ff208683d9ada41fc9b7fbdb05ff3f46eb4df9452716", func := "pairlegal/pairlegallaw6.RtSar64", spec := "rtSar64", inPlace := ["internal/abi.NoEscape", "internal/bytealg.MakeNoZero", "internal/bytealg.CountString", "internal/bytealg.IndexByteString", "internal/bytealg.IndexString"], unfollowed := true, recurses := true, named := ["pairlegal/rt.sizes", "internal/strconv.uint64pow10", "math/bits.deBruijn32tab", "math/bits.deBruijn64tab", "internal/bytealg.MaxLen", "pairlegal/asm.kindWords", "unicode/utf8.first", "unicode/utf8.acceptRanges", "strconv.ErrSyntax", "strconv.ErrRange"], apart := false, laid := [("math/bits.deBruijn32tab", laid_math_bits_deBruijn32tab), ("math/bits.deBruijn64tab", laid_math_bits_deBruijn64tab), ("internal/strconv.uint64pow10", laid_internal_strconv_uint64pow10), ("unicode/utf8.acceptRanges", laid_unicode_utf8_acceptRanges), ("strconv.ErrRange", laid_strconv_ErrRange), ("strconv.ErrSyntax", laid_strconv_ErrSyntax), ("pairlegal/asm.kindWords", laid_pairlegal_asm_kindWords), ("pairlegal/rt.sizes", laid_pairlegal_rt_sizes), ("unicode/utf8.first", laid_unicode_utf8_first)] }
def RtSar64Said : Prop := rtSar64Row.holds Tryz.pinned (OpenSpec.ofChange rtSar64Spec)

/-- ITS FALSE NEIGHBOUR: 'it returns false'. Refute it at one input. -/
def rtSar64Wrong : ChangeSpec := { name := "rtSar64", fn := fun _ => fun
  | [d1, d2, d3, d4, d5, d6] => { results := [.lit (.bool false)], args := [d1, d2, d3, d4, d5, d6] }
  | _ => none }
def RtSar64WrongFalsely : Prop := rtSar64Row.holds Tryz.pinned (OpenSpec.ofChange rtSar64Wrong)

/- THE SECOND FORM. 'bulk': how many values and letters a reading holds, each counted each time it is reached (what is shared counts as often as it is met; a slice's spare places count too). A statement '..UptoSaid' is the law's where the arguments, and the package variables that the reading takes, are together of bulk at most 1048576: NARROWER than '..Said'. Prove '..Said' where nothing that the law and all that it calls make is longer than what came in: it says more and counts as full. Else prove '..UptoSaid'. A law counts once. -/
mutual
def uptoBulk {H : Type} : DataW H → Nat
  | .lit (.string bytes) => bytes.length + 1
  | .lit _ => 1
  | .nil => 1
  | .ptr d => uptoBulk d + 1
  | .slice elems spare => uptoBulkAll elems + uptoBulkAll spare + 1
  | .agg parts => uptoBulkAll parts + 1
  | .iface _ d => uptoBulk d + 1
  | .map entries => uptoBulkEntries entries + 1
  | .held _ => 1
def uptoBulkAll {H : Type} : List (DataW H) → Nat
  | [] => 0
  | d :: r => uptoBulk d + uptoBulkAll r
def uptoBulkEntries {H : Type} : List (Lit × DataW H) → Nat
  | [] => 0
  | x :: r => uptoBulkEntry x + uptoBulkEntries r
def uptoBulkEntry {H : Type} : Lit × DataW H → Nat
  | (.string bytes, d) => bytes.length + uptoBulk d + 1
  | (_, d) => uptoBulk d + 1
 end
def uptoSmall : (H : Type) → List (DataW H) → Bool := fun _ ds => decide (uptoBulkAll ds ≤ 1048576)
def OpenSpec.upto (s : _root_.Go.ChangeSpec) : _root_.Go.OpenSpec := { _root_.Go.OpenSpec.ofChange s with cond := some uptoSmall }

/-- 'pairlegallaw6.RtSrem16', WHERE WHAT IT READS IS OF BULK AT MOST 1048576: true; the input reads as it did. -/
def rtSrem16UptoRow : OpenClaim := { program := "ytlkoidkdeopgjaagreatdoor", sum := "7d4ff9eabf1acfc13ea9ff208683d9ada41fc9b7fbdb05ff3f46eb4df9452716", func := "pairlegal/pairlegallaw6.RtSrem16", spec := "rtSrem16", inPlace := ["internal/abi.NoEscape", "internal/bytealg.MakeNoZero", "internal/bytealg.CountString", "internal/bytealg.IndexByteString", "internal/bytealg.IndexString"], unfollowed := true, recurses := true, named := ["pairlegal/rt.sizes", "internal/strconv.uint64pow10", "math/bits.deBruijn32tab", "math/bits.deBruijn64tab", "internal/bytealg.MaxLen", "pairlegal/asm.kindWords", "unicode/utf8.first", "unicode/utf8.acceptRanges", "strconv.ErrSyntax", "strconv.ErrRange"], apart := false, laid := [("math/bits.deBruijn32tab", laid_math_bits_deBruijn32tab), ("math/bits.deBruijn64tab", laid_math_bits_deBruijn64tab), ("internal/strconv.uint64pow10", laid_internal_strconv_uint64pow10), ("unicode/utf8.acceptRanges", laid_unicode_utf8_acceptRanges), ("strconv.ErrRange", laid_strconv_ErrRange), ("strconv.ErrSyntax", laid_strconv_ErrSyntax), ("pairlegal/asm.kindWords", laid_pairlegal_asm_kindWords), ("pairlegal/rt.sizes", laid_pairlegal_rt_sizes), ("unicode/utf8.first", laid_unicode_utf8_first)], narrowed := true }
def RtSrem16UptoSaid : Prop := rtSrem16UptoRow.holds Tryz.pinned (OpenSpec.upto rtSrem16Spec)

/-- 'pairlegallaw6.RtSrem32', WHERE WHAT IT READS IS OF BULK AT MOST 1048576: true; the input reads as it did. -/
def rtSrem32UptoRow : OpenClaim := { program := "ytlkoidkdeopgjaagreatdoor", sum := "7d4ff9eabf1acfc13ea9ff208683d9ada41fc9b7fbdb05ff3f46eb4df9452716", func := "pairlegal/pairlegallaw6.RtSrem32", spec := "rtSrem32", inPlace := ["internal/abi.NoEscape", "internal/bytealg.MakeNoZero", "internal/bytealg.CountString", "internal/bytealg.IndexByteString", "internal/bytealg.IndexString"], unfollowed := true, recurses := true, named := ["pairlegal/rt.sizes", "internal/strconv.uint64pow10", "math/bits.deBruijn32tab", "math/bits.deBruijn64tab", "internal/bytealg.MaxLen", "pairlegal/asm.kindWords", "unicode/utf8.first", "unicode/utf8.acceptRanges", "strconv.ErrSyntax", "strconv.ErrRange"], apart := false, laid := [("math/bits.deBruijn32tab", laid_math_bits_deBruijn32tab), ("math/bits.deBruijn64tab", laid_math_bits_deBruijn64tab), ("internal/strconv.uint64pow10", laid_internal_strconv_uint64pow10), ("unicode/utf8.acceptRanges", laid_unicode_utf8_acceptRanges), ("strconv.ErrRange", laid_strconv_ErrRange), ("strconv.ErrSyntax", laid_strconv_ErrSyntax), ("pairlegal/asm.kindWords", laid_pairlegal_asm_kindWords), ("pairlegal/rt.sizes", laid_pairlegal_rt_sizes), ("unicode/utf8.first", laid_unicode_utf8_first)], narrowed := true }
def RtSrem32UptoSaid : Prop := rtSrem32UptoRow.holds Tryz.pinned (OpenSpec.upto rtSrem32Spec)

/-- 'pairlegallaw6.RtSrem64', WHERE WHAT IT READS IS OF BULK AT MOST 1048576: true; the input reads as it did. -/
def rtSrem64UptoRow : OpenClaim := { program := "ytlkoidkdeopgjaagreatdoor", sum := "7d4ff9eabf1acfc13ea9ff208683d9ada41fc9b7fbdb05ff3f46eb4df9452716", func := "pairlegal/pairlegallaw6.RtSrem64", spec := "rtSrem64", inPlace := ["internal/abi.NoEscape", "internal/bytealg.MakeNoZero", "internal/bytealg.CountString", "internal/bytealg.IndexByteString", "internal/bytealg.IndexString"], unfollowed := true, recurses := true, named := ["pairlegal/rt.sizes", "internal/strconv.uint64pow10", "math/bits.deBruijn32tab", "math/bits.deBruijn64tab", "internal/bytealg.MaxLen", "pairlegal/asm.kindWords", "unicode/utf8.first", "unicode/utf8.acceptRanges", "strconv.ErrSyntax", "strconv.ErrRange"], apart := false, laid := [("math/bits.deBruijn32tab", laid_math_bits_deBruijn32tab), ("math/bits.deBruijn64tab", laid_math_bits_deBruijn64tab), ("internal/strconv.uint64pow10", laid_internal_strconv_uint64pow10), ("unicode/utf8.acceptRanges", laid_unicode_utf8_acceptRanges), ("strconv.ErrRange", laid_strconv_ErrRange), ("strconv.ErrSyntax", laid_strconv_ErrSyntax), ("pairlegal/asm.kindWords", laid_pairlegal_asm_kindWords), ("pairlegal/rt.sizes", laid_pairlegal_rt_sizes), ("unicode/utf8.first", laid_unicode_utf8_first)], narrowed := true }
def RtSrem64UptoSaid : Prop := rtSrem64UptoRow.holds Tryz.pinned (OpenSpec.upto rtSrem64Spec)

/-- 'pairlegallaw6.RtShl16', WHERE WHAT IT READS IS OF BULK AT MOST 1048576: true; the input reads as it did. -/
def rtShl16UptoRow : OpenClaim := { program := "ytlkoidkdeopgjaagreatdoor", sum := "7d4ff9eabf1acfc13ea9ff208683d9ada41fc9b7fbdb05ff3f46eb4df9452716", func := "pairlegal/pairlegallaw6.RtShl16", spec := "rtShl16", inPlace := ["internal/abi.NoEscape", "internal/bytealg.MakeNoZero", "internal/bytealg.CountString", "internal/bytealg.IndexByteString", "internal/bytealg.IndexString"], unfollowed := true, recurses := true, named := ["pairlegal/rt.sizes", "internal/strconv.uint64pow10", "math/bits.deBruijn32tab", "math/bits.deBruijn64tab", "internal/bytealg.MaxLen", "pairlegal/asm.kindWords", "unicode/utf8.first", "unicode/utf8.acceptRanges", "strconv.ErrSyntax", "strconv.ErrRange"], apart := false, laid := [("math/bits.deBruijn32tab", laid_math_bits_deBruijn32tab), ("math/bits.deBruijn64tab", laid_math_bits_deBruijn64tab), ("internal/strconv.uint64pow10", laid_internal_strconv_uint64pow10), ("unicode/utf8.acceptRanges", laid_unicode_utf8_acceptRanges), ("strconv.ErrRange", laid_strconv_ErrRange), ("strconv.ErrSyntax", laid_strconv_ErrSyntax), ("pairlegal/asm.kindWords", laid_pairlegal_asm_kindWords), ("pairlegal/rt.sizes", laid_pairlegal_rt_sizes), ("unicode/utf8.first", laid_unicode_utf8_first)], narrowed := true }
def RtShl16UptoSaid : Prop := rtShl16UptoRow.holds Tryz.pinned (OpenSpec.upto rtShl16Spec)

/-- 'pairlegallaw6.RtShl32', WHERE WHAT IT READS IS OF BULK AT MOST 1048576: true; the input reads as it did. -/
def rtShl32UptoRow : OpenClaim := { program := "ytlkoidkdeopgjaagreatdoor", sum := "7d4ff9eabf1acfc13ea9ff208683d9ada41fc9b7fbdb05ff3f46eb4df9452716", func := "pairlegal/pairlegallaw6.RtShl32", spec := "rtShl32", inPlace := ["internal/abi.NoEscape", "internal/bytealg.MakeNoZero", "internal/bytealg.CountString", "internal/bytealg.IndexByteString", "internal/bytealg.IndexString"], unfollowed := true, recurses := true, named := ["pairlegal/rt.sizes", "internal/strconv.uint64pow10", "math/bits.deBruijn32tab", "math/bits.deBruijn64tab", "internal/bytealg.MaxLen", "pairlegal/asm.kindWords", "unicode/utf8.first", "unicode/utf8.acceptRanges", "strconv.ErrSyntax", "strconv.ErrRange"], apart := false, laid := [("math/bits.deBruijn32tab", laid_math_bits_deBruijn32tab), ("math/bits.deBruijn64tab", laid_math_bits_deBruijn64tab), ("internal/strconv.uint64pow10", laid_internal_strconv_uint64pow10), ("unicode/utf8.acceptRanges", laid_unicode_utf8_acceptRanges), ("strconv.ErrRange", laid_strconv_ErrRange), ("strconv.ErrSyntax", laid_strconv_ErrSyntax), ("pairlegal/asm.kindWords", laid_pairlegal_asm_kindWords), ("pairlegal/rt.sizes", laid_pairlegal_rt_sizes), ("unicode/utf8.first", laid_unicode_utf8_first)], narrowed := true }
def RtShl32UptoSaid : Prop := rtShl32UptoRow.holds Tryz.pinned (OpenSpec.upto rtShl32Spec)

/-- 'pairlegallaw6.RtShl64', WHERE WHAT IT READS IS OF BULK AT MOST 1048576: true; the input reads as it did. -/
def rtShl64UptoRow : OpenClaim := { program := "ytlkoidkdeopgjaagreatdoor", sum := "7d4ff9eabf1acfc13ea9ff208683d9ada41fc9b7fbdb05ff3f46eb4df9452716", func := "pairlegal/pairlegallaw6.RtShl64", spec := "rtShl64", inPlace := ["internal/abi.NoEscape", "internal/bytealg.MakeNoZero", "internal/bytealg.CountString", "internal/bytealg.IndexByteString", "internal/bytealg.IndexString"], unfollowed := true, recurses := true, named := ["pairlegal/rt.sizes", "internal/strconv.uint64pow10", "math/bits.deBruijn32tab", "math/bits.deBruijn64tab", "internal/bytealg.MaxLen", "pairlegal/asm.kindWords", "unicode/utf8.first", "unicode/utf8.acceptRanges", "strconv.ErrSyntax", "strconv.ErrRange"], apart := false, laid := [("math/bits.deBruijn32tab", laid_math_bits_deBruijn32tab), ("math/bits.deBruijn64tab", laid_math_bits_deBruijn64tab), ("internal/strconv.uint64pow10", laid_internal_strconv_uint64pow10), ("unicode/utf8.acceptRanges", laid_unicode_utf8_acceptRanges), ("strconv.ErrRange", laid_strconv_ErrRange), ("strconv.ErrSyntax", laid_strconv_ErrSyntax), ("pairlegal/asm.kindWords", laid_pairlegal_asm_kindWords), ("pairlegal/rt.sizes", laid_pairlegal_rt_sizes), ("unicode/utf8.first", laid_unicode_utf8_first)], narrowed := true }
def RtShl64UptoSaid : Prop := rtShl64UptoRow.holds Tryz.pinned (OpenSpec.upto rtShl64Spec)

/-- 'pairlegallaw6.RtShr16', WHERE WHAT IT READS IS OF BULK AT MOST 1048576: true; the input reads as it did. -/
def rtShr16UptoRow : OpenClaim := { program := "ytlkoidkdeopgjaagreatdoor", sum := "7d4ff9eabf1acfc13ea9ff208683d9ada41fc9b7fbdb05ff3f46eb4df9452716", func := "pairlegal/pairlegallaw6.RtShr16", spec := "rtShr16", inPlace := ["internal/abi.NoEscape", "internal/bytealg.MakeNoZero", "internal/bytealg.CountString", "internal/bytealg.IndexByteString", "internal/bytealg.IndexString"], unfollowed := true, recurses := true, named := ["pairlegal/rt.sizes", "internal/strconv.uint64pow10", "math/bits.deBruijn32tab", "math/bits.deBruijn64tab", "internal/bytealg.MaxLen", "pairlegal/asm.kindWords", "unicode/utf8.first", "unicode/utf8.acceptRanges", "strconv.ErrSyntax", "strconv.ErrRange"], apart := false, laid := [("math/bits.deBruijn32tab", laid_math_bits_deBruijn32tab), ("math/bits.deBruijn64tab", laid_math_bits_deBruijn64tab), ("internal/strconv.uint64pow10", laid_internal_strconv_uint64pow10), ("unicode/utf8.acceptRanges", laid_unicode_utf8_acceptRanges), ("strconv.ErrRange", laid_strconv_ErrRange), ("strconv.ErrSyntax", laid_strconv_ErrSyntax), ("pairlegal/asm.kindWords", laid_pairlegal_asm_kindWords), ("pairlegal/rt.sizes", laid_pairlegal_rt_sizes), ("unicode/utf8.first", laid_unicode_utf8_first)], narrowed := true }
def RtShr16UptoSaid : Prop := rtShr16UptoRow.holds Tryz.pinned (OpenSpec.upto rtShr16Spec)

/-- 'pairlegallaw6.RtShr32', WHERE WHAT IT READS IS OF BULK AT MOST 1048576: true; the input reads as it did. -/
def rtShr32UptoRow : OpenClaim := { program := "ytlkoidkdeopgjaagreatdoor", sum := "7d4ff9eabf1acfc13ea9ff208683d9ada41fc9b7fbdb05ff3f46eb4df9452716", func := "pairlegal/pairlegallaw6.RtShr32", spec := "rtShr32", inPlace := ["internal/abi.NoEscape", "internal/bytealg.MakeNoZero", "internal/bytealg.CountString", "internal/bytealg.IndexByteString", "internal/bytealg.IndexString"], unfollowed := true, recurses := true, named := ["pairlegal/rt.sizes", "internal/strconv.uint64pow10", "math/bits.deBruijn32tab", "math/bits.deBruijn64tab", "internal/bytealg.MaxLen", "pairlegal/asm.kindWords", "unicode/utf8.first", "unicode/utf8.acceptRanges", "strconv.ErrSyntax", "strconv.ErrRange"], apart := false, laid := [("math/bits.deBruijn32tab", laid_math_bits_deBruijn32tab), ("math/bits.deBruijn64tab", laid_math_bits_deBruijn64tab), ("internal/strconv.uint64pow10", laid_internal_strconv_uint64pow10), ("unicode/utf8.acceptRanges", laid_unicode_utf8_acceptRanges), ("strconv.ErrRange", laid_strconv_ErrRange), ("strconv.ErrSyntax", laid_strconv_ErrSyntax), ("pairlegal/asm.kindWords", laid_pairlegal_asm_kindWords), ("pairlegal/rt.sizes", laid_pairlegal_rt_sizes), ("unicode/utf8.first", laid_unicode_utf8_first)], narrowed := true }
def RtShr32UptoSaid : Prop := rtShr32UptoRow.holds Tryz.pinned (OpenSpec.upto rtShr32Spec)

/-- 'pairlegallaw6.RtShr64', WHERE WHAT IT READS IS OF BULK AT MOST 1048576: true; the input reads as it did. -/
def rtShr64UptoRow : OpenClaim := { program := "ytlkoidkdeopgjaagreatdoor", sum := "7d4ff9eabf1acfc13ea9ff208683d9ada41fc9b7fbdb05ff3f46eb4df9452716", func := "pairlegal/pairlegallaw6.RtShr64", spec := "rtShr64", inPlace := ["internal/abi.NoEscape", "internal/bytealg.MakeNoZero", "internal/bytealg.CountString", "internal/bytealg.IndexByteString", "internal/bytealg.IndexString"], unfollowed := true, recurses := true, named := ["pairlegal/rt.sizes", "internal/strconv.uint64pow10", "math/bits.deBruijn32tab", "math/bits.deBruijn64tab", "internal/bytealg.MaxLen", "pairlegal/asm.kindWords", "unicode/utf8.first", "unicode/utf8.acceptRanges", "strconv.ErrSyntax", "strconv.ErrRange"], apart := false, laid := [("math/bits.deBruijn32tab", laid_math_bits_deBruijn32tab), ("math/bits.deBruijn64tab", laid_math_bits_deBruijn64tab), ("internal/strconv.uint64pow10", laid_internal_strconv_uint64pow10), ("unicode/utf8.acceptRanges", laid_unicode_utf8_acceptRanges), ("strconv.ErrRange", laid_strconv_ErrRange), ("strconv.ErrSyntax", laid_strconv_ErrSyntax), ("pairlegal/asm.kindWords", laid_pairlegal_asm_kindWords), ("pairlegal/rt.sizes", laid_pairlegal_rt_sizes), ("unicode/utf8.first", laid_unicode_utf8_first)], narrowed := true }
def RtShr64UptoSaid : Prop := rtShr64UptoRow.holds Tryz.pinned (OpenSpec.upto rtShr64Spec)

/-- 'pairlegallaw6.RtSar16', WHERE WHAT IT READS IS OF BULK AT MOST 1048576: true; the input reads as it did. -/
def rtSar16UptoRow : OpenClaim := { program := "ytlkoidkdeopgjaagreatdoor", sum := "7d4ff9eabf1acfc13ea9ff208683d9ada41fc9b7fbdb05ff3f46eb4df9452716", func := "pairlegal/pairlegallaw6.RtSar16", spec := "rtSar16", inPlace := ["internal/abi.NoEscape", "internal/bytealg.MakeNoZero", "internal/bytealg.CountString", "internal/bytealg.IndexByteString", "internal/bytealg.IndexString"], unfollowed := true, recurses := true, named := ["pairlegal/rt.sizes", "internal/strconv.uint64pow10", "math/bits.deBruijn32tab", "math/bits.deBruijn64tab", "internal/bytealg.MaxLen", "pairlegal/asm.kindWords", "unicode/utf8.first", "unicode/utf8.acceptRanges", "strconv.ErrSyntax", "strconv.ErrRange"], apart := false, laid := [("math/bits.deBruijn32tab", laid_math_bits_deBruijn32tab), ("math/bits.deBruijn64tab", laid_math_bits_deBruijn64tab), ("internal/strconv.uint64pow10", laid_internal_strconv_uint64pow10), ("unicode/utf8.acceptRanges", laid_unicode_utf8_acceptRanges), ("strconv.ErrRange", laid_strconv_ErrRange), ("strconv.ErrSyntax", laid_strconv_ErrSyntax), ("pairlegal/asm.kindWords", laid_pairlegal_asm_kindWords), ("pairlegal/rt.sizes", laid_pairlegal_rt_sizes), ("unicode/utf8.first", laid_unicode_utf8_first)], narrowed := true }
def RtSar16UptoSaid : Prop := rtSar16UptoRow.holds Tryz.pinned (OpenSpec.upto rtSar16Spec)

/-- 'pairlegallaw6.RtSar32', WHERE WHAT IT READS IS OF BULK AT MOST 1048576: true; the input reads as it did. -/
def rtSar32UptoRow : OpenClaim := { program := "ytlkoidkdeopgjaagreatdoor", sum := "7d4ff9eabf1acfc13ea9ff208683d9ada41fc9b7fbdb05ff3f46eb4df9452716", func := "pairlegal/pairlegallaw6.RtSar32", spec := "rtSar32", inPlace := ["internal/abi.NoEscape", "internal/bytealg.MakeNoZero", "internal/bytealg.CountString", "internal/bytealg.IndexByteString", "internal/bytealg.IndexString"], unfollowed := true, recurses := true, named := ["pairlegal/rt.sizes", "internal/strconv.uint64pow10", "math/bits.deBruijn32tab", "math/bits.deBruijn64tab", "internal/bytealg.MaxLen", "pairlegal/asm.kindWords", "unicode/utf8.first", "unicode/utf8.acceptRanges", "strconv.ErrSyntax", "strconv.ErrRange"], apart := false, laid := [("math/bits.deBruijn32tab", laid_math_bits_deBruijn32tab), ("math/bits.deBruijn64tab", laid_math_bits_deBruijn64tab), ("internal/strconv.uint64pow10", laid_internal_strconv_uint64pow10), ("unicode/utf8.acceptRanges", laid_unicode_utf8_acceptRanges), ("strconv.ErrRange", laid_strconv_ErrRange), ("strconv.ErrSyntax", laid_strconv_ErrSyntax), ("pairlegal/asm.kindWords", laid_pairlegal_asm_kindWords), ("pairlegal/rt.sizes", laid_pairlegal_rt_sizes), ("unicode/utf8.first", laid_unicode_utf8_first)], narrowed := true }
def RtSar32UptoSaid : Prop := rtSar32UptoRow.holds Tryz.pinned (OpenSpec.upto rtSar32Spec)

/-- 'pairlegallaw6.RtSar64', WHERE WHAT IT READS IS OF BULK AT MOST 1048576: true; the input reads as it did. -/
def rtSar64UptoRow : OpenClaim := { program := "ytlkoidkdeopgjaagreatdoor", sum := "7d4ff9eabf1acfc13ea9ff208683d9ada41fc9b7fbdb05ff3f46eb4df9452716", func := "pairlegal/pairlegallaw6.RtSar64", spec := "rtSar64", inPlace := ["internal/abi.NoEscape", "internal/bytealg.MakeNoZero", "internal/bytealg.CountString", "internal/bytealg.IndexByteString", "internal/bytealg.IndexString"], unfollowed := true, recurses := true, named := ["pairlegal/rt.sizes", "internal/strconv.uint64pow10", "math/bits.deBruijn32tab", "math/bits.deBruijn64tab", "internal/bytealg.MaxLen", "pairlegal/asm.kindWords", "unicode/utf8.first", "unicode/utf8.acceptRanges", "strconv.ErrSyntax", "strconv.ErrRange"], apart := false, laid := [("math/bits.deBruijn32tab", laid_math_bits_deBruijn32tab), ("math/bits.deBruijn64tab", laid_math_bits_deBruijn64tab), ("internal/strconv.uint64pow10", laid_internal_strconv_uint64pow10), ("unicode/utf8.acceptRanges", laid_unicode_utf8_acceptRanges), ("strconv.ErrRange", laid_strconv_ErrRange), ("strconv.ErrSyntax", laid_strconv_ErrSyntax), ("pairlegal/asm.kindWords", laid_pairlegal_asm_kindWords), ("pairlegal/rt.sizes", laid_pairlegal_rt_sizes), ("unicode/utf8.first", laid_unicode_utf8_first)], narrowed := true }
def RtSar64UptoSaid : Prop := rtSar64UptoRow.holds Tryz.pinned (OpenSpec.upto rtSar64Spec)

end Rows
end Go.Proofs.YtlkoidkdeopgjaaGreatDoor
