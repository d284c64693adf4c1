/-
  NARROWER THAN 'FOR EVERY INPUT', by the rows' own cells (each row's printed sentence says how): InsnBack: laid · InsnApart: laid · InsnPatched: laid · InsnLines: laid.
  DERIVED. THE GIVEN ROWS OF THIS SEAT. 4 by the template 'for every input the law returns true; each argument reads behind the call as it read before'; 0 by the template 'total and deterministic' (their statements: YtadiglonlchgaaaDoorTotals.lean).
  GIVEN WITH THE SEED: the statements are not yours to turn. If you find one false, say at which input.
  Laid BY PROGRAM, IN A SANDBOX (cutbox-rows.mjs): the forced cells as the released guide's own fill.sh prints them over the translation df553cc55b2c1d26… (all of the seat's roots in one cut). By AI agents, Wed Nov 11 2026. No macro, syntax, notation, axiom, sorry.
-/
import Derived.Test.YtadiglonlchgaaaDoorChecked
import GoSem.PinnedTables
import GoSem.Claim
import GoSem.ClaimJoined
import GoSem.ClaimMapViews
import Derived.JoinedTies
import Derived.KernelRfl
namespace Go.Proofs.YtadiglonlchgaaaDoor
/- THE CELL 'sum', in the pinned program and in every row, IS THE sha256 OF THE DUMP (.gsa) THAT YtadiglonlchgaaaDoorProg.lean LOADS. Nothing in Lean hashes anything: it is a label: what it is worth is what the hold of that sum in a sandbox is worth. -/
noncomputable def Tryd.pinned : Pinned := { name := "ytadiglonlchgaaadoor", sum := "df553cc55b2c1d26d9f4dbf7dfe020d593030744ce5dc616ddd8c372ccd9577b", checked := Tryd.checked }
namespace Rows
def none {H : Type} : Left H := { results := [], args := [] }

/- WHAT THE LISTED PACKAGE-LEVEL VARIABLES READ AS WHEN THE CALL BEGINS. Each datum BY PROGRAM (the guide's laid-datum.mjs) off the statement by which the dump's own 'gosem.cut.vars' lays the variable. In a bare row this is a premise. The card (YtadiglonlchgaaaDoorCards.lean) ties it to the program's text. -/
def laid_math_bits_deBruijn32tab {H : Type} : DataW H := .agg [.lit (.int .u8 0), .lit (.int .u8 1), .lit (.int .u8 28), .lit (.int .u8 2), .lit (.int .u8 29), .lit (.int .u8 14), .lit (.int .u8 24), .lit (.int .u8 3), .lit (.int .u8 30), .lit (.int .u8 22), .lit (.int .u8 20), .lit (.int .u8 15), .lit (.int .u8 25), .lit (.int .u8 17), .lit (.int .u8 4), .lit (.int .u8 8), .lit (.int .u8 31), .lit (.int .u8 27), .lit (.int .u8 13), .lit (.int .u8 23), .lit (.int .u8 21), .lit (.int .u8 19), .lit (.int .u8 16), .lit (.int .u8 7), .lit (.int .u8 26), .lit (.int .u8 12), .lit (.int .u8 18), .lit (.int .u8 6), .lit (.int .u8 11), .lit (.int .u8 5), .lit (.int .u8 10), .lit (.int .u8 9)]
def laid_math_bits_deBruijn64tab {H : Type} : DataW H := .agg [.lit (.int .u8 0), .lit (.int .u8 1), .lit (.int .u8 56), .lit (.int .u8 2), .lit (.int .u8 57), .lit (.int .u8 49), .lit (.int .u8 28), .lit (.int .u8 3), .lit (.int .u8 61), .lit (.int .u8 58), .lit (.int .u8 42), .lit (.int .u8 50), .lit (.int .u8 38), .lit (.int .u8 29), .lit (.int .u8 17), .lit (.int .u8 4), .lit (.int .u8 62), .lit (.int .u8 47), .lit (.int .u8 59), .lit (.int .u8 36), .lit (.int .u8 45), .lit (.int .u8 43), .lit (.int .u8 51), .lit (.int .u8 22), .lit (.int .u8 53), .lit (.int .u8 39), .lit (.int .u8 33), .lit (.int .u8 30), .lit (.int .u8 24), .lit (.int .u8 18), .lit (.int .u8 12), .lit (.int .u8 5), .lit (.int .u8 63), .lit (.int .u8 55), .lit (.int .u8 48), .lit (.int .u8 27), .lit (.int .u8 60), .lit (.int .u8 41), .lit (.int .u8 37), .lit (.int .u8 16), .lit (.int .u8 46), .lit (.int .u8 35), .lit (.int .u8 44), .lit (.int .u8 21), .lit (.int .u8 52), .lit (.int .u8 32), .lit (.int .u8 23), .lit (.int .u8 11), .lit (.int .u8 54), .lit (.int .u8 26), .lit (.int .u8 40), .lit (.int .u8 15), .lit (.int .u8 34), .lit (.int .u8 20), .lit (.int .u8 31), .lit (.int .u8 10), .lit (.int .u8 25), .lit (.int .u8 14), .lit (.int .u8 19), .lit (.int .u8 9), .lit (.int .u8 13), .lit (.int .u8 8), .lit (.int .u8 7), .lit (.int .u8 6)]
def laid_internal_strconv_uint64pow10 {H : Type} : DataW H := .agg [.lit (.int .u64 1), .lit (.int .u64 10), .lit (.int .u64 100), .lit (.int .u64 1000), .lit (.int .u64 10000), .lit (.int .u64 100000), .lit (.int .u64 1000000), .lit (.int .u64 10000000), .lit (.int .u64 100000000), .lit (.int .u64 1000000000), .lit (.int .u64 10000000000), .lit (.int .u64 100000000000), .lit (.int .u64 1000000000000), .lit (.int .u64 10000000000000), .lit (.int .u64 100000000000000), .lit (.int .u64 1000000000000000), .lit (.int .u64 10000000000000000), .lit (.int .u64 100000000000000000), .lit (.int .u64 1000000000000000000), .lit (.int .u64 10000000000000000000)]
def laid_unicode_utf8_acceptRanges {H : Type} : DataW H := .agg [.agg [.lit (.int .u8 128), .lit (.int .u8 191)], .agg [.lit (.int .u8 160), .lit (.int .u8 191)], .agg [.lit (.int .u8 128), .lit (.int .u8 159)], .agg [.lit (.int .u8 144), .lit (.int .u8 191)], .agg [.lit (.int .u8 128), .lit (.int .u8 143)], .agg [.lit (.int .u8 0), .lit (.int .u8 0)], .agg [.lit (.int .u8 0), .lit (.int .u8 0)], .agg [.lit (.int .u8 0), .lit (.int .u8 0)], .agg [.lit (.int .u8 0), .lit (.int .u8 0)], .agg [.lit (.int .u8 0), .lit (.int .u8 0)], .agg [.lit (.int .u8 0), .lit (.int .u8 0)], .agg [.lit (.int .u8 0), .lit (.int .u8 0)], .agg [.lit (.int .u8 0), .lit (.int .u8 0)], .agg [.lit (.int .u8 0), .lit (.int .u8 0)], .agg [.lit (.int .u8 0), .lit (.int .u8 0)], .agg [.lit (.int .u8 0), .lit (.int .u8 0)]]
def laid_tapline_insn_layouts {H : Type} : DataW H := .agg [.agg [.lit (.int .i64 0), .lit (.int .i64 0), .lit (.int .i64 0), .lit (.int .i64 0), .nil], .agg [.lit (.int .i64 1), .lit (.int .i64 0), .lit (.int .i64 0), .lit (.int .i64 0), .slice [.lit (.int .i64 0)] []], .agg [.lit (.int .i64 2), .lit (.int .i64 0), .lit (.int .i64 0), .lit (.int .i64 0), .slice [.lit (.int .i64 0), .lit (.int .i64 1)] []], .agg [.lit (.int .i64 1), .lit (.int .i64 10), .lit (.int .i64 (-9223372036854775808)), .lit (.int .i64 9223372036854775807), .slice [.lit (.int .i64 0), .lit (.int .i64 2)] []], .agg [.lit (.int .i64 1), .lit (.int .i64 1), .lit (.int .i64 (-64)), .lit (.int .i64 63), .slice [.lit (.int .i64 0), .lit (.int .i64 2)] []], .agg [.lit (.int .i64 2), .lit (.int .i64 1), .lit (.int .i64 (-64)), .lit (.int .i64 63), .slice [.lit (.int .i64 0), .lit (.int .i64 3)] []], .agg [.lit (.int .i64 2), .lit (.int .i64 1), .lit (.int .i64 (-64)), .lit (.int .i64 63), .slice [.lit (.int .i64 3), .lit (.int .i64 0)] []], .agg [.lit (.int .i64 2), .lit (.int .i64 1), .lit (.int .i64 (-64)), .lit (.int .i64 63), .slice [.lit (.int .i64 0), .lit (.int .i64 1), .lit (.int .i64 5)] []], .agg [.lit (.int .i64 0), .lit (.int .i64 2), .lit (.int .i64 (-8192)), .lit (.int .i64 8191), .slice [.lit (.int .i64 5)] []], .agg [.lit (.int .i64 1), .lit (.int .i64 2), .lit (.int .i64 (-8192)), .lit (.int .i64 8191), .slice [.lit (.int .i64 0), .lit (.int .i64 5)] []], .agg [.lit (.int .i64 0), .lit (.int .i64 1), .lit (.int .i64 0), .lit (.int .i64 127), .slice [.lit (.int .i64 2)] []], .agg [.lit (.int .i64 2), .lit (.int .i64 0), .lit (.int .i64 0), .lit (.int .i64 0), .slice [.lit (.int .i64 0), .lit (.int .i64 4)] []]]
def laid_tapline_insn_operations {H : Type} : DataW H := .agg [.agg [.lit (.int .i64 1), .lit (.string [110, 111, 112]), .lit (.int .i64 0), .lit (.int .i64 0), .lit (.int .i64 0)], .agg [.lit (.int .i64 2), .lit (.string [109, 111, 118, 101]), .lit (.int .i64 2), .lit (.int .i64 2), .lit (.int .i64 1)], .agg [.lit (.int .i64 3), .lit (.string [115, 101, 116]), .lit (.int .i64 3), .lit (.int .i64 0), .lit (.int .i64 1)], .agg [.lit (.int .i64 4), .lit (.string [108, 105, 116]), .lit (.int .i64 4), .lit (.int .i64 0), .lit (.int .i64 1)], .agg [.lit (.int .i64 5), .lit (.string [97, 100, 100]), .lit (.int .i64 2), .lit (.int .i64 3), .lit (.int .i64 1)], .agg [.lit (.int .i64 6), .lit (.string [115, 117, 98]), .lit (.int .i64 2), .lit (.int .i64 3), .lit (.int .i64 1)], .agg [.lit (.int .i64 7), .lit (.string [109, 117, 108]), .lit (.int .i64 2), .lit (.int .i64 3), .lit (.int .i64 1)], .agg [.lit (.int .i64 8), .lit (.string [100, 105, 118]), .lit (.int .i64 2), .lit (.int .i64 3), .lit (.int .i64 1)], .agg [.lit (.int .i64 9), .lit (.string [109, 111, 100]), .lit (.int .i64 2), .lit (.int .i64 3), .lit (.int .i64 1)], .agg [.lit (.int .i64 10), .lit (.string [97, 110, 100]), .lit (.int .i64 2), .lit (.int .i64 3), .lit (.int .i64 1)], .agg [.lit (.int .i64 11), .lit (.string [111, 114]), .lit (.int .i64 2), .lit (.int .i64 3), .lit (.int .i64 1)], .agg [.lit (.int .i64 12), .lit (.string [120, 111, 114]), .lit (.int .i64 2), .lit (.int .i64 3), .lit (.int .i64 1)], .agg [.lit (.int .i64 13), .lit (.string [115, 104, 108]), .lit (.int .i64 2), .lit (.int .i64 3), .lit (.int .i64 1)], .agg [.lit (.int .i64 14), .lit (.string [115, 104, 114]), .lit (.int .i64 2), .lit (.int .i64 3), .lit (.int .i64 1)], .agg [.lit (.int .i64 15), .lit (.string [115, 97, 114]), .lit (.int .i64 2), .lit (.int .i64 3), .lit (.int .i64 1)], .agg [.lit (.int .i64 16), .lit (.string [105, 110, 99]), .lit (.int .i64 4), .lit (.int .i64 1), .lit (.int .i64 1)], .agg [.lit (.int .i64 17), .lit (.string [108, 111, 97, 100, 49]), .lit (.int .i64 5), .lit (.int .i64 2), .lit (.int .i64 1)], .agg [.lit (.int .i64 18), .lit (.string [108, 111, 97, 100, 56]), .lit (.int .i64 5), .lit (.int .i64 2), .lit (.int .i64 1)], .agg [.lit (.int .i64 19), .lit (.string [115, 116, 111, 114, 101, 49]), .lit (.int .i64 6), .lit (.int .i64 3), .lit (.int .i64 0)], .agg [.lit (.int .i64 20), .lit (.string [115, 116, 111, 114, 101, 56]), .lit (.int .i64 6), .lit (.int .i64 3), .lit (.int .i64 0)], .agg [.lit (.int .i64 21), .lit (.string [98, 101, 113]), .lit (.int .i64 7), .lit (.int .i64 3), .lit (.int .i64 0)], .agg [.lit (.int .i64 22), .lit (.string [98, 110, 101]), .lit (.int .i64 7), .lit (.int .i64 3), .lit (.int .i64 0)], .agg [.lit (.int .i64 23), .lit (.string [98, 108, 116]), .lit (.int .i64 7), .lit (.int .i64 3), .lit (.int .i64 0)], .agg [.lit (.int .i64 24), .lit (.string [98, 103, 101]), .lit (.int .i64 7), .lit (.int .i64 3), .lit (.int .i64 0)], .agg [.lit (.int .i64 25), .lit (.string [106, 117, 109, 112]), .lit (.int .i64 8), .lit (.int .i64 0), .lit (.int .i64 0)], .agg [.lit (.int .i64 26), .lit (.string [106, 117, 109, 112, 114]), .lit (.int .i64 1), .lit (.int .i64 1), .lit (.int .i64 0)], .agg [.lit (.int .i64 27), .lit (.string [99, 97, 108, 108]), .lit (.int .i64 8), .lit (.int .i64 4), .lit (.int .i64 4)], .agg [.lit (.int .i64 28), .lit (.string [99, 97, 108, 108, 114]), .lit (.int .i64 1), .lit (.int .i64 5), .lit (.int .i64 4)], .agg [.lit (.int .i64 29), .lit (.string [114, 101, 116]), .lit (.int .i64 0), .lit (.int .i64 4), .lit (.int .i64 4)], .agg [.lit (.int .i64 30), .lit (.string [112, 117, 115, 104]), .lit (.int .i64 1), .lit (.int .i64 5), .lit (.int .i64 4)], .agg [.lit (.int .i64 31), .lit (.string [112, 111, 112]), .lit (.int .i64 1), .lit (.int .i64 4), .lit (.int .i64 5)], .agg [.lit (.int .i64 32), .lit (.string [108, 101, 97]), .lit (.int .i64 9), .lit (.int .i64 0), .lit (.int .i64 1)], .agg [.lit (.int .i64 33), .lit (.string [115, 121, 115]), .lit (.int .i64 10), .lit (.int .i64 0), .lit (.int .i64 0)], .agg [.lit (.int .i64 34), .lit (.string [115, 119, 97, 112]), .lit (.int .i64 11), .lit (.int .i64 3), .lit (.int .i64 1)], .agg [.lit (.int .i64 76), .lit (.string [98, 114, 101, 97, 107]), .lit (.int .i64 0), .lit (.int .i64 0), .lit (.int .i64 0)]]
/-- One of Go's own tables, pinned by name: the form's constant. -/
def laid_unicode_utf8_first : DataW Unit := Go.Pinned.utf8First

/-- 'taplinelaw02.InsnBack': WHATEVER THE INPUT: true; the input reads as it did. -/
def insnBackSpec : ChangeSpec := { name := "insnBack", fn := fun _ => fun
  | [d1, d2] => { results := [.lit (.bool true)], args := [d1, d2] }
  | _ => none }
def insnBackRow : OpenClaim := { program := "ytadiglonlchgaaadoor", sum := "df553cc55b2c1d26d9f4dbf7dfe020d593030744ce5dc616ddd8c372ccd9577b", func := "tapline/taplinelaw02.InsnBack", spec := "insnBack", inPlace := ["internal/bytealg.IndexByteString", "internal/bytealg.IndexString"], unfollowed := true, recurses := true, named := ["tapline/insn.layouts", "tapline/insn.operations", "internal/strconv.uint64pow10", "math/bits.deBruijn32tab", "math/bits.deBruijn64tab", "unicode/utf8.first", "unicode/utf8.acceptRanges", "internal/bytealg.MaxLen"], apart := false, laid := [("math/bits.deBruijn32tab", laid_math_bits_deBruijn32tab), ("math/bits.deBruijn64tab", laid_math_bits_deBruijn64tab), ("internal/strconv.uint64pow10", laid_internal_strconv_uint64pow10), ("unicode/utf8.acceptRanges", laid_unicode_utf8_acceptRanges), ("tapline/insn.layouts", laid_tapline_insn_layouts), ("tapline/insn.operations", laid_tapline_insn_operations), ("unicode/utf8.first", laid_unicode_utf8_first)] }
def InsnBackSaid : Prop := insnBackRow.holds Tryd.pinned (OpenSpec.ofChange insnBackSpec)

/-- ITS FALSE NEIGHBOUR: 'it returns false'. Refute it at one input. -/
def insnBackWrong : ChangeSpec := { name := "insnBack", fn := fun _ => fun
  | [d1, d2] => { results := [.lit (.bool false)], args := [d1, d2] }
  | _ => none }
def InsnBackWrongFalsely : Prop := insnBackRow.holds Tryd.pinned (OpenSpec.ofChange insnBackWrong)

/-- 'taplinelaw02.InsnApart': WHATEVER THE INPUT: true; the input reads as it did. -/
def insnApartSpec : ChangeSpec := { name := "insnApart", fn := fun _ => fun
  | [d] => { results := [.lit (.bool true)], args := [d] }
  | _ => none }
def insnApartRow : OpenClaim := { program := "ytadiglonlchgaaadoor", sum := "df553cc55b2c1d26d9f4dbf7dfe020d593030744ce5dc616ddd8c372ccd9577b", func := "tapline/taplinelaw02.InsnApart", spec := "insnApart", inPlace := ["internal/bytealg.IndexByteString", "internal/bytealg.IndexString"], unfollowed := true, recurses := true, named := ["tapline/insn.layouts", "tapline/insn.operations", "internal/strconv.uint64pow10", "math/bits.deBruijn32tab", "math/bits.deBruijn64tab", "unicode/utf8.first", "unicode/utf8.acceptRanges", "internal/bytealg.MaxLen"], apart := false, laid := [("math/bits.deBruijn32tab", laid_math_bits_deBruijn32tab), ("math/bits.deBruijn64tab", laid_math_bits_deBruijn64tab), ("internal/strconv.uint64pow10", laid_internal_strconv_uint64pow10), ("unicode/utf8.acceptRanges", laid_unicode_utf8_acceptRanges), ("tapline/insn.layouts", laid_tapline_insn_layouts), ("tapline/insn.operations", laid_tapline_insn_operations), ("unicode/utf8.first", laid_unicode_utf8_first)] }
def InsnApartSaid : Prop := insnApartRow.holds Tryd.pinned (OpenSpec.ofChange insnApartSpec)

/-- ITS FALSE NEIGHBOUR: 'it returns false'. Refute it at one input. -/
def insnApartWrong : ChangeSpec := { name := "insnApart", fn := fun _ => fun
  | [d] => { results := [.lit (.bool false)], args := [d] }
  | _ => none }
def InsnApartWrongFalsely : Prop := insnApartRow.holds Tryd.pinned (OpenSpec.ofChange insnApartWrong)

/-- 'taplinelaw02.InsnPatched': WHATEVER THE INPUT: true; the input reads as it did. -/
def insnPatchedSpec : ChangeSpec := { name := "insnPatched", fn := fun _ => fun
  | [d1, d2] => { results := [.lit (.bool true)], args := [d1, d2] }
  | _ => none }
def insnPatchedRow : OpenClaim := { program := "ytadiglonlchgaaadoor", sum := "df553cc55b2c1d26d9f4dbf7dfe020d593030744ce5dc616ddd8c372ccd9577b", func := "tapline/taplinelaw02.InsnPatched", spec := "insnPatched", inPlace := ["internal/bytealg.IndexByteString", "internal/bytealg.IndexString"], unfollowed := true, recurses := true, named := ["tapline/insn.layouts", "tapline/insn.operations", "internal/strconv.uint64pow10", "math/bits.deBruijn32tab", "math/bits.deBruijn64tab", "unicode/utf8.first", "unicode/utf8.acceptRanges", "internal/bytealg.MaxLen"], apart := false, laid := [("math/bits.deBruijn32tab", laid_math_bits_deBruijn32tab), ("math/bits.deBruijn64tab", laid_math_bits_deBruijn64tab), ("internal/strconv.uint64pow10", laid_internal_strconv_uint64pow10), ("unicode/utf8.acceptRanges", laid_unicode_utf8_acceptRanges), ("tapline/insn.layouts", laid_tapline_insn_layouts), ("tapline/insn.operations", laid_tapline_insn_operations), ("unicode/utf8.first", laid_unicode_utf8_first)] }
def InsnPatchedSaid : Prop := insnPatchedRow.holds Tryd.pinned (OpenSpec.ofChange insnPatchedSpec)

/-- ITS FALSE NEIGHBOUR: 'it returns false'. Refute it at one input. -/
def insnPatchedWrong : ChangeSpec := { name := "insnPatched", fn := fun _ => fun
  | [d1, d2] => { results := [.lit (.bool false)], args := [d1, d2] }
  | _ => none }
def InsnPatchedWrongFalsely : Prop := insnPatchedRow.holds Tryd.pinned (OpenSpec.ofChange insnPatchedWrong)

/-- 'taplinelaw02.InsnLines': WHATEVER THE INPUT: true; the input reads as it did. -/
def insnLinesSpec : ChangeSpec := { name := "insnLines", fn := fun _ => fun
  | [d] => { results := [.lit (.bool true)], args := [d] }
  | _ => none }
def insnLinesRow : OpenClaim := { program := "ytadiglonlchgaaadoor", sum := "df553cc55b2c1d26d9f4dbf7dfe020d593030744ce5dc616ddd8c372ccd9577b", func := "tapline/taplinelaw02.InsnLines", spec := "insnLines", inPlace := ["internal/bytealg.IndexByteString", "internal/bytealg.IndexString"], unfollowed := true, recurses := true, named := ["tapline/insn.layouts", "tapline/insn.operations", "internal/strconv.uint64pow10", "math/bits.deBruijn32tab", "math/bits.deBruijn64tab", "unicode/utf8.first", "unicode/utf8.acceptRanges", "internal/bytealg.MaxLen"], apart := false, laid := [("math/bits.deBruijn32tab", laid_math_bits_deBruijn32tab), ("math/bits.deBruijn64tab", laid_math_bits_deBruijn64tab), ("internal/strconv.uint64pow10", laid_internal_strconv_uint64pow10), ("unicode/utf8.acceptRanges", laid_unicode_utf8_acceptRanges), ("tapline/insn.layouts", laid_tapline_insn_layouts), ("tapline/insn.operations", laid_tapline_insn_operations), ("unicode/utf8.first", laid_unicode_utf8_first)] }
def InsnLinesSaid : Prop := insnLinesRow.holds Tryd.pinned (OpenSpec.ofChange insnLinesSpec)

/-- ITS FALSE NEIGHBOUR: 'it returns false'. Refute it at one input. -/
def insnLinesWrong : ChangeSpec := { name := "insnLines", fn := fun _ => fun
  | [d] => { results := [.lit (.bool false)], args := [d] }
  | _ => none }
def InsnLinesWrongFalsely : Prop := insnLinesRow.holds Tryd.pinned (OpenSpec.ofChange insnLinesWrong)

/- THE SECOND FORM. 'bulk': how many values and letters a reading holds, each counted each time it is reached (what is shared counts as often as it is met; a slice's spare places count too). A statement '..UptoSaid' is the law's where the arguments, and the package variables that the reading takes, are together of bulk at most 1048576: NARROWER than '..Said'. Prove '..Said' where nothing that the law and all that it calls make is longer than what came in: it says more and counts as full. Else prove '..UptoSaid'. A law counts once. -/
mutual
def uptoBulk {H : Type} : DataW H → Nat
  | .lit (.string bytes) => bytes.length + 1
  | .lit _ => 1
  | .nil => 1
  | .ptr d => uptoBulk d + 1
  | .slice elems spare => uptoBulkAll elems + uptoBulkAll spare + 1
  | .agg parts => uptoBulkAll parts + 1
  | .iface _ d => uptoBulk d + 1
  | .map entries => uptoBulkEntries entries + 1
  | .held _ => 1
def uptoBulkAll {H : Type} : List (DataW H) → Nat
  | [] => 0
  | d :: r => uptoBulk d + uptoBulkAll r
def uptoBulkEntries {H : Type} : List (Lit × DataW H) → Nat
  | [] => 0
  | x :: r => uptoBulkEntry x + uptoBulkEntries r
def uptoBulkEntry {H : Type} : Lit × DataW H → Nat
  | (.string bytes, d) => bytes.length + uptoBulk d + 1
  | (_, d) => uptoBulk d + 1
 end
def uptoSmall : (H : Type) → List (DataW H) → Bool := fun _ ds => decide (uptoBulkAll ds ≤ 1048576)
def OpenSpec.upto (s : _root_.Go.ChangeSpec) : _root_.Go.OpenSpec := { _root_.Go.OpenSpec.ofChange s with cond := some uptoSmall }

/-- 'taplinelaw02.InsnBack', WHERE WHAT IT READS IS OF BULK AT MOST 1048576: true; the input reads as it did. -/
def insnBackUptoRow : OpenClaim := { program := "ytadiglonlchgaaadoor", sum := "df553cc55b2c1d26d9f4dbf7dfe020d593030744ce5dc616ddd8c372ccd9577b", func := "tapline/taplinelaw02.InsnBack", spec := "insnBack", inPlace := ["internal/bytealg.IndexByteString", "internal/bytealg.IndexString"], unfollowed := true, recurses := true, named := ["tapline/insn.layouts", "tapline/insn.operations", "internal/strconv.uint64pow10", "math/bits.deBruijn32tab", "math/bits.deBruijn64tab", "unicode/utf8.first", "unicode/utf8.acceptRanges", "internal/bytealg.MaxLen"], apart := false, laid := [("math/bits.deBruijn32tab", laid_math_bits_deBruijn32tab), ("math/bits.deBruijn64tab", laid_math_bits_deBruijn64tab), ("internal/strconv.uint64pow10", laid_internal_strconv_uint64pow10), ("unicode/utf8.acceptRanges", laid_unicode_utf8_acceptRanges), ("tapline/insn.layouts", laid_tapline_insn_layouts), ("tapline/insn.operations", laid_tapline_insn_operations), ("unicode/utf8.first", laid_unicode_utf8_first)], narrowed := true }
def InsnBackUptoSaid : Prop := insnBackUptoRow.holds Tryd.pinned (OpenSpec.upto insnBackSpec)

/-- 'taplinelaw02.InsnApart', WHERE WHAT IT READS IS OF BULK AT MOST 1048576: true; the input reads as it did. -/
def insnApartUptoRow : OpenClaim := { program := "ytadiglonlchgaaadoor", sum := "df553cc55b2c1d26d9f4dbf7dfe020d593030744ce5dc616ddd8c372ccd9577b", func := "tapline/taplinelaw02.InsnApart", spec := "insnApart", inPlace := ["internal/bytealg.IndexByteString", "internal/bytealg.IndexString"], unfollowed := true, recurses := true, named := ["tapline/insn.layouts", "tapline/insn.operations", "internal/strconv.uint64pow10", "math/bits.deBruijn32tab", "math/bits.deBruijn64tab", "unicode/utf8.first", "unicode/utf8.acceptRanges", "internal/bytealg.MaxLen"], apart := false, laid := [("math/bits.deBruijn32tab", laid_math_bits_deBruijn32tab), ("math/bits.deBruijn64tab", laid_math_bits_deBruijn64tab), ("internal/strconv.uint64pow10", laid_internal_strconv_uint64pow10), ("unicode/utf8.acceptRanges", laid_unicode_utf8_acceptRanges), ("tapline/insn.layouts", laid_tapline_insn_layouts), ("tapline/insn.operations", laid_tapline_insn_operations), ("unicode/utf8.first", laid_unicode_utf8_first)], narrowed := true }
def InsnApartUptoSaid : Prop := insnApartUptoRow.holds Tryd.pinned (OpenSpec.upto insnApartSpec)

/-- 'taplinelaw02.InsnPatched', WHERE WHAT IT READS IS OF BULK AT MOST 1048576: true; the input reads as it did. -/
def insnPatchedUptoRow : OpenClaim := { program := "ytadiglonlchgaaadoor", sum := "df553cc55b2c1d26d9f4dbf7dfe020d593030744ce5dc616ddd8c372ccd9577b", func := "tapline/taplinelaw02.InsnPatched", spec := "insnPatched", inPlace := ["internal/bytealg.IndexByteString", "internal/bytealg.IndexString"], unfollowed := true, recurses := true, named := ["tapline/insn.layouts", "tapline/insn.operations", "internal/strconv.uint64pow10", "math/bits.deBruijn32tab", "math/bits.deBruijn64tab", "unicode/utf8.first", "unicode/utf8.acceptRanges", "internal/bytealg.MaxLen"], apart := false, laid := [("math/bits.deBruijn32tab", laid_math_bits_deBruijn32tab), ("math/bits.deBruijn64tab", laid_math_bits_deBruijn64tab), ("internal/strconv.uint64pow10", laid_internal_strconv_uint64pow10), ("unicode/utf8.acceptRanges", laid_unicode_utf8_acceptRanges), ("tapline/insn.layouts", laid_tapline_insn_layouts), ("tapline/insn.operations", laid_tapline_insn_operations), ("unicode/utf8.first", laid_unicode_utf8_first)], narrowed := true }
def InsnPatchedUptoSaid : Prop := insnPatchedUptoRow.holds Tryd.pinned (OpenSpec.upto insnPatchedSpec)

/-- 'taplinelaw02.InsnLines', WHERE WHAT IT READS IS OF BULK AT MOST 1048576: true; the input reads as it did. -/
def insnLinesUptoRow : OpenClaim := { program := "ytadiglonlchgaaadoor", sum := "df553cc55b2c1d26d9f4dbf7dfe020d593030744ce5dc616ddd8c372ccd9577b", func := "tapline/taplinelaw02.InsnLines", spec := "insnLines", inPlace := ["internal/bytealg.IndexByteString", "internal/bytealg.IndexString"], unfollowed := true, recurses := true, named := ["tapline/insn.layouts", "tapline/insn.operations", "internal/strconv.uint64pow10", "math/bits.deBruijn32tab", "math/bits.deBruijn64tab", "unicode/utf8.first", "unicode/utf8.acceptRanges", "internal/bytealg.MaxLen"], apart := false, laid := [("math/bits.deBruijn32tab", laid_math_bits_deBruijn32tab), ("math/bits.deBruijn64tab", laid_math_bits_deBruijn64tab), ("internal/strconv.uint64pow10", laid_internal_strconv_uint64pow10), ("unicode/utf8.acceptRanges", laid_unicode_utf8_acceptRanges), ("tapline/insn.layouts", laid_tapline_insn_layouts), ("tapline/insn.operations", laid_tapline_insn_operations), ("unicode/utf8.first", laid_unicode_utf8_first)], narrowed := true }
def InsnLinesUptoSaid : Prop := insnLinesUptoRow.holds Tryd.pinned (OpenSpec.upto insnLinesSpec)

end Rows
end Go.Proofs.YtadiglonlchgaaaDoor
