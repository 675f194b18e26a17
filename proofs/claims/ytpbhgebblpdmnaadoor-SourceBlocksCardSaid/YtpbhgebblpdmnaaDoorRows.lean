/-
  NARROWER THAN 'FOR EVERY INPUT', by the rows' own cells (each row's printed sentence says how): SourceAgain: laid · SourceBlocks: laid.
  DERIVED. THE GIVEN ROWS OF THIS SEAT. 2 by the template 'for every input the law returns true; each argument reads behind the call as it read before'; 0 by the template 'total and deterministic' (their statements: YtpbhgebblpdmnaaDoorTotals.lean).
  GIVEN WITH THE SEED: the statements are not yours to turn. If you find one false, say at which input.
  Laid BY PROGRAM, IN A SANDBOX (cutbox-rows.mjs): the forced cells as the released guide's own fill.sh prints them over the translation 60c7009d6933d1b6… (all of the seat's roots in one cut). By AI agents, Wed Nov 11 2026. No macro, syntax, notation, axiom, sorry.
-/
import Derived.Test.YtpbhgebblpdmnaaDoorChecked
import GoSem.Claim
import GoSem.ClaimJoined
import GoSem.ClaimMapViews
import Derived.JoinedTies
import Derived.KernelRfl
namespace Go.Proofs.YtpbhgebblpdmnaaDoor
/- THE CELL 'sum', in the pinned program and in every row, IS THE sha256 OF THE DUMP (.gsa) THAT YtpbhgebblpdmnaaDoorProg.lean LOADS. Nothing in Lean hashes anything: it is a label: what it is worth is what the hold of that sum in a sandbox is worth. -/
noncomputable def Tryd.pinned : Pinned := { name := "ytpbhgebblpdmnaadoor", sum := "60c7009d6933d1b61eba8bc7d346c8b32bbd7114e4233621f05cfe613fd61c84", checked := Tryd.checked }
namespace Rows
def none {H : Type} : Left H := { results := [], args := [] }

/- WHAT THE LISTED PACKAGE-LEVEL VARIABLES READ AS WHEN THE CALL BEGINS. Each datum BY PROGRAM (the guide's laid-datum.mjs) off the statement by which the dump's own 'gosem.cut.vars' lays the variable. In a bare row this is a premise. The card (YtpbhgebblpdmnaaDoorCards.lean) ties it to the program's text. -/
def laid_math_bits_deBruijn32tab {H : Type} : DataW H := .agg [.lit (.int .u8 0), .lit (.int .u8 1), .lit (.int .u8 28), .lit (.int .u8 2), .lit (.int .u8 29), .lit (.int .u8 14), .lit (.int .u8 24), .lit (.int .u8 3), .lit (.int .u8 30), .lit (.int .u8 22), .lit (.int .u8 20), .lit (.int .u8 15), .lit (.int .u8 25), .lit (.int .u8 17), .lit (.int .u8 4), .lit (.int .u8 8), .lit (.int .u8 31), .lit (.int .u8 27), .lit (.int .u8 13), .lit (.int .u8 23), .lit (.int .u8 21), .lit (.int .u8 19), .lit (.int .u8 16), .lit (.int .u8 7), .lit (.int .u8 26), .lit (.int .u8 12), .lit (.int .u8 18), .lit (.int .u8 6), .lit (.int .u8 11), .lit (.int .u8 5), .lit (.int .u8 10), .lit (.int .u8 9)]
def laid_math_bits_deBruijn64tab {H : Type} : DataW H := .agg [.lit (.int .u8 0), .lit (.int .u8 1), .lit (.int .u8 56), .lit (.int .u8 2), .lit (.int .u8 57), .lit (.int .u8 49), .lit (.int .u8 28), .lit (.int .u8 3), .lit (.int .u8 61), .lit (.int .u8 58), .lit (.int .u8 42), .lit (.int .u8 50), .lit (.int .u8 38), .lit (.int .u8 29), .lit (.int .u8 17), .lit (.int .u8 4), .lit (.int .u8 62), .lit (.int .u8 47), .lit (.int .u8 59), .lit (.int .u8 36), .lit (.int .u8 45), .lit (.int .u8 43), .lit (.int .u8 51), .lit (.int .u8 22), .lit (.int .u8 53), .lit (.int .u8 39), .lit (.int .u8 33), .lit (.int .u8 30), .lit (.int .u8 24), .lit (.int .u8 18), .lit (.int .u8 12), .lit (.int .u8 5), .lit (.int .u8 63), .lit (.int .u8 55), .lit (.int .u8 48), .lit (.int .u8 27), .lit (.int .u8 60), .lit (.int .u8 41), .lit (.int .u8 37), .lit (.int .u8 16), .lit (.int .u8 46), .lit (.int .u8 35), .lit (.int .u8 44), .lit (.int .u8 21), .lit (.int .u8 52), .lit (.int .u8 32), .lit (.int .u8 23), .lit (.int .u8 11), .lit (.int .u8 54), .lit (.int .u8 26), .lit (.int .u8 40), .lit (.int .u8 15), .lit (.int .u8 34), .lit (.int .u8 20), .lit (.int .u8 31), .lit (.int .u8 10), .lit (.int .u8 25), .lit (.int .u8 14), .lit (.int .u8 19), .lit (.int .u8 9), .lit (.int .u8 13), .lit (.int .u8 8), .lit (.int .u8 7), .lit (.int .u8 6)]
def laid_internal_strconv_uint64pow10 {H : Type} : DataW H := .agg [.lit (.int .u64 1), .lit (.int .u64 10), .lit (.int .u64 100), .lit (.int .u64 1000), .lit (.int .u64 10000), .lit (.int .u64 100000), .lit (.int .u64 1000000), .lit (.int .u64 10000000), .lit (.int .u64 100000000), .lit (.int .u64 1000000000), .lit (.int .u64 10000000000), .lit (.int .u64 100000000000), .lit (.int .u64 1000000000000), .lit (.int .u64 10000000000000), .lit (.int .u64 100000000000000), .lit (.int .u64 1000000000000000), .lit (.int .u64 10000000000000000), .lit (.int .u64 100000000000000000), .lit (.int .u64 1000000000000000000), .lit (.int .u64 10000000000000000000)]
def laid_strconv_ErrRange {H : Type} : DataW H := .iface "*errors.errorString" (.ptr (.agg [.lit (.string [118, 97, 108, 117, 101, 32, 111, 117, 116, 32, 111, 102, 32, 114, 97, 110, 103, 101])]))
def laid_strconv_ErrSyntax {H : Type} : DataW H := .iface "*errors.errorString" (.ptr (.agg [.lit (.string [105, 110, 118, 97, 108, 105, 100, 32, 115, 121, 110, 116, 97, 120])]))
def laid_culprit_source_shapes {H : Type} : DataW H := .slice [.agg [.lit (.string [118, 97, 114]), .lit (.string [110, 61, 122, 59]), .lit (.int .i64 0), .lit (.int .i64 999)], .agg [.lit (.string [114, 101, 99]), .lit (.string [110, 123, 73, 125]), .lit (.int .i64 0), .lit (.int .i64 0)], .agg [.lit (.string [99, 104, 97, 110]), .lit (.string [110, 100, 59]), .lit (.int .i64 0), .lit (.int .i64 3)], .agg [.lit (.string [108, 111, 99, 107]), .lit (.string [110, 59]), .lit (.int .i64 0), .lit (.int .i64 0)], .agg [.lit (.string [102, 105, 108, 101]), .lit (.string [110, 59]), .lit (.int .i64 0), .lit (.int .i64 0)], .agg [.lit (.string [112, 114, 111, 99]), .lit (.string [110, 66]), .lit (.int .i64 0), .lit (.int .i64 0)], .agg [.lit (.string [116, 101, 115, 116]), .lit (.string [110, 66]), .lit (.int .i64 0), .lit (.int .i64 0)], .agg [.lit (.string []), .lit (.string [110, 61, 122, 59]), .lit (.int .i64 0), .lit (.int .i64 999)], .agg [.lit (.string []), .lit (.string [123, 83, 125]), .lit (.int .i64 0), .lit (.int .i64 0)], .agg [.lit (.string []), .lit (.string [108, 61, 69, 59]), .lit (.int .i64 0), .lit (.int .i64 0)], .agg [.lit (.string []), .lit (.string [80, 61, 69, 59]), .lit (.int .i64 0), .lit (.int .i64 0)], .agg [.lit (.string [105, 102]), .lit (.string [69, 66, 79]), .lit (.int .i64 0), .lit (.int .i64 0)], .agg [.lit (.string [119, 104, 105, 108, 101]), .lit (.string [69, 66]), .lit (.int .i64 0), .lit (.int .i64 0)], .agg [.lit (.string [103, 111]), .lit (.string [110, 59]), .lit (.int .i64 0), .lit (.int .i64 0)], .agg [.lit (.string [99, 97, 108, 108]), .lit (.string [110, 59]), .lit (.int .i64 0), .lit (.int .i64 0)], .agg [.lit (.string [115, 101, 110, 100]), .lit (.string [110, 69, 59]), .lit (.int .i64 0), .lit (.int .i64 0)], .agg [.lit (.string [114, 101, 99, 118]), .lit (.string [110, 76, 59]), .lit (.int .i64 0), .lit (.int .i64 0)], .agg [.lit (.string [97, 99, 113, 117, 105, 114, 101]), .lit (.string [110, 59]), .lit (.int .i64 0), .lit (.int .i64 0)], .agg [.lit (.string [114, 101, 108, 101, 97, 115, 101]), .lit (.string [110, 59]), .lit (.int .i64 0), .lit (.int .i64 0)], .agg [.lit (.string [100, 114, 97, 119]), .lit (.string [108, 100, 59]), .lit (.int .i64 2), .lit (.int .i64 6)], .agg [.lit (.string [110, 111, 119]), .lit (.string [108, 59]), .lit (.int .i64 0), .lit (.int .i64 0)], .agg [.lit (.string [115, 108, 101, 101, 112]), .lit (.string [100, 59]), .lit (.int .i64 1), .lit (.int .i64 9)], .agg [.lit (.string [119, 114, 105, 116, 101]), .lit (.string [110, 69, 59]), .lit (.int .i64 0), .lit (.int .i64 0)], .agg [.lit (.string [114, 101, 97, 100]), .lit (.string [110, 76, 59]), .lit (.int .i64 0), .lit (.int .i64 0)], .agg [.lit (.string [99, 104, 101, 99, 107]), .lit (.string [69, 59]), .lit (.int .i64 0), .lit (.int .i64 0)], .agg [.lit (.string [97, 108, 108, 111, 99]), .lit (.string [100, 59]), .lit (.int .i64 1), .lit (.int .i64 99)], .agg [.lit (.string []), .lit (.string []), .lit (.int .i64 0), .lit (.int .i64 0)], .agg [.lit (.string []), .lit (.string []), .lit (.int .i64 0), .lit (.int .i64 0)], .agg [.lit (.string []), .lit (.string []), .lit (.int .i64 0), .lit (.int .i64 0)], .agg [.lit (.string []), .lit (.string []), .lit (.int .i64 0), .lit (.int .i64 0)], .agg [.lit (.string []), .lit (.string []), .lit (.int .i64 0), .lit (.int .i64 0)], .agg [.lit (.string []), .lit (.string []), .lit (.int .i64 0), .lit (.int .i64 0)], .agg [.lit (.string []), .lit (.string [100]), .lit (.int .i64 0), .lit (.int .i64 999)], .agg [.lit (.string []), .lit (.string [108]), .lit (.int .i64 0), .lit (.int .i64 0)], .agg [.lit (.string []), .lit (.string [110]), .lit (.int .i64 0), .lit (.int .i64 0)], .agg [.lit (.string []), .lit (.string [110]), .lit (.int .i64 0), .lit (.int .i64 0)], .agg [.lit (.string [107, 105, 110, 100]), .lit (.string []), .lit (.int .i64 0), .lit (.int .i64 0)]] []
def laid_culprit_source_signs {H : Type} : DataW H := .slice [.agg [.lit (.string [60, 61]), .lit (.int .i64 1), .lit (.int .i64 27)], .agg [.lit (.string [61, 61]), .lit (.int .i64 1), .lit (.int .i64 28)], .agg [.lit (.string [60]), .lit (.int .i64 1), .lit (.int .i64 26)], .agg [.lit (.string [43]), .lit (.int .i64 2), .lit (.int .i64 29)], .agg [.lit (.string [45]), .lit (.int .i64 2), .lit (.int .i64 30)], .agg [.lit (.string [42]), .lit (.int .i64 3), .lit (.int .i64 31)], .agg [.lit (.string [61]), .lit (.int .i64 0), .lit (.int .i64 0)], .agg [.lit (.string [59]), .lit (.int .i64 0), .lit (.int .i64 0)], .agg [.lit (.string [46]), .lit (.int .i64 0), .lit (.int .i64 0)], .agg [.lit (.string [40]), .lit (.int .i64 0), .lit (.int .i64 0)], .agg [.lit (.string [41]), .lit (.int .i64 0), .lit (.int .i64 0)], .agg [.lit (.string [123]), .lit (.int .i64 0), .lit (.int .i64 0)], .agg [.lit (.string [125]), .lit (.int .i64 0), .lit (.int .i64 0)]] []

/-- 'culpritlaw06.SourceAgain': WHATEVER THE INPUT: true; the input reads as it did. -/
def sourceAgainSpec : ChangeSpec := { name := "sourceAgain", fn := fun _ => fun
  | [d1, d2, d3, d4, d5] => { results := [.lit (.bool true)], args := [d1, d2, d3, d4, d5] }
  | _ => none }
def sourceAgainRow : OpenClaim := { program := "ytpbhgebblpdmnaadoor", sum := "60c7009d6933d1b61eba8bc7d346c8b32bbd7114e4233621f05cfe613fd61c84", func := "culprit/culpritlaw06.SourceAgain", spec := "sourceAgain", unfollowed := true, recurses := true, named := ["culprit/source.signs", "culprit/source.shapes", "internal/strconv.uint64pow10", "math/bits.deBruijn32tab", "math/bits.deBruijn64tab", "strconv.ErrSyntax", "strconv.ErrRange"], apart := false, laid := [("math/bits.deBruijn32tab", laid_math_bits_deBruijn32tab), ("math/bits.deBruijn64tab", laid_math_bits_deBruijn64tab), ("internal/strconv.uint64pow10", laid_internal_strconv_uint64pow10), ("strconv.ErrRange", laid_strconv_ErrRange), ("strconv.ErrSyntax", laid_strconv_ErrSyntax), ("culprit/source.shapes", laid_culprit_source_shapes), ("culprit/source.signs", laid_culprit_source_signs)] }
def SourceAgainSaid : Prop := sourceAgainRow.holds Tryd.pinned (OpenSpec.ofChange sourceAgainSpec)

/-- ITS FALSE NEIGHBOUR: 'it returns false'. Refute it at one input. -/
def sourceAgainWrong : ChangeSpec := { name := "sourceAgain", fn := fun _ => fun
  | [d1, d2, d3, d4, d5] => { results := [.lit (.bool false)], args := [d1, d2, d3, d4, d5] }
  | _ => none }
def SourceAgainWrongFalsely : Prop := sourceAgainRow.holds Tryd.pinned (OpenSpec.ofChange sourceAgainWrong)

/-- 'culpritlaw06.SourceBlocks': WHATEVER THE INPUT: true; the input reads as it did. -/
def sourceBlocksSpec : ChangeSpec := { name := "sourceBlocks", fn := fun _ => fun
  | [d1, d2] => { results := [.lit (.bool true)], args := [d1, d2] }
  | _ => none }
def sourceBlocksRow : OpenClaim := { program := "ytpbhgebblpdmnaadoor", sum := "60c7009d6933d1b61eba8bc7d346c8b32bbd7114e4233621f05cfe613fd61c84", func := "culprit/culpritlaw06.SourceBlocks", spec := "sourceBlocks", unfollowed := true, recurses := true, named := ["culprit/source.signs", "culprit/source.shapes", "internal/strconv.uint64pow10", "math/bits.deBruijn32tab", "math/bits.deBruijn64tab", "strconv.ErrSyntax", "strconv.ErrRange"], apart := false, laid := [("math/bits.deBruijn32tab", laid_math_bits_deBruijn32tab), ("math/bits.deBruijn64tab", laid_math_bits_deBruijn64tab), ("internal/strconv.uint64pow10", laid_internal_strconv_uint64pow10), ("strconv.ErrRange", laid_strconv_ErrRange), ("strconv.ErrSyntax", laid_strconv_ErrSyntax), ("culprit/source.shapes", laid_culprit_source_shapes), ("culprit/source.signs", laid_culprit_source_signs)] }
def SourceBlocksSaid : Prop := sourceBlocksRow.holds Tryd.pinned (OpenSpec.ofChange sourceBlocksSpec)

/-- ITS FALSE NEIGHBOUR: 'it returns false'. Refute it at one input. -/
def sourceBlocksWrong : ChangeSpec := { name := "sourceBlocks", fn := fun _ => fun
  | [d1, d2] => { results := [.lit (.bool false)], args := [d1, d2] }
  | _ => none }
def SourceBlocksWrongFalsely : Prop := sourceBlocksRow.holds Tryd.pinned (OpenSpec.ofChange sourceBlocksWrong)

/- THE SECOND FORM. 'bulk': how many values and letters a reading holds, each counted each time it is reached (what is shared counts as often as it is met; a slice's spare places count too). A statement '..UptoSaid' is the law's where the arguments, and the package variables that the reading takes, are together of bulk at most 1048576: NARROWER than '..Said'. Prove '..Said' where nothing that the law and all that it calls make is longer than what came in: it says more and counts as full. Else prove '..UptoSaid'. A law counts once. -/
mutual
def uptoBulk {H : Type} : DataW H → Nat
  | .lit (.string bytes) => bytes.length + 1
  | .lit _ => 1
  | .nil => 1
  | .ptr d => uptoBulk d + 1
  | .slice elems spare => uptoBulkAll elems + uptoBulkAll spare + 1
  | .agg parts => uptoBulkAll parts + 1
  | .iface _ d => uptoBulk d + 1
  | .map entries => uptoBulkEntries entries + 1
  | .held _ => 1
def uptoBulkAll {H : Type} : List (DataW H) → Nat
  | [] => 0
  | d :: r => uptoBulk d + uptoBulkAll r
def uptoBulkEntries {H : Type} : List (Lit × DataW H) → Nat
  | [] => 0
  | x :: r => uptoBulkEntry x + uptoBulkEntries r
def uptoBulkEntry {H : Type} : Lit × DataW H → Nat
  | (.string bytes, d) => bytes.length + uptoBulk d + 1
  | (_, d) => uptoBulk d + 1
 end
def uptoSmall : (H : Type) → List (DataW H) → Bool := fun _ ds => decide (uptoBulkAll ds ≤ 1048576)
def OpenSpec.upto (s : _root_.Go.ChangeSpec) : _root_.Go.OpenSpec := { _root_.Go.OpenSpec.ofChange s with cond := some uptoSmall }

/-- 'culpritlaw06.SourceAgain', WHERE WHAT IT READS IS OF BULK AT MOST 1048576: true; the input reads as it did. -/
def sourceAgainUptoRow : OpenClaim := { program := "ytpbhgebblpdmnaadoor", sum := "60c7009d6933d1b61eba8bc7d346c8b32bbd7114e4233621f05cfe613fd61c84", func := "culprit/culpritlaw06.SourceAgain", spec := "sourceAgain", unfollowed := true, recurses := true, named := ["culprit/source.signs", "culprit/source.shapes", "internal/strconv.uint64pow10", "math/bits.deBruijn32tab", "math/bits.deBruijn64tab", "strconv.ErrSyntax", "strconv.ErrRange"], apart := false, laid := [("math/bits.deBruijn32tab", laid_math_bits_deBruijn32tab), ("math/bits.deBruijn64tab", laid_math_bits_deBruijn64tab), ("internal/strconv.uint64pow10", laid_internal_strconv_uint64pow10), ("strconv.ErrRange", laid_strconv_ErrRange), ("strconv.ErrSyntax", laid_strconv_ErrSyntax), ("culprit/source.shapes", laid_culprit_source_shapes), ("culprit/source.signs", laid_culprit_source_signs)], narrowed := true }
def SourceAgainUptoSaid : Prop := sourceAgainUptoRow.holds Tryd.pinned (OpenSpec.upto sourceAgainSpec)

/-- 'culpritlaw06.SourceBlocks', WHERE WHAT IT READS IS OF BULK AT MOST 1048576: true; the input reads as it did. -/
def sourceBlocksUptoRow : OpenClaim := { program := "ytpbhgebblpdmnaadoor", sum := "60c7009d6933d1b61eba8bc7d346c8b32bbd7114e4233621f05cfe613fd61c84", func := "culprit/culpritlaw06.SourceBlocks", spec := "sourceBlocks", unfollowed := true, recurses := true, named := ["culprit/source.signs", "culprit/source.shapes", "internal/strconv.uint64pow10", "math/bits.deBruijn32tab", "math/bits.deBruijn64tab", "strconv.ErrSyntax", "strconv.ErrRange"], apart := false, laid := [("math/bits.deBruijn32tab", laid_math_bits_deBruijn32tab), ("math/bits.deBruijn64tab", laid_math_bits_deBruijn64tab), ("internal/strconv.uint64pow10", laid_internal_strconv_uint64pow10), ("strconv.ErrRange", laid_strconv_ErrRange), ("strconv.ErrSyntax", laid_strconv_ErrSyntax), ("culprit/source.shapes", laid_culprit_source_shapes), ("culprit/source.signs", laid_culprit_source_signs)], narrowed := true }
def SourceBlocksUptoSaid : Prop := sourceBlocksUptoRow.holds Tryd.pinned (OpenSpec.upto sourceBlocksSpec)

end Rows
end Go.Proofs.YtpbhgebblpdmnaaDoor
