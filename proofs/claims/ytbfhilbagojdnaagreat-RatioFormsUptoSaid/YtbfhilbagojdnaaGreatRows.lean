/-
  No cell of these rows narrows 'for every input' (looked for: loops, veiled, ifaces, maps, wideKeys, modest, calm, conditions, laid).
  DERIVED. THE GIVEN ROWS OF THIS SEAT. 4 by the template 'for every input the law returns true; each argument reads behind the call as it read before'; 0 by the template 'total and deterministic' (their statements: YtbfhilbagojdnaaGreatTotals.lean).
  GIVEN WITH THE SEED: the statements are not yours to turn. If you find one false, say at which input.
  Laid BY PROGRAM, IN A SANDBOX (cutbox-rows.mjs): the forced cells as the released guide's own fill.sh prints them over the translation 58528b3dc7458d10… (all of the seat's roots in one cut). By AI agents, Wed Nov 11 2026. No macro, syntax, notation, axiom, sorry.
-/
import Derived.Test.YtbfhilbagojdnaaGreatChecked
import GoSem.Claim
import GoSem.ClaimJoined
import GoSem.ClaimMapViews
import Derived.JoinedTies
import Derived.KernelRfl
namespace Go.Proofs.YtbfhilbagojdnaaGreat
/- THE CELL 'sum', in the pinned program and in every row, IS THE sha256 OF THE DUMP (.gsa) THAT YtbfhilbagojdnaaGreatProg.lean LOADS. Nothing in Lean hashes anything: it is a label: what it is worth is what the hold of that sum in a sandbox is worth. -/
noncomputable def Tryz.pinned : Pinned := { name := "ytbfhilbagojdnaagreat", sum := "58528b3dc7458d1010667131f5c859f7d0eb076f2eb8caa5b1dc6f375aa39885", checked := Tryz.checked }
namespace Rows
def none {H : Type} : Left H := { results := [], args := [] }

/-- 'culpritlaw05.RatioCounts': WHATEVER THE INPUT: true; the input reads as it did. -/
def ratioCountsSpec : ChangeSpec := { name := "ratioCounts", fn := fun _ => fun
  | [d1, d2, d3, d4, d5, d6] => { results := [.lit (.bool true)], args := [d1, d2, d3, d4, d5, d6] }
  | _ => none }
def ratioCountsRow : OpenClaim := { program := "ytbfhilbagojdnaagreat", sum := "58528b3dc7458d1010667131f5c859f7d0eb076f2eb8caa5b1dc6f375aa39885", func := "culprit/culpritlaw05.RatioCounts", spec := "ratioCounts", inPlace := ["internal/bytealg.IndexByteString", "internal/bytealg.IndexString"], unfollowed := true, recurses := true, named := ["math/bits.overflowError", "math/bits.divideError", "internal/bytealg.MaxLen"], apart := false }
def RatioCountsSaid : Prop := ratioCountsRow.holds Tryz.pinned (OpenSpec.ofChange ratioCountsSpec)

/-- ITS FALSE NEIGHBOUR: 'it returns false'. Refute it at one input. -/
def ratioCountsWrong : ChangeSpec := { name := "ratioCounts", fn := fun _ => fun
  | [d1, d2, d3, d4, d5, d6] => { results := [.lit (.bool false)], args := [d1, d2, d3, d4, d5, d6] }
  | _ => none }
def RatioCountsWrongFalsely : Prop := ratioCountsRow.holds Tryz.pinned (OpenSpec.ofChange ratioCountsWrong)

/-- 'culpritlaw05.RatioFloors': WHATEVER THE INPUT: true; the input reads as it did. -/
def ratioFloorsSpec : ChangeSpec := { name := "ratioFloors", fn := fun _ => fun
  | [d1, d2, d3, d4, d5, d6] => { results := [.lit (.bool true)], args := [d1, d2, d3, d4, d5, d6] }
  | _ => none }
def ratioFloorsRow : OpenClaim := { program := "ytbfhilbagojdnaagreat", sum := "58528b3dc7458d1010667131f5c859f7d0eb076f2eb8caa5b1dc6f375aa39885", func := "culprit/culpritlaw05.RatioFloors", spec := "ratioFloors", inPlace := ["internal/bytealg.IndexByteString", "internal/bytealg.IndexString"], unfollowed := true, recurses := true, named := ["math/bits.overflowError", "math/bits.divideError", "internal/bytealg.MaxLen"], apart := false }
def RatioFloorsSaid : Prop := ratioFloorsRow.holds Tryz.pinned (OpenSpec.ofChange ratioFloorsSpec)

/-- ITS FALSE NEIGHBOUR: 'it returns false'. Refute it at one input. -/
def ratioFloorsWrong : ChangeSpec := { name := "ratioFloors", fn := fun _ => fun
  | [d1, d2, d3, d4, d5, d6] => { results := [.lit (.bool false)], args := [d1, d2, d3, d4, d5, d6] }
  | _ => none }
def RatioFloorsWrongFalsely : Prop := ratioFloorsRow.holds Tryz.pinned (OpenSpec.ofChange ratioFloorsWrong)

/-- 'culpritlaw05.RatioForms': WHATEVER THE INPUT: true; the input reads as it did. -/
def ratioFormsSpec : ChangeSpec := { name := "ratioForms", fn := fun _ => fun
  | [d1, d2, d3, d4, d5, d6, d7, d8] => { results := [.lit (.bool true)], args := [d1, d2, d3, d4, d5, d6, d7, d8] }
  | _ => none }
def ratioFormsRow : OpenClaim := { program := "ytbfhilbagojdnaagreat", sum := "58528b3dc7458d1010667131f5c859f7d0eb076f2eb8caa5b1dc6f375aa39885", func := "culprit/culpritlaw05.RatioForms", spec := "ratioForms", inPlace := ["internal/bytealg.IndexByteString", "internal/bytealg.IndexString"], unfollowed := true, recurses := true, named := ["math/bits.overflowError", "math/bits.divideError", "internal/bytealg.MaxLen"], apart := false }
def RatioFormsSaid : Prop := ratioFormsRow.holds Tryz.pinned (OpenSpec.ofChange ratioFormsSpec)

/-- ITS FALSE NEIGHBOUR: 'it returns false'. Refute it at one input. -/
def ratioFormsWrong : ChangeSpec := { name := "ratioForms", fn := fun _ => fun
  | [d1, d2, d3, d4, d5, d6, d7, d8] => { results := [.lit (.bool false)], args := [d1, d2, d3, d4, d5, d6, d7, d8] }
  | _ => none }
def RatioFormsWrongFalsely : Prop := ratioFormsRow.holds Tryz.pinned (OpenSpec.ofChange ratioFormsWrong)

/-- 'culpritlaw05.RatioReads': WHATEVER THE INPUT: true; the input reads as it did. -/
def ratioReadsSpec : ChangeSpec := { name := "ratioReads", fn := fun _ => fun
  | [d1, d2, d3, d4, d5, d6, d7] => { results := [.lit (.bool true)], args := [d1, d2, d3, d4, d5, d6, d7] }
  | _ => none }
def ratioReadsRow : OpenClaim := { program := "ytbfhilbagojdnaagreat", sum := "58528b3dc7458d1010667131f5c859f7d0eb076f2eb8caa5b1dc6f375aa39885", func := "culprit/culpritlaw05.RatioReads", spec := "ratioReads", inPlace := ["internal/bytealg.IndexByteString", "internal/bytealg.IndexString"], unfollowed := true, recurses := true, named := ["math/bits.overflowError", "math/bits.divideError", "internal/bytealg.MaxLen"], apart := false }
def RatioReadsSaid : Prop := ratioReadsRow.holds Tryz.pinned (OpenSpec.ofChange ratioReadsSpec)

/-- ITS FALSE NEIGHBOUR: 'it returns false'. Refute it at one input. -/
def ratioReadsWrong : ChangeSpec := { name := "ratioReads", fn := fun _ => fun
  | [d1, d2, d3, d4, d5, d6, d7] => { results := [.lit (.bool false)], args := [d1, d2, d3, d4, d5, d6, d7] }
  | _ => none }
def RatioReadsWrongFalsely : Prop := ratioReadsRow.holds Tryz.pinned (OpenSpec.ofChange ratioReadsWrong)

/- THE SECOND FORM. 'bulk': how many values and letters a reading holds, each counted each time it is reached (what is shared counts as often as it is met; a slice's spare places count too). A statement '..UptoSaid' is the law's where the arguments, and the package variables that the reading takes, are together of bulk at most 1048576: NARROWER than '..Said'. Prove '..Said' where nothing that the law and all that it calls make is longer than what came in: it says more and counts as full. Else prove '..UptoSaid'. A law counts once. -/
mutual
def uptoBulk {H : Type} : DataW H → Nat
  | .lit (.string bytes) => bytes.length + 1
  | .lit _ => 1
  | .nil => 1
  | .ptr d => uptoBulk d + 1
  | .slice elems spare => uptoBulkAll elems + uptoBulkAll spare + 1
  | .agg parts => uptoBulkAll parts + 1
  | .iface _ d => uptoBulk d + 1
  | .map entries => uptoBulkEntries entries + 1
  | .held _ => 1
def uptoBulkAll {H : Type} : List (DataW H) → Nat
  | [] => 0
  | d :: r => uptoBulk d + uptoBulkAll r
def uptoBulkEntries {H : Type} : List (Lit × DataW H) → Nat
  | [] => 0
  | x :: r => uptoBulkEntry x + uptoBulkEntries r
def uptoBulkEntry {H : Type} : Lit × DataW H → Nat
  | (.string bytes, d) => bytes.length + uptoBulk d + 1
  | (_, d) => uptoBulk d + 1
 end
def uptoSmall : (H : Type) → List (DataW H) → Bool := fun _ ds => decide (uptoBulkAll ds ≤ 1048576)
def OpenSpec.upto (s : _root_.Go.ChangeSpec) : _root_.Go.OpenSpec := { _root_.Go.OpenSpec.ofChange s with cond := some uptoSmall }

/-- 'culpritlaw05.RatioCounts', WHERE WHAT IT READS IS OF BULK AT MOST 1048576: true; the input reads as it did. -/
def ratioCountsUptoRow : OpenClaim := { program := "ytbfhilbagojdnaagreat", sum := "58528b3dc7458d1010667131f5c859f7d0eb076f2eb8caa5b1dc6f375aa39885", func := "culprit/culpritlaw05.RatioCounts", spec := "ratioCounts", inPlace := ["internal/bytealg.IndexByteString", "internal/bytealg.IndexString"], unfollowed := true, recurses := true, named := ["math/bits.overflowError", "math/bits.divideError", "internal/bytealg.MaxLen"], apart := false, narrowed := true }
def RatioCountsUptoSaid : Prop := ratioCountsUptoRow.holds Tryz.pinned (OpenSpec.upto ratioCountsSpec)

/-- 'culpritlaw05.RatioFloors', WHERE WHAT IT READS IS OF BULK AT MOST 1048576: true; the input reads as it did. -/
def ratioFloorsUptoRow : OpenClaim := { program := "ytbfhilbagojdnaagreat", sum := "58528b3dc7458d1010667131f5c859f7d0eb076f2eb8caa5b1dc6f375aa39885", func := "culprit/culpritlaw05.RatioFloors", spec := "ratioFloors", inPlace := ["internal/bytealg.IndexByteString", "internal/bytealg.IndexString"], unfollowed := true, recurses := true, named := ["math/bits.overflowError", "math/bits.divideError", "internal/bytealg.MaxLen"], apart := false, narrowed := true }
def RatioFloorsUptoSaid : Prop := ratioFloorsUptoRow.holds Tryz.pinned (OpenSpec.upto ratioFloorsSpec)

/-- 'culpritlaw05.RatioForms', WHERE WHAT IT READS IS OF BULK AT MOST 1048576: true; the input reads as it did. -/
def ratioFormsUptoRow : OpenClaim := { program := "ytbfhilbagojdnaagreat", sum := "58528b3dc7458d1010667131f5c859f7d0eb076f2eb8caa5b1dc6f375aa39885", func := "culprit/culpritlaw05.RatioForms", spec := "ratioForms", inPlace := ["internal/bytealg.IndexByteString", "internal/bytealg.IndexString"], unfollowed := true, recurses := true, named := ["math/bits.overflowError", "math/bits.divideError", "internal/bytealg.MaxLen"], apart := false, narrowed := true }
def RatioFormsUptoSaid : Prop := ratioFormsUptoRow.holds Tryz.pinned (OpenSpec.upto ratioFormsSpec)

/-- 'culpritlaw05.RatioReads', WHERE WHAT IT READS IS OF BULK AT MOST 1048576: true; the input reads as it did. -/
def ratioReadsUptoRow : OpenClaim := { program := "ytbfhilbagojdnaagreat", sum := "58528b3dc7458d1010667131f5c859f7d0eb076f2eb8caa5b1dc6f375aa39885", func := "culprit/culpritlaw05.RatioReads", spec := "ratioReads", inPlace := ["internal/bytealg.IndexByteString", "internal/bytealg.IndexString"], unfollowed := true, recurses := true, named := ["math/bits.overflowError", "math/bits.divideError", "internal/bytealg.MaxLen"], apart := false, narrowed := true }
def RatioReadsUptoSaid : Prop := ratioReadsUptoRow.holds Tryz.pinned (OpenSpec.upto ratioReadsSpec)

end Rows
end Go.Proofs.YtbfhilbagojdnaaGreat
