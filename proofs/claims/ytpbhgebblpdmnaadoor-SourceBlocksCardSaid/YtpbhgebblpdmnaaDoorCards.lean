/-
  DERIVED. GIVEN WITH THE SEED: THE CARDS: each row of YtpbhgebblpdmnaaDoorRows.lean that lists a variable, with what it lists TIED to the program's text (the seventh form; the later family's looks); each row that meets fmt, with fmt's text TOLD by the authors' own Lean function (tested against real Go, not proved from fmt's source: count such statements apart). THE CARD IS WHAT COUNTS. Prove the row's statement (the work); the ties are given (YtpbhgebblpdmnaaDoorTie.lean); close each card by the builder's one call (the guide's Derived/Test/ToyasCard.lean, 'card_holds'). Laid BY PROGRAM, IN A SANDBOX (cutbox-door.mjs). By AI agents, Wed Nov 11 2026. No macro, syntax, notation, axiom, sorry.
-/
import Derived.Test.YtpbhgebblpdmnaaDoorRows
import GoSem.ClaimSeven
namespace Go.Proofs.YtpbhgebblpdmnaaDoor
namespace Rows

/-- THE TIED CARD OF 'culpritlaw06.SourceAgain'. -/
def sourceAgainCard : Claim7 := { stood := { row := sourceAgainRow, standIns := [], harness := (true, "d6be91c4b700fe250eef972c818bfa814a3fd96a9ffbb6b55950792e704d717a"), looks := true }, kinds := [], alts := [], laidByText := true, laidKinds := [.data, .data, .data, .sentinel, .sentinel, .data, .data], laidTests := true, laidLooks := .later }
def SourceAgainCardSaid : Prop := Claim7.holds Tryd.pinned (.plain (OpenSpec.ofChange sourceAgainSpec)) sourceAgainCard

/-- THE TIED CARD OF 'culpritlaw06.SourceBlocks'. -/
def sourceBlocksCard : Claim7 := { stood := { row := sourceBlocksRow, standIns := [], harness := (true, "d6be91c4b700fe250eef972c818bfa814a3fd96a9ffbb6b55950792e704d717a"), looks := true }, kinds := [], alts := [], laidByText := true, laidKinds := [.data, .data, .data, .sentinel, .sentinel, .data, .data], laidTests := true, laidLooks := .later }
def SourceBlocksCardSaid : Prop := Claim7.holds Tryd.pinned (.plain (OpenSpec.ofChange sourceBlocksSpec)) sourceBlocksCard

/-- THE SECOND FORM's CARD OF 'culpritlaw06.SourceAgain'. -/
def sourceAgainUptoCard : Claim7 := { stood := { row := sourceAgainUptoRow, standIns := [], harness := (true, "d6be91c4b700fe250eef972c818bfa814a3fd96a9ffbb6b55950792e704d717a"), looks := true }, kinds := [], alts := [], laidByText := true, laidKinds := [.data, .data, .data, .sentinel, .sentinel, .data, .data], laidTests := true, laidLooks := .later }
def SourceAgainUptoCardSaid : Prop := Claim7.holds Tryd.pinned (.plain (OpenSpec.upto sourceAgainSpec)) sourceAgainUptoCard

/-- THE SECOND FORM's CARD OF 'culpritlaw06.SourceBlocks'. -/
def sourceBlocksUptoCard : Claim7 := { stood := { row := sourceBlocksUptoRow, standIns := [], harness := (true, "d6be91c4b700fe250eef972c818bfa814a3fd96a9ffbb6b55950792e704d717a"), looks := true }, kinds := [], alts := [], laidByText := true, laidKinds := [.data, .data, .data, .sentinel, .sentinel, .data, .data], laidTests := true, laidLooks := .later }
def SourceBlocksUptoCardSaid : Prop := Claim7.holds Tryd.pinned (.plain (OpenSpec.upto sourceBlocksSpec)) sourceBlocksUptoCard
end Rows
end Go.Proofs.YtpbhgebblpdmnaaDoor
