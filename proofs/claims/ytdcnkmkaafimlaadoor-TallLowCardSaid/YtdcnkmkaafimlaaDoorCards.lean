/-
  DERIVED. GIVEN WITH THE SEED: THE CARDS: each row of YtdcnkmkaafimlaaDoorRows.lean that lists a variable, with what it lists TIED to the program's text (the seventh form; the later family's looks); each row that meets fmt, with fmt's text TOLD by the authors' own Lean function (tested against real Go, not proved from fmt's source: count such statements apart). THE CARD IS WHAT COUNTS. Prove the row's statement (the work); the ties are given (YtdcnkmkaafimlaaDoorTie.lean); close each card by the builder's one call (the guide's Derived/Test/ToyasCard.lean, 'card_holds'). Laid BY PROGRAM, IN A SANDBOX (cutbox-door.mjs). By AI agents, Wed Nov 11 2026. No macro, syntax, notation, axiom, sorry.
-/
import Derived.Test.YtdcnkmkaafimlaaDoorRows
import GoSem.ClaimSeven
namespace Go.Proofs.YtdcnkmkaafimlaaDoor
namespace Rows

/-- THE TIED CARD OF 'cartouchelaw11.TallLow'. -/
def tallLowCard : Claim7 := { stood := { row := tallLowRow, standIns := [], harness := (true, "cd638e83e023e5e9a90d685f5eaeffcbcc65ad4face1cc8ff3af18b07b6f25d5"), looks := false }, kinds := [], alts := [], laidByText := true, laidKinds := [.data, .data, .data, .data, .data], laidTests := true, laidLooks := .later }
def TallLowCardSaid : Prop := Claim7.holds Tryd.pinned (.plain (OpenSpec.ofChange tallLowSpec)) tallLowCard

/-- THE TIED CARD OF 'cartouchelaw11.TallBlocks'. -/
def tallBlocksCard : Claim7 := { stood := { row := tallBlocksRow, standIns := [], harness := (true, "cd638e83e023e5e9a90d685f5eaeffcbcc65ad4face1cc8ff3af18b07b6f25d5"), looks := false }, kinds := [], alts := [], laidByText := true, laidKinds := [.data, .data, .data, .data, .data], laidTests := true, laidLooks := .later }
def TallBlocksCardSaid : Prop := Claim7.holds Tryd.pinned (.plain (OpenSpec.ofChange tallBlocksSpec)) tallBlocksCard

/-- THE SECOND FORM's CARD OF 'cartouchelaw11.TallLow'. -/
def tallLowUptoCard : Claim7 := { stood := { row := tallLowUptoRow, standIns := [], harness := (true, "cd638e83e023e5e9a90d685f5eaeffcbcc65ad4face1cc8ff3af18b07b6f25d5"), looks := false }, kinds := [], alts := [], laidByText := true, laidKinds := [.data, .data, .data, .data, .data], laidTests := true, laidLooks := .later }
def TallLowUptoCardSaid : Prop := Claim7.holds Tryd.pinned (.plain (OpenSpec.upto tallLowSpec)) tallLowUptoCard

/-- THE SECOND FORM's CARD OF 'cartouchelaw11.TallBlocks'. -/
def tallBlocksUptoCard : Claim7 := { stood := { row := tallBlocksUptoRow, standIns := [], harness := (true, "cd638e83e023e5e9a90d685f5eaeffcbcc65ad4face1cc8ff3af18b07b6f25d5"), looks := false }, kinds := [], alts := [], laidByText := true, laidKinds := [.data, .data, .data, .data, .data], laidTests := true, laidLooks := .later }
def TallBlocksUptoCardSaid : Prop := Claim7.holds Tryd.pinned (.plain (OpenSpec.upto tallBlocksSpec)) tallBlocksUptoCard
end Rows
end Go.Proofs.YtdcnkmkaafimlaaDoor
