/-
  DERIVED. GIVEN WITH THE SEED: THE CARDS: each row of YtgjipmlegpbaaaaDoorRows.lean that lists a variable, with what it lists TIED to the program's text (the seventh form; the later family's looks); each row that meets fmt, with fmt's text TOLD by the authors' own Lean function (tested against real Go, not proved from fmt's source: count such statements apart). THE CARD IS WHAT COUNTS. Prove the row's statement (the work); the ties are given (YtgjipmlegpbaaaaDoorTie.lean); close each card by the builder's one call (the guide's Derived/Test/ToyasCard.lean, 'card_holds'). Laid BY PROGRAM, IN A SANDBOX (cutbox-door.mjs). By AI agents, Wed Nov 11 2026. No macro, syntax, notation, axiom, sorry.
-/
import Derived.Test.YtgjipmlegpbaaaaDoorRows
import GoSem.ClaimSeven
namespace Go.Proofs.YtgjipmlegpbaaaaDoor
namespace Rows

/-- THE TIED CARD OF 'cartouchelaw08.WideLong'. -/
def wideLongCard : Claim7 := { stood := { row := wideLongRow, standIns := [], harness := (true, "3baa7006ca0ce4e24c222aded2934f246d53da8a4319c0061ecff396ac5fd7bf"), looks := false }, kinds := [], alts := [], laidByText := true, laidKinds := [.data, .data], laidTests := true, laidLooks := .later }
def WideLongCardSaid : Prop := Claim7.holds Tryd.pinned (.plain (OpenSpec.ofChange wideLongSpec)) wideLongCard

/-- THE TIED CARD OF 'cartouchelaw08.WideApart'. -/
def wideApartCard : Claim7 := { stood := { row := wideApartRow, standIns := [], harness := (true, "3baa7006ca0ce4e24c222aded2934f246d53da8a4319c0061ecff396ac5fd7bf"), looks := false }, kinds := [], alts := [], laidByText := true, laidKinds := [.data, .data], laidTests := true, laidLooks := .later }
def WideApartCardSaid : Prop := Claim7.holds Tryd.pinned (.plain (OpenSpec.ofChange wideApartSpec)) wideApartCard

/-- THE TIED CARD OF 'cartouchelaw08.WideNumbers'. -/
def wideNumbersCard : Claim7 := { stood := { row := wideNumbersRow, standIns := [], harness := (true, "3baa7006ca0ce4e24c222aded2934f246d53da8a4319c0061ecff396ac5fd7bf"), looks := false }, kinds := [], alts := [], laidByText := true, laidKinds := [.data, .data], laidTests := true, laidLooks := .later }
def WideNumbersCardSaid : Prop := Claim7.holds Tryd.pinned (.plain (OpenSpec.ofChange wideNumbersSpec)) wideNumbersCard

/-- THE TIED CARD OF 'cartouchelaw08.WideBlocks'. -/
def wideBlocksCard : Claim7 := { stood := { row := wideBlocksRow, standIns := [], harness := (true, "3baa7006ca0ce4e24c222aded2934f246d53da8a4319c0061ecff396ac5fd7bf"), looks := false }, kinds := [], alts := [], laidByText := true, laidKinds := [.data, .data], laidTests := true, laidLooks := .later }
def WideBlocksCardSaid : Prop := Claim7.holds Tryd.pinned (.plain (OpenSpec.ofChange wideBlocksSpec)) wideBlocksCard

/-- THE SECOND FORM's CARD OF 'cartouchelaw08.WideLong'. -/
def wideLongUptoCard : Claim7 := { stood := { row := wideLongUptoRow, standIns := [], harness := (true, "3baa7006ca0ce4e24c222aded2934f246d53da8a4319c0061ecff396ac5fd7bf"), looks := false }, kinds := [], alts := [], laidByText := true, laidKinds := [.data, .data], laidTests := true, laidLooks := .later }
def WideLongUptoCardSaid : Prop := Claim7.holds Tryd.pinned (.plain (OpenSpec.upto wideLongSpec)) wideLongUptoCard

/-- THE SECOND FORM's CARD OF 'cartouchelaw08.WideApart'. -/
def wideApartUptoCard : Claim7 := { stood := { row := wideApartUptoRow, standIns := [], harness := (true, "3baa7006ca0ce4e24c222aded2934f246d53da8a4319c0061ecff396ac5fd7bf"), looks := false }, kinds := [], alts := [], laidByText := true, laidKinds := [.data, .data], laidTests := true, laidLooks := .later }
def WideApartUptoCardSaid : Prop := Claim7.holds Tryd.pinned (.plain (OpenSpec.upto wideApartSpec)) wideApartUptoCard

/-- THE SECOND FORM's CARD OF 'cartouchelaw08.WideNumbers'. -/
def wideNumbersUptoCard : Claim7 := { stood := { row := wideNumbersUptoRow, standIns := [], harness := (true, "3baa7006ca0ce4e24c222aded2934f246d53da8a4319c0061ecff396ac5fd7bf"), looks := false }, kinds := [], alts := [], laidByText := true, laidKinds := [.data, .data], laidTests := true, laidLooks := .later }
def WideNumbersUptoCardSaid : Prop := Claim7.holds Tryd.pinned (.plain (OpenSpec.upto wideNumbersSpec)) wideNumbersUptoCard

/-- THE SECOND FORM's CARD OF 'cartouchelaw08.WideBlocks'. -/
def wideBlocksUptoCard : Claim7 := { stood := { row := wideBlocksUptoRow, standIns := [], harness := (true, "3baa7006ca0ce4e24c222aded2934f246d53da8a4319c0061ecff396ac5fd7bf"), looks := false }, kinds := [], alts := [], laidByText := true, laidKinds := [.data, .data], laidTests := true, laidLooks := .later }
def WideBlocksUptoCardSaid : Prop := Claim7.holds Tryd.pinned (.plain (OpenSpec.upto wideBlocksSpec)) wideBlocksUptoCard
end Rows
end Go.Proofs.YtgjipmlegpbaaaaDoor
