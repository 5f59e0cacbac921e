/-
  DERIVED. GIVEN WITH THE SEED: THE CARDS: each row of YtcphhojdfpedkaaDoorRows.lean that lists a variable, with what it lists TIED to the program's text (the seventh form; the later family's looks); each row that meets fmt, with fmt's text TOLD by the authors' own Lean function (tested against real Go, not proved from fmt's source: count such statements apart). THE CARD IS WHAT COUNTS. Prove the row's statement (the work); the ties are given (YtcphhojdfpedkaaDoorTie.lean); close each card by the builder's one call (the guide's Derived/Test/ToyasCard.lean, 'card_holds'). Laid BY PROGRAM, IN A SANDBOX (cutbox-door.mjs). By AI agents, Wed Nov 11 2026. No macro, syntax, notation, axiom, sorry.
-/
import Derived.Test.YtcphhojdfpedkaaDoorRows
import GoSem.ClaimSeven
namespace Go.Proofs.YtcphhojdfpedkaaDoor
namespace Rows

/-- THE TIED CARD OF 'cartouchelaw10.ShortDecodes'. -/
def shortDecodesCard : Claim7 := { stood := { row := shortDecodesRow, standIns := [], harness := (true, "af9d8a35cb087e4f5f09b403937bb6bc95ee0bd18905c4b546997e8aad5e179a"), looks := false }, kinds := [], alts := [], laidByText := true, laidKinds := [.data, .data], laidTests := true, laidLooks := .later }
def ShortDecodesCardSaid : Prop := Claim7.holds Tryd.pinned (.plain (OpenSpec.ofChange shortDecodesSpec)) shortDecodesCard

/-- THE TIED CARD OF 'cartouchelaw10.ShortBack'. -/
def shortBackCard : Claim7 := { stood := { row := shortBackRow, standIns := [], harness := (true, "af9d8a35cb087e4f5f09b403937bb6bc95ee0bd18905c4b546997e8aad5e179a"), looks := false }, kinds := [], alts := [], laidByText := true, laidKinds := [.data, .data], laidTests := true, laidLooks := .later }
def ShortBackCardSaid : Prop := Claim7.holds Tryd.pinned (.plain (OpenSpec.ofChange shortBackSpec)) shortBackCard

/-- THE TIED CARD OF 'cartouchelaw10.ShortMay'. -/
def shortMayCard : Claim7 := { stood := { row := shortMayRow, standIns := [], harness := (true, "af9d8a35cb087e4f5f09b403937bb6bc95ee0bd18905c4b546997e8aad5e179a"), looks := false }, kinds := [], alts := [], laidByText := true, laidKinds := [.data, .data], laidTests := true, laidLooks := .later }
def ShortMayCardSaid : Prop := Claim7.holds Tryd.pinned (.plain (OpenSpec.ofChange shortMaySpec)) shortMayCard

/-- THE TIED CARD OF 'cartouchelaw10.ShortLong'. -/
def shortLongCard : Claim7 := { stood := { row := shortLongRow, standIns := [], harness := (true, "af9d8a35cb087e4f5f09b403937bb6bc95ee0bd18905c4b546997e8aad5e179a"), looks := false }, kinds := [], alts := [], laidByText := true, laidKinds := [.data, .data], laidTests := true, laidLooks := .later }
def ShortLongCardSaid : Prop := Claim7.holds Tryd.pinned (.plain (OpenSpec.ofChange shortLongSpec)) shortLongCard

/-- THE TIED CARD OF 'cartouchelaw10.ShortBlocks'. -/
def shortBlocksCard : Claim7 := { stood := { row := shortBlocksRow, standIns := [], harness := (true, "af9d8a35cb087e4f5f09b403937bb6bc95ee0bd18905c4b546997e8aad5e179a"), looks := false }, kinds := [], alts := [], laidByText := true, laidKinds := [.data, .data], laidTests := true, laidLooks := .later }
def ShortBlocksCardSaid : Prop := Claim7.holds Tryd.pinned (.plain (OpenSpec.ofChange shortBlocksSpec)) shortBlocksCard

/-- THE SECOND FORM's CARD OF 'cartouchelaw10.ShortDecodes'. -/
def shortDecodesUptoCard : Claim7 := { stood := { row := shortDecodesUptoRow, standIns := [], harness := (true, "af9d8a35cb087e4f5f09b403937bb6bc95ee0bd18905c4b546997e8aad5e179a"), looks := false }, kinds := [], alts := [], laidByText := true, laidKinds := [.data, .data], laidTests := true, laidLooks := .later }
def ShortDecodesUptoCardSaid : Prop := Claim7.holds Tryd.pinned (.plain (OpenSpec.upto shortDecodesSpec)) shortDecodesUptoCard

/-- THE SECOND FORM's CARD OF 'cartouchelaw10.ShortBack'. -/
def shortBackUptoCard : Claim7 := { stood := { row := shortBackUptoRow, standIns := [], harness := (true, "af9d8a35cb087e4f5f09b403937bb6bc95ee0bd18905c4b546997e8aad5e179a"), looks := false }, kinds := [], alts := [], laidByText := true, laidKinds := [.data, .data], laidTests := true, laidLooks := .later }
def ShortBackUptoCardSaid : Prop := Claim7.holds Tryd.pinned (.plain (OpenSpec.upto shortBackSpec)) shortBackUptoCard

/-- THE SECOND FORM's CARD OF 'cartouchelaw10.ShortMay'. -/
def shortMayUptoCard : Claim7 := { stood := { row := shortMayUptoRow, standIns := [], harness := (true, "af9d8a35cb087e4f5f09b403937bb6bc95ee0bd18905c4b546997e8aad5e179a"), looks := false }, kinds := [], alts := [], laidByText := true, laidKinds := [.data, .data], laidTests := true, laidLooks := .later }
def ShortMayUptoCardSaid : Prop := Claim7.holds Tryd.pinned (.plain (OpenSpec.upto shortMaySpec)) shortMayUptoCard

/-- THE SECOND FORM's CARD OF 'cartouchelaw10.ShortLong'. -/
def shortLongUptoCard : Claim7 := { stood := { row := shortLongUptoRow, standIns := [], harness := (true, "af9d8a35cb087e4f5f09b403937bb6bc95ee0bd18905c4b546997e8aad5e179a"), looks := false }, kinds := [], alts := [], laidByText := true, laidKinds := [.data, .data], laidTests := true, laidLooks := .later }
def ShortLongUptoCardSaid : Prop := Claim7.holds Tryd.pinned (.plain (OpenSpec.upto shortLongSpec)) shortLongUptoCard

/-- THE SECOND FORM's CARD OF 'cartouchelaw10.ShortBlocks'. -/
def shortBlocksUptoCard : Claim7 := { stood := { row := shortBlocksUptoRow, standIns := [], harness := (true, "af9d8a35cb087e4f5f09b403937bb6bc95ee0bd18905c4b546997e8aad5e179a"), looks := false }, kinds := [], alts := [], laidByText := true, laidKinds := [.data, .data], laidTests := true, laidLooks := .later }
def ShortBlocksUptoCardSaid : Prop := Claim7.holds Tryd.pinned (.plain (OpenSpec.upto shortBlocksSpec)) shortBlocksUptoCard
end Rows
end Go.Proofs.YtcphhojdfpedkaaDoor
