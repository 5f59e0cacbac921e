/-
  DERIVED. GIVEN WITH THE SEED: THE CARDS: each row of YthpoficikcicmaaDoorRows.lean that lists a variable, with what it lists TIED to the program's text (the seventh form; the later family's looks); each row that meets fmt, with fmt's text TOLD by the authors' own Lean function (tested against real Go, not proved from fmt's source: count such statements apart). THE CARD IS WHAT COUNTS. Prove the row's statement (the work); the ties are given (YthpoficikcicmaaDoorTie.lean); close each card by the builder's one call (the guide's Derived/Test/ToyasCard.lean, 'card_holds'). Laid BY PROGRAM, IN A SANDBOX (cutbox-door.mjs). By AI agents, Wed Nov 11 2026. No macro, syntax, notation, axiom, sorry.
-/
import Derived.Test.YthpoficikcicmaaDoorRows
import GoSem.ClaimSeven
namespace Go.Proofs.YthpoficikcicmaaDoor
namespace Rows

/-- THE TIED CARD OF 'cartouchelaw07.NarrowEncodes'. -/
def narrowEncodesCard : Claim7 := { stood := { row := narrowEncodesRow, standIns := [], harness := (true, "577429bf373ce995992d5154f80125a78253f156da9b7699e9497d14967e8b6a"), looks := false }, kinds := [], alts := [], laidByText := true, laidKinds := [.data, .data], laidTests := true, laidLooks := .later }
def NarrowEncodesCardSaid : Prop := Claim7.holds Tryd.pinned (.plain (OpenSpec.ofChange narrowEncodesSpec)) narrowEncodesCard

/-- THE TIED CARD OF 'cartouchelaw07.NarrowHalf'. -/
def narrowHalfCard : Claim7 := { stood := { row := narrowHalfRow, standIns := [], harness := (true, "577429bf373ce995992d5154f80125a78253f156da9b7699e9497d14967e8b6a"), looks := false }, kinds := [], alts := [], laidByText := true, laidKinds := [.data, .data], laidTests := true, laidLooks := .later }
def NarrowHalfCardSaid : Prop := Claim7.holds Tryd.pinned (.plain (OpenSpec.ofChange narrowHalfSpec)) narrowHalfCard

/-- THE TIED CARD OF 'cartouchelaw07.NarrowApart'. -/
def narrowApartCard : Claim7 := { stood := { row := narrowApartRow, standIns := [], harness := (true, "577429bf373ce995992d5154f80125a78253f156da9b7699e9497d14967e8b6a"), looks := false }, kinds := [], alts := [], laidByText := true, laidKinds := [.data, .data], laidTests := true, laidLooks := .later }
def NarrowApartCardSaid : Prop := Claim7.holds Tryd.pinned (.plain (OpenSpec.ofChange narrowApartSpec)) narrowApartCard

/-- THE TIED CARD OF 'cartouchelaw07.NarrowFlags'. -/
def narrowFlagsCard : Claim7 := { stood := { row := narrowFlagsRow, standIns := [], harness := (true, "577429bf373ce995992d5154f80125a78253f156da9b7699e9497d14967e8b6a"), looks := false }, kinds := [], alts := [], laidByText := true, laidKinds := [.data, .data], laidTests := true, laidLooks := .later }
def NarrowFlagsCardSaid : Prop := Claim7.holds Tryd.pinned (.plain (OpenSpec.ofChange narrowFlagsSpec)) narrowFlagsCard

/-- THE SECOND FORM's CARD OF 'cartouchelaw07.NarrowEncodes'. -/
def narrowEncodesUptoCard : Claim7 := { stood := { row := narrowEncodesUptoRow, standIns := [], harness := (true, "577429bf373ce995992d5154f80125a78253f156da9b7699e9497d14967e8b6a"), looks := false }, kinds := [], alts := [], laidByText := true, laidKinds := [.data, .data], laidTests := true, laidLooks := .later }
def NarrowEncodesUptoCardSaid : Prop := Claim7.holds Tryd.pinned (.plain (OpenSpec.upto narrowEncodesSpec)) narrowEncodesUptoCard

/-- THE SECOND FORM's CARD OF 'cartouchelaw07.NarrowHalf'. -/
def narrowHalfUptoCard : Claim7 := { stood := { row := narrowHalfUptoRow, standIns := [], harness := (true, "577429bf373ce995992d5154f80125a78253f156da9b7699e9497d14967e8b6a"), looks := false }, kinds := [], alts := [], laidByText := true, laidKinds := [.data, .data], laidTests := true, laidLooks := .later }
def NarrowHalfUptoCardSaid : Prop := Claim7.holds Tryd.pinned (.plain (OpenSpec.upto narrowHalfSpec)) narrowHalfUptoCard

/-- THE SECOND FORM's CARD OF 'cartouchelaw07.NarrowApart'. -/
def narrowApartUptoCard : Claim7 := { stood := { row := narrowApartUptoRow, standIns := [], harness := (true, "577429bf373ce995992d5154f80125a78253f156da9b7699e9497d14967e8b6a"), looks := false }, kinds := [], alts := [], laidByText := true, laidKinds := [.data, .data], laidTests := true, laidLooks := .later }
def NarrowApartUptoCardSaid : Prop := Claim7.holds Tryd.pinned (.plain (OpenSpec.upto narrowApartSpec)) narrowApartUptoCard

/-- THE SECOND FORM's CARD OF 'cartouchelaw07.NarrowFlags'. -/
def narrowFlagsUptoCard : Claim7 := { stood := { row := narrowFlagsUptoRow, standIns := [], harness := (true, "577429bf373ce995992d5154f80125a78253f156da9b7699e9497d14967e8b6a"), looks := false }, kinds := [], alts := [], laidByText := true, laidKinds := [.data, .data], laidTests := true, laidLooks := .later }
def NarrowFlagsUptoCardSaid : Prop := Claim7.holds Tryd.pinned (.plain (OpenSpec.upto narrowFlagsSpec)) narrowFlagsUptoCard
end Rows
end Go.Proofs.YthpoficikcicmaaDoor
