/-
  DERIVED. GIVEN WITH THE SEED: THE CARDS: each row of YthnjpgiaofedoaaDoorRows.lean that lists a variable, with what it lists TIED to the program's text (the seventh form; the later family's looks); each row that meets fmt, with fmt's text TOLD by the authors' own Lean function (tested against real Go, not proved from fmt's source: count such statements apart). THE CARD IS WHAT COUNTS. Prove the row's statement (the work); the ties are given (YthnjpgiaofedoaaDoorTie.lean); close each card by the builder's one call (the guide's Derived/Test/ToyasCard.lean, 'card_holds'). Laid BY PROGRAM, IN A SANDBOX (cutbox-door.mjs). By AI agents, Wed Nov 11 2026. No macro, syntax, notation, axiom, sorry.
-/
import Derived.Test.YthnjpgiaofedoaaDoorRows
import GoSem.ClaimSeven
namespace Go.Proofs.YthnjpgiaofedoaaDoor
namespace Rows

/-- THE TIED CARD OF 'cartouchelaw06.IsaNames'. -/
def isaNamesCard : Claim7 := { stood := { row := isaNamesRow, standIns := [], harness := (true, "113eb8e1a65bc44aa5b1ee2154ffc267056f0a1be2c099aa13024081e4c08693"), looks := false }, kinds := [], alts := [], laidByText := true, laidKinds := [.data], laidTests := true, laidLooks := .later }
def IsaNamesCardSaid : Prop := Claim7.holds Tryd.pinned (.plain (OpenSpec.ofChange isaNamesSpec)) isaNamesCard

/-- THE TIED CARD OF 'cartouchelaw06.IsaBack'. -/
def isaBackCard : Claim7 := { stood := { row := isaBackRow, standIns := [], harness := (true, "113eb8e1a65bc44aa5b1ee2154ffc267056f0a1be2c099aa13024081e4c08693"), looks := false }, kinds := [], alts := [], laidByText := true, laidKinds := [.data], laidTests := true, laidLooks := .later }
def IsaBackCardSaid : Prop := Claim7.holds Tryd.pinned (.plain (OpenSpec.ofChange isaBackSpec)) isaBackCard

/-- THE TIED CARD OF 'cartouchelaw06.IsaBare'. -/
def isaBareCard : Claim7 := { stood := { row := isaBareRow, standIns := [], harness := (true, "113eb8e1a65bc44aa5b1ee2154ffc267056f0a1be2c099aa13024081e4c08693"), looks := false }, kinds := [], alts := [], laidByText := true, laidKinds := [.data], laidTests := true, laidLooks := .later }
def IsaBareCardSaid : Prop := Claim7.holds Tryd.pinned (.plain (OpenSpec.ofChange isaBareSpec)) isaBareCard

/-- THE TIED CARD OF 'cartouchelaw06.IsaPlain'. -/
def isaPlainCard : Claim7 := { stood := { row := isaPlainRow, standIns := [], harness := (true, "113eb8e1a65bc44aa5b1ee2154ffc267056f0a1be2c099aa13024081e4c08693"), looks := false }, kinds := [], alts := [], laidByText := true, laidKinds := [.data], laidTests := true, laidLooks := .later }
def IsaPlainCardSaid : Prop := Claim7.holds Tryd.pinned (.plain (OpenSpec.ofChange isaPlainSpec)) isaPlainCard

/-- THE SECOND FORM's CARD OF 'cartouchelaw06.IsaNames'. -/
def isaNamesUptoCard : Claim7 := { stood := { row := isaNamesUptoRow, standIns := [], harness := (true, "113eb8e1a65bc44aa5b1ee2154ffc267056f0a1be2c099aa13024081e4c08693"), looks := false }, kinds := [], alts := [], laidByText := true, laidKinds := [.data], laidTests := true, laidLooks := .later }
def IsaNamesUptoCardSaid : Prop := Claim7.holds Tryd.pinned (.plain (OpenSpec.upto isaNamesSpec)) isaNamesUptoCard

/-- THE SECOND FORM's CARD OF 'cartouchelaw06.IsaBack'. -/
def isaBackUptoCard : Claim7 := { stood := { row := isaBackUptoRow, standIns := [], harness := (true, "113eb8e1a65bc44aa5b1ee2154ffc267056f0a1be2c099aa13024081e4c08693"), looks := false }, kinds := [], alts := [], laidByText := true, laidKinds := [.data], laidTests := true, laidLooks := .later }
def IsaBackUptoCardSaid : Prop := Claim7.holds Tryd.pinned (.plain (OpenSpec.upto isaBackSpec)) isaBackUptoCard

/-- THE SECOND FORM's CARD OF 'cartouchelaw06.IsaBare'. -/
def isaBareUptoCard : Claim7 := { stood := { row := isaBareUptoRow, standIns := [], harness := (true, "113eb8e1a65bc44aa5b1ee2154ffc267056f0a1be2c099aa13024081e4c08693"), looks := false }, kinds := [], alts := [], laidByText := true, laidKinds := [.data], laidTests := true, laidLooks := .later }
def IsaBareUptoCardSaid : Prop := Claim7.holds Tryd.pinned (.plain (OpenSpec.upto isaBareSpec)) isaBareUptoCard

/-- THE SECOND FORM's CARD OF 'cartouchelaw06.IsaPlain'. -/
def isaPlainUptoCard : Claim7 := { stood := { row := isaPlainUptoRow, standIns := [], harness := (true, "113eb8e1a65bc44aa5b1ee2154ffc267056f0a1be2c099aa13024081e4c08693"), looks := false }, kinds := [], alts := [], laidByText := true, laidKinds := [.data], laidTests := true, laidLooks := .later }
def IsaPlainUptoCardSaid : Prop := Claim7.holds Tryd.pinned (.plain (OpenSpec.upto isaPlainSpec)) isaPlainUptoCard
end Rows
end Go.Proofs.YthnjpgiaofedoaaDoor
