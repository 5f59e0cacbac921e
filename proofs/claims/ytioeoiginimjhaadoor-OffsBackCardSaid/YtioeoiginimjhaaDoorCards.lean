/-
  DERIVED. GIVEN WITH THE SEED: THE CARDS: each row of YtioeoiginimjhaaDoorRows.lean that lists a variable, with what it lists TIED to the program's text (the seventh form; the later family's looks); each row that meets fmt, with fmt's text TOLD by the authors' own Lean function (tested against real Go, not proved from fmt's source: count such statements apart). THE CARD IS WHAT COUNTS. Prove the row's statement (the work); the ties are given (YtioeoiginimjhaaDoorTie.lean); close each card by the builder's one call (the guide's Derived/Test/ToyasCard.lean, 'card_holds'). Laid BY PROGRAM, IN A SANDBOX (cutbox-door.mjs). By AI agents, Wed Nov 11 2026. No macro, syntax, notation, axiom, sorry.
-/
import Derived.Test.YtioeoiginimjhaaDoorRows
import GoSem.ClaimSeven
namespace Go.Proofs.YtioeoiginimjhaaDoor
namespace Rows

/-- THE TIED CARD OF 'cartouchelaw03.OffsPuts'. -/
def offsPutsCard : Claim7 := { stood := { row := offsPutsRow, standIns := [], harness := (true, "58b51aa11fe7a17a32239a7f42e0ca0c6c3d1a540e16a173486ad76dfb005207"), looks := false }, kinds := [], alts := [], laidByText := true, laidKinds := [.data, .data], laidTests := true, laidLooks := .later }
def OffsPutsCardSaid : Prop := Claim7.holds Tryd.pinned (.plain (OpenSpec.ofChange offsPutsSpec)) offsPutsCard

/-- THE TIED CARD OF 'cartouchelaw03.OffsGets'. -/
def offsGetsCard : Claim7 := { stood := { row := offsGetsRow, standIns := [], harness := (true, "58b51aa11fe7a17a32239a7f42e0ca0c6c3d1a540e16a173486ad76dfb005207"), looks := false }, kinds := [], alts := [], laidByText := true, laidKinds := [.data, .data], laidTests := true, laidLooks := .later }
def OffsGetsCardSaid : Prop := Claim7.holds Tryd.pinned (.plain (OpenSpec.ofChange offsGetsSpec)) offsGetsCard

/-- THE TIED CARD OF 'cartouchelaw03.OffsBack'. -/
def offsBackCard : Claim7 := { stood := { row := offsBackRow, standIns := [], harness := (true, "58b51aa11fe7a17a32239a7f42e0ca0c6c3d1a540e16a173486ad76dfb005207"), looks := false }, kinds := [], alts := [], laidByText := true, laidKinds := [.data, .data], laidTests := true, laidLooks := .later }
def OffsBackCardSaid : Prop := Claim7.holds Tryd.pinned (.plain (OpenSpec.ofChange offsBackSpec)) offsBackCard

/-- THE TIED CARD OF 'cartouchelaw03.OffsAll'. -/
def offsAllCard : Claim7 := { stood := { row := offsAllRow, standIns := [], harness := (true, "58b51aa11fe7a17a32239a7f42e0ca0c6c3d1a540e16a173486ad76dfb005207"), looks := false }, kinds := [], alts := [], laidByText := true, laidKinds := [.data, .data], laidTests := true, laidLooks := .later }
def OffsAllCardSaid : Prop := Claim7.holds Tryd.pinned (.plain (OpenSpec.ofChange offsAllSpec)) offsAllCard

/-- THE TIED CARD OF 'cartouchelaw03.OffsWider'. -/
def offsWiderCard : Claim7 := { stood := { row := offsWiderRow, standIns := [], harness := (true, "58b51aa11fe7a17a32239a7f42e0ca0c6c3d1a540e16a173486ad76dfb005207"), looks := false }, kinds := [], alts := [], laidByText := true, laidKinds := [.data, .data], laidTests := true, laidLooks := .later }
def OffsWiderCardSaid : Prop := Claim7.holds Tryd.pinned (.plain (OpenSpec.ofChange offsWiderSpec)) offsWiderCard

/-- THE SECOND FORM's CARD OF 'cartouchelaw03.OffsPuts'. -/
def offsPutsUptoCard : Claim7 := { stood := { row := offsPutsUptoRow, standIns := [], harness := (true, "58b51aa11fe7a17a32239a7f42e0ca0c6c3d1a540e16a173486ad76dfb005207"), looks := false }, kinds := [], alts := [], laidByText := true, laidKinds := [.data, .data], laidTests := true, laidLooks := .later }
def OffsPutsUptoCardSaid : Prop := Claim7.holds Tryd.pinned (.plain (OpenSpec.upto offsPutsSpec)) offsPutsUptoCard

/-- THE SECOND FORM's CARD OF 'cartouchelaw03.OffsGets'. -/
def offsGetsUptoCard : Claim7 := { stood := { row := offsGetsUptoRow, standIns := [], harness := (true, "58b51aa11fe7a17a32239a7f42e0ca0c6c3d1a540e16a173486ad76dfb005207"), looks := false }, kinds := [], alts := [], laidByText := true, laidKinds := [.data, .data], laidTests := true, laidLooks := .later }
def OffsGetsUptoCardSaid : Prop := Claim7.holds Tryd.pinned (.plain (OpenSpec.upto offsGetsSpec)) offsGetsUptoCard

/-- THE SECOND FORM's CARD OF 'cartouchelaw03.OffsBack'. -/
def offsBackUptoCard : Claim7 := { stood := { row := offsBackUptoRow, standIns := [], harness := (true, "58b51aa11fe7a17a32239a7f42e0ca0c6c3d1a540e16a173486ad76dfb005207"), looks := false }, kinds := [], alts := [], laidByText := true, laidKinds := [.data, .data], laidTests := true, laidLooks := .later }
def OffsBackUptoCardSaid : Prop := Claim7.holds Tryd.pinned (.plain (OpenSpec.upto offsBackSpec)) offsBackUptoCard

/-- THE SECOND FORM's CARD OF 'cartouchelaw03.OffsAll'. -/
def offsAllUptoCard : Claim7 := { stood := { row := offsAllUptoRow, standIns := [], harness := (true, "58b51aa11fe7a17a32239a7f42e0ca0c6c3d1a540e16a173486ad76dfb005207"), looks := false }, kinds := [], alts := [], laidByText := true, laidKinds := [.data, .data], laidTests := true, laidLooks := .later }
def OffsAllUptoCardSaid : Prop := Claim7.holds Tryd.pinned (.plain (OpenSpec.upto offsAllSpec)) offsAllUptoCard

/-- THE SECOND FORM's CARD OF 'cartouchelaw03.OffsWider'. -/
def offsWiderUptoCard : Claim7 := { stood := { row := offsWiderUptoRow, standIns := [], harness := (true, "58b51aa11fe7a17a32239a7f42e0ca0c6c3d1a540e16a173486ad76dfb005207"), looks := false }, kinds := [], alts := [], laidByText := true, laidKinds := [.data, .data], laidTests := true, laidLooks := .later }
def OffsWiderUptoCardSaid : Prop := Claim7.holds Tryd.pinned (.plain (OpenSpec.upto offsWiderSpec)) offsWiderUptoCard
end Rows
end Go.Proofs.YtioeoiginimjhaaDoor
