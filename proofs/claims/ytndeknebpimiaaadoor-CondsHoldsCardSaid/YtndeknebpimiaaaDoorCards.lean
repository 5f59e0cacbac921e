/-
  DERIVED. GIVEN WITH THE SEED: THE CARDS: each row of YtndeknebpimiaaaDoorRows.lean that lists a variable, with what it lists TIED to the program's text (the seventh form; the later family's looks); each row that meets fmt, with fmt's text TOLD by the authors' own Lean function (tested against real Go, not proved from fmt's source: count such statements apart). THE CARD IS WHAT COUNTS. Prove the row's statement (the work); the ties are given (YtndeknebpimiaaaDoorTie.lean); close each card by the builder's one call (the guide's Derived/Test/ToyasCard.lean, 'card_holds'). Laid BY PROGRAM, IN A SANDBOX (cutbox-door.mjs). By AI agents, Wed Nov 11 2026. No macro, syntax, notation, axiom, sorry.
-/
import Derived.Test.YtndeknebpimiaaaDoorRows
import GoSem.ClaimSeven
namespace Go.Proofs.YtndeknebpimiaaaDoor
namespace Rows

/-- THE TIED CARD OF 'cartouchelaw04.CondsHolds'. -/
def condsHoldsCard : Claim7 := { stood := { row := condsHoldsRow, standIns := [], harness := (true, "3dd2f0f7fef925b61c0750a8b32b29f1d22e321f5174a78a09d4a0735f6ba480"), looks := false }, kinds := [], alts := [], laidByText := true, laidKinds := [.data], laidTests := true, laidLooks := .later }
def CondsHoldsCardSaid : Prop := Claim7.holds Tryd.pinned (.plain (OpenSpec.ofChange condsHoldsSpec)) condsHoldsCard

/-- THE TIED CARD OF 'cartouchelaw04.CondsNames'. -/
def condsNamesCard : Claim7 := { stood := { row := condsNamesRow, standIns := [], harness := (true, "3dd2f0f7fef925b61c0750a8b32b29f1d22e321f5174a78a09d4a0735f6ba480"), looks := false }, kinds := [], alts := [], laidByText := true, laidKinds := [.data], laidTests := true, laidLooks := .later }
def CondsNamesCardSaid : Prop := Claim7.holds Tryd.pinned (.plain (OpenSpec.ofChange condsNamesSpec)) condsNamesCard

/-- THE TIED CARD OF 'cartouchelaw04.CondsMasks'. -/
def condsMasksCard : Claim7 := { stood := { row := condsMasksRow, standIns := [], harness := (true, "3dd2f0f7fef925b61c0750a8b32b29f1d22e321f5174a78a09d4a0735f6ba480"), looks := false }, kinds := [], alts := [], laidByText := true, laidKinds := [.data], laidTests := true, laidLooks := .later }
def CondsMasksCardSaid : Prop := Claim7.holds Tryd.pinned (.plain (OpenSpec.ofChange condsMasksSpec)) condsMasksCard

/-- THE TIED CARD OF 'cartouchelaw04.CondsStates'. -/
def condsStatesCard : Claim7 := { stood := { row := condsStatesRow, standIns := [], harness := (true, "3dd2f0f7fef925b61c0750a8b32b29f1d22e321f5174a78a09d4a0735f6ba480"), looks := false }, kinds := [], alts := [], laidByText := true, laidKinds := [.data], laidTests := true, laidLooks := .later }
def CondsStatesCardSaid : Prop := Claim7.holds Tryd.pinned (.plain (OpenSpec.ofChange condsStatesSpec)) condsStatesCard

/-- THE TIED CARD OF 'cartouchelaw04.CondsTurned'. -/
def condsTurnedCard : Claim7 := { stood := { row := condsTurnedRow, standIns := [], harness := (true, "3dd2f0f7fef925b61c0750a8b32b29f1d22e321f5174a78a09d4a0735f6ba480"), looks := false }, kinds := [], alts := [], laidByText := true, laidKinds := [.data], laidTests := true, laidLooks := .later }
def CondsTurnedCardSaid : Prop := Claim7.holds Tryd.pinned (.plain (OpenSpec.ofChange condsTurnedSpec)) condsTurnedCard

/-- THE TIED CARD OF 'cartouchelaw04.CondsBack'. -/
def condsBackCard : Claim7 := { stood := { row := condsBackRow, standIns := [], harness := (true, "3dd2f0f7fef925b61c0750a8b32b29f1d22e321f5174a78a09d4a0735f6ba480"), looks := false }, kinds := [], alts := [], laidByText := true, laidKinds := [.data], laidTests := true, laidLooks := .later }
def CondsBackCardSaid : Prop := Claim7.holds Tryd.pinned (.plain (OpenSpec.ofChange condsBackSpec)) condsBackCard

/-- THE TIED CARD OF 'cartouchelaw04.CondsWalk'. -/
def condsWalkCard : Claim7 := { stood := { row := condsWalkRow, standIns := [], harness := (true, "3dd2f0f7fef925b61c0750a8b32b29f1d22e321f5174a78a09d4a0735f6ba480"), looks := false }, kinds := [], alts := [], laidByText := true, laidKinds := [.data], laidTests := true, laidLooks := .later }
def CondsWalkCardSaid : Prop := Claim7.holds Tryd.pinned (.plain (OpenSpec.ofChange condsWalkSpec)) condsWalkCard

/-- THE SECOND FORM's CARD OF 'cartouchelaw04.CondsHolds'. -/
def condsHoldsUptoCard : Claim7 := { stood := { row := condsHoldsUptoRow, standIns := [], harness := (true, "3dd2f0f7fef925b61c0750a8b32b29f1d22e321f5174a78a09d4a0735f6ba480"), looks := false }, kinds := [], alts := [], laidByText := true, laidKinds := [.data], laidTests := true, laidLooks := .later }
def CondsHoldsUptoCardSaid : Prop := Claim7.holds Tryd.pinned (.plain (OpenSpec.upto condsHoldsSpec)) condsHoldsUptoCard

/-- THE SECOND FORM's CARD OF 'cartouchelaw04.CondsNames'. -/
def condsNamesUptoCard : Claim7 := { stood := { row := condsNamesUptoRow, standIns := [], harness := (true, "3dd2f0f7fef925b61c0750a8b32b29f1d22e321f5174a78a09d4a0735f6ba480"), looks := false }, kinds := [], alts := [], laidByText := true, laidKinds := [.data], laidTests := true, laidLooks := .later }
def CondsNamesUptoCardSaid : Prop := Claim7.holds Tryd.pinned (.plain (OpenSpec.upto condsNamesSpec)) condsNamesUptoCard

/-- THE SECOND FORM's CARD OF 'cartouchelaw04.CondsMasks'. -/
def condsMasksUptoCard : Claim7 := { stood := { row := condsMasksUptoRow, standIns := [], harness := (true, "3dd2f0f7fef925b61c0750a8b32b29f1d22e321f5174a78a09d4a0735f6ba480"), looks := false }, kinds := [], alts := [], laidByText := true, laidKinds := [.data], laidTests := true, laidLooks := .later }
def CondsMasksUptoCardSaid : Prop := Claim7.holds Tryd.pinned (.plain (OpenSpec.upto condsMasksSpec)) condsMasksUptoCard

/-- THE SECOND FORM's CARD OF 'cartouchelaw04.CondsStates'. -/
def condsStatesUptoCard : Claim7 := { stood := { row := condsStatesUptoRow, standIns := [], harness := (true, "3dd2f0f7fef925b61c0750a8b32b29f1d22e321f5174a78a09d4a0735f6ba480"), looks := false }, kinds := [], alts := [], laidByText := true, laidKinds := [.data], laidTests := true, laidLooks := .later }
def CondsStatesUptoCardSaid : Prop := Claim7.holds Tryd.pinned (.plain (OpenSpec.upto condsStatesSpec)) condsStatesUptoCard

/-- THE SECOND FORM's CARD OF 'cartouchelaw04.CondsTurned'. -/
def condsTurnedUptoCard : Claim7 := { stood := { row := condsTurnedUptoRow, standIns := [], harness := (true, "3dd2f0f7fef925b61c0750a8b32b29f1d22e321f5174a78a09d4a0735f6ba480"), looks := false }, kinds := [], alts := [], laidByText := true, laidKinds := [.data], laidTests := true, laidLooks := .later }
def CondsTurnedUptoCardSaid : Prop := Claim7.holds Tryd.pinned (.plain (OpenSpec.upto condsTurnedSpec)) condsTurnedUptoCard

/-- THE SECOND FORM's CARD OF 'cartouchelaw04.CondsBack'. -/
def condsBackUptoCard : Claim7 := { stood := { row := condsBackUptoRow, standIns := [], harness := (true, "3dd2f0f7fef925b61c0750a8b32b29f1d22e321f5174a78a09d4a0735f6ba480"), looks := false }, kinds := [], alts := [], laidByText := true, laidKinds := [.data], laidTests := true, laidLooks := .later }
def CondsBackUptoCardSaid : Prop := Claim7.holds Tryd.pinned (.plain (OpenSpec.upto condsBackSpec)) condsBackUptoCard

/-- THE SECOND FORM's CARD OF 'cartouchelaw04.CondsWalk'. -/
def condsWalkUptoCard : Claim7 := { stood := { row := condsWalkUptoRow, standIns := [], harness := (true, "3dd2f0f7fef925b61c0750a8b32b29f1d22e321f5174a78a09d4a0735f6ba480"), looks := false }, kinds := [], alts := [], laidByText := true, laidKinds := [.data], laidTests := true, laidLooks := .later }
def CondsWalkUptoCardSaid : Prop := Claim7.holds Tryd.pinned (.plain (OpenSpec.upto condsWalkSpec)) condsWalkUptoCard
end Rows
end Go.Proofs.YtndeknebpimiaaaDoor
