/- The start of the witness: the heap that the program's own initialisers leave holds both tables; the words of the cards. -/
import Derived.Test.YtioeoiginimjhaaDoorRows
import Derived.Test.YtioeoiginimjhaaDoorOa
import Derived.Stop.Joined
namespace Go.Proofs.YtioeoiginimjhaaDoor
open Go.ChangeShapes Go.WideShapes Go.ChangeAt Go.RowKit

/-- what the rows list -/
def laidL {H : Type} : List (String × DataW H) := [("cartouche/offs.ranges", Rows.laid_cartouche_offs_ranges), ("cartouche/offs.pieces", Rows.laid_cartouche_offs_pieces)]
theorem tabs_of {W : World} (h : laidMetH Tryd.prog laidL W) : Tabs W := tabs_of_laid h

theorem door_met (os : Os) (args : Array Value) : laidMetH Tryd.prog laidL ((World.doorLaid Tryd.prog 400 os).forCall (fun _ _ => 0) ⟨#[], args, []⟩).memory :=
  laidMetH_of_parts3 (fuel := 8) (laidMet_of_run' 8 (by kernel_rfl) (by kernel_rfl)) (by kernel_rfl) (by kernel_rfl)
end Go.Proofs.YtioeoiginimjhaaDoor
