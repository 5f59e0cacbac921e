/- Contracts of the program's functions on single conditions and IT states, and of the document's own answers for them: isCond. -/
import Derived.Test.YthpoficikcicmaaDoorRows
import Derived.Test.YthpoficikcicmaaDoorTg
import Derived.Test.YthpoficikcicmaaDoorIm
namespace Go.Proofs.YthpoficikcicmaaDoor
open Go.ChangeShapes Go.WideShapes Go.ChangeAt Go.RowKit

theorem isCond_yes (c : Int) (w : World) (h1 : 0 ≤ c) (h2 : c ≤ 14) :
    Calls Tryd.prog 68 #[.int .i64 c] w fun e w' => e = .returned (.bool true) ∧ ∃ n, w' = w.drewN n := by
  go_enter Tryd.func68, Tryd.ntmps68
  go_wp2
  go_ret
  exact ⟨rfl, 0, rfl⟩
theorem isCond_no (c : Int) (w : World) (h : ¬ (0 ≤ c ∧ c ≤ 14)) :
    Calls Tryd.prog 68 #[.int .i64 c] w fun e w' => e = .returned (.bool false) ∧ ∃ n, w' = w.drewN n := by
  by_cases h1 : 0 ≤ c
  · have h2 : ¬ (c ≤ 14) := by omega
    clear h
    go_enter Tryd.func68, Tryd.ntmps68
    go_wp2
    go_ret
    exact ⟨rfl, 0, rfl⟩
  · clear h
    go_enter Tryd.func68, Tryd.ntmps68
    go_wp2
    go_ret
    exact ⟨rfl, 0, rfl⟩
end Go.Proofs.YthpoficikcicmaaDoor
