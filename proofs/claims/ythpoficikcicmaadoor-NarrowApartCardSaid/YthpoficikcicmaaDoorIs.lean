/- Contracts of Sets, the program's and the document's own. -/
import Derived.Test.YthpoficikcicmaaDoorRows
import Derived.Test.YthpoficikcicmaaDoorTg
import Derived.Test.YthpoficikcicmaaDoorIm
namespace Go.Proofs.YthpoficikcicmaaDoor
open Go.ChangeShapes Go.WideShapes Go.ChangeAt Go.RowKit

theorem sets_both (op : Int) (w : World) :
    (Calls Tryd.prog 33 #[.int .i64 op] w fun e w' => e = .returned (.bool (Im.setsB op)) ∧ ∃ n, w' = w.drewN n) ∧
    Calls Tryd.prog 12 #[.int .i64 op] w fun e w' => e = .returned (.bool (Im.setsB op)) ∧ ∃ n, w' = w.drewN n := by
  by_cases h1 : 1 ≤ op
  · by_cases h2 : op ≤ 11
    · rw [show Im.setsB op = true by simp [Im.setsB, h1, h2]]
      constructor
      · go_enter Tryd.func33, Tryd.ntmps33
        go_wp2
        go_ret
        exact ⟨rfl, 0, rfl⟩
      · go_enter Tryd.func12, Tryd.ntmps12
        go_wp2
        go_ret
        exact ⟨rfl, 0, rfl⟩
    · by_cases h3 : 16 ≤ op
      · by_cases h4 : op ≤ 19
        · rw [show Im.setsB op = true by simp [Im.setsB, h3, h4]]
          constructor
          · go_enter Tryd.func33, Tryd.ntmps33
            go_wp2
            go_ret
            exact ⟨rfl, 0, rfl⟩
          · go_enter Tryd.func12, Tryd.ntmps12
            go_wp2
            go_ret
            exact ⟨rfl, 0, rfl⟩
        · rw [show Im.setsB op = false by simp [Im.setsB, h2, h4]]
          constructor
          · go_enter Tryd.func33, Tryd.ntmps33
            go_wp2
            go_ret
            exact ⟨rfl, 0, rfl⟩
          · go_enter Tryd.func12, Tryd.ntmps12
            go_wp2
            go_ret
            exact ⟨rfl, 0, rfl⟩
      · rw [show Im.setsB op = false by simp [Im.setsB, h2, h3]]
        constructor
        · go_enter Tryd.func33, Tryd.ntmps33
          go_wp2
          go_ret
          exact ⟨rfl, 0, rfl⟩
        · go_enter Tryd.func12, Tryd.ntmps12
          go_wp2
          go_ret
          exact ⟨rfl, 0, rfl⟩
  · have h3 : ¬ 16 ≤ op := by omega
    rw [show Im.setsB op = false by simp [Im.setsB, h1, h3]]
    constructor
    · go_enter Tryd.func33, Tryd.ntmps33
      go_wp2
      go_ret
      exact ⟨rfl, 0, rfl⟩
    · go_enter Tryd.func12, Tryd.ntmps12
      go_wp2
      go_ret
      exact ⟨rfl, 0, rfl⟩
theorem sets_c (op : Int) (w : World) : Calls Tryd.prog 33 #[.int .i64 op] w fun e w' => e = .returned (.bool (Im.setsB op)) ∧ ∃ n, w' = w.drewN n := (sets_both op w).1
theorem rsets_c (op : Int) (w : World) : Calls Tryd.prog 12 #[.int .i64 op] w fun e w' => e = .returned (.bool (Im.setsB op)) ∧ ∃ n, w' = w.drewN n := (sets_both op w).2
end Go.Proofs.YthpoficikcicmaaDoor
