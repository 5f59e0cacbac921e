/- Contracts of Next and Cond, the program's and the document's own. -/
import Derived.Test.YthpoficikcicmaaDoorRows
import Derived.Test.YthpoficikcicmaaDoorCa
namespace Go.Proofs.YthpoficikcicmaaDoor
open Go.ChangeShapes Go.WideShapes Go.ChangeAt Go.RowKit

theorem next_val (it : Int) (h : ¬ it % 8 = 0) : bits .or .i64 (it % 256 / 32 * 32) (wrap64 (it * 2) % 32) = Cm.nextI it := by
  unfold Cm.nextI
  rw [if_neg h, wrap64, Cm.or_join _ _ 5 (by omega) (by omega) (by omega) (by omega) (by omega) (by omega)]
  omega

theorem next_c (it : Int) (w : World) :
    Calls Tryd.prog 69 #[.int .i64 it] w fun e w' => e = .returned (.int .i64 (Cm.nextI it)) ∧ ∃ n, w' = w.drewN n := by
  by_cases h : it % 8 = 0
  · have e : Cm.nextI it = 0 := by unfold Cm.nextI; rw [if_pos h]
    rw [e]
    have hB : (bits .and .i64 it 7 == 0) = true := by rw [Cm.and7]; simp [h]
    clear h e
    go_enter Tryd.func69, Tryd.ntmps69
    go_wp2
    go_ret
    exact ⟨rfl, 0, rfl⟩
  · have HV := Lib.hid (next_val it h)
    have hB : (bits .and .i64 it 7 == 0) = false := by rw [Cm.and7]; simp [h]
    clear h
    go_enter Tryd.func69, Tryd.ntmps69
    go_wp2
    go_ret
    exact ⟨ret_int (by rw [← HV.out, ← Cm.and224, ← Cm.and31]), 0, rfl⟩

theorem cond_val (it : Int) : bits .and .i64 (it / 16) 15 = it % 256 / 16 := by
  rw [Cm.and15]; omega

theorem cond_c (it : Int) (w : World) :
    Calls Tryd.prog 70 #[.int .i64 it] w fun e w' => e = .returned (.int .i64 (Cm.condI it)) ∧ ∃ n, w' = w.drewN n := by
  by_cases h : it % 16 = 0
  · have e : Cm.condI it = 14 := by unfold Cm.condI; rw [if_pos h]
    rw [e]
    have hB : (bits .and .i64 it 15 == 0) = true := by rw [Cm.and15]; simp [h]
    clear h e
    go_enter Tryd.func70, Tryd.ntmps70
    go_wp2
    go_ret
    exact ⟨rfl, 0, rfl⟩
  · have e : Cm.condI it = it % 256 / 16 := by unfold Cm.condI; rw [if_neg h]
    rw [e]
    have HV := Lib.hid (cond_val it)
    have hB : (bits .and .i64 it 15 == 0) = false := by rw [Cm.and15]; simp [h]
    clear h e
    go_enter Tryd.func70, Tryd.ntmps70
    go_wp2
    go_ret
    exact ⟨ret_int (by rw [← HV.out]), 0, rfl⟩

end Go.Proofs.YthpoficikcicmaaDoor
