/- Contracts of the program's functions on single conditions and IT states, and of the document's own answers for them: isCond, isPaired, Turn, Next, Cond. -/
import Derived.Test.YtndeknebpimiaaaDoorRows
import Derived.Test.YtndeknebpimiaaaDoorTb
namespace Go.Proofs.YtndeknebpimiaaaDoor
open Go.ChangeShapes Go.WideShapes Go.ChangeAt Go.RowKit

theorem isCond_yes (c : Int) (w : World) (h1 : 0 ≤ c) (h2 : c ≤ 14) :
    Calls Tryd.prog 31 #[.int .i64 c] w fun e w' => e = .returned (.bool true) ∧ ∃ n, w' = w.drewN n := by
  go_enter Tryd.func31, Tryd.ntmps31
  go_wp2
  go_ret
  exact ⟨rfl, 0, rfl⟩
theorem isCond_no (c : Int) (w : World) (h : ¬ (0 ≤ c ∧ c ≤ 14)) :
    Calls Tryd.prog 31 #[.int .i64 c] w fun e w' => e = .returned (.bool false) ∧ ∃ n, w' = w.drewN n := by
  by_cases h1 : 0 ≤ c
  · have h2 : ¬ (c ≤ 14) := by omega
    clear h
    go_enter Tryd.func31, Tryd.ntmps31
    go_wp2
    go_ret
    exact ⟨rfl, 0, rfl⟩
  · clear h
    go_enter Tryd.func31, Tryd.ntmps31
    go_wp2
    go_ret
    exact ⟨rfl, 0, rfl⟩
theorem isPaired_yes (c : Int) (w : World) (h : 0 ≤ c ∧ c ≤ 13) :
    Calls Tryd.prog 28 #[.int .i64 c] w fun e w' => e = .returned (.bool true) ∧ ∃ n, w' = w.drewN n := by
  have h1 : (c != 14) = true := by simp; omega
  go_enter Tryd.func28, Tryd.ntmps28
  go_wp2_with ((go_at_call 31; refine (isCond_yes _ _ (by omega) (by omega)).mono ?_; rintro e w' ⟨rfl, n, rfl⟩))
  go_ret
  exact ⟨rfl, n, rfl⟩
theorem isPaired_no (c : Int) (w : World) (h : ¬ (0 ≤ c ∧ c ≤ 13)) :
    Calls Tryd.prog 28 #[.int .i64 c] w fun e w' => e = .returned (.bool false) ∧ ∃ n, w' = w.drewN n := by
  by_cases h1 : c = 14
  · subst h1
    go_enter Tryd.func28, Tryd.ntmps28
    go_wp2_with ((go_at_call 31; refine (isCond_yes _ _ (by omega) (by omega)).mono ?_; rintro e w' ⟨rfl, n, rfl⟩))
    go_ret
    exact ⟨rfl, n, rfl⟩
  · have h2 : ¬ (0 ≤ c ∧ c ≤ 14) := by omega
    clear h h1
    go_enter Tryd.func28, Tryd.ntmps28
    go_wp2_with ((go_at_call 31; refine (isCond_no _ _ h2).mono ?_; rintro e w' ⟨rfl, n, rfl⟩))
    go_ret
    exact ⟨rfl, n, rfl⟩

theorem turn_c (c : Int) (w : World) :
    Calls Tryd.prog 12 #[.int .i64 c] w fun e w' => e = .returned (.int .i64 (Cm.turnI c)) ∧ ∃ n, w' = w.drewN n := by
  by_cases h : 0 ≤ c ∧ c ≤ 13
  · have ht : bits .xor .i64 c 1 = Cm.turnI c := by unfold Cm.turnI; rw [if_pos h, Cm.xor1 c (by omega)]
    have HT := Lib.hid ht; clear ht
    go_enter Tryd.func12, Tryd.ntmps12
    go_wp2_with ((go_at_call 28; refine (isPaired_yes _ _ h).mono ?_; rintro e w' ⟨rfl, n, rfl⟩))
    go_ret
    exact ⟨ret_int HT.out, n, rfl⟩
  · rw [Cm.turn_no c h]
    go_enter Tryd.func12, Tryd.ntmps12
    go_wp2_with ((go_at_call 28; refine (isPaired_no _ _ h).mono ?_; rintro e w' ⟨rfl, n, rfl⟩))
    go_ret
    exact ⟨rfl, n, rfl⟩

theorem rturn_c (c : Int) (w : World) :
    Calls Tryd.prog 13 #[.int .i64 c] w fun e w' => e = .returned (.int .i64 (Cm.turnI c)) ∧ ∃ n, w' = w.drewN n := by
  by_cases h : 0 ≤ c ∧ c ≤ 13
  · have ht : Cm.turnI c = if c % 2 = 0 then c + 1 else c - 1 := by unfold Cm.turnI; rw [if_pos h]
    rw [ht]
    clear ht
    obtain ⟨h1, h2⟩ := h
    by_cases h3 : c % 2 = 0
    · rw [if_pos h3]
      go_enter Tryd.func13, Tryd.ntmps13
      go_wp2
      go_ret
      exact ⟨rfl, 0, rfl⟩
    · rw [if_neg h3]
      go_enter Tryd.func13, Tryd.ntmps13
      go_wp2
      go_ret
      exact ⟨rfl, 0, rfl⟩
  · rw [Cm.turn_no c h]
    by_cases h1 : 0 ≤ c
    · have h2 : 13 < c := by omega
      clear h
      go_enter Tryd.func13, Tryd.ntmps13
      go_wp2
      go_ret
      exact ⟨rfl, 0, rfl⟩
    · have h2 : c < 0 := by omega
      clear h h1
      go_enter Tryd.func13, Tryd.ntmps13
      go_wp2
      go_ret
      exact ⟨rfl, 0, rfl⟩
end Go.Proofs.YtndeknebpimiaaaDoor
