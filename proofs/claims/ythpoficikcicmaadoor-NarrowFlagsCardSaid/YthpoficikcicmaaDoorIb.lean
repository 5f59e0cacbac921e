/- Contracts of isOneOf and has. -/
import Derived.Test.YthpoficikcicmaaDoorRows
import Derived.Test.YthpoficikcicmaaDoorTg
import Derived.Test.YthpoficikcicmaaDoorIm
namespace Go.Proofs.YthpoficikcicmaaDoor
open Go.ChangeShapes Go.WideShapes Go.ChangeAt Go.RowKit

theorem one_c (set r : Int) (w : World) :
    Calls Tryd.prog 53 #[.int .i64 set, .int .i64 r] w fun e w' => e = .returned (.bool (Im.oneB set r)) ∧ ∃ n, w' = w.drewN n := by
  by_cases h : set = 0
  · subst h
    rw [show Im.oneB 0 r = decide (r = 0) by simp [Im.oneB]]
    go_enter Tryd.func53, Tryd.ntmps53
    go_wp2
    go_ret
    exact ⟨ret_bool (by rfl), 0, rfl⟩
  · have hs : (set == 0) = false := by simp [h]
    by_cases h0 : 0 ≤ r
    · by_cases h1 : r ≤ 15
      · obtain ⟨k, rfl⟩ := Int.eq_ofNat_of_zero_le h0
        rw [show Im.oneB set k = Im.bit set k by unfold Im.oneB; rw [if_neg h, decide_eq_true (show (0 : Int) ≤ (k : Int) ∧ (k : Int) ≤ 15 from ⟨h0, h1⟩)]; simp]
        clear h
        go_enter Tryd.func53, Tryd.ntmps53
        go_wp2
        go_ret
        exact ⟨ret_bool (by rw [Cm.and1]; rfl), 0, rfl⟩
      · rw [show Im.oneB set r = false by unfold Im.oneB; rw [if_neg h, decide_eq_false (by omega)]; simp]
        clear h
        go_enter Tryd.func53, Tryd.ntmps53
        go_wp2
        go_ret
        exact ⟨rfl, 0, rfl⟩
    · rw [show Im.oneB set r = false by unfold Im.oneB; rw [if_neg h, decide_eq_false (by omega)]; simp]
      clear h
      go_enter Tryd.func53, Tryd.ntmps53
      go_wp2
      go_ret
      exact ⟨rfl, 0, rfl⟩

theorem has_c (least most step n : Int) (w : World) (hs : step = 0 ∨ step = 1 ∨ step = 2) :
    Calls Tryd.prog 54 #[.agg #[.int .i64 least, .int .i64 most, .int .i64 step], .int .i64 n] w fun e w' => e = .returned (.bool (Im.hasB least most step n)) ∧ Below w.heap.size w w' := by
  by_cases h0 : step = 0
  · subst h0
    go_enter Tryd.func54, Tryd.ntmps54
    go_wp2
    go_ret
    exact ⟨ret_bool (by simp [Im.hasB]), (Below.refl _ _).alloc (Nat.le_refl _) _⟩
  · have hs0 : (step != 0) = true := by simp [h0]
    have hs1 : (step == 0) = false := by simp [h0]
    by_cases h1 : least ≤ n
    · by_cases h2 : n ≤ most
      · rcases hs with rfl | rfl | rfl
        · exact absurd rfl h0
        all_goals
          clear h0
          go_enter Tryd.func54, Tryd.ntmps54
          go_wp2
          go_ret
          exact ⟨ret_bool (by simp [Im.hasB, h1, h2]), (Below.refl _ _).alloc (Nat.le_refl _) _⟩
      · have G : Im.hasB least most step n = false := by simp [Im.hasB, h2]
        clear hs h0
        go_enter Tryd.func54, Tryd.ntmps54
        go_wp2
        go_ret
        exact ⟨ret_bool (by first | rfl | rw [G]), (Below.refl _ _).alloc (Nat.le_refl _) _⟩
    · have G : Im.hasB least most step n = false := by simp [Im.hasB, h1]
      clear hs h0
      go_enter Tryd.func54, Tryd.ntmps54
      go_wp2
      go_ret
      exact ⟨ret_bool (by first | rfl | rw [G]), (Below.refl _ _).alloc (Nat.le_refl _) _⟩
end Go.Proofs.YthpoficikcicmaaDoor
