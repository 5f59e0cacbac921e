/- The chapter's examples hold of the program: awake answers true. -/
import Derived.Test.YtlgifolagfooaaaRows
import Derived.Test.YtlgifolagfooaaaEf
import Derived.Below
namespace Go.Proofs.Ytlgifolagfooaaa
open Go.ChangeShapes Go.WideShapes Go.ChangeAt Go.RowKit

theorem below_drewN {B n : Nat} {a w : World} (h : Below B a w) : Below B a (w.drewN n) := ⟨h.os, h.tape, h.output, h.size, h.block⟩

theorem find_ex1 (w : World) : Calls Try.prog 13 #[.int .u32 4278255360] w fun e w' => e = .returned (.tuple #[.int .i64 767, .bool true]) ∧ ∃ n, w' = w.drewN n := by
  have h := find_c 4278255360 w (by decide) (by decide)
  rw [show findI 4278255360 = 767 by decide +kernel, show findB 4278255360 = true by decide +kernel] at h
  exact h
theorem find_ex2 (w : World) : Calls Try.prog 13 #[.int .u32 305419896] w fun e w' => e = .returned (.tuple #[.int .i64 0, .bool false]) ∧ ∃ n, w' = w.drewN n := by
  have h := find_c 305419896 w (by decide) (by decide)
  rw [show findI 305419896 = 0 by decide +kernel, show findB 305419896 = false by decide +kernel] at h
  exact h
theorem exp_ex (w : World) : Calls Try.prog 8 #[.int .i64 1024] w fun e w' => e = .returned (.int .u32 2147483648) ∧ ∃ n, w' = w.drewN n := by
  have h := exp_c 1024 w (by decide) (by decide)
  rw [show expI 1024 = 2147483648 by decide +kernel] at h
  exact h
theorem valid_ex1 (w : World) : Calls Try.prog 10 #[.int .i64 257] w fun e w' => e = .returned (.bool true) ∧ ∃ n, w' = w.drewN n := by
  have h := valid_c 257 w
  rw [show okB 257 = true by decide +kernel] at h
  exact h
theorem valid_ex2 (w : World) : Calls Try.prog 10 #[.int .i64 256] w fun e w' => e = .returned (.bool false) ∧ ∃ n, w' = w.drewN n := by
  have h := valid_c 256 w
  rw [show okB 256 = false by decide +kernel] at h
  exact h

theorem awake_c (w : World) : Calls Try.prog 12 #[] w fun e w' => e = .returned (.bool true) ∧ ∃ n, w' = w.drewN n := by
  go_enter Try.func12, Try.ntmps12
  go_wp2_with fail
  refine (find_ex1 _).mono ?_
  rintro e w' ⟨rfl, n1, rfl⟩
  go_wp2_with fail
  refine (find_ex2 _).mono ?_
  rintro e w' ⟨rfl, n2, rfl⟩
  go_wp2_with fail
  refine (exp_ex _).mono ?_
  rintro e w' ⟨rfl, n3, rfl⟩
  go_wp2_with fail
  refine (valid_ex1 _).mono ?_
  rintro e w' ⟨rfl, n4, rfl⟩
  go_wp2_with fail
  refine (valid_ex2 _).mono ?_
  rintro e w' ⟨rfl, n5, rfl⟩
  go_wp2
  go_ret
  exact ⟨rfl, _, rfl⟩
end Go.Proofs.Ytlgifolagfooaaa
