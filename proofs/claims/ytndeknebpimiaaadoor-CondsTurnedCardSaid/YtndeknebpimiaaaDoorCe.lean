/- The chapter's examples hold of the program: awake answers true, and nothing that was there is changed. -/
import Derived.Test.YtndeknebpimiaaaDoorRows
import Derived.Test.YtndeknebpimiaaaDoorCh
import Derived.Test.YtndeknebpimiaaaDoorCf
import Derived.Test.YtndeknebpimiaaaDoorCl
import Derived.Test.YtndeknebpimiaaaDoorCd
namespace Go.Proofs.YtndeknebpimiaaaDoor
open Go.ChangeShapes Go.WideShapes Go.ChangeAt Go.RowKit

theorem mask_ex1 (w : World) : Calls Tryd.prog 19 #[.int .i64 0, .slice none 0 0] w fun e w' => e = .returned (.int .i64 8) ∧ ∃ n, w' = w.drewN n := by
  have h := mask_c 0 none 0 [] w (.inl rfl)
  rw [show Cm.maskI 0 [] = 8 by decide +kernel] at h
  exact h
theorem mask_ex2 (A : Option Addr) (cap : Nat) (w : World) (hA : BoolsAt w w.heap.size A [true, false]) : Calls Tryd.prog 19 #[.int .i64 0, .slice A 2 cap] w fun e w' => e = .returned (.int .i64 6) ∧ ∃ n, w' = w.drewN n := by
  have h := mask_c 0 A cap [true, false] w hA
  rw [show Cm.maskI 0 [true, false] = 6 by decide +kernel] at h
  exact h
theorem conds_ex (w : World) : Calls Tryd.prog 22 #[.int .i64 1, .int .i64 8] w fun e w' => ∃ A c, e = .returned (.slice A 1 c) ∧ IntsAt w' w'.heap.size A [1] ∧ Below w.heap.size w w' := by
  have h := conds_c 1 8 w
  rw [show Cm.condsI 1 8 = [1] by decide +kernel] at h
  exact h
theorem ints_ex (A A' : Option Addr) (c c' B : Nat) (w : World) (hA : IntsAt w B A [1]) (hA' : IntsAt w B A' [1]) :
    Calls Tryd.prog 21 #[.slice A 1 c, .slice A' 1 c'] w fun e w' => e = .returned (.bool true) ∧ ∃ n, w' = w.drewN n :=
  ints_c A A' c c' B [1] w hA hA' (by decide)
theorem holds_ex (c : Int) (w : World) : Calls Tryd.prog 10 #[.int .i64 c, .agg #[.bool false, .bool true, .bool false, .bool false]] w fun e w' => e = .returned (.bool (Cm.holdsB c false true false false)) ∧ Below w.heap.size w w' := holds_c c false true false false w
theorem name_ex (w : World) (hT : Tabs w) : Calls Tryd.prog 14 #[.int .i64 13] w fun e w' => e = .returned (.string ⟨#[108, 101]⟩) ∧ ∃ n, w' = w.drewN n := name_13 w hT
theorem find_ex (w : World) (hT : Tabs w) : Calls Tryd.prog 17 #[.string ⟨#[104, 115]⟩] w fun e w' => e = .returned (.int .i64 2) ∧ ∃ n, w' = w.drewN n := by
  have h := find_c ⟨#[104, 115]⟩ w hT
  rw [bytes_list [104, 115], show Cm.findI [104, 115] = 2 by decide +kernel] at h
  exact h
theorem turn_ex (w : World) : Calls Tryd.prog 12 #[.int .i64 10] w fun e w' => e = .returned (.int .i64 11) ∧ ∃ n, w' = w.drewN n := turn_c 10 w
theorem next_ex (w : World) : Calls Tryd.prog 24 #[.int .i64 6] w fun e w' => e = .returned (.int .i64 12) ∧ ∃ n, w' = w.drewN n := next_c 6 w
theorem cond_ex1 (w : World) : Calls Tryd.prog 26 #[.int .i64 22] w fun e w' => e = .returned (.int .i64 1) ∧ ∃ n, w' = w.drewN n := cond_c 22 w
theorem cond_ex2 (w : World) : Calls Tryd.prog 26 #[.int .i64 0] w fun e w' => e = .returned (.int .i64 14) ∧ ∃ n, w' = w.drewN n := cond_c 0 w

set_option maxHeartbeats 1000000 in
theorem awake_c (w : World) (hT : Tabs w) :
    Calls Tryd.prog 16 #[] w fun e w' => e = .returned (.bool true) ∧ Below w.heap.size w w' := by
  have hL := Later.refl hT
  clear hT
  go_enter Tryd.func16, Tryd.ntmps16
  go_wp2_with fail
  refine (mask_ex1 _).mono ?_
  rintro e w' ⟨rfl, n1, rfl⟩
  go_wp2_with fail
  have hA : BoolsAt ((w.alloc (.cells #[.bool true, .bool false] 4)).drewN n1) ((w.alloc (.cells #[.bool true, .bool false] 4)).drewN n1).heap.size (some ⟨w.heap.size, 0, none⟩) [true, false] :=
    ((BoolsAt.new_ w [true, false]).drewN n1).more (by simp)
  have hL1 : Later w ((w.alloc (.cells #[.bool true, .bool false] 4)).drewN n1) := hL.step (below_drewN ((Below.refl _ _).alloc (Nat.le_refl _) _) _)
  clear hL
  refine (mask_ex2 _ _ _ hA).mono ?_
  clear hA
  rintro e w' ⟨rfl, n2, rfl⟩
  go_wp2_with fail
  have hL2 : Later w ((w.alloc (.cells #[.bool true, .bool false] 4)).drewN (n1 + n2)) := by rw [← World.drewN_drewN]; exact hL1.drewn n2
  clear hL1
  refine (conds_ex _).mono ?_
  rintro e w3 ⟨A, c, rfl, hI, hb⟩
  have hL3 := hL2.step hb
  clear hL2 hb
  go_wp2_with fail
  refine (ints_ex _ _ _ _ (w3.alloc (.cells #[.int .i64 1] 3)).heap.size _ ((hI.below ((Below.refl _ _).alloc (Nat.le_refl _) _) (Nat.le_refl _)).more (by simp)) ((IntsAt.new_ w3 [1]).more (by simp))).mono ?_
  rintro e w' ⟨rfl, n4, rfl⟩
  have hL4 : Later w ((w3.alloc (.cells #[.int .i64 1] 3)).drewN n4) := hL3.step (below_drewN ((Below.refl _ _).alloc (Nat.le_refl _) _) _)
  clear hL3 hI
  go_wp2_with fail
  refine (holds_ex 0 _).mono ?_
  rintro e w5 ⟨rfl, hb⟩
  rw [show Cm.holdsB 0 false true false false = true by decide +kernel]
  have hL5 := hL4.step hb
  clear hL4 hb
  go_wp2_with fail
  refine (holds_ex 1 _).mono ?_
  rintro e w6 ⟨rfl, hb⟩
  rw [show Cm.holdsB 1 false true false false = false by decide +kernel]
  have hL6 := hL5.step hb
  clear hL5 hb
  go_wp2_with (first
    | (go_at_call 14; refine (name_ex _ hL6.tabs).mono ?_; rintro e w' ⟨rfl, n7, rfl⟩)
    | (go_at_call 17; refine (find_ex _ (hL6.drewn _).tabs).mono ?_; rintro e w' ⟨rfl, n8, rfl⟩)
    | (go_at_call 12; refine (turn_ex _).mono ?_; rintro e w' ⟨rfl, n9, rfl⟩)
    | (go_at_call 24; refine (next_ex _).mono ?_; rintro e w' ⟨rfl, n10, rfl⟩)
    | (go_at_call 26; refine (cond_ex1 _).mono ?_; rintro e w' ⟨rfl, n11, rfl⟩)
    | (go_at_call 26; refine (cond_ex2 _).mono ?_; rintro e w' ⟨rfl, n12, rfl⟩))
  go_ret
  exact ⟨rfl, (hL6.drewn _).bel⟩
end Go.Proofs.YtndeknebpimiaaaDoor
