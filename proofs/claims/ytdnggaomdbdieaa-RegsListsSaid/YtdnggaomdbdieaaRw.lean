/- The chapter's example holds of the program: awake answers true, and nothing that was there is changed. -/
import Derived.Test.YtdnggaomdbdieaaRows
import Derived.Test.YtdnggaomdbdieaaRq
namespace Go.Proofs.Ytdnggaomdbdieaa
open Go.ChangeShapes Go.WideShapes Go.ChangeAt Go.RowKit

theorem print_ex (w : World) : Calls Try.prog 20 #[.int .i64 16407] w fun e w' => e = .returned (.string ⟨#[123, 114, 48, 45, 114, 50, 44, 32, 114, 52, 44, 32, 108, 114, 125]⟩) ∧ Below w.heap.size w w' := by
  have h := print_c 16407 w
  rw [show Rm.printL 16407 = [123, 114, 48, 45, 114, 50, 44, 32, 114, 52, 44, 32, 108, 114, 125] by decide +kernel] at h
  exact h
theorem count_ex (w : World) : Calls Try.prog 13 #[.int .i64 16407] w fun e w' => e = .returned (.int .i64 5) ∧ ∃ n, w' = w.drewN n := by
  have h := count_c 16407 w
  rw [show Rm.countN 16407 = 5 by decide +kernel] at h
  exact h
theorem find_ex (w : World) : Calls Try.prog 10 #[.string ⟨#[114, 49, 51]⟩] w fun e w' => e = .returned (.int .i64 13) ∧ Below w.heap.size w w' := by
  have h := find_c ⟨#[114, 49, 51]⟩ w
  rw [show (⟨#[114, 49, 51]⟩ : ByteArray).toList = [114, 49, 51] by simp, show Rm.findI [114, 49, 51] = 13 by decide +kernel] at h
  exact h
theorem name_ex (w : World) : Calls Try.prog 8 #[.int .i64 13] w fun e w' => e = .returned (.string ⟨#[115, 112]⟩) ∧ Below w.heap.size w w' := by
  have h := name_c 13 w
  rw [show Rm.nameI 13 = [115, 112] by decide +kernel] at h
  exact h
theorem all_ex (w : World) : Calls Try.prog 16 #[.int .i64 16385] w fun e w' => ∃ A c, e = .returned (.slice A 2 c) ∧ IntsAt w' w'.heap.size A [0, 14] ∧ Below w.heap.size w w' := by
  have h := all_c 16385 w
  rw [show Rm.allI 16385 = [0, 14] by decide +kernel] at h
  refine h.mono ?_
  rintro e w' ⟨A, c, he, _, h2, h3⟩
  exact ⟨A, c, he, h2, h3⟩
theorem ints_ex (A A' : Option Addr) (c c' B : Nat) (w : World) (hA : IntsAt w B A [0, 14]) (hA' : IntsAt w B A' [0, 14]) :
    Calls Try.prog 15 #[.slice A 2 c, .slice A' 2 c'] w fun e w' => e = .returned (.bool true) ∧ ∃ n, w' = w.drewN n :=
  ints_c A A' c c' B [0, 14] w hA hA' (by decide)
theorem low_ex1 (w : World) : Calls Try.prog 18 #[.int .i64 255] w fun e w' => e = .returned (.bool true) ∧ ∃ n, w' = w.drewN n := by
  have h := low_c 255 w
  rw [show Rm.lowB 255 = true by decide +kernel] at h
  exact h
theorem low_ex2 (w : World) : Calls Try.prog 18 #[.int .i64 256] w fun e w' => e = .returned (.bool false) ∧ ∃ n, w' = w.drewN n := by
  have h := low_c 256 w
  rw [show Rm.lowB 256 = false by decide +kernel] at h
  exact h

theorem next {w0 w w' : World} (h : Below w0.heap.size w0 w) (hb : Below w.heap.size w w') : Below w0.heap.size w0 w' := h.trans (hb.mono h.size)

set_option maxHeartbeats 1000000 in
theorem awake_c (w : World) :
    Calls Try.prog 12 #[] w fun e w' => e = .returned (.bool true) ∧ Below w.heap.size w w' := by
  have hL : Below w.heap.size w w := Below.refl _ _
  go_enter Try.func12, Try.ntmps12
  go_wp2_with fail
  refine (print_ex _).mono ?_
  rintro e w1 ⟨rfl, hb⟩
  have hL1 := next hL hb
  clear hL hb
  go_wp2_with fail
  refine (count_ex _).mono ?_
  rintro e w' ⟨rfl, n1, rfl⟩
  have hL2 := below_drewN hL1 n1
  clear hL1
  go_wp2_with fail
  refine (find_ex _).mono ?_
  rintro e w2 ⟨rfl, hb⟩
  have hL3 := next hL2 hb
  clear hL2 hb
  go_wp2_with fail
  refine (name_ex _).mono ?_
  rintro e w3 ⟨rfl, hb⟩
  have hL4 := next hL3 hb
  clear hL3 hb
  go_wp2_with fail
  refine (all_ex _).mono ?_
  rintro e w4 ⟨A, c, rfl, hI, hb⟩
  have hL5 := next hL4 hb
  clear hL4 hb
  go_wp2_with fail
  refine (ints_ex _ _ _ _ (w4.alloc (.cells #[.int .i64 0, .int .i64 14] 3)).heap.size _ ((hI.below ((Below.refl _ _).alloc (Nat.le_refl _) _) (Nat.le_refl _)).more (by simp)) ((IntsAt.new_ w4 [0, 14]).more (by simp))).mono ?_
  rintro e w' ⟨rfl, n4, rfl⟩
  have hL6 : Below w.heap.size w ((w4.alloc (.cells #[.int .i64 0, .int .i64 14] 3)).drewN n4) := next hL5 (below_drewN ((Below.refl _ _).alloc (Nat.le_refl _) _) _)
  clear hL5 hI
  go_wp2_with (first
    | (go_at_call 18; refine (low_ex1 _).mono ?_; rintro e w' ⟨rfl, n5, rfl⟩)
    | (go_at_call 18; refine (low_ex2 _).mono ?_; rintro e w' ⟨rfl, n6, rfl⟩))
  go_ret
  exact ⟨rfl, by rw [← World.drewN_drewN, ← World.drewN_drewN]; exact below_drewN (below_drewN hL6 _) _⟩
end Go.Proofs.Ytdnggaomdbdieaa
