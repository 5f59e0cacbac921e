/- The chapter's examples hold of the program: awake answers true, and nothing that was there is changed. -/
import Derived.Test.YthnjpgiaofedoaaDoorRows
import Derived.Test.YthnjpgiaofedoaaDoorIf
import Derived.Test.YthnjpgiaofedoaaDoorIc
namespace Go.Proofs.YthnjpgiaofedoaaDoor
open Go.ChangeShapes Go.WideShapes Go.ChangeAt Go.RowKit

theorem find_ex1 (w : World) (hT : Tabs w) : Calls Tryd.prog 7 #[.string ⟨#[108, 100, 114]⟩] w fun e w' => e = .returned (.tuple #[.int .i64 25, .bool true]) ∧ ∃ n, w' = w.drewN n := by
  have h := find_c ⟨#[108, 100, 114]⟩ w hT
  rw [bytes_list [108, 100, 114], show Im.findI [108, 100, 114] = 25 by decide +kernel] at h
  exact h
theorem find_ex2 (w : World) (hT : Tabs w) : Calls Tryd.prog 7 #[.string ⟨#[120, 121, 122]⟩] w fun e w' => e = .returned (.tuple #[.int .i64 0, .bool false]) ∧ ∃ n, w' = w.drewN n := by
  have h := find_c ⟨#[120, 121, 122]⟩ w hT
  rw [bytes_list [120, 121, 122], show Im.findI [120, 121, 122] = 0 by decide +kernel] at h
  exact h
theorem name_ex (w : World) (hT : Tabs w) : Calls Tryd.prog 9 #[.int .i64 40] w fun e w' => e = .returned (.string ⟨#[108, 100, 114]⟩) ∧ ∃ n, w' = w.drewN n := name_c 40 w hT
theorem check_ex1 (w : World) : Calls Tryd.prog 14 #[.agg #[.int .i64 33, .int .i64 0, .int .i64 0, .int .i64 0, .int .i64 0, .int .i64 0, .int .i64 0, .int .i64 0, .bool false]] w fun e w' => e = .returned (.int .i64 6) ∧ Below w.heap.size w w' := by
  have h := check_c 33 0 0 0 0 0 0 0 false w
  rw [show Im.checkB 33 0 0 0 0 0 0 0 false = false by decide +kernel] at h
  exact h
theorem check_ex2 (w : World) : Calls Tryd.prog 14 #[.agg #[.int .i64 5, .int .i64 0, .int .i64 1, .int .i64 2, .int .i64 14, .int .i64 0, .int .i64 2, .int .i64 0, .bool false]] w fun e w' => e = .returned (.int .i64 0) ∧ Below w.heap.size w w' := by
  have h := check_c 5 0 1 2 14 0 2 0 false w
  rw [show Im.checkB 5 0 1 2 14 0 2 0 false = true by decide +kernel] at h
  exact h
theorem sets_ex1 (w : World) : Calls Tryd.prog 11 #[.int .i64 11] w fun e w' => e = .returned (.bool true) ∧ ∃ n, w' = w.drewN n := sets_c 11 w
theorem sets_ex2 (w : World) : Calls Tryd.prog 11 #[.int .i64 12] w fun e w' => e = .returned (.bool false) ∧ ∃ n, w' = w.drewN n := sets_c 12 w

/-- W is a world behind w in which the add lies at b -/
structure Add (w : World) (b : Nat) (W : World) : Prop where
  later : Later w W
  c : ∀ j, W.cell? ⟨b, j, none⟩ = (#[.int .i64 5, .int .i64 0, .int .i64 1, .int .i64 2, .int .i64 14, .int .i64 0, .int .i64 2, .int .i64 0, .bool false] : Array Value)[j]?
  lt : b < W.heap.size
theorem Add.step {w W W' : World} {b : Nat} (h : Add w b W) (hb : Below W.heap.size W W') : Add w b W' := ⟨h.later.step hb, fun j => (hb.cell (p := ⟨b, j, none⟩) h.lt).trans (h.c j), Nat.lt_of_lt_of_le h.lt hb.size⟩

set_option maxHeartbeats 1000000 in
theorem awake_c (w : World) (hT : Tabs w) :
    Calls Tryd.prog 13 #[] w fun e w' => e = .returned (.bool true) ∧ Below w.heap.size w w' := by
  have HT := Lib.hid hT
  clear hT
  go_enter Tryd.func13, Tryd.ntmps13
  go_wp2_with fail
  refine (find_ex1 _ HT.out).mono ?_
  rintro e w' ⟨rfl, n1, rfl⟩
  go_wp2_with fail
  refine (find_ex2 _ (HT.out.drew _)).mono ?_
  rintro e w' ⟨rfl, n2, rfl⟩
  go_wp2_with fail
  have hA : Add w w.heap.size ((w.alloc (.cells #[.int .i64 5, .int .i64 0, .int .i64 1, .int .i64 2, .int .i64 14, .int .i64 0, .int .i64 2, .int .i64 0, .bool false] 29)).drewN (n1 + n2)) :=
    ⟨(Later.refl HT.out).step (below_drewN ((Below.refl _ _).alloc (Nat.le_refl _) _) _), fun j => World.cell?_alloc_new w _ _ j, by simp⟩
  refine (check_ex1 _).mono ?_
  rintro e w3 ⟨rfl, hb⟩
  have hA3 := Lib.hid (hA.step hb)
  clear hb hA
  have c0 : w3.cell? ⟨w.heap.size, 0, none⟩ = some (.int .i64 5) := hA3.out.c 0
  have c1 : w3.cell? ⟨w.heap.size, 1, none⟩ = some (.int .i64 0) := hA3.out.c 1
  have c2 : w3.cell? ⟨w.heap.size, 2, none⟩ = some (.int .i64 1) := hA3.out.c 2
  have c3 : w3.cell? ⟨w.heap.size, 3, none⟩ = some (.int .i64 2) := hA3.out.c 3
  have c4 : w3.cell? ⟨w.heap.size, 4, none⟩ = some (.int .i64 14) := hA3.out.c 4
  have c5 : w3.cell? ⟨w.heap.size, 5, none⟩ = some (.int .i64 0) := hA3.out.c 5
  have c6 : w3.cell? ⟨w.heap.size, 6, none⟩ = some (.int .i64 2) := hA3.out.c 6
  have c7 : w3.cell? ⟨w.heap.size, 7, none⟩ = some (.int .i64 0) := hA3.out.c 7
  have c8 : w3.cell? ⟨w.heap.size, 8, none⟩ = some (.bool false) := hA3.out.c 8
  go_wp2_with fail
  clear c0 c1 c2 c3 c4 c5 c6 c7 c8
  refine (check_ex2 _).mono ?_
  rintro e w4 ⟨rfl, hb⟩
  have hL := Lib.hid (hA3.out.step hb).later
  clear hb hA3
  go_wp2_with fail
  refine (name_ex _ hL.out.tabs).mono ?_
  rintro e w' ⟨rfl, n5, rfl⟩
  go_wp2_with fail
  refine (sets_ex1 _).mono ?_
  rintro e w' ⟨rfl, n6, rfl⟩
  go_wp2_with fail
  refine (sets_ex2 _).mono ?_
  rintro e w' ⟨rfl, n7, rfl⟩
  go_wp2
  go_ret
  exact ⟨rfl, below_drewN hL.out.bel _⟩
end Go.Proofs.YthnjpgiaofedoaaDoor
