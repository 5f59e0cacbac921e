/- Contracts of Name, the program's and the document's own, and of the document's list of names. -/
import Derived.Test.YtndeknebpimiaaaDoorRows
import Derived.Test.YtndeknebpimiaaaDoorCa
namespace Go.Proofs.YtndeknebpimiaaaDoor
open Go.ChangeShapes Go.WideShapes Go.ChangeAt Go.RowKit

theorem string_of {a b : List UInt8} (h : a = b) : Ending.returned (.string ⟨a.toArray⟩) = .returned (.string ⟨b.toArray⟩) := by rw [h]

theorem rnames_c (w : World) :
    Calls Tryd.prog 30 #[] w fun e w' => e = .returned (.slice (some ⟨w.heap.size, 0, none⟩) 14 14) ∧ w' = w.alloc (.cells nameCells.toArray 9) := by
  go_enter Tryd.func30, Tryd.ntmps30
  go_wp2
  go_ret
  exact ⟨rfl, rfl⟩

theorem new_name (w : World) (j : Nat) : (w.alloc (.cells nameCells.toArray 9)).cell? ⟨w.heap.size, j, none⟩ = nameCells[j]? := by
  rw [World.cell?_alloc_new]; simp

theorem name_0 (w : World) (hT : Tabs w) : Calls Tryd.prog 14 #[.int .i64 0] w fun e w' => e = .returned (.string ⟨#[101, 113]⟩) ∧ ∃ n, w' = w.drewN n := by
  have hc : w.cell? ⟨0, 0 + 0, none⟩ = some (.string ⟨#[101, 113]⟩) := hT.r 0 _ rfl
  simp only [Nat.zero_add] at hc
  clear hT
  go_enter Tryd.func14, Tryd.ntmps14
  go_wp2_with ((go_at_call 28; refine (isPaired_yes _ _ (by omega)).mono ?_; rintro e w' ⟨rfl, m, rfl⟩))
  go_ret
  exact ⟨rfl, m, rfl⟩
theorem rname_0 (w : World) : Calls Tryd.prog 15 #[.int .i64 0] w fun e w' => e = .returned (.string ⟨#[101, 113]⟩) ∧ Below w.heap.size w w' := by
  have hc : (w.alloc (.cells nameCells.toArray 9)).cell? ⟨w.heap.size, 0, none⟩ = some (.string ⟨#[101, 113]⟩) := (new_name w 0).trans rfl
  go_enter Tryd.func15, Tryd.ntmps15
  go_wp2_with ((go_at_call 30; refine (rnames_c _).mono ?_; rintro e w' ⟨rfl, rfl⟩))
  go_ret
  exact ⟨rfl, (Below.refl _ _).alloc (Nat.le_refl _) _⟩
theorem name_1 (w : World) (hT : Tabs w) : Calls Tryd.prog 14 #[.int .i64 1] w fun e w' => e = .returned (.string ⟨#[110, 101]⟩) ∧ ∃ n, w' = w.drewN n := by
  have hc : w.cell? ⟨0, 0 + 1, none⟩ = some (.string ⟨#[110, 101]⟩) := hT.r 1 _ rfl
  simp only [Nat.zero_add] at hc
  clear hT
  go_enter Tryd.func14, Tryd.ntmps14
  go_wp2_with ((go_at_call 28; refine (isPaired_yes _ _ (by omega)).mono ?_; rintro e w' ⟨rfl, m, rfl⟩))
  go_ret
  exact ⟨rfl, m, rfl⟩
theorem rname_1 (w : World) : Calls Tryd.prog 15 #[.int .i64 1] w fun e w' => e = .returned (.string ⟨#[110, 101]⟩) ∧ Below w.heap.size w w' := by
  have hc : (w.alloc (.cells nameCells.toArray 9)).cell? ⟨w.heap.size, 1, none⟩ = some (.string ⟨#[110, 101]⟩) := (new_name w 1).trans rfl
  go_enter Tryd.func15, Tryd.ntmps15
  go_wp2_with ((go_at_call 30; refine (rnames_c _).mono ?_; rintro e w' ⟨rfl, rfl⟩))
  go_ret
  exact ⟨rfl, (Below.refl _ _).alloc (Nat.le_refl _) _⟩
theorem name_2 (w : World) (hT : Tabs w) : Calls Tryd.prog 14 #[.int .i64 2] w fun e w' => e = .returned (.string ⟨#[99, 115]⟩) ∧ ∃ n, w' = w.drewN n := by
  have hc : w.cell? ⟨0, 0 + 2, none⟩ = some (.string ⟨#[99, 115]⟩) := hT.r 2 _ rfl
  simp only [Nat.zero_add] at hc
  clear hT
  go_enter Tryd.func14, Tryd.ntmps14
  go_wp2_with ((go_at_call 28; refine (isPaired_yes _ _ (by omega)).mono ?_; rintro e w' ⟨rfl, m, rfl⟩))
  go_ret
  exact ⟨rfl, m, rfl⟩
theorem rname_2 (w : World) : Calls Tryd.prog 15 #[.int .i64 2] w fun e w' => e = .returned (.string ⟨#[99, 115]⟩) ∧ Below w.heap.size w w' := by
  have hc : (w.alloc (.cells nameCells.toArray 9)).cell? ⟨w.heap.size, 2, none⟩ = some (.string ⟨#[99, 115]⟩) := (new_name w 2).trans rfl
  go_enter Tryd.func15, Tryd.ntmps15
  go_wp2_with ((go_at_call 30; refine (rnames_c _).mono ?_; rintro e w' ⟨rfl, rfl⟩))
  go_ret
  exact ⟨rfl, (Below.refl _ _).alloc (Nat.le_refl _) _⟩
theorem name_3 (w : World) (hT : Tabs w) : Calls Tryd.prog 14 #[.int .i64 3] w fun e w' => e = .returned (.string ⟨#[99, 99]⟩) ∧ ∃ n, w' = w.drewN n := by
  have hc : w.cell? ⟨0, 0 + 3, none⟩ = some (.string ⟨#[99, 99]⟩) := hT.r 3 _ rfl
  simp only [Nat.zero_add] at hc
  clear hT
  go_enter Tryd.func14, Tryd.ntmps14
  go_wp2_with ((go_at_call 28; refine (isPaired_yes _ _ (by omega)).mono ?_; rintro e w' ⟨rfl, m, rfl⟩))
  go_ret
  exact ⟨rfl, m, rfl⟩
theorem rname_3 (w : World) : Calls Tryd.prog 15 #[.int .i64 3] w fun e w' => e = .returned (.string ⟨#[99, 99]⟩) ∧ Below w.heap.size w w' := by
  have hc : (w.alloc (.cells nameCells.toArray 9)).cell? ⟨w.heap.size, 3, none⟩ = some (.string ⟨#[99, 99]⟩) := (new_name w 3).trans rfl
  go_enter Tryd.func15, Tryd.ntmps15
  go_wp2_with ((go_at_call 30; refine (rnames_c _).mono ?_; rintro e w' ⟨rfl, rfl⟩))
  go_ret
  exact ⟨rfl, (Below.refl _ _).alloc (Nat.le_refl _) _⟩
theorem name_4 (w : World) (hT : Tabs w) : Calls Tryd.prog 14 #[.int .i64 4] w fun e w' => e = .returned (.string ⟨#[109, 105]⟩) ∧ ∃ n, w' = w.drewN n := by
  have hc : w.cell? ⟨0, 0 + 4, none⟩ = some (.string ⟨#[109, 105]⟩) := hT.r 4 _ rfl
  simp only [Nat.zero_add] at hc
  clear hT
  go_enter Tryd.func14, Tryd.ntmps14
  go_wp2_with ((go_at_call 28; refine (isPaired_yes _ _ (by omega)).mono ?_; rintro e w' ⟨rfl, m, rfl⟩))
  go_ret
  exact ⟨rfl, m, rfl⟩
theorem rname_4 (w : World) : Calls Tryd.prog 15 #[.int .i64 4] w fun e w' => e = .returned (.string ⟨#[109, 105]⟩) ∧ Below w.heap.size w w' := by
  have hc : (w.alloc (.cells nameCells.toArray 9)).cell? ⟨w.heap.size, 4, none⟩ = some (.string ⟨#[109, 105]⟩) := (new_name w 4).trans rfl
  go_enter Tryd.func15, Tryd.ntmps15
  go_wp2_with ((go_at_call 30; refine (rnames_c _).mono ?_; rintro e w' ⟨rfl, rfl⟩))
  go_ret
  exact ⟨rfl, (Below.refl _ _).alloc (Nat.le_refl _) _⟩
theorem name_5 (w : World) (hT : Tabs w) : Calls Tryd.prog 14 #[.int .i64 5] w fun e w' => e = .returned (.string ⟨#[112, 108]⟩) ∧ ∃ n, w' = w.drewN n := by
  have hc : w.cell? ⟨0, 0 + 5, none⟩ = some (.string ⟨#[112, 108]⟩) := hT.r 5 _ rfl
  simp only [Nat.zero_add] at hc
  clear hT
  go_enter Tryd.func14, Tryd.ntmps14
  go_wp2_with ((go_at_call 28; refine (isPaired_yes _ _ (by omega)).mono ?_; rintro e w' ⟨rfl, m, rfl⟩))
  go_ret
  exact ⟨rfl, m, rfl⟩
theorem rname_5 (w : World) : Calls Tryd.prog 15 #[.int .i64 5] w fun e w' => e = .returned (.string ⟨#[112, 108]⟩) ∧ Below w.heap.size w w' := by
  have hc : (w.alloc (.cells nameCells.toArray 9)).cell? ⟨w.heap.size, 5, none⟩ = some (.string ⟨#[112, 108]⟩) := (new_name w 5).trans rfl
  go_enter Tryd.func15, Tryd.ntmps15
  go_wp2_with ((go_at_call 30; refine (rnames_c _).mono ?_; rintro e w' ⟨rfl, rfl⟩))
  go_ret
  exact ⟨rfl, (Below.refl _ _).alloc (Nat.le_refl _) _⟩
theorem name_6 (w : World) (hT : Tabs w) : Calls Tryd.prog 14 #[.int .i64 6] w fun e w' => e = .returned (.string ⟨#[118, 115]⟩) ∧ ∃ n, w' = w.drewN n := by
  have hc : w.cell? ⟨0, 0 + 6, none⟩ = some (.string ⟨#[118, 115]⟩) := hT.r 6 _ rfl
  simp only [Nat.zero_add] at hc
  clear hT
  go_enter Tryd.func14, Tryd.ntmps14
  go_wp2_with ((go_at_call 28; refine (isPaired_yes _ _ (by omega)).mono ?_; rintro e w' ⟨rfl, m, rfl⟩))
  go_ret
  exact ⟨rfl, m, rfl⟩
theorem rname_6 (w : World) : Calls Tryd.prog 15 #[.int .i64 6] w fun e w' => e = .returned (.string ⟨#[118, 115]⟩) ∧ Below w.heap.size w w' := by
  have hc : (w.alloc (.cells nameCells.toArray 9)).cell? ⟨w.heap.size, 6, none⟩ = some (.string ⟨#[118, 115]⟩) := (new_name w 6).trans rfl
  go_enter Tryd.func15, Tryd.ntmps15
  go_wp2_with ((go_at_call 30; refine (rnames_c _).mono ?_; rintro e w' ⟨rfl, rfl⟩))
  go_ret
  exact ⟨rfl, (Below.refl _ _).alloc (Nat.le_refl _) _⟩
theorem name_7 (w : World) (hT : Tabs w) : Calls Tryd.prog 14 #[.int .i64 7] w fun e w' => e = .returned (.string ⟨#[118, 99]⟩) ∧ ∃ n, w' = w.drewN n := by
  have hc : w.cell? ⟨0, 0 + 7, none⟩ = some (.string ⟨#[118, 99]⟩) := hT.r 7 _ rfl
  simp only [Nat.zero_add] at hc
  clear hT
  go_enter Tryd.func14, Tryd.ntmps14
  go_wp2_with ((go_at_call 28; refine (isPaired_yes _ _ (by omega)).mono ?_; rintro e w' ⟨rfl, m, rfl⟩))
  go_ret
  exact ⟨rfl, m, rfl⟩
theorem rname_7 (w : World) : Calls Tryd.prog 15 #[.int .i64 7] w fun e w' => e = .returned (.string ⟨#[118, 99]⟩) ∧ Below w.heap.size w w' := by
  have hc : (w.alloc (.cells nameCells.toArray 9)).cell? ⟨w.heap.size, 7, none⟩ = some (.string ⟨#[118, 99]⟩) := (new_name w 7).trans rfl
  go_enter Tryd.func15, Tryd.ntmps15
  go_wp2_with ((go_at_call 30; refine (rnames_c _).mono ?_; rintro e w' ⟨rfl, rfl⟩))
  go_ret
  exact ⟨rfl, (Below.refl _ _).alloc (Nat.le_refl _) _⟩
theorem name_8 (w : World) (hT : Tabs w) : Calls Tryd.prog 14 #[.int .i64 8] w fun e w' => e = .returned (.string ⟨#[104, 105]⟩) ∧ ∃ n, w' = w.drewN n := by
  have hc : w.cell? ⟨0, 0 + 8, none⟩ = some (.string ⟨#[104, 105]⟩) := hT.r 8 _ rfl
  simp only [Nat.zero_add] at hc
  clear hT
  go_enter Tryd.func14, Tryd.ntmps14
  go_wp2_with ((go_at_call 28; refine (isPaired_yes _ _ (by omega)).mono ?_; rintro e w' ⟨rfl, m, rfl⟩))
  go_ret
  exact ⟨rfl, m, rfl⟩
theorem rname_8 (w : World) : Calls Tryd.prog 15 #[.int .i64 8] w fun e w' => e = .returned (.string ⟨#[104, 105]⟩) ∧ Below w.heap.size w w' := by
  have hc : (w.alloc (.cells nameCells.toArray 9)).cell? ⟨w.heap.size, 8, none⟩ = some (.string ⟨#[104, 105]⟩) := (new_name w 8).trans rfl
  go_enter Tryd.func15, Tryd.ntmps15
  go_wp2_with ((go_at_call 30; refine (rnames_c _).mono ?_; rintro e w' ⟨rfl, rfl⟩))
  go_ret
  exact ⟨rfl, (Below.refl _ _).alloc (Nat.le_refl _) _⟩
theorem name_9 (w : World) (hT : Tabs w) : Calls Tryd.prog 14 #[.int .i64 9] w fun e w' => e = .returned (.string ⟨#[108, 115]⟩) ∧ ∃ n, w' = w.drewN n := by
  have hc : w.cell? ⟨0, 0 + 9, none⟩ = some (.string ⟨#[108, 115]⟩) := hT.r 9 _ rfl
  simp only [Nat.zero_add] at hc
  clear hT
  go_enter Tryd.func14, Tryd.ntmps14
  go_wp2_with ((go_at_call 28; refine (isPaired_yes _ _ (by omega)).mono ?_; rintro e w' ⟨rfl, m, rfl⟩))
  go_ret
  exact ⟨rfl, m, rfl⟩
theorem rname_9 (w : World) : Calls Tryd.prog 15 #[.int .i64 9] w fun e w' => e = .returned (.string ⟨#[108, 115]⟩) ∧ Below w.heap.size w w' := by
  have hc : (w.alloc (.cells nameCells.toArray 9)).cell? ⟨w.heap.size, 9, none⟩ = some (.string ⟨#[108, 115]⟩) := (new_name w 9).trans rfl
  go_enter Tryd.func15, Tryd.ntmps15
  go_wp2_with ((go_at_call 30; refine (rnames_c _).mono ?_; rintro e w' ⟨rfl, rfl⟩))
  go_ret
  exact ⟨rfl, (Below.refl _ _).alloc (Nat.le_refl _) _⟩
theorem name_10 (w : World) (hT : Tabs w) : Calls Tryd.prog 14 #[.int .i64 10] w fun e w' => e = .returned (.string ⟨#[103, 101]⟩) ∧ ∃ n, w' = w.drewN n := by
  have hc : w.cell? ⟨0, 0 + 10, none⟩ = some (.string ⟨#[103, 101]⟩) := hT.r 10 _ rfl
  simp only [Nat.zero_add] at hc
  clear hT
  go_enter Tryd.func14, Tryd.ntmps14
  go_wp2_with ((go_at_call 28; refine (isPaired_yes _ _ (by omega)).mono ?_; rintro e w' ⟨rfl, m, rfl⟩))
  go_ret
  exact ⟨rfl, m, rfl⟩
theorem rname_10 (w : World) : Calls Tryd.prog 15 #[.int .i64 10] w fun e w' => e = .returned (.string ⟨#[103, 101]⟩) ∧ Below w.heap.size w w' := by
  have hc : (w.alloc (.cells nameCells.toArray 9)).cell? ⟨w.heap.size, 10, none⟩ = some (.string ⟨#[103, 101]⟩) := (new_name w 10).trans rfl
  go_enter Tryd.func15, Tryd.ntmps15
  go_wp2_with ((go_at_call 30; refine (rnames_c _).mono ?_; rintro e w' ⟨rfl, rfl⟩))
  go_ret
  exact ⟨rfl, (Below.refl _ _).alloc (Nat.le_refl _) _⟩
theorem name_11 (w : World) (hT : Tabs w) : Calls Tryd.prog 14 #[.int .i64 11] w fun e w' => e = .returned (.string ⟨#[108, 116]⟩) ∧ ∃ n, w' = w.drewN n := by
  have hc : w.cell? ⟨0, 0 + 11, none⟩ = some (.string ⟨#[108, 116]⟩) := hT.r 11 _ rfl
  simp only [Nat.zero_add] at hc
  clear hT
  go_enter Tryd.func14, Tryd.ntmps14
  go_wp2_with ((go_at_call 28; refine (isPaired_yes _ _ (by omega)).mono ?_; rintro e w' ⟨rfl, m, rfl⟩))
  go_ret
  exact ⟨rfl, m, rfl⟩
theorem rname_11 (w : World) : Calls Tryd.prog 15 #[.int .i64 11] w fun e w' => e = .returned (.string ⟨#[108, 116]⟩) ∧ Below w.heap.size w w' := by
  have hc : (w.alloc (.cells nameCells.toArray 9)).cell? ⟨w.heap.size, 11, none⟩ = some (.string ⟨#[108, 116]⟩) := (new_name w 11).trans rfl
  go_enter Tryd.func15, Tryd.ntmps15
  go_wp2_with ((go_at_call 30; refine (rnames_c _).mono ?_; rintro e w' ⟨rfl, rfl⟩))
  go_ret
  exact ⟨rfl, (Below.refl _ _).alloc (Nat.le_refl _) _⟩
theorem name_12 (w : World) (hT : Tabs w) : Calls Tryd.prog 14 #[.int .i64 12] w fun e w' => e = .returned (.string ⟨#[103, 116]⟩) ∧ ∃ n, w' = w.drewN n := by
  have hc : w.cell? ⟨0, 0 + 12, none⟩ = some (.string ⟨#[103, 116]⟩) := hT.r 12 _ rfl
  simp only [Nat.zero_add] at hc
  clear hT
  go_enter Tryd.func14, Tryd.ntmps14
  go_wp2_with ((go_at_call 28; refine (isPaired_yes _ _ (by omega)).mono ?_; rintro e w' ⟨rfl, m, rfl⟩))
  go_ret
  exact ⟨rfl, m, rfl⟩
theorem rname_12 (w : World) : Calls Tryd.prog 15 #[.int .i64 12] w fun e w' => e = .returned (.string ⟨#[103, 116]⟩) ∧ Below w.heap.size w w' := by
  have hc : (w.alloc (.cells nameCells.toArray 9)).cell? ⟨w.heap.size, 12, none⟩ = some (.string ⟨#[103, 116]⟩) := (new_name w 12).trans rfl
  go_enter Tryd.func15, Tryd.ntmps15
  go_wp2_with ((go_at_call 30; refine (rnames_c _).mono ?_; rintro e w' ⟨rfl, rfl⟩))
  go_ret
  exact ⟨rfl, (Below.refl _ _).alloc (Nat.le_refl _) _⟩
theorem name_13 (w : World) (hT : Tabs w) : Calls Tryd.prog 14 #[.int .i64 13] w fun e w' => e = .returned (.string ⟨#[108, 101]⟩) ∧ ∃ n, w' = w.drewN n := by
  have hc : w.cell? ⟨0, 0 + 13, none⟩ = some (.string ⟨#[108, 101]⟩) := hT.r 13 _ rfl
  simp only [Nat.zero_add] at hc
  clear hT
  go_enter Tryd.func14, Tryd.ntmps14
  go_wp2_with ((go_at_call 28; refine (isPaired_yes _ _ (by omega)).mono ?_; rintro e w' ⟨rfl, m, rfl⟩))
  go_ret
  exact ⟨rfl, m, rfl⟩
theorem rname_13 (w : World) : Calls Tryd.prog 15 #[.int .i64 13] w fun e w' => e = .returned (.string ⟨#[108, 101]⟩) ∧ Below w.heap.size w w' := by
  have hc : (w.alloc (.cells nameCells.toArray 9)).cell? ⟨w.heap.size, 13, none⟩ = some (.string ⟨#[108, 101]⟩) := (new_name w 13).trans rfl
  go_enter Tryd.func15, Tryd.ntmps15
  go_wp2_with ((go_at_call 30; refine (rnames_c _).mono ?_; rintro e w' ⟨rfl, rfl⟩))
  go_ret
  exact ⟨rfl, (Below.refl _ _).alloc (Nat.le_refl _) _⟩

theorem name_c (c : Int) (w : World) (hT : Tabs w) :
    Calls Tryd.prog 14 #[.int .i64 c] w fun e w' => e = .returned (.string ⟨(Cm.nameL c).toArray⟩) ∧ ∃ n, w' = w.drewN n := by
  by_cases h : 0 ≤ c ∧ c ≤ 13
  · rcases Cm.cases14 h with rfl | rfl | rfl | rfl | rfl | rfl | rfl | rfl | rfl | rfl | rfl | rfl | rfl | rfl
    · exact name_0 w hT
    · exact name_1 w hT
    · exact name_2 w hT
    · exact name_3 w hT
    · exact name_4 w hT
    · exact name_5 w hT
    · exact name_6 w hT
    · exact name_7 w hT
    · exact name_8 w hT
    · exact name_9 w hT
    · exact name_10 w hT
    · exact name_11 w hT
    · exact name_12 w hT
    · exact name_13 w hT
  · rw [Cm.name_no c h]
    go_enter Tryd.func14, Tryd.ntmps14
    go_wp2_with ((go_at_call 28; refine (isPaired_no _ _ h).mono ?_; rintro e w' ⟨rfl, m, rfl⟩))
    go_ret
    exact ⟨rfl, m, rfl⟩
theorem rname_c (c : Int) (w : World) :
    Calls Tryd.prog 15 #[.int .i64 c] w fun e w' => e = .returned (.string ⟨(Cm.nameL c).toArray⟩) ∧ Below w.heap.size w w' := by
  by_cases h : 0 ≤ c ∧ c ≤ 13
  · rcases Cm.cases14 h with rfl | rfl | rfl | rfl | rfl | rfl | rfl | rfl | rfl | rfl | rfl | rfl | rfl | rfl
    · exact rname_0 w
    · exact rname_1 w
    · exact rname_2 w
    · exact rname_3 w
    · exact rname_4 w
    · exact rname_5 w
    · exact rname_6 w
    · exact rname_7 w
    · exact rname_8 w
    · exact rname_9 w
    · exact rname_10 w
    · exact rname_11 w
    · exact rname_12 w
    · exact rname_13 w
  · rw [Cm.name_no c h]
    by_cases h1 : 0 ≤ c
    · have h2 : 13 < c := by omega
      clear h
      go_enter Tryd.func15, Tryd.ntmps15
      go_wp2
      go_ret
      exact ⟨rfl, Below.refl _ _⟩
    · have h2 : c < 0 := by omega
      clear h h1
      go_enter Tryd.func15, Tryd.ntmps15
      go_wp2
      go_ret
      exact ⟨rfl, Below.refl _ _⟩
end Go.Proofs.YtndeknebpimiaaaDoor
