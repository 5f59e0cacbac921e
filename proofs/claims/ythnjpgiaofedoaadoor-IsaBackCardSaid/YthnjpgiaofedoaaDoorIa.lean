/- Contracts of isOp, Name, Sets, isOneOf and has, and of the document's own Name and Sets. -/
import Derived.Test.YthnjpgiaofedoaaDoorRows
import Derived.Test.YthnjpgiaofedoaaDoorTb
namespace Go.Proofs.YthnjpgiaofedoaaDoor
open Go.ChangeShapes Go.WideShapes Go.ChangeAt Go.RowKit

theorem isOp_yes (op : Int) (w : World) (h : 1 ≤ op ∧ op ≤ 45) :
    Calls Tryd.prog 15 #[.int .i64 op] w fun e w' => e = .returned (.bool true) ∧ ∃ n, w' = w.drewN n := by
  have h1 : 1 ≤ op := h.1
  have h2 : op < 46 := by omega
  go_enter Tryd.func15, Tryd.ntmps15
  go_wp2
  go_ret
  exact ⟨rfl, 0, rfl⟩
theorem isOp_no (op : Int) (w : World) (h : ¬ (1 ≤ op ∧ op ≤ 45)) :
    Calls Tryd.prog 15 #[.int .i64 op] w fun e w' => e = .returned (.bool false) ∧ ∃ n, w' = w.drewN n := by
  by_cases h1 : 1 ≤ op
  · have h2 : ¬ op < 46 := by omega
    clear h
    go_enter Tryd.func15, Tryd.ntmps15
    go_wp2
    go_ret
    exact ⟨rfl, 0, rfl⟩
  · clear h
    go_enter Tryd.func15, Tryd.ntmps15
    go_wp2
    go_ret
    exact ⟨rfl, 0, rfl⟩

/-- the name of a number, as a text -/
def nmS (k : Nat) : ByteArray := ⟨(Im.nm k).toArray⟩
theorem cell_name (k : Nat) (h : k < 46) : nameCells[k]? = some (.string (nmS k)) := by
  have hl : k < Im.tab.length := h
  simp [nameCells, nmS, Im.nm, List.getD, List.getElem?_eq_getElem hl]

theorem name_c (op : Int) (w : World) (hT : Tabs w) :
    Calls Tryd.prog 9 #[.int .i64 op] w fun e w' => e = .returned (.string ⟨(Im.nameI op).toArray⟩) ∧ ∃ n, w' = w.drewN n := by
  by_cases h : 1 ≤ op ∧ op ≤ 45
  · obtain ⟨k, rfl⟩ := Int.eq_ofNat_of_zero_le (show 0 ≤ op by omega)
    have hc := hT.r k _ (cell_name k (by omega))
    simp only [Nat.zero_add] at hc
    clear hT
    rw [Im.name_in h]
    change Calls _ _ _ _ fun e w' => e = .returned (.string (nmS k)) ∧ _
    generalize nmS k = nmk at *
    go_enter Tryd.func9, Tryd.ntmps9
    go_wp2_with ((go_at_call 15; refine (isOp_yes _ _ h).mono ?_; rintro e w' ⟨rfl, m, rfl⟩))
    go_ret
    exact ⟨rfl, m, rfl⟩
  · rw [Im.name_no h]
    clear hT
    go_enter Tryd.func9, Tryd.ntmps9
    go_wp2_with ((go_at_call 15; refine (isOp_no _ _ h).mono ?_; rintro e w' ⟨rfl, m, rfl⟩))
    go_ret
    exact ⟨rfl, m, rfl⟩

theorem rnames_c (w : World) :
    Calls Tryd.prog 16 #[] w fun e w' => e = .returned (.slice (some ⟨w.heap.size, 0, none⟩) 46 46) ∧ w' = w.alloc (.cells nameCells.toArray 9) := by
  go_enter Tryd.func16, Tryd.ntmps16
  go_wp2
  go_ret
  exact ⟨rfl, rfl⟩
theorem new_name (w : World) (j : Nat) (hj : j < 46) : (w.alloc (.cells nameCells.toArray 9)).cell? ⟨w.heap.size, j, none⟩ = some (.string (nmS j)) := by
  rw [World.cell?_alloc_new]
  rw [← cell_name j hj]; simp

theorem rname_c (op : Int) (w : World) :
    Calls Tryd.prog 10 #[.int .i64 op] w fun e w' => e = .returned (.string ⟨(Im.nameI op).toArray⟩) ∧ Below w.heap.size w w' := by
  by_cases h0 : 1 ≤ op
  · by_cases h1 : op ≤ 45
    · obtain ⟨k, rfl⟩ := Int.eq_ofNat_of_zero_le (show 0 ≤ op by omega)
      have hc := new_name w k (by omega)
      rw [Im.name_in ⟨h0, h1⟩]
      change Calls _ _ _ _ fun e w' => e = .returned (.string (nmS k)) ∧ _
      generalize nmS k = nmk at *
      have h0' : ¬ ((k : Int) < 1) := by omega
      go_enter Tryd.func10, Tryd.ntmps10
      go_wp2_with ((go_at_call 16; refine (rnames_c _).mono ?_; rintro e w' ⟨rfl, rfl⟩))
      go_ret
      exact ⟨rfl, (Below.refl _ _).alloc (Nat.le_refl _) _⟩
    · rw [Im.name_no (by omega)]
      have h0' : ¬ op < 1 := by omega
      have h1' : 45 < op := by omega
      go_enter Tryd.func10, Tryd.ntmps10
      go_wp2
      go_ret
      exact ⟨rfl, Below.refl _ _⟩
  · rw [Im.name_no (by omega)]
    have h0' : op < 1 := by omega
    go_enter Tryd.func10, Tryd.ntmps10
    go_wp2
    go_ret
    exact ⟨rfl, Below.refl _ _⟩

theorem sets_both (op : Int) (w : World) :
    (Calls Tryd.prog 11 #[.int .i64 op] w fun e w' => e = .returned (.bool (Im.setsB op)) ∧ ∃ n, w' = w.drewN n) ∧
    Calls Tryd.prog 12 #[.int .i64 op] w fun e w' => e = .returned (.bool (Im.setsB op)) ∧ ∃ n, w' = w.drewN n := by
  by_cases h1 : 1 ≤ op
  · by_cases h2 : op ≤ 11
    · rw [show Im.setsB op = true by simp [Im.setsB, h1, h2]]
      constructor
      · go_enter Tryd.func11, Tryd.ntmps11
        go_wp2
        go_ret
        exact ⟨rfl, 0, rfl⟩
      · go_enter Tryd.func12, Tryd.ntmps12
        go_wp2
        go_ret
        exact ⟨rfl, 0, rfl⟩
    · by_cases h3 : 16 ≤ op
      · by_cases h4 : op ≤ 19
        · rw [show Im.setsB op = true by simp [Im.setsB, h3, h4]]
          constructor
          · go_enter Tryd.func11, Tryd.ntmps11
            go_wp2
            go_ret
            exact ⟨rfl, 0, rfl⟩
          · go_enter Tryd.func12, Tryd.ntmps12
            go_wp2
            go_ret
            exact ⟨rfl, 0, rfl⟩
        · rw [show Im.setsB op = false by simp [Im.setsB, h2, h4]]
          constructor
          · go_enter Tryd.func11, Tryd.ntmps11
            go_wp2
            go_ret
            exact ⟨rfl, 0, rfl⟩
          · go_enter Tryd.func12, Tryd.ntmps12
            go_wp2
            go_ret
            exact ⟨rfl, 0, rfl⟩
      · rw [show Im.setsB op = false by simp [Im.setsB, h2, h3]]
        constructor
        · go_enter Tryd.func11, Tryd.ntmps11
          go_wp2
          go_ret
          exact ⟨rfl, 0, rfl⟩
        · go_enter Tryd.func12, Tryd.ntmps12
          go_wp2
          go_ret
          exact ⟨rfl, 0, rfl⟩
  · have h3 : ¬ 16 ≤ op := by omega
    rw [show Im.setsB op = false by simp [Im.setsB, h1, h3]]
    constructor
    · go_enter Tryd.func11, Tryd.ntmps11
      go_wp2
      go_ret
      exact ⟨rfl, 0, rfl⟩
    · go_enter Tryd.func12, Tryd.ntmps12
      go_wp2
      go_ret
      exact ⟨rfl, 0, rfl⟩
theorem sets_c (op : Int) (w : World) : Calls Tryd.prog 11 #[.int .i64 op] w fun e w' => e = .returned (.bool (Im.setsB op)) ∧ ∃ n, w' = w.drewN n := (sets_both op w).1
theorem rsets_c (op : Int) (w : World) : Calls Tryd.prog 12 #[.int .i64 op] w fun e w' => e = .returned (.bool (Im.setsB op)) ∧ ∃ n, w' = w.drewN n := (sets_both op w).2
end Go.Proofs.YthnjpgiaofedoaaDoor
