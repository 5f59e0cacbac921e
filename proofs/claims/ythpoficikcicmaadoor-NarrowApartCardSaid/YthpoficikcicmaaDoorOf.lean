/- Contracts of the program's small functions on offsets: isKind, Fits, top, cross. -/
import Derived.Test.YthpoficikcicmaaDoorRows
import Derived.Test.YthpoficikcicmaaDoorBp
import Derived.Test.YthpoficikcicmaaDoorTb
namespace Go.Proofs.YthpoficikcicmaaDoor
open Go.ChangeShapes Go.WideShapes Go.ChangeAt Go.RowKit

def lowI (k : Int) : Int := if k = 1 then -256 else if k = 2 then -2048 else if k = 3 then -1048576 else if k = 4 then -16777216 else 0
def highI (k : Int) : Int := if k = 5 then 126 else -lowI k - 2
/-- has the kind the offset? -/
def fitsB (k off : Int) : Bool := decide (1 ≤ k ∧ k ≤ 5 ∧ lowI k ≤ off ∧ off ≤ highI k ∧ off % 2 = 0)

theorem isKind_yes (k : Int) (w : World) (h1 : 1 ≤ k) (h2 : k ≤ 5) :
    Calls Tryd.prog 59 #[.int .i64 k] w fun e w' => e = .returned (.bool true) ∧ ∃ n, w' = w.drewN n := by
  go_enter Tryd.func59, Tryd.ntmps59
  go_wp2
  go_ret
  exact ⟨rfl, 0, rfl⟩

theorem isKind_no (k : Int) (w : World) (h : ¬ (1 ≤ k ∧ k ≤ 5)) :
    Calls Tryd.prog 59 #[.int .i64 k] w fun e w' => e = .returned (.bool false) ∧ ∃ n, w' = w.drewN n := by
  by_cases h1 : 1 ≤ k
  · have h2 : ¬ (k ≤ 5) := by omega
    clear h
    go_enter Tryd.func59, Tryd.ntmps59
    go_wp2
    go_ret
    exact ⟨rfl, 0, rfl⟩
  · clear h
    go_enter Tryd.func59, Tryd.ntmps59
    go_wp2
    go_ret
    exact ⟨rfl, 0, rfl⟩

theorem fits_no (k off : Int) (w : World) (h : ¬ (1 ≤ k ∧ k ≤ 5)) :
    Calls Tryd.prog 38 #[.int .i64 k, .int .i64 off] w fun e w' => e = .returned (.bool (fitsB k off)) ∧ Below w.heap.size w w' := by
  have hF : fitsB k off = false := by unfold fitsB; simp; omega
  rw [hF]
  clear hF
  go_enter Tryd.func38, Tryd.ntmps38
  go_wp2_with ((go_at_call 59; refine (isKind_no _ _ h).mono ?_; rintro e w' ⟨rfl, n, rfl⟩))
  go_ret
  exact ⟨rfl, below_drewN (Below.refl _ _) _⟩

theorem tmod2 (off : Int) : (off.tmod 2 == 0) = decide (off % 2 = 0) := by
  by_cases h : off % 2 = 0
  · have : off.tmod 2 = 0 := by rw [Int.tmod_eq_emod]; split <;> omega
    simp [h, this]
  · have : ¬ off.tmod 2 = 0 := by rw [Int.tmod_eq_emod]; split <;> omega
    simp [h, this]
theorem fitsB_lo {k off : Int} (h : off < lowI k) : false = fitsB k off := by unfold fitsB; simp; omega
theorem fitsB_hi {k off : Int} (h : highI k < off) : false = fitsB k off := by unfold fitsB; simp; omega
theorem fitsB_in {k off : Int} (h1 : 1 ≤ k) (h2 : k ≤ 5) (h3 : lowI k ≤ off) (h4 : off ≤ highI k) : (off.tmod 2 == 0) = fitsB k off := by
  rw [tmod2]; unfold fitsB; simp [h1, h2, h3, h4]
theorem fitsB_in' {k off : Int} (h1 : 1 ≤ k) (h2 : k ≤ 5) (h3 : lowI k ≤ off) (h4 : off ≤ highI k) : (off % 2 == 0) = fitsB k off := by
  unfold fitsB; by_cases h : off % 2 = 0 <;> simp [h1, h2, h3, h4, h]

theorem fits_1 (off : Int) (w : World) (hT : Tabs w) :
    Calls Tryd.prog 38 #[.int .i64 1, .int .i64 off] w fun e w' => e = .returned (.bool (fitsB 1 off)) ∧ Below w.heap.size w w' := by
  have c0 := hT.r 0 _ rfl
  have c1 := hT.r 1 _ rfl
  have c2 := hT.r 2 _ rfl
  simp only [Nat.zero_add] at c0 c1 c2
  clear hT
  go_enter Tryd.func38, Tryd.ntmps38
  go_wp2_with ((go_at_call 59; refine (isKind_yes _ _ (by omega) (by omega)).mono ?_; rintro e w' ⟨rfl, n, rfl⟩))
  all_goals
    go_ret
    refine ⟨ret_bool ?_, below_drewN ((Below.refl _ _).alloc (Nat.le_refl _) _) _⟩
    first
      | exact fitsB_in (k := 1) (by decide) (by decide) (show (-256) ≤ off by omega) (show off ≤ 254 by omega)
      | exact fitsB_hi (k := 1) (show 254 < off by omega)
      | exact fitsB_lo (k := 1) (show off < (-256) by omega)

theorem fits_2 (off : Int) (w : World) (hT : Tabs w) :
    Calls Tryd.prog 38 #[.int .i64 2, .int .i64 off] w fun e w' => e = .returned (.bool (fitsB 2 off)) ∧ Below w.heap.size w w' := by
  have c0 := hT.r 3 _ rfl
  have c1 := hT.r 4 _ rfl
  have c2 := hT.r 5 _ rfl
  simp only [Nat.zero_add] at c0 c1 c2
  clear hT
  go_enter Tryd.func38, Tryd.ntmps38
  go_wp2_with ((go_at_call 59; refine (isKind_yes _ _ (by omega) (by omega)).mono ?_; rintro e w' ⟨rfl, n, rfl⟩))
  all_goals
    go_ret
    refine ⟨ret_bool ?_, below_drewN ((Below.refl _ _).alloc (Nat.le_refl _) _) _⟩
    first
      | exact fitsB_in (k := 2) (by decide) (by decide) (show (-2048) ≤ off by omega) (show off ≤ 2046 by omega)
      | exact fitsB_hi (k := 2) (show 2046 < off by omega)
      | exact fitsB_lo (k := 2) (show off < (-2048) by omega)

theorem fits_3 (off : Int) (w : World) (hT : Tabs w) :
    Calls Tryd.prog 38 #[.int .i64 3, .int .i64 off] w fun e w' => e = .returned (.bool (fitsB 3 off)) ∧ Below w.heap.size w w' := by
  have c0 := hT.r 6 _ rfl
  have c1 := hT.r 7 _ rfl
  have c2 := hT.r 8 _ rfl
  simp only [Nat.zero_add] at c0 c1 c2
  clear hT
  go_enter Tryd.func38, Tryd.ntmps38
  go_wp2_with ((go_at_call 59; refine (isKind_yes _ _ (by omega) (by omega)).mono ?_; rintro e w' ⟨rfl, n, rfl⟩))
  all_goals
    go_ret
    refine ⟨ret_bool ?_, below_drewN ((Below.refl _ _).alloc (Nat.le_refl _) _) _⟩
    first
      | exact fitsB_in (k := 3) (by decide) (by decide) (show (-1048576) ≤ off by omega) (show off ≤ 1048574 by omega)
      | exact fitsB_hi (k := 3) (show 1048574 < off by omega)
      | exact fitsB_lo (k := 3) (show off < (-1048576) by omega)

theorem fits_4 (off : Int) (w : World) (hT : Tabs w) :
    Calls Tryd.prog 38 #[.int .i64 4, .int .i64 off] w fun e w' => e = .returned (.bool (fitsB 4 off)) ∧ Below w.heap.size w w' := by
  have c0 := hT.r 9 _ rfl
  have c1 := hT.r 10 _ rfl
  have c2 := hT.r 11 _ rfl
  simp only [Nat.zero_add] at c0 c1 c2
  clear hT
  go_enter Tryd.func38, Tryd.ntmps38
  go_wp2_with ((go_at_call 59; refine (isKind_yes _ _ (by omega) (by omega)).mono ?_; rintro e w' ⟨rfl, n, rfl⟩))
  all_goals
    go_ret
    refine ⟨ret_bool ?_, below_drewN ((Below.refl _ _).alloc (Nat.le_refl _) _) _⟩
    first
      | exact fitsB_in (k := 4) (by decide) (by decide) (show (-16777216) ≤ off by omega) (show off ≤ 16777214 by omega)
      | exact fitsB_hi (k := 4) (show 16777214 < off by omega)
      | exact fitsB_lo (k := 4) (show off < (-16777216) by omega)

theorem fits_5 (off : Int) (w : World) (hT : Tabs w) :
    Calls Tryd.prog 38 #[.int .i64 5, .int .i64 off] w fun e w' => e = .returned (.bool (fitsB 5 off)) ∧ Below w.heap.size w w' := by
  have c0 := hT.r 12 _ rfl
  have c1 := hT.r 13 _ rfl
  have c2 := hT.r 14 _ rfl
  simp only [Nat.zero_add] at c0 c1 c2
  clear hT
  go_enter Tryd.func38, Tryd.ntmps38
  go_wp2_with ((go_at_call 59; refine (isKind_yes _ _ (by omega) (by omega)).mono ?_; rintro e w' ⟨rfl, n, rfl⟩))
  all_goals
    go_ret
    refine ⟨ret_bool ?_, below_drewN ((Below.refl _ _).alloc (Nat.le_refl _) _) _⟩
    first
      | exact fitsB_in (k := 5) (by decide) (by decide) (show 0 ≤ off by omega) (show off ≤ 126 by omega)
      | exact fitsB_in' (k := 5) (by decide) (by decide) (show 0 ≤ off by omega) (show off ≤ 126 by omega)
      | exact fitsB_hi (k := 5) (show 126 < off by omega)
      | exact fitsB_lo (k := 5) (show off < 0 by omega)

theorem kinds {k : Int} (h : 1 ≤ k ∧ k ≤ 5) : k = 1 ∨ k = 2 ∨ k = 3 ∨ k = 4 ∨ k = 5 := by omega

theorem fits_c (k off : Int) (w : World) (hT : Tabs w) :
    Calls Tryd.prog 38 #[.int .i64 k, .int .i64 off] w fun e w' => e = .returned (.bool (fitsB k off)) ∧ Below w.heap.size w w' := by
  by_cases h : 1 ≤ k ∧ k ≤ 5
  · rcases kinds h with rfl | rfl | rfl | rfl | rfl
    · exact fits_1 off w hT
    · exact fits_2 off w hT
    · exact fits_3 off w hT
    · exact fits_4 off w hT
    · exact fits_5 off w hT
  · exact fits_no k off w h

theorem top_c (k h a hi lo : Int) (w : World) (ha : 0 ≤ a) (ha2 : a < 32) (hh : 0 ≤ hi) (hh2 : hi < 32) (hl : 0 ≤ lo) (hl2 : lo < 32) :
    Calls Tryd.prog 61 #[.agg #[.int .i64 k, .int .i64 h, .int .i64 a, .int .i64 hi, .int .i64 lo]] w fun e w' => e = .returned (.int .i64 (a + hi - lo)) ∧ Below w.heap.size w w' := by
  go_enter Tryd.func61, Tryd.ntmps61
  go_wp2
  go_ret
  exact ⟨rfl, (Below.refl _ _).alloc (Nat.le_refl _) _⟩

/-- what is written of an offset of the kind, and back -/
def crossI (k x : Int) : Int := if k = 4 ∧ getI x 24 24 = 0 then bits .xor .u32 x 12582912 else x

theorem cross_c (k x : Int) (w : World) (hx0 : 0 ≤ x) (hx : x < 4294967296) :
    Calls Tryd.prog 60 #[.int .i64 k, .int .u32 x] w fun e w' => e = .returned (.int .u32 (crossI k x)) ∧ ∃ n, w' = w.drewN n := by
  by_cases hk : k = 4
  · subst hk
    by_cases h : getI x 24 24 = 0
    · have hR : crossI 4 x = bits .xor .u32 x 12582912 := by unfold crossI; rw [if_pos ⟨rfl, h⟩]
      rw [hR]
      have hB : (getI x 24 24 == 0) = true := by simp [h]
      clear hR h
      go_enter Tryd.func60, Tryd.ntmps60
      go_wp2_with ((go_at_call 36; refine (get_c _ _ _ _ hx0 hx).mono ?_; rintro e w' ⟨rfl, n, rfl⟩))
      go_ret
      exact ⟨rfl, n, rfl⟩
    · have hR : crossI 4 x = x := by unfold crossI; rw [if_neg (fun q => h q.2)]
      rw [hR]
      have hB : (getI x 24 24 == 0) = false := by simp [h]
      clear hR h
      go_enter Tryd.func60, Tryd.ntmps60
      go_wp2_with ((go_at_call 36; refine (get_c _ _ _ _ hx0 hx).mono ?_; rintro e w' ⟨rfl, n, rfl⟩))
      go_ret
      exact ⟨rfl, n, rfl⟩
  · have hR : crossI k x = x := by unfold crossI; rw [if_neg (fun q => hk q.1)]
    rw [hR]
    have hB : (k == 4) = false := by simp [hk]
    clear hR hk
    go_enter Tryd.func60, Tryd.ntmps60
    go_wp2
    go_ret
    exact ⟨rfl, 0, rfl⟩
end Go.Proofs.YthpoficikcicmaaDoor
