/- What each form asks, told of the traits. No conditions. -/
import Derived.Test.YthpoficikcicmaaDoorRows
import Derived.Test.YthpoficikcicmaaDoorNw
namespace Go.Proofs.YthpoficikcicmaaDoor
open Go.ChangeShapes Go.WideShapes Go.ChangeAt Go.RowKit
namespace Pl

def allB (p : Bool → Bool) : Bool := p false && p true
theorem allB_of {p : Bool → Bool} (h : allB p = true) (b : Bool) : p b = true := by
  unfold allB at h
  simp only [Bool.and_eq_true] at h
  cases b
  · exact h.1
  · exact h.2
def trB (m1 m2 it s x rdn rdm sp al : Bool) : Int :=
  bits .or .i64 (bits .or .i64 (bits .or .i64 (bits .or .i64 (bits .or .i64 (bits .or .i64 (bits .or .i64 (bits .or .i64 (wh m1 1 0) (wh m2 2 0)) (wh it 8 4)) (wh s 16 32)) (wh x 64 0)) (wh rdn 128 0)) (wh rdm 256 0)) (wh sp 512 0)) (wh al 1024 2048)
theorem traits_b (cond rd rn rm mode : Int) (s it : Bool) : traitsI cond rd rn rm mode s it = trB (mode == 1) (mode == 2) it s (s != it) (rd == rn) (rd == rm) (rn == 13) (cond == 14) := rfl
theorem tab_0 : (allB fun m1 => allB fun m2 => allB fun it => allB fun s => allB fun x => allB fun rdn => allB fun rdm => allB fun sp => allB fun al => ((bits .andNot .i64 0 (trB m1 m2 it s x rdn rdm sp al) == 0) == (true))) = true := by decide +kernel
theorem asks_0 (cond rd rn rm mode : Int) (s it : Bool) : (bits .andNot .i64 0 (traitsI cond rd rn rm mode s it) = 0) = (True) := by
  have h := allB_of (allB_of (allB_of (allB_of (allB_of (allB_of (allB_of (allB_of (allB_of (tab_0) (mode == 1)) (mode == 2)) (it)) (s)) (s != it)) (rd == rn)) (rd == rm)) (rn == 13)) (cond == 14)
  rw [← traits_b] at h
  exact eq_true (by simpa using h)
theorem tab_1 : (allB fun m1 => allB fun m2 => allB fun it => allB fun s => allB fun x => allB fun rdn => allB fun rdm => allB fun sp => allB fun al => ((bits .andNot .i64 1 (trB m1 m2 it s x rdn rdm sp al) == 0) == (m1))) = true := by decide +kernel
theorem asks_1 (cond rd rn rm mode : Int) (s it : Bool) : (bits .andNot .i64 1 (traitsI cond rd rn rm mode s it) = 0) = (mode = 1) := by
  have h := allB_of (allB_of (allB_of (allB_of (allB_of (allB_of (allB_of (allB_of (allB_of (tab_1) (mode == 1)) (mode == 2)) (it)) (s)) (s != it)) (rd == rn)) (rd == rm)) (rn == 13)) (cond == 14)
  rw [← traits_b] at h
  have h2 := beq_iff_eq.1 h
  apply propext
  constructor
  · intro q
    rw [q] at h2
    simpa [and_assoc] using h2.symm
  · intro q
    have h3 : (bits .andNot .i64 1 (traitsI cond rd rn rm mode s it) == 0) = true := by
      rw [h2]
      simpa [and_assoc] using q
    simpa using h3
theorem tab_2 : (allB fun m1 => allB fun m2 => allB fun it => allB fun s => allB fun x => allB fun rdn => allB fun rdm => allB fun sp => allB fun al => ((bits .andNot .i64 2 (trB m1 m2 it s x rdn rdm sp al) == 0) == (m2))) = true := by decide +kernel
theorem asks_2 (cond rd rn rm mode : Int) (s it : Bool) : (bits .andNot .i64 2 (traitsI cond rd rn rm mode s it) = 0) = (mode = 2) := by
  have h := allB_of (allB_of (allB_of (allB_of (allB_of (allB_of (allB_of (allB_of (allB_of (tab_2) (mode == 1)) (mode == 2)) (it)) (s)) (s != it)) (rd == rn)) (rd == rm)) (rn == 13)) (cond == 14)
  rw [← traits_b] at h
  have h2 := beq_iff_eq.1 h
  apply propext
  constructor
  · intro q
    rw [q] at h2
    simpa [and_assoc] using h2.symm
  · intro q
    have h3 : (bits .andNot .i64 2 (traitsI cond rd rn rm mode s it) == 0) = true := by
      rw [h2]
      simpa [and_assoc] using q
    simpa using h3
theorem tab_4 : (allB fun m1 => allB fun m2 => allB fun it => allB fun s => allB fun x => allB fun rdn => allB fun rdm => allB fun sp => allB fun al => ((bits .andNot .i64 4 (trB m1 m2 it s x rdn rdm sp al) == 0) == (!it))) = true := by decide +kernel
theorem asks_4 (cond rd rn rm mode : Int) (s it : Bool) : (bits .andNot .i64 4 (traitsI cond rd rn rm mode s it) = 0) = (it = false) := by
  have h := allB_of (allB_of (allB_of (allB_of (allB_of (allB_of (allB_of (allB_of (allB_of (tab_4) (mode == 1)) (mode == 2)) (it)) (s)) (s != it)) (rd == rn)) (rd == rm)) (rn == 13)) (cond == 14)
  rw [← traits_b] at h
  have h2 := beq_iff_eq.1 h
  apply propext
  constructor
  · intro q
    rw [q] at h2
    simpa [and_assoc] using h2.symm
  · intro q
    have h3 : (bits .andNot .i64 4 (traitsI cond rd rn rm mode s it) == 0) = true := by
      rw [h2]
      simpa [and_assoc] using q
    simpa using h3
theorem tab_22 : (allB fun m1 => allB fun m2 => allB fun it => allB fun s => allB fun x => allB fun rdn => allB fun rdm => allB fun sp => allB fun al => ((bits .andNot .i64 22 (trB m1 m2 it s x rdn rdm sp al) == 0) == (m2 && !it && s))) = true := by decide +kernel
theorem asks_22 (cond rd rn rm mode : Int) (s it : Bool) : (bits .andNot .i64 22 (traitsI cond rd rn rm mode s it) = 0) = (mode = 2 ∧ it = false ∧ s = true) := by
  have h := allB_of (allB_of (allB_of (allB_of (allB_of (allB_of (allB_of (allB_of (allB_of (tab_22) (mode == 1)) (mode == 2)) (it)) (s)) (s != it)) (rd == rn)) (rd == rm)) (rn == 13)) (cond == 14)
  rw [← traits_b] at h
  have h2 := beq_iff_eq.1 h
  apply propext
  constructor
  · intro q
    rw [q] at h2
    simpa [and_assoc] using h2.symm
  · intro q
    have h3 : (bits .andNot .i64 22 (traitsI cond rd rn rm mode s it) == 0) = true := by
      rw [h2]
      simpa [and_assoc] using q
    simpa using h3
theorem tab_34 : (allB fun m1 => allB fun m2 => allB fun it => allB fun s => allB fun x => allB fun rdn => allB fun rdm => allB fun sp => allB fun al => ((bits .andNot .i64 34 (trB m1 m2 it s x rdn rdm sp al) == 0) == (m2 && !s))) = true := by decide +kernel
theorem asks_34 (cond rd rn rm mode : Int) (s it : Bool) : (bits .andNot .i64 34 (traitsI cond rd rn rm mode s it) = 0) = (mode = 2 ∧ s = false) := by
  have h := allB_of (allB_of (allB_of (allB_of (allB_of (allB_of (allB_of (allB_of (allB_of (tab_34) (mode == 1)) (mode == 2)) (it)) (s)) (s != it)) (rd == rn)) (rd == rm)) (rn == 13)) (cond == 14)
  rw [← traits_b] at h
  have h2 := beq_iff_eq.1 h
  apply propext
  constructor
  · intro q
    rw [q] at h2
    simpa [and_assoc] using h2.symm
  · intro q
    have h3 : (bits .andNot .i64 34 (traitsI cond rd rn rm mode s it) == 0) = true := by
      rw [h2]
      simpa [and_assoc] using q
    simpa using h3
theorem tab_65 : (allB fun m1 => allB fun m2 => allB fun it => allB fun s => allB fun x => allB fun rdn => allB fun rdm => allB fun sp => allB fun al => ((bits .andNot .i64 65 (trB m1 m2 it s x rdn rdm sp al) == 0) == (m1 && x))) = true := by decide +kernel
theorem asks_65 (cond rd rn rm mode : Int) (s it : Bool) : (bits .andNot .i64 65 (traitsI cond rd rn rm mode s it) = 0) = (mode = 1 ∧ (s != it) = true) := by
  have h := allB_of (allB_of (allB_of (allB_of (allB_of (allB_of (allB_of (allB_of (allB_of (tab_65) (mode == 1)) (mode == 2)) (it)) (s)) (s != it)) (rd == rn)) (rd == rm)) (rn == 13)) (cond == 14)
  rw [← traits_b] at h
  have h2 := beq_iff_eq.1 h
  apply propext
  constructor
  · intro q
    rw [q] at h2
    simpa [and_assoc] using h2.symm
  · intro q
    have h3 : (bits .andNot .i64 65 (traitsI cond rd rn rm mode s it) == 0) = true := by
      rw [h2]
      simpa [and_assoc] using q
    simpa using h3
theorem tab_66 : (allB fun m1 => allB fun m2 => allB fun it => allB fun s => allB fun x => allB fun rdn => allB fun rdm => allB fun sp => allB fun al => ((bits .andNot .i64 66 (trB m1 m2 it s x rdn rdm sp al) == 0) == (m2 && x))) = true := by decide +kernel
theorem asks_66 (cond rd rn rm mode : Int) (s it : Bool) : (bits .andNot .i64 66 (traitsI cond rd rn rm mode s it) = 0) = (mode = 2 ∧ (s != it) = true) := by
  have h := allB_of (allB_of (allB_of (allB_of (allB_of (allB_of (allB_of (allB_of (allB_of (tab_66) (mode == 1)) (mode == 2)) (it)) (s)) (s != it)) (rd == rn)) (rd == rm)) (rn == 13)) (cond == 14)
  rw [← traits_b] at h
  have h2 := beq_iff_eq.1 h
  apply propext
  constructor
  · intro q
    rw [q] at h2
    simpa [and_assoc] using h2.symm
  · intro q
    have h3 : (bits .andNot .i64 66 (traitsI cond rd rn rm mode s it) == 0) = true := by
      rw [h2]
      simpa [and_assoc] using q
    simpa using h3
theorem tab_162 : (allB fun m1 => allB fun m2 => allB fun it => allB fun s => allB fun x => allB fun rdn => allB fun rdm => allB fun sp => allB fun al => ((bits .andNot .i64 162 (trB m1 m2 it s x rdn rdm sp al) == 0) == (m2 && !s && rdn))) = true := by decide +kernel
theorem asks_162 (cond rd rn rm mode : Int) (s it : Bool) : (bits .andNot .i64 162 (traitsI cond rd rn rm mode s it) = 0) = (mode = 2 ∧ s = false ∧ rd = rn) := by
  have h := allB_of (allB_of (allB_of (allB_of (allB_of (allB_of (allB_of (allB_of (allB_of (tab_162) (mode == 1)) (mode == 2)) (it)) (s)) (s != it)) (rd == rn)) (rd == rm)) (rn == 13)) (cond == 14)
  rw [← traits_b] at h
  have h2 := beq_iff_eq.1 h
  apply propext
  constructor
  · intro q
    rw [q] at h2
    simpa [and_assoc] using h2.symm
  · intro q
    have h3 : (bits .andNot .i64 162 (traitsI cond rd rn rm mode s it) == 0) = true := by
      rw [h2]
      simpa [and_assoc] using q
    simpa using h3
theorem tab_193 : (allB fun m1 => allB fun m2 => allB fun it => allB fun s => allB fun x => allB fun rdn => allB fun rdm => allB fun sp => allB fun al => ((bits .andNot .i64 193 (trB m1 m2 it s x rdn rdm sp al) == 0) == (m1 && x && rdn))) = true := by decide +kernel
theorem asks_193 (cond rd rn rm mode : Int) (s it : Bool) : (bits .andNot .i64 193 (traitsI cond rd rn rm mode s it) = 0) = (mode = 1 ∧ (s != it) = true ∧ rd = rn) := by
  have h := allB_of (allB_of (allB_of (allB_of (allB_of (allB_of (allB_of (allB_of (allB_of (tab_193) (mode == 1)) (mode == 2)) (it)) (s)) (s != it)) (rd == rn)) (rd == rm)) (rn == 13)) (cond == 14)
  rw [← traits_b] at h
  have h2 := beq_iff_eq.1 h
  apply propext
  constructor
  · intro q
    rw [q] at h2
    simpa [and_assoc] using h2.symm
  · intro q
    have h3 : (bits .andNot .i64 193 (traitsI cond rd rn rm mode s it) == 0) = true := by
      rw [h2]
      simpa [and_assoc] using q
    simpa using h3
theorem tab_194 : (allB fun m1 => allB fun m2 => allB fun it => allB fun s => allB fun x => allB fun rdn => allB fun rdm => allB fun sp => allB fun al => ((bits .andNot .i64 194 (trB m1 m2 it s x rdn rdm sp al) == 0) == (m2 && x && rdn))) = true := by decide +kernel
theorem asks_194 (cond rd rn rm mode : Int) (s it : Bool) : (bits .andNot .i64 194 (traitsI cond rd rn rm mode s it) = 0) = (mode = 2 ∧ (s != it) = true ∧ rd = rn) := by
  have h := allB_of (allB_of (allB_of (allB_of (allB_of (allB_of (allB_of (allB_of (allB_of (tab_194) (mode == 1)) (mode == 2)) (it)) (s)) (s != it)) (rd == rn)) (rd == rm)) (rn == 13)) (cond == 14)
  rw [← traits_b] at h
  have h2 := beq_iff_eq.1 h
  apply propext
  constructor
  · intro q
    rw [q] at h2
    simpa [and_assoc] using h2.symm
  · intro q
    have h3 : (bits .andNot .i64 194 (traitsI cond rd rn rm mode s it) == 0) = true := by
      rw [h2]
      simpa [and_assoc] using q
    simpa using h3
theorem tab_264 : (allB fun m1 => allB fun m2 => allB fun it => allB fun s => allB fun x => allB fun rdn => allB fun rdm => allB fun sp => allB fun al => ((bits .andNot .i64 264 (trB m1 m2 it s x rdn rdm sp al) == 0) == (it && rdm))) = true := by decide +kernel
theorem asks_264 (cond rd rn rm mode : Int) (s it : Bool) : (bits .andNot .i64 264 (traitsI cond rd rn rm mode s it) = 0) = (it = true ∧ rd = rm) := by
  have h := allB_of (allB_of (allB_of (allB_of (allB_of (allB_of (allB_of (allB_of (allB_of (tab_264) (mode == 1)) (mode == 2)) (it)) (s)) (s != it)) (rd == rn)) (rd == rm)) (rn == 13)) (cond == 14)
  rw [← traits_b] at h
  have h2 := beq_iff_eq.1 h
  apply propext
  constructor
  · intro q
    rw [q] at h2
    simpa [and_assoc] using h2.symm
  · intro q
    have h3 : (bits .andNot .i64 264 (traitsI cond rd rn rm mode s it) == 0) = true := by
      rw [h2]
      simpa [and_assoc] using q
    simpa using h3
theorem tab_513 : (allB fun m1 => allB fun m2 => allB fun it => allB fun s => allB fun x => allB fun rdn => allB fun rdm => allB fun sp => allB fun al => ((bits .andNot .i64 513 (trB m1 m2 it s x rdn rdm sp al) == 0) == (m1 && sp))) = true := by decide +kernel
theorem asks_513 (cond rd rn rm mode : Int) (s it : Bool) : (bits .andNot .i64 513 (traitsI cond rd rn rm mode s it) = 0) = (mode = 1 ∧ rn = 13) := by
  have h := allB_of (allB_of (allB_of (allB_of (allB_of (allB_of (allB_of (allB_of (allB_of (tab_513) (mode == 1)) (mode == 2)) (it)) (s)) (s != it)) (rd == rn)) (rd == rm)) (rn == 13)) (cond == 14)
  rw [← traits_b] at h
  have h2 := beq_iff_eq.1 h
  apply propext
  constructor
  · intro q
    rw [q] at h2
    simpa [and_assoc] using h2.symm
  · intro q
    have h3 : (bits .andNot .i64 513 (traitsI cond rd rn rm mode s it) == 0) = true := by
      rw [h2]
      simpa [and_assoc] using q
    simpa using h3
theorem tab_1024 : (allB fun m1 => allB fun m2 => allB fun it => allB fun s => allB fun x => allB fun rdn => allB fun rdm => allB fun sp => allB fun al => ((bits .andNot .i64 1024 (trB m1 m2 it s x rdn rdm sp al) == 0) == (al))) = true := by decide +kernel
theorem asks_1024 (cond rd rn rm mode : Int) (s it : Bool) : (bits .andNot .i64 1024 (traitsI cond rd rn rm mode s it) = 0) = (cond = 14) := by
  have h := allB_of (allB_of (allB_of (allB_of (allB_of (allB_of (allB_of (allB_of (allB_of (tab_1024) (mode == 1)) (mode == 2)) (it)) (s)) (s != it)) (rd == rn)) (rd == rm)) (rn == 13)) (cond == 14)
  rw [← traits_b] at h
  have h2 := beq_iff_eq.1 h
  apply propext
  constructor
  · intro q
    rw [q] at h2
    simpa [and_assoc] using h2.symm
  · intro q
    have h3 : (bits .andNot .i64 1024 (traitsI cond rd rn rm mode s it) == 0) = true := by
      rw [h2]
      simpa [and_assoc] using q
    simpa using h3
theorem tab_2052 : (allB fun m1 => allB fun m2 => allB fun it => allB fun s => allB fun x => allB fun rdn => allB fun rdm => allB fun sp => allB fun al => ((bits .andNot .i64 2052 (trB m1 m2 it s x rdn rdm sp al) == 0) == (!it && !al))) = true := by decide +kernel
theorem asks_2052 (cond rd rn rm mode : Int) (s it : Bool) : (bits .andNot .i64 2052 (traitsI cond rd rn rm mode s it) = 0) = (it = false ∧ ¬ cond = 14) := by
  have h := allB_of (allB_of (allB_of (allB_of (allB_of (allB_of (allB_of (allB_of (allB_of (tab_2052) (mode == 1)) (mode == 2)) (it)) (s)) (s != it)) (rd == rn)) (rd == rm)) (rn == 13)) (cond == 14)
  rw [← traits_b] at h
  have h2 := beq_iff_eq.1 h
  apply propext
  constructor
  · intro q
    rw [q] at h2
    simpa [and_assoc] using h2.symm
  · intro q
    have h3 : (bits .andNot .i64 2052 (traitsI cond rd rn rm mode s it) == 0) = true := by
      rw [h2]
      simpa [and_assoc] using q
    simpa using h3
end Pl
end Go.Proofs.YthpoficikcicmaaDoor
