/- What each form asks, told of the traits. No conditions. What each kind of piece comes to, plainly; the order of a search over the table told by one list. No conditions but those that each fact names. Each row of the table at each beginning, filled; what may be of which row. No conditions but those that each fact names. Small laws for the searches. No conditions. -/
import Derived.Test.YtmofimgodmcdjaaDoorRows
import Derived.Test.YtmofimgodmcdjaaDoorNw
import Derived.Test.YtmofimgodmcdjaaDoorNx
import Derived.Test.YtmofimgodmcdjaaDoorGe
import Derived.Test.YtmofimgodmcdjaaDoorGa

namespace Go.Proofs.YtmofimgodmcdjaaDoor
open Go.ChangeShapes Go.WideShapes Go.ChangeAt Go.RowKit
namespace Pl

def allB (p : Bool → Bool) : Bool := p false && p true
theorem allB_of {p : Bool → Bool} (h : allB p = true) (b : Bool) : p b = true := by
  unfold allB at h
  simp only [Bool.and_eq_true] at h
  cases b
  · exact h.1
  · exact h.2
def trB (m1 m2 it s x rdn rdm sp al : Bool) : Int :=
  bits .or .i64 (bits .or .i64 (bits .or .i64 (bits .or .i64 (bits .or .i64 (bits .or .i64 (bits .or .i64 (bits .or .i64 (wh m1 1 0) (wh m2 2 0)) (wh it 8 4)) (wh s 16 32)) (wh x 64 0)) (wh rdn 128 0)) (wh rdm 256 0)) (wh sp 512 0)) (wh al 1024 2048)
theorem traits_b (cond rd rn rm mode : Int) (s it : Bool) : traitsI cond rd rn rm mode s it = trB (mode == 1) (mode == 2) it s (s != it) (rd == rn) (rd == rm) (rn == 13) (cond == 14) := rfl
theorem tab_0 : (allB fun m1 => allB fun m2 => allB fun it => allB fun s => allB fun x => allB fun rdn => allB fun rdm => allB fun sp => allB fun al => ((bits .andNot .i64 0 (trB m1 m2 it s x rdn rdm sp al) == 0) == (true))) = true := by decide +kernel
theorem asks_0 (cond rd rn rm mode : Int) (s it : Bool) : (bits .andNot .i64 0 (traitsI cond rd rn rm mode s it) = 0) = (True) := by
  have h := allB_of (allB_of (allB_of (allB_of (allB_of (allB_of (allB_of (allB_of (allB_of (tab_0) (mode == 1)) (mode == 2)) (it)) (s)) (s != it)) (rd == rn)) (rd == rm)) (rn == 13)) (cond == 14)
  rw [← traits_b] at h
  exact eq_true (by simpa using h)
theorem tab_1 : (allB fun m1 => allB fun m2 => allB fun it => allB fun s => allB fun x => allB fun rdn => allB fun rdm => allB fun sp => allB fun al => ((bits .andNot .i64 1 (trB m1 m2 it s x rdn rdm sp al) == 0) == (m1))) = true := by decide +kernel
theorem asks_1 (cond rd rn rm mode : Int) (s it : Bool) : (bits .andNot .i64 1 (traitsI cond rd rn rm mode s it) = 0) = (mode = 1) := by
  have h := allB_of (allB_of (allB_of (allB_of (allB_of (allB_of (allB_of (allB_of (allB_of (tab_1) (mode == 1)) (mode == 2)) (it)) (s)) (s != it)) (rd == rn)) (rd == rm)) (rn == 13)) (cond == 14)
  rw [← traits_b] at h
  have h2 := beq_iff_eq.1 h
  apply propext
  constructor
  · intro q
    rw [q] at h2
    simpa [and_assoc] using h2.symm
  · intro q
    have h3 : (bits .andNot .i64 1 (traitsI cond rd rn rm mode s it) == 0) = true := by
      rw [h2]
      simpa [and_assoc] using q
    simpa using h3
theorem tab_2 : (allB fun m1 => allB fun m2 => allB fun it => allB fun s => allB fun x => allB fun rdn => allB fun rdm => allB fun sp => allB fun al => ((bits .andNot .i64 2 (trB m1 m2 it s x rdn rdm sp al) == 0) == (m2))) = true := by decide +kernel
theorem asks_2 (cond rd rn rm mode : Int) (s it : Bool) : (bits .andNot .i64 2 (traitsI cond rd rn rm mode s it) = 0) = (mode = 2) := by
  have h := allB_of (allB_of (allB_of (allB_of (allB_of (allB_of (allB_of (allB_of (allB_of (tab_2) (mode == 1)) (mode == 2)) (it)) (s)) (s != it)) (rd == rn)) (rd == rm)) (rn == 13)) (cond == 14)
  rw [← traits_b] at h
  have h2 := beq_iff_eq.1 h
  apply propext
  constructor
  · intro q
    rw [q] at h2
    simpa [and_assoc] using h2.symm
  · intro q
    have h3 : (bits .andNot .i64 2 (traitsI cond rd rn rm mode s it) == 0) = true := by
      rw [h2]
      simpa [and_assoc] using q
    simpa using h3
theorem tab_4 : (allB fun m1 => allB fun m2 => allB fun it => allB fun s => allB fun x => allB fun rdn => allB fun rdm => allB fun sp => allB fun al => ((bits .andNot .i64 4 (trB m1 m2 it s x rdn rdm sp al) == 0) == (!it))) = true := by decide +kernel
theorem asks_4 (cond rd rn rm mode : Int) (s it : Bool) : (bits .andNot .i64 4 (traitsI cond rd rn rm mode s it) = 0) = (it = false) := by
  have h := allB_of (allB_of (allB_of (allB_of (allB_of (allB_of (allB_of (allB_of (allB_of (tab_4) (mode == 1)) (mode == 2)) (it)) (s)) (s != it)) (rd == rn)) (rd == rm)) (rn == 13)) (cond == 14)
  rw [← traits_b] at h
  have h2 := beq_iff_eq.1 h
  apply propext
  constructor
  · intro q
    rw [q] at h2
    simpa [and_assoc] using h2.symm
  · intro q
    have h3 : (bits .andNot .i64 4 (traitsI cond rd rn rm mode s it) == 0) = true := by
      rw [h2]
      simpa [and_assoc] using q
    simpa using h3
theorem tab_22 : (allB fun m1 => allB fun m2 => allB fun it => allB fun s => allB fun x => allB fun rdn => allB fun rdm => allB fun sp => allB fun al => ((bits .andNot .i64 22 (trB m1 m2 it s x rdn rdm sp al) == 0) == (m2 && !it && s))) = true := by decide +kernel
theorem asks_22 (cond rd rn rm mode : Int) (s it : Bool) : (bits .andNot .i64 22 (traitsI cond rd rn rm mode s it) = 0) = (mode = 2 ∧ it = false ∧ s = true) := by
  have h := allB_of (allB_of (allB_of (allB_of (allB_of (allB_of (allB_of (allB_of (allB_of (tab_22) (mode == 1)) (mode == 2)) (it)) (s)) (s != it)) (rd == rn)) (rd == rm)) (rn == 13)) (cond == 14)
  rw [← traits_b] at h
  have h2 := beq_iff_eq.1 h
  apply propext
  constructor
  · intro q
    rw [q] at h2
    simpa [and_assoc] using h2.symm
  · intro q
    have h3 : (bits .andNot .i64 22 (traitsI cond rd rn rm mode s it) == 0) = true := by
      rw [h2]
      simpa [and_assoc] using q
    simpa using h3
theorem tab_34 : (allB fun m1 => allB fun m2 => allB fun it => allB fun s => allB fun x => allB fun rdn => allB fun rdm => allB fun sp => allB fun al => ((bits .andNot .i64 34 (trB m1 m2 it s x rdn rdm sp al) == 0) == (m2 && !s))) = true := by decide +kernel
theorem asks_34 (cond rd rn rm mode : Int) (s it : Bool) : (bits .andNot .i64 34 (traitsI cond rd rn rm mode s it) = 0) = (mode = 2 ∧ s = false) := by
  have h := allB_of (allB_of (allB_of (allB_of (allB_of (allB_of (allB_of (allB_of (allB_of (tab_34) (mode == 1)) (mode == 2)) (it)) (s)) (s != it)) (rd == rn)) (rd == rm)) (rn == 13)) (cond == 14)
  rw [← traits_b] at h
  have h2 := beq_iff_eq.1 h
  apply propext
  constructor
  · intro q
    rw [q] at h2
    simpa [and_assoc] using h2.symm
  · intro q
    have h3 : (bits .andNot .i64 34 (traitsI cond rd rn rm mode s it) == 0) = true := by
      rw [h2]
      simpa [and_assoc] using q
    simpa using h3
theorem tab_65 : (allB fun m1 => allB fun m2 => allB fun it => allB fun s => allB fun x => allB fun rdn => allB fun rdm => allB fun sp => allB fun al => ((bits .andNot .i64 65 (trB m1 m2 it s x rdn rdm sp al) == 0) == (m1 && x))) = true := by decide +kernel
theorem asks_65 (cond rd rn rm mode : Int) (s it : Bool) : (bits .andNot .i64 65 (traitsI cond rd rn rm mode s it) = 0) = (mode = 1 ∧ (s != it) = true) := by
  have h := allB_of (allB_of (allB_of (allB_of (allB_of (allB_of (allB_of (allB_of (allB_of (tab_65) (mode == 1)) (mode == 2)) (it)) (s)) (s != it)) (rd == rn)) (rd == rm)) (rn == 13)) (cond == 14)
  rw [← traits_b] at h
  have h2 := beq_iff_eq.1 h
  apply propext
  constructor
  · intro q
    rw [q] at h2
    simpa [and_assoc] using h2.symm
  · intro q
    have h3 : (bits .andNot .i64 65 (traitsI cond rd rn rm mode s it) == 0) = true := by
      rw [h2]
      simpa [and_assoc] using q
    simpa using h3
theorem tab_66 : (allB fun m1 => allB fun m2 => allB fun it => allB fun s => allB fun x => allB fun rdn => allB fun rdm => allB fun sp => allB fun al => ((bits .andNot .i64 66 (trB m1 m2 it s x rdn rdm sp al) == 0) == (m2 && x))) = true := by decide +kernel
theorem asks_66 (cond rd rn rm mode : Int) (s it : Bool) : (bits .andNot .i64 66 (traitsI cond rd rn rm mode s it) = 0) = (mode = 2 ∧ (s != it) = true) := by
  have h := allB_of (allB_of (allB_of (allB_of (allB_of (allB_of (allB_of (allB_of (allB_of (tab_66) (mode == 1)) (mode == 2)) (it)) (s)) (s != it)) (rd == rn)) (rd == rm)) (rn == 13)) (cond == 14)
  rw [← traits_b] at h
  have h2 := beq_iff_eq.1 h
  apply propext
  constructor
  · intro q
    rw [q] at h2
    simpa [and_assoc] using h2.symm
  · intro q
    have h3 : (bits .andNot .i64 66 (traitsI cond rd rn rm mode s it) == 0) = true := by
      rw [h2]
      simpa [and_assoc] using q
    simpa using h3
theorem tab_162 : (allB fun m1 => allB fun m2 => allB fun it => allB fun s => allB fun x => allB fun rdn => allB fun rdm => allB fun sp => allB fun al => ((bits .andNot .i64 162 (trB m1 m2 it s x rdn rdm sp al) == 0) == (m2 && !s && rdn))) = true := by decide +kernel
theorem asks_162 (cond rd rn rm mode : Int) (s it : Bool) : (bits .andNot .i64 162 (traitsI cond rd rn rm mode s it) = 0) = (mode = 2 ∧ s = false ∧ rd = rn) := by
  have h := allB_of (allB_of (allB_of (allB_of (allB_of (allB_of (allB_of (allB_of (allB_of (tab_162) (mode == 1)) (mode == 2)) (it)) (s)) (s != it)) (rd == rn)) (rd == rm)) (rn == 13)) (cond == 14)
  rw [← traits_b] at h
  have h2 := beq_iff_eq.1 h
  apply propext
  constructor
  · intro q
    rw [q] at h2
    simpa [and_assoc] using h2.symm
  · intro q
    have h3 : (bits .andNot .i64 162 (traitsI cond rd rn rm mode s it) == 0) = true := by
      rw [h2]
      simpa [and_assoc] using q
    simpa using h3
theorem tab_193 : (allB fun m1 => allB fun m2 => allB fun it => allB fun s => allB fun x => allB fun rdn => allB fun rdm => allB fun sp => allB fun al => ((bits .andNot .i64 193 (trB m1 m2 it s x rdn rdm sp al) == 0) == (m1 && x && rdn))) = true := by decide +kernel
theorem asks_193 (cond rd rn rm mode : Int) (s it : Bool) : (bits .andNot .i64 193 (traitsI cond rd rn rm mode s it) = 0) = (mode = 1 ∧ (s != it) = true ∧ rd = rn) := by
  have h := allB_of (allB_of (allB_of (allB_of (allB_of (allB_of (allB_of (allB_of (allB_of (tab_193) (mode == 1)) (mode == 2)) (it)) (s)) (s != it)) (rd == rn)) (rd == rm)) (rn == 13)) (cond == 14)
  rw [← traits_b] at h
  have h2 := beq_iff_eq.1 h
  apply propext
  constructor
  · intro q
    rw [q] at h2
    simpa [and_assoc] using h2.symm
  · intro q
    have h3 : (bits .andNot .i64 193 (traitsI cond rd rn rm mode s it) == 0) = true := by
      rw [h2]
      simpa [and_assoc] using q
    simpa using h3
theorem tab_194 : (allB fun m1 => allB fun m2 => allB fun it => allB fun s => allB fun x => allB fun rdn => allB fun rdm => allB fun sp => allB fun al => ((bits .andNot .i64 194 (trB m1 m2 it s x rdn rdm sp al) == 0) == (m2 && x && rdn))) = true := by decide +kernel
theorem asks_194 (cond rd rn rm mode : Int) (s it : Bool) : (bits .andNot .i64 194 (traitsI cond rd rn rm mode s it) = 0) = (mode = 2 ∧ (s != it) = true ∧ rd = rn) := by
  have h := allB_of (allB_of (allB_of (allB_of (allB_of (allB_of (allB_of (allB_of (allB_of (tab_194) (mode == 1)) (mode == 2)) (it)) (s)) (s != it)) (rd == rn)) (rd == rm)) (rn == 13)) (cond == 14)
  rw [← traits_b] at h
  have h2 := beq_iff_eq.1 h
  apply propext
  constructor
  · intro q
    rw [q] at h2
    simpa [and_assoc] using h2.symm
  · intro q
    have h3 : (bits .andNot .i64 194 (traitsI cond rd rn rm mode s it) == 0) = true := by
      rw [h2]
      simpa [and_assoc] using q
    simpa using h3
theorem tab_264 : (allB fun m1 => allB fun m2 => allB fun it => allB fun s => allB fun x => allB fun rdn => allB fun rdm => allB fun sp => allB fun al => ((bits .andNot .i64 264 (trB m1 m2 it s x rdn rdm sp al) == 0) == (it && rdm))) = true := by decide +kernel
theorem asks_264 (cond rd rn rm mode : Int) (s it : Bool) : (bits .andNot .i64 264 (traitsI cond rd rn rm mode s it) = 0) = (it = true ∧ rd = rm) := by
  have h := allB_of (allB_of (allB_of (allB_of (allB_of (allB_of (allB_of (allB_of (allB_of (tab_264) (mode == 1)) (mode == 2)) (it)) (s)) (s != it)) (rd == rn)) (rd == rm)) (rn == 13)) (cond == 14)
  rw [← traits_b] at h
  have h2 := beq_iff_eq.1 h
  apply propext
  constructor
  · intro q
    rw [q] at h2
    simpa [and_assoc] using h2.symm
  · intro q
    have h3 : (bits .andNot .i64 264 (traitsI cond rd rn rm mode s it) == 0) = true := by
      rw [h2]
      simpa [and_assoc] using q
    simpa using h3
theorem tab_513 : (allB fun m1 => allB fun m2 => allB fun it => allB fun s => allB fun x => allB fun rdn => allB fun rdm => allB fun sp => allB fun al => ((bits .andNot .i64 513 (trB m1 m2 it s x rdn rdm sp al) == 0) == (m1 && sp))) = true := by decide +kernel
theorem asks_513 (cond rd rn rm mode : Int) (s it : Bool) : (bits .andNot .i64 513 (traitsI cond rd rn rm mode s it) = 0) = (mode = 1 ∧ rn = 13) := by
  have h := allB_of (allB_of (allB_of (allB_of (allB_of (allB_of (allB_of (allB_of (allB_of (tab_513) (mode == 1)) (mode == 2)) (it)) (s)) (s != it)) (rd == rn)) (rd == rm)) (rn == 13)) (cond == 14)
  rw [← traits_b] at h
  have h2 := beq_iff_eq.1 h
  apply propext
  constructor
  · intro q
    rw [q] at h2
    simpa [and_assoc] using h2.symm
  · intro q
    have h3 : (bits .andNot .i64 513 (traitsI cond rd rn rm mode s it) == 0) = true := by
      rw [h2]
      simpa [and_assoc] using q
    simpa using h3
theorem tab_1024 : (allB fun m1 => allB fun m2 => allB fun it => allB fun s => allB fun x => allB fun rdn => allB fun rdm => allB fun sp => allB fun al => ((bits .andNot .i64 1024 (trB m1 m2 it s x rdn rdm sp al) == 0) == (al))) = true := by decide +kernel
theorem asks_1024 (cond rd rn rm mode : Int) (s it : Bool) : (bits .andNot .i64 1024 (traitsI cond rd rn rm mode s it) = 0) = (cond = 14) := by
  have h := allB_of (allB_of (allB_of (allB_of (allB_of (allB_of (allB_of (allB_of (allB_of (tab_1024) (mode == 1)) (mode == 2)) (it)) (s)) (s != it)) (rd == rn)) (rd == rm)) (rn == 13)) (cond == 14)
  rw [← traits_b] at h
  have h2 := beq_iff_eq.1 h
  apply propext
  constructor
  · intro q
    rw [q] at h2
    simpa [and_assoc] using h2.symm
  · intro q
    have h3 : (bits .andNot .i64 1024 (traitsI cond rd rn rm mode s it) == 0) = true := by
      rw [h2]
      simpa [and_assoc] using q
    simpa using h3
theorem tab_2052 : (allB fun m1 => allB fun m2 => allB fun it => allB fun s => allB fun x => allB fun rdn => allB fun rdm => allB fun sp => allB fun al => ((bits .andNot .i64 2052 (trB m1 m2 it s x rdn rdm sp al) == 0) == (!it && !al))) = true := by decide +kernel
theorem asks_2052 (cond rd rn rm mode : Int) (s it : Bool) : (bits .andNot .i64 2052 (traitsI cond rd rn rm mode s it) = 0) = (it = false ∧ ¬ cond = 14) := by
  have h := allB_of (allB_of (allB_of (allB_of (allB_of (allB_of (allB_of (allB_of (allB_of (tab_2052) (mode == 1)) (mode == 2)) (it)) (s)) (s != it)) (rd == rn)) (rd == rm)) (rn == 13)) (cond == 14)
  rw [← traits_b] at h
  have h2 := beq_iff_eq.1 h
  apply propext
  constructor
  · intro q
    rw [q] at h2
    simpa [and_assoc] using h2.symm
  · intro q
    have h3 : (bits .andNot .i64 2052 (traitsI cond rd rn rm mode s it) == 0) = true := by
      rw [h2]
      simpa [and_assoc] using q
    simpa using h3
end Pl
end Go.Proofs.YtmofimgodmcdjaaDoor

namespace Go.Proofs.YtmofimgodmcdjaaDoor
open Go.ChangeShapes Go.WideShapes Go.ChangeAt Go.RowKit
namespace Pl

/-- seven fields -/
def fw (a0 a1 a2 a3 a4 a5 a6 : Int) (j : Nat) : Int := if j = 0 then a0 else if j = 1 then a1 else if j = 2 then a2 else if j = 3 then a3 else if j = 4 then a4 else if j = 5 then a5 else if j = 6 then a6 else 0
theorem or_add (x v : Int) (k n : Nat) (m c : Int) (hm : 2 ^ k = m) (hc : 2 ^ n = c) (hkn : k + n ≤ 32) (hx0 : 0 ≤ x) (hx1 : x < 4294967296) (hz : x / m % c = 0) (hv0 : 0 ≤ v) (hv1 : v < c) : bits .or .u32 x (v * m % 4294967296) = x + v * m := by
  subst hm hc
  obtain ⟨X, rfl⟩ := Int.eq_ofNat_of_zero_le hx0
  obtain ⟨V, rfl⟩ := Int.eq_ofNat_of_zero_le hv0
  have hVn : V < 2 ^ n := by exact_mod_cast hv1
  have hXz : X / 2 ^ k % 2 ^ n = 0 := by exact_mod_cast hz
  have hlt : V * 2 ^ k < 2 ^ (k + n) := by rw [Nat.pow_add, Nat.mul_comm]; exact Nat.mul_lt_mul_of_pos_left hVn (Nat.two_pow_pos k)
  have h32 : 2 ^ (k + n) ≤ 2 ^ 32 := Nat.pow_le_pow_right (by omega) hkn
  have h32' : (2 : Nat) ^ 32 = 4294967296 := by decide
  have e1 : ((V : Int) * 2 ^ k) = ((V * 2 ^ k : Nat) : Int) := by simp
  have e2 : ((V * 2 ^ k : Nat) : Int) % 4294967296 = ((V * 2 ^ k : Nat) : Int) := by omega
  rw [e1, e2, u32_or_nat X (V * 2 ^ k) (by omega) (by omega)]
  have hp := Om.putU_add (X := X) (lo := k) (n := n) (V := V) (by omega) hkn hXz hVn
  have hq : Bm.putU X k n V = X ||| V * 2 ^ k := by
    apply Bm.word_ext (Bm.put_lt _ _ _ _ (by omega)) (Nat.or_lt_two_pow (n := 32) (by omega) (by omega))
    intro i hi
    rw [Bm.put_tb hkn hi, Nat.testBit_or, Nat.testBit_mul_two_pow]
    by_cases h1 : k ≤ i ∧ i < k + n
    · have h2 : X.testBit i = false := by
        have h3 := Nat.testBit_mod_two_pow (X / 2 ^ k) n (i - k)
        rw [hXz, Nat.zero_testBit, Nat.testBit_div_two_pow, show i - k + k = i by omega] at h3
        have h4 : i - k < n := by omega
        simpa [h4] using h3.symm
      rw [if_pos h1, h2]
      simp [h1.1]
    · rw [if_neg h1]
      by_cases h2 : k ≤ i
      · have h3 : V.testBit (i - k) = false := Nat.testBit_lt_two_pow (Nat.lt_of_lt_of_le hVn (Nat.pow_le_pow_right (by omega) (by omega)))
        simp [h3]
      · simp [h2]
  rw [← hq, hp]
  simp
theorem or_zero (x : Int) (hx0 : 0 ≤ x) (hx1 : x < 4294967296) : bits .or .u32 x 0 = x := by
  obtain ⟨X, rfl⟩ := Int.eq_ofNat_of_zero_le hx0
  have := u32_or_nat X 0 (by omega) (by decide)
  simpa using this
theorem put0 (x : Int) (hi lo : Nat) (m c : Int) {hi' lo' : Int} (eh : (hi : Int) = hi') (el : (lo : Int) = lo') (hm : 2 ^ lo = m) (hc : 2 ^ (hi + 1 - lo) = c) (h1 : lo ≤ hi) (h2 : hi < 32) (hx0 : 0 ≤ x) (hx1 : x < 4294967296) : putI x hi' lo' 0 = x - x / m % c * m := by
  subst hm hc eh el
  obtain ⟨X, rfl⟩ := Int.eq_ofNat_of_zero_le hx0
  obtain ⟨n, hn⟩ : ∃ n, hi + 1 - lo = n := ⟨_, rfl⟩
  have hN : lo + n ≤ 32 := by omega
  have hn1 : 1 ≤ n := by omega
  have hY := Bm.put_lt X lo n 0 (by omega)
  have hz : Bm.putU X lo n 0 / 2 ^ lo % 2 ^ n = 0 := by
    have := Bm.got_put (X := X) (lo := lo) (n := n) (V := 0) hN hn1
    unfold Bm.getB at this
    rw [show lo + n - 1 + 1 - lo = n by omega] at this
    rw [this]
    simp
  have hg : Bm.getB X (lo + n - 1) lo < 2 ^ n := by
    unfold Bm.getB
    rw [show lo + n - 1 + 1 - lo = n by omega]
    exact Nat.mod_lt _ (Nat.two_pow_pos n)
  have hb := Bm.put_back (X := X) (lo := lo) (n := n) (V := 0) (by omega) hN hn1
  rw [Om.putU_add hY hN hz hg] at hb
  unfold putI
  rw [if_pos (by omega)]
  simp only [Int.toNat_natCast, hn]
  have hge : Bm.getB X (lo + n - 1) lo = X / 2 ^ lo % 2 ^ n := by
    unfold Bm.getB
    rw [show lo + n - 1 + 1 - lo = n by omega]
  rw [hge] at hb
  have hc : ((X / 2 ^ lo % 2 ^ n * 2 ^ lo : Nat) : Int) = (X : Int) / 2 ^ lo % 2 ^ n * 2 ^ lo := by simp
  rw [← hc]
  have h0 : (0 : Int).toNat = 0 := rfl
  rw [h0]
  omega

theorem ps_3_2_0_3 (H a0 a1 a2 a3 a4 a5 a6 : Int) (hH0 : 0 ≤ H) (hH1 : H < 65536) (hz : H / 8 % 8 = 0) (h0 : 0 ≤ a3) (h1 : a3 < 4294967296) : pcStep (H, fw a0 a1 a2 a3 a4 a5 a6) ⟨3, 2, 0, 3⟩ = (H + a3 / 1 % 8 * 8, fw a0 a1 a2 (a3 - a3 / 1 % 8 * 1) a4 a5 a6) := by
  have eg : getI a3 2 0 = a3 / 1 % 8 := Om.get_n a3 2 0 1 8 rfl rfl (by decide) (by decide) (by decide) (by decide) h0
  have ep : putI a3 2 0 0 = a3 - a3 / 1 % 8 * 1 := put0 a3 2 0 1 8 rfl rfl (by decide) (by decide) (by decide) (by decide) h0 h1
  have eo : bits .or .u32 H (a3 / 1 % 8 * 8 % 4294967296) = H + a3 / 1 % 8 * 8 := or_add H (a3 / 1 % 8) 3 3 8 8 (by decide) (by decide) (by decide) hH0 (by omega) hz (by omega) (by omega)
  unfold pcStep
  dsimp only
  have ef : fw a0 a1 a2 a3 a4 a5 a6 (3 : Int).toNat = a3 := rfl
  rw [ef, eg, ep, show (2 : Int) ^ (3 : Int).toNat = 8 by decide, eo]
  refine Prod.ext rfl (funext fun j => ?_)
  dsimp only
  unfold fw
  by_cases hj : j = 3
  · subst hj; rfl
  · rw [if_neg (show ¬ j = (3 : Int).toNat by simpa using hj)]
    simp only [if_neg hj]
theorem ps_1_2_0_0 (H a0 a1 a2 a3 a4 a5 a6 : Int) (hH0 : 0 ≤ H) (hH1 : H < 65536) (hz : H / 1 % 8 = 0) (h0 : 0 ≤ a1) (h1 : a1 < 4294967296) : pcStep (H, fw a0 a1 a2 a3 a4 a5 a6) ⟨1, 2, 0, 0⟩ = (H + a1 / 1 % 8 * 1, fw a0 (a1 - a1 / 1 % 8 * 1) a2 a3 a4 a5 a6) := by
  have eg : getI a1 2 0 = a1 / 1 % 8 := Om.get_n a1 2 0 1 8 rfl rfl (by decide) (by decide) (by decide) (by decide) h0
  have ep : putI a1 2 0 0 = a1 - a1 / 1 % 8 * 1 := put0 a1 2 0 1 8 rfl rfl (by decide) (by decide) (by decide) (by decide) h0 h1
  have eo : bits .or .u32 H (a1 / 1 % 8 * 1 % 4294967296) = H + a1 / 1 % 8 * 1 := or_add H (a1 / 1 % 8) 0 3 1 8 (by decide) (by decide) (by decide) hH0 (by omega) hz (by omega) (by omega)
  unfold pcStep
  dsimp only
  have ef : fw a0 a1 a2 a3 a4 a5 a6 (1 : Int).toNat = a1 := rfl
  rw [ef, eg, ep, show (2 : Int) ^ (0 : Int).toNat = 1 by decide, eo]
  refine Prod.ext rfl (funext fun j => ?_)
  dsimp only
  unfold fw
  by_cases hj : j = 1
  · subst hj; rfl
  · rw [if_neg (show ¬ j = (1 : Int).toNat by simpa using hj)]
    simp only [if_neg hj]
theorem ps_2_2_0_32 (H a0 a1 a2 a3 a4 a5 a6 : Int) (hH0 : 0 ≤ H) (hH1 : H < 65536) (h0 : 0 ≤ a2) (h1 : a2 < 4294967296) : pcStep (H, fw a0 a1 a2 a3 a4 a5 a6) ⟨2, 2, 0, 32⟩ = (H, fw a0 a1 (a2 - a2 / 1 % 8 * 1) a3 a4 a5 a6) := by
  have eg : getI a2 2 0 = a2 / 1 % 8 := Om.get_n a2 2 0 1 8 rfl rfl (by decide) (by decide) (by decide) (by decide) h0
  have ep : putI a2 2 0 0 = a2 - a2 / 1 % 8 * 1 := put0 a2 2 0 1 8 rfl rfl (by decide) (by decide) (by decide) (by decide) h0 h1
  have eo : bits .or .u32 H (a2 / 1 % 8 * 4294967296 % 4294967296) = H := by rw [show a2 / 1 % 8 * 4294967296 % 4294967296 = 0 by omega]; exact or_zero H hH0 (by omega)
  unfold pcStep
  dsimp only
  have ef : fw a0 a1 a2 a3 a4 a5 a6 (2 : Int).toNat = a2 := rfl
  rw [ef, eg, ep, show (2 : Int) ^ (32 : Int).toNat = 4294967296 by decide, eo]
  refine Prod.ext rfl (funext fun j => ?_)
  dsimp only
  unfold fw
  by_cases hj : j = 2
  · subst hj; rfl
  · rw [if_neg (show ¬ j = (2 : Int).toNat by simpa using hj)]
    simp only [if_neg hj]
theorem ps_none (H a1 a2 a3 a4 a5 a6 : Int) (hH0 : 0 ≤ H) (hH1 : H < 65536) : pcStep (H, fw 0 a1 a2 a3 a4 a5 a6) ⟨0, 0, 0, 0⟩ = (H, fw 0 a1 a2 a3 a4 a5 a6) := by
  have eg : getI 0 0 0 = 0 := by decide +kernel
  have ep : putI 0 0 0 0 = 0 := by decide +kernel
  unfold pcStep
  dsimp only
  have ef : fw 0 a1 a2 a3 a4 a5 a6 (0 : Int).toNat = 0 := rfl
  rw [ef, eg, ep, Int.zero_mul, Int.zero_emod, or_zero H hH0 (by omega)]
  refine Prod.ext rfl (funext fun j => ?_)
  dsimp only
  unfold fw
  by_cases hj : j = 0
  · subst hj; rfl
  · rw [if_neg (show ¬ j = (0 : Int).toNat by simpa using hj)]
theorem ps_2_2_0_3 (H a0 a1 a2 a3 a4 a5 a6 : Int) (hH0 : 0 ≤ H) (hH1 : H < 65536) (hz : H / 8 % 8 = 0) (h0 : 0 ≤ a2) (h1 : a2 < 4294967296) : pcStep (H, fw a0 a1 a2 a3 a4 a5 a6) ⟨2, 2, 0, 3⟩ = (H + a2 / 1 % 8 * 8, fw a0 a1 (a2 - a2 / 1 % 8 * 1) a3 a4 a5 a6) := by
  have eg : getI a2 2 0 = a2 / 1 % 8 := Om.get_n a2 2 0 1 8 rfl rfl (by decide) (by decide) (by decide) (by decide) h0
  have ep : putI a2 2 0 0 = a2 - a2 / 1 % 8 * 1 := put0 a2 2 0 1 8 rfl rfl (by decide) (by decide) (by decide) (by decide) h0 h1
  have eo : bits .or .u32 H (a2 / 1 % 8 * 8 % 4294967296) = H + a2 / 1 % 8 * 8 := or_add H (a2 / 1 % 8) 3 3 8 8 (by decide) (by decide) (by decide) hH0 (by omega) hz (by omega) (by omega)
  unfold pcStep
  dsimp only
  have ef : fw a0 a1 a2 a3 a4 a5 a6 (2 : Int).toNat = a2 := rfl
  rw [ef, eg, ep, show (2 : Int) ^ (3 : Int).toNat = 8 by decide, eo]
  refine Prod.ext rfl (funext fun j => ?_)
  dsimp only
  unfold fw
  by_cases hj : j = 2
  · subst hj; rfl
  · rw [if_neg (show ¬ j = (2 : Int).toNat by simpa using hj)]
    simp only [if_neg hj]
theorem ps_3_2_0_32 (H a0 a1 a2 a3 a4 a5 a6 : Int) (hH0 : 0 ≤ H) (hH1 : H < 65536) (h0 : 0 ≤ a3) (h1 : a3 < 4294967296) : pcStep (H, fw a0 a1 a2 a3 a4 a5 a6) ⟨3, 2, 0, 32⟩ = (H, fw a0 a1 a2 (a3 - a3 / 1 % 8 * 1) a4 a5 a6) := by
  have eg : getI a3 2 0 = a3 / 1 % 8 := Om.get_n a3 2 0 1 8 rfl rfl (by decide) (by decide) (by decide) (by decide) h0
  have ep : putI a3 2 0 0 = a3 - a3 / 1 % 8 * 1 := put0 a3 2 0 1 8 rfl rfl (by decide) (by decide) (by decide) (by decide) h0 h1
  have eo : bits .or .u32 H (a3 / 1 % 8 * 4294967296 % 4294967296) = H := by rw [show a3 / 1 % 8 * 4294967296 % 4294967296 = 0 by omega]; exact or_zero H hH0 (by omega)
  unfold pcStep
  dsimp only
  have ef : fw a0 a1 a2 a3 a4 a5 a6 (3 : Int).toNat = a3 := rfl
  rw [ef, eg, ep, show (2 : Int) ^ (32 : Int).toNat = 4294967296 by decide, eo]
  refine Prod.ext rfl (funext fun j => ?_)
  dsimp only
  unfold fw
  by_cases hj : j = 3
  · subst hj; rfl
  · rw [if_neg (show ¬ j = (3 : Int).toNat by simpa using hj)]
    simp only [if_neg hj]
theorem ps_2_2_0_0 (H a0 a1 a2 a3 a4 a5 a6 : Int) (hH0 : 0 ≤ H) (hH1 : H < 65536) (hz : H / 1 % 8 = 0) (h0 : 0 ≤ a2) (h1 : a2 < 4294967296) : pcStep (H, fw a0 a1 a2 a3 a4 a5 a6) ⟨2, 2, 0, 0⟩ = (H + a2 / 1 % 8 * 1, fw a0 a1 (a2 - a2 / 1 % 8 * 1) a3 a4 a5 a6) := by
  have eg : getI a2 2 0 = a2 / 1 % 8 := Om.get_n a2 2 0 1 8 rfl rfl (by decide) (by decide) (by decide) (by decide) h0
  have ep : putI a2 2 0 0 = a2 - a2 / 1 % 8 * 1 := put0 a2 2 0 1 8 rfl rfl (by decide) (by decide) (by decide) (by decide) h0 h1
  have eo : bits .or .u32 H (a2 / 1 % 8 * 1 % 4294967296) = H + a2 / 1 % 8 * 1 := or_add H (a2 / 1 % 8) 0 3 1 8 (by decide) (by decide) (by decide) hH0 (by omega) hz (by omega) (by omega)
  unfold pcStep
  dsimp only
  have ef : fw a0 a1 a2 a3 a4 a5 a6 (2 : Int).toNat = a2 := rfl
  rw [ef, eg, ep, show (2 : Int) ^ (0 : Int).toNat = 1 by decide, eo]
  refine Prod.ext rfl (funext fun j => ?_)
  dsimp only
  unfold fw
  by_cases hj : j = 2
  · subst hj; rfl
  · rw [if_neg (show ¬ j = (2 : Int).toNat by simpa using hj)]
    simp only [if_neg hj]
theorem ps_3_3_0_3 (H a0 a1 a2 a3 a4 a5 a6 : Int) (hH0 : 0 ≤ H) (hH1 : H < 65536) (hz : H / 8 % 16 = 0) (h0 : 0 ≤ a3) (h1 : a3 < 4294967296) : pcStep (H, fw a0 a1 a2 a3 a4 a5 a6) ⟨3, 3, 0, 3⟩ = (H + a3 / 1 % 16 * 8, fw a0 a1 a2 (a3 - a3 / 1 % 16 * 1) a4 a5 a6) := by
  have eg : getI a3 3 0 = a3 / 1 % 16 := Om.get_n a3 3 0 1 16 rfl rfl (by decide) (by decide) (by decide) (by decide) h0
  have ep : putI a3 3 0 0 = a3 - a3 / 1 % 16 * 1 := put0 a3 3 0 1 16 rfl rfl (by decide) (by decide) (by decide) (by decide) h0 h1
  have eo : bits .or .u32 H (a3 / 1 % 16 * 8 % 4294967296) = H + a3 / 1 % 16 * 8 := or_add H (a3 / 1 % 16) 3 4 8 16 (by decide) (by decide) (by decide) hH0 (by omega) hz (by omega) (by omega)
  unfold pcStep
  dsimp only
  have ef : fw a0 a1 a2 a3 a4 a5 a6 (3 : Int).toNat = a3 := rfl
  rw [ef, eg, ep, show (2 : Int) ^ (3 : Int).toNat = 8 by decide, eo]
  refine Prod.ext rfl (funext fun j => ?_)
  dsimp only
  unfold fw
  by_cases hj : j = 3
  · subst hj; rfl
  · rw [if_neg (show ¬ j = (3 : Int).toNat by simpa using hj)]
    simp only [if_neg hj]
theorem ps_2_3_3_7 (H a0 a1 a2 a3 a4 a5 a6 : Int) (hH0 : 0 ≤ H) (hH1 : H < 65536) (hz : H / 128 % 2 = 0) (h0 : 0 ≤ a2) (h1 : a2 < 4294967296) : pcStep (H, fw a0 a1 a2 a3 a4 a5 a6) ⟨2, 3, 3, 7⟩ = (H + a2 / 8 % 2 * 128, fw a0 a1 (a2 - a2 / 8 % 2 * 8) a3 a4 a5 a6) := by
  have eg : getI a2 3 3 = a2 / 8 % 2 := Om.get_n a2 3 3 8 2 rfl rfl (by decide) (by decide) (by decide) (by decide) h0
  have ep : putI a2 3 3 0 = a2 - a2 / 8 % 2 * 8 := put0 a2 3 3 8 2 rfl rfl (by decide) (by decide) (by decide) (by decide) h0 h1
  have eo : bits .or .u32 H (a2 / 8 % 2 * 128 % 4294967296) = H + a2 / 8 % 2 * 128 := or_add H (a2 / 8 % 2) 7 1 128 2 (by decide) (by decide) (by decide) hH0 (by omega) hz (by omega) (by omega)
  unfold pcStep
  dsimp only
  have ef : fw a0 a1 a2 a3 a4 a5 a6 (2 : Int).toNat = a2 := rfl
  rw [ef, eg, ep, show (2 : Int) ^ (7 : Int).toNat = 128 by decide, eo]
  refine Prod.ext rfl (funext fun j => ?_)
  dsimp only
  unfold fw
  by_cases hj : j = 2
  · subst hj; rfl
  · rw [if_neg (show ¬ j = (2 : Int).toNat by simpa using hj)]
    simp only [if_neg hj]
theorem ps_2_2_0_8 (H a0 a1 a2 a3 a4 a5 a6 : Int) (hH0 : 0 ≤ H) (hH1 : H < 65536) (hz : H / 256 % 8 = 0) (h0 : 0 ≤ a2) (h1 : a2 < 4294967296) : pcStep (H, fw a0 a1 a2 a3 a4 a5 a6) ⟨2, 2, 0, 8⟩ = (H + a2 / 1 % 8 * 256, fw a0 a1 (a2 - a2 / 1 % 8 * 1) a3 a4 a5 a6) := by
  have eg : getI a2 2 0 = a2 / 1 % 8 := Om.get_n a2 2 0 1 8 rfl rfl (by decide) (by decide) (by decide) (by decide) h0
  have ep : putI a2 2 0 0 = a2 - a2 / 1 % 8 * 1 := put0 a2 2 0 1 8 rfl rfl (by decide) (by decide) (by decide) (by decide) h0 h1
  have eo : bits .or .u32 H (a2 / 1 % 8 * 256 % 4294967296) = H + a2 / 1 % 8 * 256 := or_add H (a2 / 1 % 8) 8 3 256 8 (by decide) (by decide) (by decide) hH0 (by omega) hz (by omega) (by omega)
  unfold pcStep
  dsimp only
  have ef : fw a0 a1 a2 a3 a4 a5 a6 (2 : Int).toNat = a2 := rfl
  rw [ef, eg, ep, show (2 : Int) ^ (8 : Int).toNat = 256 by decide, eo]
  refine Prod.ext rfl (funext fun j => ?_)
  dsimp only
  unfold fw
  by_cases hj : j = 2
  · subst hj; rfl
  · rw [if_neg (show ¬ j = (2 : Int).toNat by simpa using hj)]
    simp only [if_neg hj]
theorem ps_4_7_0_0 (H a0 a1 a2 a3 a4 a5 a6 : Int) (hH0 : 0 ≤ H) (hH1 : H < 65536) (hz : H / 1 % 256 = 0) (h0 : 0 ≤ a4) (h1 : a4 < 4294967296) : pcStep (H, fw a0 a1 a2 a3 a4 a5 a6) ⟨4, 7, 0, 0⟩ = (H + a4 / 1 % 256 * 1, fw a0 a1 a2 a3 (a4 - a4 / 1 % 256 * 1) a5 a6) := by
  have eg : getI a4 7 0 = a4 / 1 % 256 := Om.get_n a4 7 0 1 256 rfl rfl (by decide) (by decide) (by decide) (by decide) h0
  have ep : putI a4 7 0 0 = a4 - a4 / 1 % 256 * 1 := put0 a4 7 0 1 256 rfl rfl (by decide) (by decide) (by decide) (by decide) h0 h1
  have eo : bits .or .u32 H (a4 / 1 % 256 * 1 % 4294967296) = H + a4 / 1 % 256 * 1 := or_add H (a4 / 1 % 256) 0 8 1 256 (by decide) (by decide) (by decide) hH0 (by omega) hz (by omega) (by omega)
  unfold pcStep
  dsimp only
  have ef : fw a0 a1 a2 a3 a4 a5 a6 (4 : Int).toNat = a4 := rfl
  rw [ef, eg, ep, show (2 : Int) ^ (0 : Int).toNat = 1 by decide, eo]
  refine Prod.ext rfl (funext fun j => ?_)
  dsimp only
  unfold fw
  by_cases hj : j = 4
  · subst hj; rfl
  · rw [if_neg (show ¬ j = (4 : Int).toNat by simpa using hj)]
    simp only [if_neg hj]
theorem ps_1_2_0_8 (H a0 a1 a2 a3 a4 a5 a6 : Int) (hH0 : 0 ≤ H) (hH1 : H < 65536) (hz : H / 256 % 8 = 0) (h0 : 0 ≤ a1) (h1 : a1 < 4294967296) : pcStep (H, fw a0 a1 a2 a3 a4 a5 a6) ⟨1, 2, 0, 8⟩ = (H + a1 / 1 % 8 * 256, fw a0 (a1 - a1 / 1 % 8 * 1) a2 a3 a4 a5 a6) := by
  have eg : getI a1 2 0 = a1 / 1 % 8 := Om.get_n a1 2 0 1 8 rfl rfl (by decide) (by decide) (by decide) (by decide) h0
  have ep : putI a1 2 0 0 = a1 - a1 / 1 % 8 * 1 := put0 a1 2 0 1 8 rfl rfl (by decide) (by decide) (by decide) (by decide) h0 h1
  have eo : bits .or .u32 H (a1 / 1 % 8 * 256 % 4294967296) = H + a1 / 1 % 8 * 256 := or_add H (a1 / 1 % 8) 8 3 256 8 (by decide) (by decide) (by decide) hH0 (by omega) hz (by omega) (by omega)
  unfold pcStep
  dsimp only
  have ef : fw a0 a1 a2 a3 a4 a5 a6 (1 : Int).toNat = a1 := rfl
  rw [ef, eg, ep, show (2 : Int) ^ (8 : Int).toNat = 256 by decide, eo]
  refine Prod.ext rfl (funext fun j => ?_)
  dsimp only
  unfold fw
  by_cases hj : j = 1
  · subst hj; rfl
  · rw [if_neg (show ¬ j = (1 : Int).toNat by simpa using hj)]
    simp only [if_neg hj]
theorem ps_1_3_3_7 (H a0 a1 a2 a3 a4 a5 a6 : Int) (hH0 : 0 ≤ H) (hH1 : H < 65536) (hz : H / 128 % 2 = 0) (h0 : 0 ≤ a1) (h1 : a1 < 4294967296) : pcStep (H, fw a0 a1 a2 a3 a4 a5 a6) ⟨1, 3, 3, 7⟩ = (H + a1 / 8 % 2 * 128, fw a0 (a1 - a1 / 8 % 2 * 8) a2 a3 a4 a5 a6) := by
  have eg : getI a1 3 3 = a1 / 8 % 2 := Om.get_n a1 3 3 8 2 rfl rfl (by decide) (by decide) (by decide) (by decide) h0
  have ep : putI a1 3 3 0 = a1 - a1 / 8 % 2 * 8 := put0 a1 3 3 8 2 rfl rfl (by decide) (by decide) (by decide) (by decide) h0 h1
  have eo : bits .or .u32 H (a1 / 8 % 2 * 128 % 4294967296) = H + a1 / 8 % 2 * 128 := or_add H (a1 / 8 % 2) 7 1 128 2 (by decide) (by decide) (by decide) hH0 (by omega) hz (by omega) (by omega)
  unfold pcStep
  dsimp only
  have ef : fw a0 a1 a2 a3 a4 a5 a6 (1 : Int).toNat = a1 := rfl
  rw [ef, eg, ep, show (2 : Int) ^ (7 : Int).toNat = 128 by decide, eo]
  refine Prod.ext rfl (funext fun j => ?_)
  dsimp only
  unfold fw
  by_cases hj : j = 1
  · subst hj; rfl
  · rw [if_neg (show ¬ j = (1 : Int).toNat by simpa using hj)]
    simp only [if_neg hj]
theorem ps_3_2_0_6 (H a0 a1 a2 a3 a4 a5 a6 : Int) (hH0 : 0 ≤ H) (hH1 : H < 65536) (hz : H / 64 % 8 = 0) (h0 : 0 ≤ a3) (h1 : a3 < 4294967296) : pcStep (H, fw a0 a1 a2 a3 a4 a5 a6) ⟨3, 2, 0, 6⟩ = (H + a3 / 1 % 8 * 64, fw a0 a1 a2 (a3 - a3 / 1 % 8 * 1) a4 a5 a6) := by
  have eg : getI a3 2 0 = a3 / 1 % 8 := Om.get_n a3 2 0 1 8 rfl rfl (by decide) (by decide) (by decide) (by decide) h0
  have ep : putI a3 2 0 0 = a3 - a3 / 1 % 8 * 1 := put0 a3 2 0 1 8 rfl rfl (by decide) (by decide) (by decide) (by decide) h0 h1
  have eo : bits .or .u32 H (a3 / 1 % 8 * 64 % 4294967296) = H + a3 / 1 % 8 * 64 := or_add H (a3 / 1 % 8) 6 3 64 8 (by decide) (by decide) (by decide) hH0 (by omega) hz (by omega) (by omega)
  unfold pcStep
  dsimp only
  have ef : fw a0 a1 a2 a3 a4 a5 a6 (3 : Int).toNat = a3 := rfl
  rw [ef, eg, ep, show (2 : Int) ^ (6 : Int).toNat = 64 by decide, eo]
  refine Prod.ext rfl (funext fun j => ?_)
  dsimp only
  unfold fw
  by_cases hj : j = 3
  · subst hj; rfl
  · rw [if_neg (show ¬ j = (3 : Int).toNat by simpa using hj)]
    simp only [if_neg hj]
theorem ps_2_3_0_32 (H a0 a1 a2 a3 a4 a5 a6 : Int) (hH0 : 0 ≤ H) (hH1 : H < 65536) (h0 : 0 ≤ a2) (h1 : a2 < 4294967296) : pcStep (H, fw a0 a1 a2 a3 a4 a5 a6) ⟨2, 3, 0, 32⟩ = (H, fw a0 a1 (a2 - a2 / 1 % 16 * 1) a3 a4 a5 a6) := by
  have eg : getI a2 3 0 = a2 / 1 % 16 := Om.get_n a2 3 0 1 16 rfl rfl (by decide) (by decide) (by decide) (by decide) h0
  have ep : putI a2 3 0 0 = a2 - a2 / 1 % 16 * 1 := put0 a2 3 0 1 16 rfl rfl (by decide) (by decide) (by decide) (by decide) h0 h1
  have eo : bits .or .u32 H (a2 / 1 % 16 * 4294967296 % 4294967296) = H := by rw [show a2 / 1 % 16 * 4294967296 % 4294967296 = 0 by omega]; exact or_zero H hH0 (by omega)
  unfold pcStep
  dsimp only
  have ef : fw a0 a1 a2 a3 a4 a5 a6 (2 : Int).toNat = a2 := rfl
  rw [ef, eg, ep, show (2 : Int) ^ (32 : Int).toNat = 4294967296 by decide, eo]
  refine Prod.ext rfl (funext fun j => ?_)
  dsimp only
  unfold fw
  by_cases hj : j = 2
  · subst hj; rfl
  · rw [if_neg (show ¬ j = (2 : Int).toNat by simpa using hj)]
    simp only [if_neg hj]
theorem ps_4_2_0_6 (H a0 a1 a2 a3 a4 a5 a6 : Int) (hH0 : 0 ≤ H) (hH1 : H < 65536) (hz : H / 64 % 8 = 0) (h0 : 0 ≤ a4) (h1 : a4 < 4294967296) : pcStep (H, fw a0 a1 a2 a3 a4 a5 a6) ⟨4, 2, 0, 6⟩ = (H + a4 / 1 % 8 * 64, fw a0 a1 a2 a3 (a4 - a4 / 1 % 8 * 1) a5 a6) := by
  have eg : getI a4 2 0 = a4 / 1 % 8 := Om.get_n a4 2 0 1 8 rfl rfl (by decide) (by decide) (by decide) (by decide) h0
  have ep : putI a4 2 0 0 = a4 - a4 / 1 % 8 * 1 := put0 a4 2 0 1 8 rfl rfl (by decide) (by decide) (by decide) (by decide) h0 h1
  have eo : bits .or .u32 H (a4 / 1 % 8 * 64 % 4294967296) = H + a4 / 1 % 8 * 64 := or_add H (a4 / 1 % 8) 6 3 64 8 (by decide) (by decide) (by decide) hH0 (by omega) hz (by omega) (by omega)
  unfold pcStep
  dsimp only
  have ef : fw a0 a1 a2 a3 a4 a5 a6 (4 : Int).toNat = a4 := rfl
  rw [ef, eg, ep, show (2 : Int) ^ (6 : Int).toNat = 64 by decide, eo]
  refine Prod.ext rfl (funext fun j => ?_)
  dsimp only
  unfold fw
  by_cases hj : j = 4
  · subst hj; rfl
  · rw [if_neg (show ¬ j = (4 : Int).toNat by simpa using hj)]
    simp only [if_neg hj]
theorem ps_4_4_0_6 (H a0 a1 a2 a3 a4 a5 a6 : Int) (hH0 : 0 ≤ H) (hH1 : H < 65536) (hz : H / 64 % 32 = 0) (h0 : 0 ≤ a4) (h1 : a4 < 4294967296) : pcStep (H, fw a0 a1 a2 a3 a4 a5 a6) ⟨4, 4, 0, 6⟩ = (H + a4 / 1 % 32 * 64, fw a0 a1 a2 a3 (a4 - a4 / 1 % 32 * 1) a5 a6) := by
  have eg : getI a4 4 0 = a4 / 1 % 32 := Om.get_n a4 4 0 1 32 rfl rfl (by decide) (by decide) (by decide) (by decide) h0
  have ep : putI a4 4 0 0 = a4 - a4 / 1 % 32 * 1 := put0 a4 4 0 1 32 rfl rfl (by decide) (by decide) (by decide) (by decide) h0 h1
  have eo : bits .or .u32 H (a4 / 1 % 32 * 64 % 4294967296) = H + a4 / 1 % 32 * 64 := or_add H (a4 / 1 % 32) 6 5 64 32 (by decide) (by decide) (by decide) hH0 (by omega) hz (by omega) (by omega)
  unfold pcStep
  dsimp only
  have ef : fw a0 a1 a2 a3 a4 a5 a6 (4 : Int).toNat = a4 := rfl
  rw [ef, eg, ep, show (2 : Int) ^ (6 : Int).toNat = 64 by decide, eo]
  refine Prod.ext rfl (funext fun j => ?_)
  dsimp only
  unfold fw
  by_cases hj : j = 4
  · subst hj; rfl
  · rw [if_neg (show ¬ j = (4 : Int).toNat by simpa using hj)]
    simp only [if_neg hj]
theorem ps_4_5_5_32 (H a0 a1 a2 a3 a4 a5 a6 : Int) (hH0 : 0 ≤ H) (hH1 : H < 65536) (h0 : 0 ≤ a4) (h1 : a4 < 4294967296) : pcStep (H, fw a0 a1 a2 a3 a4 a5 a6) ⟨4, 5, 5, 32⟩ = (H, fw a0 a1 a2 a3 (a4 - a4 / 32 % 2 * 32) a5 a6) := by
  have eg : getI a4 5 5 = a4 / 32 % 2 := Om.get_n a4 5 5 32 2 rfl rfl (by decide) (by decide) (by decide) (by decide) h0
  have ep : putI a4 5 5 0 = a4 - a4 / 32 % 2 * 32 := put0 a4 5 5 32 2 rfl rfl (by decide) (by decide) (by decide) (by decide) h0 h1
  have eo : bits .or .u32 H (a4 / 32 % 2 * 4294967296 % 4294967296) = H := by rw [show a4 / 32 % 2 * 4294967296 % 4294967296 = 0 by omega]; exact or_zero H hH0 (by omega)
  unfold pcStep
  dsimp only
  have ef : fw a0 a1 a2 a3 a4 a5 a6 (4 : Int).toNat = a4 := rfl
  rw [ef, eg, ep, show (2 : Int) ^ (32 : Int).toNat = 4294967296 by decide, eo]
  refine Prod.ext rfl (funext fun j => ?_)
  dsimp only
  unfold fw
  by_cases hj : j = 4
  · subst hj; rfl
  · rw [if_neg (show ¬ j = (4 : Int).toNat by simpa using hj)]
    simp only [if_neg hj]
theorem ps_4_6_2_6 (H a0 a1 a2 a3 a4 a5 a6 : Int) (hH0 : 0 ≤ H) (hH1 : H < 65536) (hz : H / 64 % 32 = 0) (h0 : 0 ≤ a4) (h1 : a4 < 4294967296) : pcStep (H, fw a0 a1 a2 a3 a4 a5 a6) ⟨4, 6, 2, 6⟩ = (H + a4 / 4 % 32 * 64, fw a0 a1 a2 a3 (a4 - a4 / 4 % 32 * 4) a5 a6) := by
  have eg : getI a4 6 2 = a4 / 4 % 32 := Om.get_n a4 6 2 4 32 rfl rfl (by decide) (by decide) (by decide) (by decide) h0
  have ep : putI a4 6 2 0 = a4 - a4 / 4 % 32 * 4 := put0 a4 6 2 4 32 rfl rfl (by decide) (by decide) (by decide) (by decide) h0 h1
  have eo : bits .or .u32 H (a4 / 4 % 32 * 64 % 4294967296) = H + a4 / 4 % 32 * 64 := or_add H (a4 / 4 % 32) 6 5 64 32 (by decide) (by decide) (by decide) hH0 (by omega) hz (by omega) (by omega)
  unfold pcStep
  dsimp only
  have ef : fw a0 a1 a2 a3 a4 a5 a6 (4 : Int).toNat = a4 := rfl
  rw [ef, eg, ep, show (2 : Int) ^ (6 : Int).toNat = 64 by decide, eo]
  refine Prod.ext rfl (funext fun j => ?_)
  dsimp only
  unfold fw
  by_cases hj : j = 4
  · subst hj; rfl
  · rw [if_neg (show ¬ j = (4 : Int).toNat by simpa using hj)]
    simp only [if_neg hj]
theorem ps_4_5_1_6 (H a0 a1 a2 a3 a4 a5 a6 : Int) (hH0 : 0 ≤ H) (hH1 : H < 65536) (hz : H / 64 % 32 = 0) (h0 : 0 ≤ a4) (h1 : a4 < 4294967296) : pcStep (H, fw a0 a1 a2 a3 a4 a5 a6) ⟨4, 5, 1, 6⟩ = (H + a4 / 2 % 32 * 64, fw a0 a1 a2 a3 (a4 - a4 / 2 % 32 * 2) a5 a6) := by
  have eg : getI a4 5 1 = a4 / 2 % 32 := Om.get_n a4 5 1 2 32 rfl rfl (by decide) (by decide) (by decide) (by decide) h0
  have ep : putI a4 5 1 0 = a4 - a4 / 2 % 32 * 2 := put0 a4 5 1 2 32 rfl rfl (by decide) (by decide) (by decide) (by decide) h0 h1
  have eo : bits .or .u32 H (a4 / 2 % 32 * 64 % 4294967296) = H + a4 / 2 % 32 * 64 := or_add H (a4 / 2 % 32) 6 5 64 32 (by decide) (by decide) (by decide) hH0 (by omega) hz (by omega) (by omega)
  unfold pcStep
  dsimp only
  have ef : fw a0 a1 a2 a3 a4 a5 a6 (4 : Int).toNat = a4 := rfl
  rw [ef, eg, ep, show (2 : Int) ^ (6 : Int).toNat = 64 by decide, eo]
  refine Prod.ext rfl (funext fun j => ?_)
  dsimp only
  unfold fw
  by_cases hj : j = 4
  · subst hj; rfl
  · rw [if_neg (show ¬ j = (4 : Int).toNat by simpa using hj)]
    simp only [if_neg hj]
theorem ps_4_9_2_0 (H a0 a1 a2 a3 a4 a5 a6 : Int) (hH0 : 0 ≤ H) (hH1 : H < 65536) (hz : H / 1 % 256 = 0) (h0 : 0 ≤ a4) (h1 : a4 < 4294967296) : pcStep (H, fw a0 a1 a2 a3 a4 a5 a6) ⟨4, 9, 2, 0⟩ = (H + a4 / 4 % 256 * 1, fw a0 a1 a2 a3 (a4 - a4 / 4 % 256 * 4) a5 a6) := by
  have eg : getI a4 9 2 = a4 / 4 % 256 := Om.get_n a4 9 2 4 256 rfl rfl (by decide) (by decide) (by decide) (by decide) h0
  have ep : putI a4 9 2 0 = a4 - a4 / 4 % 256 * 4 := put0 a4 9 2 4 256 rfl rfl (by decide) (by decide) (by decide) (by decide) h0 h1
  have eo : bits .or .u32 H (a4 / 4 % 256 * 1 % 4294967296) = H + a4 / 4 % 256 * 1 := or_add H (a4 / 4 % 256) 0 8 1 256 (by decide) (by decide) (by decide) hH0 (by omega) hz (by omega) (by omega)
  unfold pcStep
  dsimp only
  have ef : fw a0 a1 a2 a3 a4 a5 a6 (4 : Int).toNat = a4 := rfl
  rw [ef, eg, ep, show (2 : Int) ^ (0 : Int).toNat = 1 by decide, eo]
  refine Prod.ext rfl (funext fun j => ?_)
  dsimp only
  unfold fw
  by_cases hj : j = 4
  · subst hj; rfl
  · rw [if_neg (show ¬ j = (4 : Int).toNat by simpa using hj)]
    simp only [if_neg hj]
theorem ps_5_7_0_0 (H a0 a1 a2 a3 a4 a5 a6 : Int) (hH0 : 0 ≤ H) (hH1 : H < 65536) (hz : H / 1 % 256 = 0) (h0 : 0 ≤ a5) (h1 : a5 < 4294967296) : pcStep (H, fw a0 a1 a2 a3 a4 a5 a6) ⟨5, 7, 0, 0⟩ = (H + a5 / 1 % 256 * 1, fw a0 a1 a2 a3 a4 (a5 - a5 / 1 % 256 * 1) a6) := by
  have eg : getI a5 7 0 = a5 / 1 % 256 := Om.get_n a5 7 0 1 256 rfl rfl (by decide) (by decide) (by decide) (by decide) h0
  have ep : putI a5 7 0 0 = a5 - a5 / 1 % 256 * 1 := put0 a5 7 0 1 256 rfl rfl (by decide) (by decide) (by decide) (by decide) h0 h1
  have eo : bits .or .u32 H (a5 / 1 % 256 * 1 % 4294967296) = H + a5 / 1 % 256 * 1 := or_add H (a5 / 1 % 256) 0 8 1 256 (by decide) (by decide) (by decide) hH0 (by omega) hz (by omega) (by omega)
  unfold pcStep
  dsimp only
  have ef : fw a0 a1 a2 a3 a4 a5 a6 (5 : Int).toNat = a5 := rfl
  rw [ef, eg, ep, show (2 : Int) ^ (0 : Int).toNat = 1 by decide, eo]
  refine Prod.ext rfl (funext fun j => ?_)
  dsimp only
  unfold fw
  by_cases hj : j = 5
  · subst hj; rfl
  · rw [if_neg (show ¬ j = (5 : Int).toNat by simpa using hj)]
    simp only [if_neg hj]
theorem ps_5_14_14_8 (H a0 a1 a2 a3 a4 a5 a6 : Int) (hH0 : 0 ≤ H) (hH1 : H < 65536) (hz : H / 256 % 2 = 0) (h0 : 0 ≤ a5) (h1 : a5 < 4294967296) : pcStep (H, fw a0 a1 a2 a3 a4 a5 a6) ⟨5, 14, 14, 8⟩ = (H + a5 / 16384 % 2 * 256, fw a0 a1 a2 a3 a4 (a5 - a5 / 16384 % 2 * 16384) a6) := by
  have eg : getI a5 14 14 = a5 / 16384 % 2 := Om.get_n a5 14 14 16384 2 rfl rfl (by decide) (by decide) (by decide) (by decide) h0
  have ep : putI a5 14 14 0 = a5 - a5 / 16384 % 2 * 16384 := put0 a5 14 14 16384 2 rfl rfl (by decide) (by decide) (by decide) (by decide) h0 h1
  have eo : bits .or .u32 H (a5 / 16384 % 2 * 256 % 4294967296) = H + a5 / 16384 % 2 * 256 := or_add H (a5 / 16384 % 2) 8 1 256 2 (by decide) (by decide) (by decide) hH0 (by omega) hz (by omega) (by omega)
  unfold pcStep
  dsimp only
  have ef : fw a0 a1 a2 a3 a4 a5 a6 (5 : Int).toNat = a5 := rfl
  rw [ef, eg, ep, show (2 : Int) ^ (8 : Int).toNat = 256 by decide, eo]
  refine Prod.ext rfl (funext fun j => ?_)
  dsimp only
  unfold fw
  by_cases hj : j = 5
  · subst hj; rfl
  · rw [if_neg (show ¬ j = (5 : Int).toNat by simpa using hj)]
    simp only [if_neg hj]
theorem ps_5_15_15_8 (H a0 a1 a2 a3 a4 a5 a6 : Int) (hH0 : 0 ≤ H) (hH1 : H < 65536) (hz : H / 256 % 2 = 0) (h0 : 0 ≤ a5) (h1 : a5 < 4294967296) : pcStep (H, fw a0 a1 a2 a3 a4 a5 a6) ⟨5, 15, 15, 8⟩ = (H + a5 / 32768 % 2 * 256, fw a0 a1 a2 a3 a4 (a5 - a5 / 32768 % 2 * 32768) a6) := by
  have eg : getI a5 15 15 = a5 / 32768 % 2 := Om.get_n a5 15 15 32768 2 rfl rfl (by decide) (by decide) (by decide) (by decide) h0
  have ep : putI a5 15 15 0 = a5 - a5 / 32768 % 2 * 32768 := put0 a5 15 15 32768 2 rfl rfl (by decide) (by decide) (by decide) (by decide) h0 h1
  have eo : bits .or .u32 H (a5 / 32768 % 2 * 256 % 4294967296) = H + a5 / 32768 % 2 * 256 := or_add H (a5 / 32768 % 2) 8 1 256 2 (by decide) (by decide) (by decide) hH0 (by omega) hz (by omega) (by omega)
  unfold pcStep
  dsimp only
  have ef : fw a0 a1 a2 a3 a4 a5 a6 (5 : Int).toNat = a5 := rfl
  rw [ef, eg, ep, show (2 : Int) ^ (8 : Int).toNat = 256 by decide, eo]
  refine Prod.ext rfl (funext fun j => ?_)
  dsimp only
  unfold fw
  by_cases hj : j = 5
  · subst hj; rfl
  · rw [if_neg (show ¬ j = (5 : Int).toNat by simpa using hj)]
    simp only [if_neg hj]
theorem ps_6_3_0_8 (H a0 a1 a2 a3 a4 a5 a6 : Int) (hH0 : 0 ≤ H) (hH1 : H < 65536) (hz : H / 256 % 16 = 0) (h0 : 0 ≤ a6) (h1 : a6 < 4294967296) : pcStep (H, fw a0 a1 a2 a3 a4 a5 a6) ⟨6, 3, 0, 8⟩ = (H + a6 / 1 % 16 * 256, fw a0 a1 a2 a3 a4 a5 (a6 - a6 / 1 % 16 * 1)) := by
  have eg : getI a6 3 0 = a6 / 1 % 16 := Om.get_n a6 3 0 1 16 rfl rfl (by decide) (by decide) (by decide) (by decide) h0
  have ep : putI a6 3 0 0 = a6 - a6 / 1 % 16 * 1 := put0 a6 3 0 1 16 rfl rfl (by decide) (by decide) (by decide) (by decide) h0 h1
  have eo : bits .or .u32 H (a6 / 1 % 16 * 256 % 4294967296) = H + a6 / 1 % 16 * 256 := or_add H (a6 / 1 % 16) 8 4 256 16 (by decide) (by decide) (by decide) hH0 (by omega) hz (by omega) (by omega)
  unfold pcStep
  dsimp only
  have ef : fw a0 a1 a2 a3 a4 a5 a6 (6 : Int).toNat = a6 := rfl
  rw [ef, eg, ep, show (2 : Int) ^ (8 : Int).toNat = 256 by decide, eo]
  refine Prod.ext rfl (funext fun j => ?_)
  dsimp only
  unfold fw
  by_cases hj : j = 6
  · subst hj; rfl
  · rw [if_neg (show ¬ j = (6 : Int).toNat by simpa using hj)]
    simp only [if_neg hj]
theorem ps_6_3_0_32 (H a0 a1 a2 a3 a4 a5 a6 : Int) (hH0 : 0 ≤ H) (hH1 : H < 65536) (h0 : 0 ≤ a6) (h1 : a6 < 4294967296) : pcStep (H, fw a0 a1 a2 a3 a4 a5 a6) ⟨6, 3, 0, 32⟩ = (H, fw a0 a1 a2 a3 a4 a5 (a6 - a6 / 1 % 16 * 1)) := by
  have eg : getI a6 3 0 = a6 / 1 % 16 := Om.get_n a6 3 0 1 16 rfl rfl (by decide) (by decide) (by decide) (by decide) h0
  have ep : putI a6 3 0 0 = a6 - a6 / 1 % 16 * 1 := put0 a6 3 0 1 16 rfl rfl (by decide) (by decide) (by decide) (by decide) h0 h1
  have eo : bits .or .u32 H (a6 / 1 % 16 * 4294967296 % 4294967296) = H := by rw [show a6 / 1 % 16 * 4294967296 % 4294967296 = 0 by omega]; exact or_zero H hH0 (by omega)
  unfold pcStep
  dsimp only
  have ef : fw a0 a1 a2 a3 a4 a5 a6 (6 : Int).toNat = a6 := rfl
  rw [ef, eg, ep, show (2 : Int) ^ (32 : Int).toNat = 4294967296 by decide, eo]
  refine Prod.ext rfl (funext fun j => ?_)
  dsimp only
  unfold fw
  by_cases hj : j = 6
  · subst hj; rfl
  · rw [if_neg (show ¬ j = (6 : Int).toNat by simpa using hj)]
    simp only [if_neg hj]
theorem ps_6_3_0_4 (H a0 a1 a2 a3 a4 a5 a6 : Int) (hH0 : 0 ≤ H) (hH1 : H < 65536) (hz : H / 16 % 16 = 0) (h0 : 0 ≤ a6) (h1 : a6 < 4294967296) : pcStep (H, fw a0 a1 a2 a3 a4 a5 a6) ⟨6, 3, 0, 4⟩ = (H + a6 / 1 % 16 * 16, fw a0 a1 a2 a3 a4 a5 (a6 - a6 / 1 % 16 * 1)) := by
  have eg : getI a6 3 0 = a6 / 1 % 16 := Om.get_n a6 3 0 1 16 rfl rfl (by decide) (by decide) (by decide) (by decide) h0
  have ep : putI a6 3 0 0 = a6 - a6 / 1 % 16 * 1 := put0 a6 3 0 1 16 rfl rfl (by decide) (by decide) (by decide) (by decide) h0 h1
  have eo : bits .or .u32 H (a6 / 1 % 16 * 16 % 4294967296) = H + a6 / 1 % 16 * 16 := or_add H (a6 / 1 % 16) 4 4 16 16 (by decide) (by decide) (by decide) hH0 (by omega) hz (by omega) (by omega)
  unfold pcStep
  dsimp only
  have ef : fw a0 a1 a2 a3 a4 a5 a6 (6 : Int).toNat = a6 := rfl
  rw [ef, eg, ep, show (2 : Int) ^ (4 : Int).toNat = 16 by decide, eo]
  refine Prod.ext rfl (funext fun j => ?_)
  dsimp only
  unfold fw
  by_cases hj : j = 6
  · subst hj; rfl
  · rw [if_neg (show ¬ j = (6 : Int).toNat by simpa using hj)]
    simp only [if_neg hj]
theorem ps_4_3_0_0 (H a0 a1 a2 a3 a4 a5 a6 : Int) (hH0 : 0 ≤ H) (hH1 : H < 65536) (hz : H / 1 % 16 = 0) (h0 : 0 ≤ a4) (h1 : a4 < 4294967296) : pcStep (H, fw a0 a1 a2 a3 a4 a5 a6) ⟨4, 3, 0, 0⟩ = (H + a4 / 1 % 16 * 1, fw a0 a1 a2 a3 (a4 - a4 / 1 % 16 * 1) a5 a6) := by
  have eg : getI a4 3 0 = a4 / 1 % 16 := Om.get_n a4 3 0 1 16 rfl rfl (by decide) (by decide) (by decide) (by decide) h0
  have ep : putI a4 3 0 0 = a4 - a4 / 1 % 16 * 1 := put0 a4 3 0 1 16 rfl rfl (by decide) (by decide) (by decide) (by decide) h0 h1
  have eo : bits .or .u32 H (a4 / 1 % 16 * 1 % 4294967296) = H + a4 / 1 % 16 * 1 := or_add H (a4 / 1 % 16) 0 4 1 16 (by decide) (by decide) (by decide) hH0 (by omega) hz (by omega) (by omega)
  unfold pcStep
  dsimp only
  have ef : fw a0 a1 a2 a3 a4 a5 a6 (4 : Int).toNat = a4 := rfl
  rw [ef, eg, ep, show (2 : Int) ^ (0 : Int).toNat = 1 by decide, eo]
  refine Prod.ext rfl (funext fun j => ?_)
  dsimp only
  unfold fw
  by_cases hj : j = 4
  · subst hj; rfl
  · rw [if_neg (show ¬ j = (4 : Int).toNat by simpa using hj)]
    simp only [if_neg hj]
end Pl
end Go.Proofs.YtmofimgodmcdjaaDoor

namespace Go.Proofs.YtmofimgodmcdjaaDoor
open Go.ChangeShapes Go.WideShapes Go.ChangeAt Go.RowKit
namespace Pl

def row_0 : Fm := ⟨[(1, 16384), (2, 16448), (6, 16704), (8, 16768), (3, 17152), (4, 17280)], 194, [⟨3, 2, 0, 3⟩, ⟨1, 2, 0, 0⟩, ⟨2, 2, 0, 32⟩, ⟨0, 0, 0, 0⟩], 0⟩
def row_1 : Fm := ⟨[(9, 16960), (0, 0), (0, 0), (0, 0), (0, 0), (0, 0)], 65, [⟨2, 2, 0, 3⟩, ⟨1, 2, 0, 0⟩, ⟨0, 0, 0, 0⟩, ⟨0, 0, 0, 0⟩], 0⟩
def row_2 : Fm := ⟨[(11, 17344), (0, 0), (0, 0), (0, 0), (0, 0), (0, 0)], 66, [⟨3, 2, 0, 3⟩, ⟨1, 2, 0, 0⟩, ⟨0, 0, 0, 0⟩, ⟨0, 0, 0, 0⟩], 0⟩
def row_3 : Fm := ⟨[(20, 17216), (0, 0), (0, 0), (0, 0), (0, 0), (0, 0)], 264, [⟨2, 2, 0, 3⟩, ⟨1, 2, 0, 0⟩, ⟨3, 2, 0, 32⟩, ⟨0, 0, 0, 0⟩], 0⟩
def row_4 : Fm := ⟨[(14, 16896), (13, 17088), (0, 0), (0, 0), (0, 0), (0, 0)], 2, [⟨3, 2, 0, 3⟩, ⟨2, 2, 0, 0⟩, ⟨0, 0, 0, 0⟩, ⟨0, 0, 0, 0⟩], 0⟩
def row_5 : Fm := ⟨[(12, 17024), (0, 0), (0, 0), (0, 0), (0, 0), (0, 0)], 2, [⟨3, 2, 0, 3⟩, ⟨2, 2, 0, 0⟩, ⟨0, 0, 0, 0⟩, ⟨0, 0, 0, 0⟩], 0⟩
def row_6 : Fm := ⟨[(12, 17664), (0, 0), (0, 0), (0, 0), (0, 0), (0, 0)], 2, [⟨3, 3, 0, 3⟩, ⟨2, 3, 3, 7⟩, ⟨2, 2, 0, 0⟩, ⟨0, 0, 0, 0⟩], 0⟩
def row_7 : Fm := ⟨[(12, 10240), (0, 0), (0, 0), (0, 0), (0, 0), (0, 0)], 1, [⟨2, 2, 0, 8⟩, ⟨4, 7, 0, 0⟩, ⟨0, 0, 0, 0⟩, ⟨0, 0, 0, 0⟩], 0⟩
def row_8 : Fm := ⟨[(10, 8192), (0, 0), (0, 0), (0, 0), (0, 0), (0, 0)], 65, [⟨1, 2, 0, 8⟩, ⟨4, 7, 0, 0⟩, ⟨0, 0, 0, 0⟩, ⟨0, 0, 0, 0⟩], 0⟩
def row_9 : Fm := ⟨[(10, 0), (0, 0), (0, 0), (0, 0), (0, 0), (0, 0)], 22, [⟨3, 2, 0, 3⟩, ⟨1, 2, 0, 0⟩, ⟨0, 0, 0, 0⟩, ⟨0, 0, 0, 0⟩], 0⟩
def row_10 : Fm := ⟨[(10, 17920), (0, 0), (0, 0), (0, 0), (0, 0), (0, 0)], 34, [⟨3, 3, 0, 3⟩, ⟨1, 3, 3, 7⟩, ⟨1, 2, 0, 0⟩, ⟨0, 0, 0, 0⟩], 0⟩
def row_11 : Fm := ⟨[(5, 6144), (7, 6656), (0, 0), (0, 0), (0, 0), (0, 0)], 66, [⟨3, 2, 0, 6⟩, ⟨2, 2, 0, 3⟩, ⟨1, 2, 0, 0⟩, ⟨0, 0, 0, 0⟩], 0⟩
def row_12 : Fm := ⟨[(5, 17408), (0, 0), (0, 0), (0, 0), (0, 0), (0, 0)], 162, [⟨3, 3, 0, 3⟩, ⟨1, 3, 3, 7⟩, ⟨1, 2, 0, 0⟩, ⟨2, 3, 0, 32⟩], 0⟩
def row_13 : Fm := ⟨[(5, 7168), (7, 7680), (0, 0), (0, 0), (0, 0), (0, 0)], 65, [⟨4, 2, 0, 6⟩, ⟨2, 2, 0, 3⟩, ⟨1, 2, 0, 0⟩, ⟨0, 0, 0, 0⟩], 0⟩
def row_14 : Fm := ⟨[(5, 12288), (7, 14336), (0, 0), (0, 0), (0, 0), (0, 0)], 193, [⟨1, 2, 0, 8⟩, ⟨4, 7, 0, 0⟩, ⟨2, 2, 0, 32⟩, ⟨0, 0, 0, 0⟩], 0⟩
def row_15 : Fm := ⟨[(16, 0), (17, 2048), (18, 4096), (0, 0), (0, 0), (0, 0)], 65, [⟨4, 4, 0, 6⟩, ⟨4, 5, 5, 32⟩, ⟨2, 2, 0, 3⟩, ⟨1, 2, 0, 0⟩], 0⟩
def row_16 : Fm := ⟨[(16, 16512), (17, 16576), (18, 16640), (19, 16832), (0, 0), (0, 0)], 194, [⟨3, 2, 0, 3⟩, ⟨1, 2, 0, 0⟩, ⟨2, 2, 0, 32⟩, ⟨0, 0, 0, 0⟩], 0⟩
def row_17 : Fm := ⟨[(28, 24576), (25, 26624), (0, 0), (0, 0), (0, 0), (0, 0)], 1, [⟨4, 6, 2, 6⟩, ⟨2, 2, 0, 3⟩, ⟨1, 2, 0, 0⟩, ⟨0, 0, 0, 0⟩], 0⟩
def row_18 : Fm := ⟨[(29, 28672), (26, 30720), (0, 0), (0, 0), (0, 0), (0, 0)], 1, [⟨4, 4, 0, 6⟩, ⟨2, 2, 0, 3⟩, ⟨1, 2, 0, 0⟩, ⟨0, 0, 0, 0⟩], 0⟩
def row_19 : Fm := ⟨[(30, 32768), (27, 34816), (0, 0), (0, 0), (0, 0), (0, 0)], 1, [⟨4, 5, 1, 6⟩, ⟨2, 2, 0, 3⟩, ⟨1, 2, 0, 0⟩, ⟨0, 0, 0, 0⟩], 0⟩
def row_20 : Fm := ⟨[(28, 36864), (25, 38912), (0, 0), (0, 0), (0, 0), (0, 0)], 513, [⟨1, 2, 0, 8⟩, ⟨4, 9, 2, 0⟩, ⟨2, 3, 0, 32⟩, ⟨0, 0, 0, 0⟩], 0⟩
def row_21 : Fm := ⟨[(28, 20480), (30, 20992), (29, 21504), (25, 22528), (27, 23040), (26, 23552)], 2, [⟨3, 2, 0, 6⟩, ⟨2, 2, 0, 3⟩, ⟨1, 2, 0, 0⟩, ⟨0, 0, 0, 0⟩], 0⟩
def row_22 : Fm := ⟨[(32, 49152), (31, 51200), (0, 0), (0, 0), (0, 0), (0, 0)], 0, [⟨2, 2, 0, 8⟩, ⟨5, 7, 0, 0⟩, ⟨0, 0, 0, 0⟩, ⟨0, 0, 0, 0⟩], 0⟩
def row_23 : Fm := ⟨[(33, 46080), (0, 0), (0, 0), (0, 0), (0, 0), (0, 0)], 0, [⟨5, 7, 0, 0⟩, ⟨5, 14, 14, 8⟩, ⟨0, 0, 0, 0⟩, ⟨0, 0, 0, 0⟩], 0⟩
def row_24 : Fm := ⟨[(34, 48128), (0, 0), (0, 0), (0, 0), (0, 0), (0, 0)], 0, [⟨5, 7, 0, 0⟩, ⟨5, 15, 15, 8⟩, ⟨0, 0, 0, 0⟩, ⟨0, 0, 0, 0⟩], 0⟩
def row_25 : Fm := ⟨[(35, 53248), (0, 0), (0, 0), (0, 0), (0, 0), (0, 0)], 2052, [⟨6, 3, 0, 8⟩, ⟨0, 0, 0, 0⟩, ⟨0, 0, 0, 0⟩, ⟨0, 0, 0, 0⟩], 1⟩
def row_26 : Fm := ⟨[(35, 57344), (0, 0), (0, 0), (0, 0), (0, 0), (0, 0)], 1024, [⟨6, 3, 0, 32⟩, ⟨0, 0, 0, 0⟩, ⟨0, 0, 0, 0⟩, ⟨0, 0, 0, 0⟩], 2⟩
def row_27 : Fm := ⟨[(37, 45312), (38, 47360), (0, 0), (0, 0), (0, 0), (0, 0)], 4, [⟨2, 2, 0, 0⟩, ⟨0, 0, 0, 0⟩, ⟨0, 0, 0, 0⟩, ⟨0, 0, 0, 0⟩], 5⟩
def row_28 : Fm := ⟨[(39, 18176), (0, 0), (0, 0), (0, 0), (0, 0), (0, 0)], 0, [⟨3, 3, 0, 3⟩, ⟨0, 0, 0, 0⟩, ⟨0, 0, 0, 0⟩, ⟨0, 0, 0, 0⟩], 0⟩
def row_29 : Fm := ⟨[(40, 18432), (41, 40960), (0, 0), (0, 0), (0, 0), (0, 0)], 0, [⟨1, 2, 0, 8⟩, ⟨4, 9, 2, 0⟩, ⟨0, 0, 0, 0⟩, ⟨0, 0, 0, 0⟩], 0⟩
def row_30 : Fm := ⟨[(42, 48896), (0, 0), (0, 0), (0, 0), (0, 0), (0, 0)], 4, [⟨6, 3, 0, 4⟩, ⟨4, 3, 0, 0⟩, ⟨0, 0, 0, 0⟩, ⟨0, 0, 0, 0⟩], 0⟩
def row_31 : Fm := ⟨[(43, 48896), (0, 0), (0, 0), (0, 0), (0, 0), (0, 0)], 0, [⟨0, 0, 0, 0⟩, ⟨0, 0, 0, 0⟩, ⟨0, 0, 0, 0⟩, ⟨0, 0, 0, 0⟩], 0⟩
def row_32 : Fm := ⟨[(44, 48640), (0, 0), (0, 0), (0, 0), (0, 0), (0, 0)], 0, [⟨4, 7, 0, 0⟩, ⟨0, 0, 0, 0⟩, ⟨0, 0, 0, 0⟩, ⟨0, 0, 0, 0⟩], 0⟩
theorem rows_are : formTab = [row_0, row_1, row_2, row_3, row_4, row_5, row_6, row_7, row_8, row_9, row_10, row_11, row_12, row_13, row_14, row_15, row_16, row_17, row_18, row_19, row_20, row_21, row_22, row_23, row_24, row_25, row_26, row_27, row_28, row_29, row_30, row_31, row_32] := rfl
def orI (a b : Option Int) : Option Int := match a with
  | some h => some h
  | none => b
theorem orI_ite (c : Prop) [Decidable c] (S : Int) (b : Option Int) : orI (if c then some S else none) b = if c then some S else b := by split <;> rfl
theorem orI_none (a : Option Int) : orI a none = a := by cases a <;> rfl
def searchC (has cond rd rn rm imm list : Int) : List (Fm × Int) → Option Int
  | [] => none
  | c :: r => if bits .andNot .i64 c.1.asks has = 0 then orI (fillP c.1 c.2 cond rd rn rm imm list) (searchC has cond rd rn rm imm list r) else searchC has cond rd rn rm imm list r
def candsOf (op : Int) (f : Fm) : List (Fm × Int) := (f.of_.filter fun b => b.1 == op).map fun b => (f, b.2)
def cands (op : Int) : List (Fm × Int) := formTab.flatMap (candsOf op)
theorem inner_c (has op cond rd rn rm imm list : Int) (f : Fm) (rest : List (Fm × Int)) (h0 : bits .andNot .i64 f.asks has = 0) : ∀ l : List (Int × Int),
    searchC has cond rd rn rm imm list (((l.filter fun b => b.1 == op).map fun b => (f, b.2)) ++ rest) = orI (innerP f op cond rd rn rm imm list l) (searchC has cond rd rn rm imm list rest)
  | [] => rfl
  | b :: l => by
    have ih := inner_c has op cond rd rn rm imm list f rest h0 l
    unfold innerP
    by_cases hb : b.1 = op
    · have hB : (b.1 == op) = true := by simp [hb]
      rw [List.filter_cons, if_pos hB, if_pos hb, List.map_cons, List.cons_append]
      show (if bits .andNot .i64 f.asks has = 0 then orI (fillP f b.2 cond rd rn rm imm list) (searchC has cond rd rn rm imm list _) else _) = _
      rw [if_pos h0, ih]
      cases fillP f b.2 cond rd rn rm imm list <;> rfl
    · have hB : ¬ ((b.1 == op) = true) := by simp [hb]
      rw [List.filter_cons, if_neg hB, if_neg hb]
      exact ih
theorem skip_c (has cond rd rn rm imm list : Int) (f : Fm) (rest : List (Fm × Int)) (h0 : ¬ bits .andNot .i64 f.asks has = 0) : ∀ l : List Int, searchC has cond rd rn rm imm list ((l.map fun b => (f, b)) ++ rest) = searchC has cond rd rn rm imm list rest
  | [] => rfl
  | b :: l => by
    rw [List.map_cons, List.cons_append]
    show (if bits .andNot .i64 f.asks has = 0 then _ else _) = _
    rw [if_neg h0]
    exact skip_c has cond rd rn rm imm list f rest h0 l
theorem search_c (has op cond rd rn rm imm list : Int) : ∀ l : List Fm, searchP has op cond rd rn rm imm list l = searchC has cond rd rn rm imm list (l.flatMap (candsOf op))
  | [] => rfl
  | f :: l => by
    have ih := search_c has op cond rd rn rm imm list l
    unfold searchP
    rw [List.flatMap_cons]
    by_cases h0 : bits .andNot .i64 f.asks has = 0
    · rw [if_pos h0]
      unfold candsOf
      rw [inner_c has op cond rd rn rm imm list f _ h0, ih]
      cases innerP f op cond rd rn rm imm list f.of_ <;> rfl
    · rw [if_neg h0, ih]
      unfold candsOf
      have := skip_c has cond rd rn rm imm list f (l.flatMap (candsOf op)) h0 ((f.of_.filter fun b => b.1 == op).map fun b => b.2)
      rw [List.map_map] at this
      exact this.symm
theorem z7_iff (x0 x1 x2 x3 x4 x5 x6 : Int) : (z7 x0 x1 x2 x3 x4 x5 x6 = true) = (x0 = 0 ∧ x1 = 0 ∧ x2 = 0 ∧ x3 = 0 ∧ x4 = 0 ∧ x5 = 0 ∧ x6 = 0) := by
  unfold z7
  simp only [Bool.and_eq_true, beq_iff_eq]
theorem fields_fw (cond rd rn rm imm list : Int) (hd0 : 0 ≤ rd) (hd1 : rd ≤ 15) (hn0 : 0 ≤ rn) (hn1 : rn ≤ 15) (hm0 : 0 ≤ rm) (hm1 : rm ≤ 15) (hl0 : 0 ≤ list) (hl1 : list ≤ 65535) (hc0 : 0 ≤ cond) (hc1 : cond ≤ 15) :
    fieldsF cond rd rn rm imm list = fw 0 rd rn rm (imm % 4294967296) list cond := by
  funext j
  unfold fieldsF fw
  rw [show rd % 4294967296 = rd by omega, show rn % 4294967296 = rn by omega, show rm % 4294967296 = rm by omega, show list % 4294967296 = list by omega, show cond % 4294967296 = cond by omega]
  by_cases h0 : j = 0
  · subst h0; rfl
  · simp only [if_neg h0]
theorem fits0 (imm : Int) : fitsB 0 imm = false := by unfold fitsB; simp
theorem zero_fw (a0 a1 a2 a3 a4 a5 a6 : Int) : zeroL (fw a0 a1 a2 a3 a4 a5 a6) = z7 a0 a1 a2 a3 a4 a5 a6 := rfl
theorem zero_fw4 (a0 a1 a2 a3 a4 a5 a6 : Int) : zeroL (fun j => if j = 4 then 0 else fw a0 a1 a2 a3 a4 a5 a6 j) = z7 a0 a1 a2 a3 0 a5 a6 := rfl

theorem fill_0_0 (cond rd rn rm imm list x : Int) (hx : imm % 4294967296 = x) (hd0 : 0 ≤ rd) (hd1 : rd ≤ 15) (hn0 : 0 ≤ rn) (hn1 : rn ≤ 15) (hm0 : 0 ≤ rm) (hm1 : rm ≤ 15) (hl0 : 0 ≤ list) (hl1 : list ≤ 65535) (hc0 : 0 ≤ cond) (hc1 : cond ≤ 15) :
    fillP row_0 16384 cond rd rn rm imm list = if z7 (0) (rd - rd / 1 % 8 * 1) (rn - rn / 1 % 8 * 1) (rm - rm / 1 % 8 * 1) (x) (list) (cond) = true then some (16384 + rm / 1 % 8 * 8 + rd / 1 % 8 * 1) else none := by
  have hx0 : 0 ≤ x := by omega
  have hx1 : x < 4294967296 := by omega
  unfold fillP foldP
  rw [fields_fw cond rd rn rm imm list hd0 hd1 hn0 hn1 hm0 hm1 hl0 hl1 hc0 hc1, hx]
  have e : row_0.pcs.foldl pcStep (16384, fw 0 rd rn rm x list cond) = (16384 + rm / 1 % 8 * 8 + rd / 1 % 8 * 1, fw (0) (rd - rd / 1 % 8 * 1) (rn - rn / 1 % 8 * 1) (rm - rm / 1 % 8 * 1) (x) (list) (cond)) := by
    show List.foldl pcStep _ [⟨3, 2, 0, 3⟩, ⟨1, 2, 0, 0⟩, ⟨2, 2, 0, 32⟩, ⟨0, 0, 0, 0⟩] = _
    rw [List.foldl_cons, (ps_3_2_0_3 (16384) (0) (rd) (rn) (rm) (x) (list) (cond) (by omega) (by omega) (by omega) (by omega) (by omega)), List.foldl_cons, (ps_1_2_0_0 (16384 + rm / 1 % 8 * 8) (0) (rd) (rn) (rm - rm / 1 % 8 * 1) (x) (list) (cond) (by omega) (by omega) (by omega) (by omega) (by omega)), List.foldl_cons, (ps_2_2_0_32 (16384 + rm / 1 % 8 * 8 + rd / 1 % 8 * 1) (0) (rd - rd / 1 % 8 * 1) (rn) (rm - rm / 1 % 8 * 1) (x) (list) (cond) (by omega) (by omega) (by omega) (by omega)), List.foldl_cons, (ps_none (16384 + rm / 1 % 8 * 8 + rd / 1 % 8 * 1) (rd - rd / 1 % 8 * 1) (rn - rn / 1 % 8 * 1) (rm - rm / 1 % 8 * 1) (x) (list) (cond) (by omega) (by omega)), List.foldl_nil]
  rw [e]
  show fillEnd _ _ 0 imm = _
  unfold fillEnd
  rw [fits0, zero_fw]
  rfl
theorem fill_0_1 (cond rd rn rm imm list x : Int) (hx : imm % 4294967296 = x) (hd0 : 0 ≤ rd) (hd1 : rd ≤ 15) (hn0 : 0 ≤ rn) (hn1 : rn ≤ 15) (hm0 : 0 ≤ rm) (hm1 : rm ≤ 15) (hl0 : 0 ≤ list) (hl1 : list ≤ 65535) (hc0 : 0 ≤ cond) (hc1 : cond ≤ 15) :
    fillP row_0 16448 cond rd rn rm imm list = if z7 (0) (rd - rd / 1 % 8 * 1) (rn - rn / 1 % 8 * 1) (rm - rm / 1 % 8 * 1) (x) (list) (cond) = true then some (16448 + rm / 1 % 8 * 8 + rd / 1 % 8 * 1) else none := by
  have hx0 : 0 ≤ x := by omega
  have hx1 : x < 4294967296 := by omega
  unfold fillP foldP
  rw [fields_fw cond rd rn rm imm list hd0 hd1 hn0 hn1 hm0 hm1 hl0 hl1 hc0 hc1, hx]
  have e : row_0.pcs.foldl pcStep (16448, fw 0 rd rn rm x list cond) = (16448 + rm / 1 % 8 * 8 + rd / 1 % 8 * 1, fw (0) (rd - rd / 1 % 8 * 1) (rn - rn / 1 % 8 * 1) (rm - rm / 1 % 8 * 1) (x) (list) (cond)) := by
    show List.foldl pcStep _ [⟨3, 2, 0, 3⟩, ⟨1, 2, 0, 0⟩, ⟨2, 2, 0, 32⟩, ⟨0, 0, 0, 0⟩] = _
    rw [List.foldl_cons, (ps_3_2_0_3 (16448) (0) (rd) (rn) (rm) (x) (list) (cond) (by omega) (by omega) (by omega) (by omega) (by omega)), List.foldl_cons, (ps_1_2_0_0 (16448 + rm / 1 % 8 * 8) (0) (rd) (rn) (rm - rm / 1 % 8 * 1) (x) (list) (cond) (by omega) (by omega) (by omega) (by omega) (by omega)), List.foldl_cons, (ps_2_2_0_32 (16448 + rm / 1 % 8 * 8 + rd / 1 % 8 * 1) (0) (rd - rd / 1 % 8 * 1) (rn) (rm - rm / 1 % 8 * 1) (x) (list) (cond) (by omega) (by omega) (by omega) (by omega)), List.foldl_cons, (ps_none (16448 + rm / 1 % 8 * 8 + rd / 1 % 8 * 1) (rd - rd / 1 % 8 * 1) (rn - rn / 1 % 8 * 1) (rm - rm / 1 % 8 * 1) (x) (list) (cond) (by omega) (by omega)), List.foldl_nil]
  rw [e]
  show fillEnd _ _ 0 imm = _
  unfold fillEnd
  rw [fits0, zero_fw]
  rfl
theorem fill_0_2 (cond rd rn rm imm list x : Int) (hx : imm % 4294967296 = x) (hd0 : 0 ≤ rd) (hd1 : rd ≤ 15) (hn0 : 0 ≤ rn) (hn1 : rn ≤ 15) (hm0 : 0 ≤ rm) (hm1 : rm ≤ 15) (hl0 : 0 ≤ list) (hl1 : list ≤ 65535) (hc0 : 0 ≤ cond) (hc1 : cond ≤ 15) :
    fillP row_0 16704 cond rd rn rm imm list = if z7 (0) (rd - rd / 1 % 8 * 1) (rn - rn / 1 % 8 * 1) (rm - rm / 1 % 8 * 1) (x) (list) (cond) = true then some (16704 + rm / 1 % 8 * 8 + rd / 1 % 8 * 1) else none := by
  have hx0 : 0 ≤ x := by omega
  have hx1 : x < 4294967296 := by omega
  unfold fillP foldP
  rw [fields_fw cond rd rn rm imm list hd0 hd1 hn0 hn1 hm0 hm1 hl0 hl1 hc0 hc1, hx]
  have e : row_0.pcs.foldl pcStep (16704, fw 0 rd rn rm x list cond) = (16704 + rm / 1 % 8 * 8 + rd / 1 % 8 * 1, fw (0) (rd - rd / 1 % 8 * 1) (rn - rn / 1 % 8 * 1) (rm - rm / 1 % 8 * 1) (x) (list) (cond)) := by
    show List.foldl pcStep _ [⟨3, 2, 0, 3⟩, ⟨1, 2, 0, 0⟩, ⟨2, 2, 0, 32⟩, ⟨0, 0, 0, 0⟩] = _
    rw [List.foldl_cons, (ps_3_2_0_3 (16704) (0) (rd) (rn) (rm) (x) (list) (cond) (by omega) (by omega) (by omega) (by omega) (by omega)), List.foldl_cons, (ps_1_2_0_0 (16704 + rm / 1 % 8 * 8) (0) (rd) (rn) (rm - rm / 1 % 8 * 1) (x) (list) (cond) (by omega) (by omega) (by omega) (by omega) (by omega)), List.foldl_cons, (ps_2_2_0_32 (16704 + rm / 1 % 8 * 8 + rd / 1 % 8 * 1) (0) (rd - rd / 1 % 8 * 1) (rn) (rm - rm / 1 % 8 * 1) (x) (list) (cond) (by omega) (by omega) (by omega) (by omega)), List.foldl_cons, (ps_none (16704 + rm / 1 % 8 * 8 + rd / 1 % 8 * 1) (rd - rd / 1 % 8 * 1) (rn - rn / 1 % 8 * 1) (rm - rm / 1 % 8 * 1) (x) (list) (cond) (by omega) (by omega)), List.foldl_nil]
  rw [e]
  show fillEnd _ _ 0 imm = _
  unfold fillEnd
  rw [fits0, zero_fw]
  rfl
theorem fill_0_3 (cond rd rn rm imm list x : Int) (hx : imm % 4294967296 = x) (hd0 : 0 ≤ rd) (hd1 : rd ≤ 15) (hn0 : 0 ≤ rn) (hn1 : rn ≤ 15) (hm0 : 0 ≤ rm) (hm1 : rm ≤ 15) (hl0 : 0 ≤ list) (hl1 : list ≤ 65535) (hc0 : 0 ≤ cond) (hc1 : cond ≤ 15) :
    fillP row_0 16768 cond rd rn rm imm list = if z7 (0) (rd - rd / 1 % 8 * 1) (rn - rn / 1 % 8 * 1) (rm - rm / 1 % 8 * 1) (x) (list) (cond) = true then some (16768 + rm / 1 % 8 * 8 + rd / 1 % 8 * 1) else none := by
  have hx0 : 0 ≤ x := by omega
  have hx1 : x < 4294967296 := by omega
  unfold fillP foldP
  rw [fields_fw cond rd rn rm imm list hd0 hd1 hn0 hn1 hm0 hm1 hl0 hl1 hc0 hc1, hx]
  have e : row_0.pcs.foldl pcStep (16768, fw 0 rd rn rm x list cond) = (16768 + rm / 1 % 8 * 8 + rd / 1 % 8 * 1, fw (0) (rd - rd / 1 % 8 * 1) (rn - rn / 1 % 8 * 1) (rm - rm / 1 % 8 * 1) (x) (list) (cond)) := by
    show List.foldl pcStep _ [⟨3, 2, 0, 3⟩, ⟨1, 2, 0, 0⟩, ⟨2, 2, 0, 32⟩, ⟨0, 0, 0, 0⟩] = _
    rw [List.foldl_cons, (ps_3_2_0_3 (16768) (0) (rd) (rn) (rm) (x) (list) (cond) (by omega) (by omega) (by omega) (by omega) (by omega)), List.foldl_cons, (ps_1_2_0_0 (16768 + rm / 1 % 8 * 8) (0) (rd) (rn) (rm - rm / 1 % 8 * 1) (x) (list) (cond) (by omega) (by omega) (by omega) (by omega) (by omega)), List.foldl_cons, (ps_2_2_0_32 (16768 + rm / 1 % 8 * 8 + rd / 1 % 8 * 1) (0) (rd - rd / 1 % 8 * 1) (rn) (rm - rm / 1 % 8 * 1) (x) (list) (cond) (by omega) (by omega) (by omega) (by omega)), List.foldl_cons, (ps_none (16768 + rm / 1 % 8 * 8 + rd / 1 % 8 * 1) (rd - rd / 1 % 8 * 1) (rn - rn / 1 % 8 * 1) (rm - rm / 1 % 8 * 1) (x) (list) (cond) (by omega) (by omega)), List.foldl_nil]
  rw [e]
  show fillEnd _ _ 0 imm = _
  unfold fillEnd
  rw [fits0, zero_fw]
  rfl
theorem fill_0_4 (cond rd rn rm imm list x : Int) (hx : imm % 4294967296 = x) (hd0 : 0 ≤ rd) (hd1 : rd ≤ 15) (hn0 : 0 ≤ rn) (hn1 : rn ≤ 15) (hm0 : 0 ≤ rm) (hm1 : rm ≤ 15) (hl0 : 0 ≤ list) (hl1 : list ≤ 65535) (hc0 : 0 ≤ cond) (hc1 : cond ≤ 15) :
    fillP row_0 17152 cond rd rn rm imm list = if z7 (0) (rd - rd / 1 % 8 * 1) (rn - rn / 1 % 8 * 1) (rm - rm / 1 % 8 * 1) (x) (list) (cond) = true then some (17152 + rm / 1 % 8 * 8 + rd / 1 % 8 * 1) else none := by
  have hx0 : 0 ≤ x := by omega
  have hx1 : x < 4294967296 := by omega
  unfold fillP foldP
  rw [fields_fw cond rd rn rm imm list hd0 hd1 hn0 hn1 hm0 hm1 hl0 hl1 hc0 hc1, hx]
  have e : row_0.pcs.foldl pcStep (17152, fw 0 rd rn rm x list cond) = (17152 + rm / 1 % 8 * 8 + rd / 1 % 8 * 1, fw (0) (rd - rd / 1 % 8 * 1) (rn - rn / 1 % 8 * 1) (rm - rm / 1 % 8 * 1) (x) (list) (cond)) := by
    show List.foldl pcStep _ [⟨3, 2, 0, 3⟩, ⟨1, 2, 0, 0⟩, ⟨2, 2, 0, 32⟩, ⟨0, 0, 0, 0⟩] = _
    rw [List.foldl_cons, (ps_3_2_0_3 (17152) (0) (rd) (rn) (rm) (x) (list) (cond) (by omega) (by omega) (by omega) (by omega) (by omega)), List.foldl_cons, (ps_1_2_0_0 (17152 + rm / 1 % 8 * 8) (0) (rd) (rn) (rm - rm / 1 % 8 * 1) (x) (list) (cond) (by omega) (by omega) (by omega) (by omega) (by omega)), List.foldl_cons, (ps_2_2_0_32 (17152 + rm / 1 % 8 * 8 + rd / 1 % 8 * 1) (0) (rd - rd / 1 % 8 * 1) (rn) (rm - rm / 1 % 8 * 1) (x) (list) (cond) (by omega) (by omega) (by omega) (by omega)), List.foldl_cons, (ps_none (17152 + rm / 1 % 8 * 8 + rd / 1 % 8 * 1) (rd - rd / 1 % 8 * 1) (rn - rn / 1 % 8 * 1) (rm - rm / 1 % 8 * 1) (x) (list) (cond) (by omega) (by omega)), List.foldl_nil]
  rw [e]
  show fillEnd _ _ 0 imm = _
  unfold fillEnd
  rw [fits0, zero_fw]
  rfl
theorem fill_0_5 (cond rd rn rm imm list x : Int) (hx : imm % 4294967296 = x) (hd0 : 0 ≤ rd) (hd1 : rd ≤ 15) (hn0 : 0 ≤ rn) (hn1 : rn ≤ 15) (hm0 : 0 ≤ rm) (hm1 : rm ≤ 15) (hl0 : 0 ≤ list) (hl1 : list ≤ 65535) (hc0 : 0 ≤ cond) (hc1 : cond ≤ 15) :
    fillP row_0 17280 cond rd rn rm imm list = if z7 (0) (rd - rd / 1 % 8 * 1) (rn - rn / 1 % 8 * 1) (rm - rm / 1 % 8 * 1) (x) (list) (cond) = true then some (17280 + rm / 1 % 8 * 8 + rd / 1 % 8 * 1) else none := by
  have hx0 : 0 ≤ x := by omega
  have hx1 : x < 4294967296 := by omega
  unfold fillP foldP
  rw [fields_fw cond rd rn rm imm list hd0 hd1 hn0 hn1 hm0 hm1 hl0 hl1 hc0 hc1, hx]
  have e : row_0.pcs.foldl pcStep (17280, fw 0 rd rn rm x list cond) = (17280 + rm / 1 % 8 * 8 + rd / 1 % 8 * 1, fw (0) (rd - rd / 1 % 8 * 1) (rn - rn / 1 % 8 * 1) (rm - rm / 1 % 8 * 1) (x) (list) (cond)) := by
    show List.foldl pcStep _ [⟨3, 2, 0, 3⟩, ⟨1, 2, 0, 0⟩, ⟨2, 2, 0, 32⟩, ⟨0, 0, 0, 0⟩] = _
    rw [List.foldl_cons, (ps_3_2_0_3 (17280) (0) (rd) (rn) (rm) (x) (list) (cond) (by omega) (by omega) (by omega) (by omega) (by omega)), List.foldl_cons, (ps_1_2_0_0 (17280 + rm / 1 % 8 * 8) (0) (rd) (rn) (rm - rm / 1 % 8 * 1) (x) (list) (cond) (by omega) (by omega) (by omega) (by omega) (by omega)), List.foldl_cons, (ps_2_2_0_32 (17280 + rm / 1 % 8 * 8 + rd / 1 % 8 * 1) (0) (rd - rd / 1 % 8 * 1) (rn) (rm - rm / 1 % 8 * 1) (x) (list) (cond) (by omega) (by omega) (by omega) (by omega)), List.foldl_cons, (ps_none (17280 + rm / 1 % 8 * 8 + rd / 1 % 8 * 1) (rd - rd / 1 % 8 * 1) (rn - rn / 1 % 8 * 1) (rm - rm / 1 % 8 * 1) (x) (list) (cond) (by omega) (by omega)), List.foldl_nil]
  rw [e]
  show fillEnd _ _ 0 imm = _
  unfold fillEnd
  rw [fits0, zero_fw]
  rfl
theorem fill_1_0 (cond rd rn rm imm list x : Int) (hx : imm % 4294967296 = x) (hd0 : 0 ≤ rd) (hd1 : rd ≤ 15) (hn0 : 0 ≤ rn) (hn1 : rn ≤ 15) (hm0 : 0 ≤ rm) (hm1 : rm ≤ 15) (hl0 : 0 ≤ list) (hl1 : list ≤ 65535) (hc0 : 0 ≤ cond) (hc1 : cond ≤ 15) :
    fillP row_1 16960 cond rd rn rm imm list = if z7 (0) (rd - rd / 1 % 8 * 1) (rn - rn / 1 % 8 * 1) (rm) (x) (list) (cond) = true then some (16960 + rn / 1 % 8 * 8 + rd / 1 % 8 * 1) else none := by
  have hx0 : 0 ≤ x := by omega
  have hx1 : x < 4294967296 := by omega
  unfold fillP foldP
  rw [fields_fw cond rd rn rm imm list hd0 hd1 hn0 hn1 hm0 hm1 hl0 hl1 hc0 hc1, hx]
  have e : row_1.pcs.foldl pcStep (16960, fw 0 rd rn rm x list cond) = (16960 + rn / 1 % 8 * 8 + rd / 1 % 8 * 1, fw (0) (rd - rd / 1 % 8 * 1) (rn - rn / 1 % 8 * 1) (rm) (x) (list) (cond)) := by
    show List.foldl pcStep _ [⟨2, 2, 0, 3⟩, ⟨1, 2, 0, 0⟩, ⟨0, 0, 0, 0⟩, ⟨0, 0, 0, 0⟩] = _
    rw [List.foldl_cons, (ps_2_2_0_3 (16960) (0) (rd) (rn) (rm) (x) (list) (cond) (by omega) (by omega) (by omega) (by omega) (by omega)), List.foldl_cons, (ps_1_2_0_0 (16960 + rn / 1 % 8 * 8) (0) (rd) (rn - rn / 1 % 8 * 1) (rm) (x) (list) (cond) (by omega) (by omega) (by omega) (by omega) (by omega)), List.foldl_cons, (ps_none (16960 + rn / 1 % 8 * 8 + rd / 1 % 8 * 1) (rd - rd / 1 % 8 * 1) (rn - rn / 1 % 8 * 1) (rm) (x) (list) (cond) (by omega) (by omega)), List.foldl_cons, (ps_none (16960 + rn / 1 % 8 * 8 + rd / 1 % 8 * 1) (rd - rd / 1 % 8 * 1) (rn - rn / 1 % 8 * 1) (rm) (x) (list) (cond) (by omega) (by omega)), List.foldl_nil]
  rw [e]
  show fillEnd _ _ 0 imm = _
  unfold fillEnd
  rw [fits0, zero_fw]
  rfl
theorem fill_2_0 (cond rd rn rm imm list x : Int) (hx : imm % 4294967296 = x) (hd0 : 0 ≤ rd) (hd1 : rd ≤ 15) (hn0 : 0 ≤ rn) (hn1 : rn ≤ 15) (hm0 : 0 ≤ rm) (hm1 : rm ≤ 15) (hl0 : 0 ≤ list) (hl1 : list ≤ 65535) (hc0 : 0 ≤ cond) (hc1 : cond ≤ 15) :
    fillP row_2 17344 cond rd rn rm imm list = if z7 (0) (rd - rd / 1 % 8 * 1) (rn) (rm - rm / 1 % 8 * 1) (x) (list) (cond) = true then some (17344 + rm / 1 % 8 * 8 + rd / 1 % 8 * 1) else none := by
  have hx0 : 0 ≤ x := by omega
  have hx1 : x < 4294967296 := by omega
  unfold fillP foldP
  rw [fields_fw cond rd rn rm imm list hd0 hd1 hn0 hn1 hm0 hm1 hl0 hl1 hc0 hc1, hx]
  have e : row_2.pcs.foldl pcStep (17344, fw 0 rd rn rm x list cond) = (17344 + rm / 1 % 8 * 8 + rd / 1 % 8 * 1, fw (0) (rd - rd / 1 % 8 * 1) (rn) (rm - rm / 1 % 8 * 1) (x) (list) (cond)) := by
    show List.foldl pcStep _ [⟨3, 2, 0, 3⟩, ⟨1, 2, 0, 0⟩, ⟨0, 0, 0, 0⟩, ⟨0, 0, 0, 0⟩] = _
    rw [List.foldl_cons, (ps_3_2_0_3 (17344) (0) (rd) (rn) (rm) (x) (list) (cond) (by omega) (by omega) (by omega) (by omega) (by omega)), List.foldl_cons, (ps_1_2_0_0 (17344 + rm / 1 % 8 * 8) (0) (rd) (rn) (rm - rm / 1 % 8 * 1) (x) (list) (cond) (by omega) (by omega) (by omega) (by omega) (by omega)), List.foldl_cons, (ps_none (17344 + rm / 1 % 8 * 8 + rd / 1 % 8 * 1) (rd - rd / 1 % 8 * 1) (rn) (rm - rm / 1 % 8 * 1) (x) (list) (cond) (by omega) (by omega)), List.foldl_cons, (ps_none (17344 + rm / 1 % 8 * 8 + rd / 1 % 8 * 1) (rd - rd / 1 % 8 * 1) (rn) (rm - rm / 1 % 8 * 1) (x) (list) (cond) (by omega) (by omega)), List.foldl_nil]
  rw [e]
  show fillEnd _ _ 0 imm = _
  unfold fillEnd
  rw [fits0, zero_fw]
  rfl
theorem fill_3_0 (cond rd rn rm imm list x : Int) (hx : imm % 4294967296 = x) (hd0 : 0 ≤ rd) (hd1 : rd ≤ 15) (hn0 : 0 ≤ rn) (hn1 : rn ≤ 15) (hm0 : 0 ≤ rm) (hm1 : rm ≤ 15) (hl0 : 0 ≤ list) (hl1 : list ≤ 65535) (hc0 : 0 ≤ cond) (hc1 : cond ≤ 15) :
    fillP row_3 17216 cond rd rn rm imm list = if z7 (0) (rd - rd / 1 % 8 * 1) (rn - rn / 1 % 8 * 1) (rm - rm / 1 % 8 * 1) (x) (list) (cond) = true then some (17216 + rn / 1 % 8 * 8 + rd / 1 % 8 * 1) else none := by
  have hx0 : 0 ≤ x := by omega
  have hx1 : x < 4294967296 := by omega
  unfold fillP foldP
  rw [fields_fw cond rd rn rm imm list hd0 hd1 hn0 hn1 hm0 hm1 hl0 hl1 hc0 hc1, hx]
  have e : row_3.pcs.foldl pcStep (17216, fw 0 rd rn rm x list cond) = (17216 + rn / 1 % 8 * 8 + rd / 1 % 8 * 1, fw (0) (rd - rd / 1 % 8 * 1) (rn - rn / 1 % 8 * 1) (rm - rm / 1 % 8 * 1) (x) (list) (cond)) := by
    show List.foldl pcStep _ [⟨2, 2, 0, 3⟩, ⟨1, 2, 0, 0⟩, ⟨3, 2, 0, 32⟩, ⟨0, 0, 0, 0⟩] = _
    rw [List.foldl_cons, (ps_2_2_0_3 (17216) (0) (rd) (rn) (rm) (x) (list) (cond) (by omega) (by omega) (by omega) (by omega) (by omega)), List.foldl_cons, (ps_1_2_0_0 (17216 + rn / 1 % 8 * 8) (0) (rd) (rn - rn / 1 % 8 * 1) (rm) (x) (list) (cond) (by omega) (by omega) (by omega) (by omega) (by omega)), List.foldl_cons, (ps_3_2_0_32 (17216 + rn / 1 % 8 * 8 + rd / 1 % 8 * 1) (0) (rd - rd / 1 % 8 * 1) (rn - rn / 1 % 8 * 1) (rm) (x) (list) (cond) (by omega) (by omega) (by omega) (by omega)), List.foldl_cons, (ps_none (17216 + rn / 1 % 8 * 8 + rd / 1 % 8 * 1) (rd - rd / 1 % 8 * 1) (rn - rn / 1 % 8 * 1) (rm - rm / 1 % 8 * 1) (x) (list) (cond) (by omega) (by omega)), List.foldl_nil]
  rw [e]
  show fillEnd _ _ 0 imm = _
  unfold fillEnd
  rw [fits0, zero_fw]
  rfl
theorem fill_4_0 (cond rd rn rm imm list x : Int) (hx : imm % 4294967296 = x) (hd0 : 0 ≤ rd) (hd1 : rd ≤ 15) (hn0 : 0 ≤ rn) (hn1 : rn ≤ 15) (hm0 : 0 ≤ rm) (hm1 : rm ≤ 15) (hl0 : 0 ≤ list) (hl1 : list ≤ 65535) (hc0 : 0 ≤ cond) (hc1 : cond ≤ 15) :
    fillP row_4 16896 cond rd rn rm imm list = if z7 (0) (rd) (rn - rn / 1 % 8 * 1) (rm - rm / 1 % 8 * 1) (x) (list) (cond) = true then some (16896 + rm / 1 % 8 * 8 + rn / 1 % 8 * 1) else none := by
  have hx0 : 0 ≤ x := by omega
  have hx1 : x < 4294967296 := by omega
  unfold fillP foldP
  rw [fields_fw cond rd rn rm imm list hd0 hd1 hn0 hn1 hm0 hm1 hl0 hl1 hc0 hc1, hx]
  have e : row_4.pcs.foldl pcStep (16896, fw 0 rd rn rm x list cond) = (16896 + rm / 1 % 8 * 8 + rn / 1 % 8 * 1, fw (0) (rd) (rn - rn / 1 % 8 * 1) (rm - rm / 1 % 8 * 1) (x) (list) (cond)) := by
    show List.foldl pcStep _ [⟨3, 2, 0, 3⟩, ⟨2, 2, 0, 0⟩, ⟨0, 0, 0, 0⟩, ⟨0, 0, 0, 0⟩] = _
    rw [List.foldl_cons, (ps_3_2_0_3 (16896) (0) (rd) (rn) (rm) (x) (list) (cond) (by omega) (by omega) (by omega) (by omega) (by omega)), List.foldl_cons, (ps_2_2_0_0 (16896 + rm / 1 % 8 * 8) (0) (rd) (rn) (rm - rm / 1 % 8 * 1) (x) (list) (cond) (by omega) (by omega) (by omega) (by omega) (by omega)), List.foldl_cons, (ps_none (16896 + rm / 1 % 8 * 8 + rn / 1 % 8 * 1) (rd) (rn - rn / 1 % 8 * 1) (rm - rm / 1 % 8 * 1) (x) (list) (cond) (by omega) (by omega)), List.foldl_cons, (ps_none (16896 + rm / 1 % 8 * 8 + rn / 1 % 8 * 1) (rd) (rn - rn / 1 % 8 * 1) (rm - rm / 1 % 8 * 1) (x) (list) (cond) (by omega) (by omega)), List.foldl_nil]
  rw [e]
  show fillEnd _ _ 0 imm = _
  unfold fillEnd
  rw [fits0, zero_fw]
  rfl
theorem fill_4_1 (cond rd rn rm imm list x : Int) (hx : imm % 4294967296 = x) (hd0 : 0 ≤ rd) (hd1 : rd ≤ 15) (hn0 : 0 ≤ rn) (hn1 : rn ≤ 15) (hm0 : 0 ≤ rm) (hm1 : rm ≤ 15) (hl0 : 0 ≤ list) (hl1 : list ≤ 65535) (hc0 : 0 ≤ cond) (hc1 : cond ≤ 15) :
    fillP row_4 17088 cond rd rn rm imm list = if z7 (0) (rd) (rn - rn / 1 % 8 * 1) (rm - rm / 1 % 8 * 1) (x) (list) (cond) = true then some (17088 + rm / 1 % 8 * 8 + rn / 1 % 8 * 1) else none := by
  have hx0 : 0 ≤ x := by omega
  have hx1 : x < 4294967296 := by omega
  unfold fillP foldP
  rw [fields_fw cond rd rn rm imm list hd0 hd1 hn0 hn1 hm0 hm1 hl0 hl1 hc0 hc1, hx]
  have e : row_4.pcs.foldl pcStep (17088, fw 0 rd rn rm x list cond) = (17088 + rm / 1 % 8 * 8 + rn / 1 % 8 * 1, fw (0) (rd) (rn - rn / 1 % 8 * 1) (rm - rm / 1 % 8 * 1) (x) (list) (cond)) := by
    show List.foldl pcStep _ [⟨3, 2, 0, 3⟩, ⟨2, 2, 0, 0⟩, ⟨0, 0, 0, 0⟩, ⟨0, 0, 0, 0⟩] = _
    rw [List.foldl_cons, (ps_3_2_0_3 (17088) (0) (rd) (rn) (rm) (x) (list) (cond) (by omega) (by omega) (by omega) (by omega) (by omega)), List.foldl_cons, (ps_2_2_0_0 (17088 + rm / 1 % 8 * 8) (0) (rd) (rn) (rm - rm / 1 % 8 * 1) (x) (list) (cond) (by omega) (by omega) (by omega) (by omega) (by omega)), List.foldl_cons, (ps_none (17088 + rm / 1 % 8 * 8 + rn / 1 % 8 * 1) (rd) (rn - rn / 1 % 8 * 1) (rm - rm / 1 % 8 * 1) (x) (list) (cond) (by omega) (by omega)), List.foldl_cons, (ps_none (17088 + rm / 1 % 8 * 8 + rn / 1 % 8 * 1) (rd) (rn - rn / 1 % 8 * 1) (rm - rm / 1 % 8 * 1) (x) (list) (cond) (by omega) (by omega)), List.foldl_nil]
  rw [e]
  show fillEnd _ _ 0 imm = _
  unfold fillEnd
  rw [fits0, zero_fw]
  rfl
theorem fill_5_0 (cond rd rn rm imm list x : Int) (hx : imm % 4294967296 = x) (hd0 : 0 ≤ rd) (hd1 : rd ≤ 15) (hn0 : 0 ≤ rn) (hn1 : rn ≤ 15) (hm0 : 0 ≤ rm) (hm1 : rm ≤ 15) (hl0 : 0 ≤ list) (hl1 : list ≤ 65535) (hc0 : 0 ≤ cond) (hc1 : cond ≤ 15) :
    fillP row_5 17024 cond rd rn rm imm list = if z7 (0) (rd) (rn - rn / 1 % 8 * 1) (rm - rm / 1 % 8 * 1) (x) (list) (cond) = true then some (17024 + rm / 1 % 8 * 8 + rn / 1 % 8 * 1) else none := by
  have hx0 : 0 ≤ x := by omega
  have hx1 : x < 4294967296 := by omega
  unfold fillP foldP
  rw [fields_fw cond rd rn rm imm list hd0 hd1 hn0 hn1 hm0 hm1 hl0 hl1 hc0 hc1, hx]
  have e : row_5.pcs.foldl pcStep (17024, fw 0 rd rn rm x list cond) = (17024 + rm / 1 % 8 * 8 + rn / 1 % 8 * 1, fw (0) (rd) (rn - rn / 1 % 8 * 1) (rm - rm / 1 % 8 * 1) (x) (list) (cond)) := by
    show List.foldl pcStep _ [⟨3, 2, 0, 3⟩, ⟨2, 2, 0, 0⟩, ⟨0, 0, 0, 0⟩, ⟨0, 0, 0, 0⟩] = _
    rw [List.foldl_cons, (ps_3_2_0_3 (17024) (0) (rd) (rn) (rm) (x) (list) (cond) (by omega) (by omega) (by omega) (by omega) (by omega)), List.foldl_cons, (ps_2_2_0_0 (17024 + rm / 1 % 8 * 8) (0) (rd) (rn) (rm - rm / 1 % 8 * 1) (x) (list) (cond) (by omega) (by omega) (by omega) (by omega) (by omega)), List.foldl_cons, (ps_none (17024 + rm / 1 % 8 * 8 + rn / 1 % 8 * 1) (rd) (rn - rn / 1 % 8 * 1) (rm - rm / 1 % 8 * 1) (x) (list) (cond) (by omega) (by omega)), List.foldl_cons, (ps_none (17024 + rm / 1 % 8 * 8 + rn / 1 % 8 * 1) (rd) (rn - rn / 1 % 8 * 1) (rm - rm / 1 % 8 * 1) (x) (list) (cond) (by omega) (by omega)), List.foldl_nil]
  rw [e]
  show fillEnd _ _ 0 imm = _
  unfold fillEnd
  rw [fits0, zero_fw]
  rfl
theorem fill_6_0 (cond rd rn rm imm list x : Int) (hx : imm % 4294967296 = x) (hd0 : 0 ≤ rd) (hd1 : rd ≤ 15) (hn0 : 0 ≤ rn) (hn1 : rn ≤ 15) (hm0 : 0 ≤ rm) (hm1 : rm ≤ 15) (hl0 : 0 ≤ list) (hl1 : list ≤ 65535) (hc0 : 0 ≤ cond) (hc1 : cond ≤ 15) :
    fillP row_6 17664 cond rd rn rm imm list = if z7 (0) (rd) (rn - rn / 8 % 2 * 8 - (rn - rn / 8 % 2 * 8) / 1 % 8 * 1) (rm - rm / 1 % 16 * 1) (x) (list) (cond) = true then some (17664 + rm / 1 % 16 * 8 + rn / 8 % 2 * 128 + (rn - rn / 8 % 2 * 8) / 1 % 8 * 1) else none := by
  have hx0 : 0 ≤ x := by omega
  have hx1 : x < 4294967296 := by omega
  unfold fillP foldP
  rw [fields_fw cond rd rn rm imm list hd0 hd1 hn0 hn1 hm0 hm1 hl0 hl1 hc0 hc1, hx]
  have e : row_6.pcs.foldl pcStep (17664, fw 0 rd rn rm x list cond) = (17664 + rm / 1 % 16 * 8 + rn / 8 % 2 * 128 + (rn - rn / 8 % 2 * 8) / 1 % 8 * 1, fw (0) (rd) (rn - rn / 8 % 2 * 8 - (rn - rn / 8 % 2 * 8) / 1 % 8 * 1) (rm - rm / 1 % 16 * 1) (x) (list) (cond)) := by
    show List.foldl pcStep _ [⟨3, 3, 0, 3⟩, ⟨2, 3, 3, 7⟩, ⟨2, 2, 0, 0⟩, ⟨0, 0, 0, 0⟩] = _
    rw [List.foldl_cons, (ps_3_3_0_3 (17664) (0) (rd) (rn) (rm) (x) (list) (cond) (by omega) (by omega) (by omega) (by omega) (by omega)), List.foldl_cons, (ps_2_3_3_7 (17664 + rm / 1 % 16 * 8) (0) (rd) (rn) (rm - rm / 1 % 16 * 1) (x) (list) (cond) (by omega) (by omega) (by omega) (by omega) (by omega)), List.foldl_cons, (ps_2_2_0_0 (17664 + rm / 1 % 16 * 8 + rn / 8 % 2 * 128) (0) (rd) (rn - rn / 8 % 2 * 8) (rm - rm / 1 % 16 * 1) (x) (list) (cond) (by omega) (by omega) (by omega) (by omega) (by omega)), List.foldl_cons, (ps_none (17664 + rm / 1 % 16 * 8 + rn / 8 % 2 * 128 + (rn - rn / 8 % 2 * 8) / 1 % 8 * 1) (rd) (rn - rn / 8 % 2 * 8 - (rn - rn / 8 % 2 * 8) / 1 % 8 * 1) (rm - rm / 1 % 16 * 1) (x) (list) (cond) (by omega) (by omega)), List.foldl_nil]
  rw [e]
  show fillEnd _ _ 0 imm = _
  unfold fillEnd
  rw [fits0, zero_fw]
  rfl
theorem fill_7_0 (cond rd rn rm imm list x : Int) (hx : imm % 4294967296 = x) (hd0 : 0 ≤ rd) (hd1 : rd ≤ 15) (hn0 : 0 ≤ rn) (hn1 : rn ≤ 15) (hm0 : 0 ≤ rm) (hm1 : rm ≤ 15) (hl0 : 0 ≤ list) (hl1 : list ≤ 65535) (hc0 : 0 ≤ cond) (hc1 : cond ≤ 15) :
    fillP row_7 10240 cond rd rn rm imm list = if z7 (0) (rd) (rn - rn / 1 % 8 * 1) (rm) (x - x / 1 % 256 * 1) (list) (cond) = true then some (10240 + rn / 1 % 8 * 256 + x / 1 % 256 * 1) else none := by
  have hx0 : 0 ≤ x := by omega
  have hx1 : x < 4294967296 := by omega
  unfold fillP foldP
  rw [fields_fw cond rd rn rm imm list hd0 hd1 hn0 hn1 hm0 hm1 hl0 hl1 hc0 hc1, hx]
  have e : row_7.pcs.foldl pcStep (10240, fw 0 rd rn rm x list cond) = (10240 + rn / 1 % 8 * 256 + x / 1 % 256 * 1, fw (0) (rd) (rn - rn / 1 % 8 * 1) (rm) (x - x / 1 % 256 * 1) (list) (cond)) := by
    show List.foldl pcStep _ [⟨2, 2, 0, 8⟩, ⟨4, 7, 0, 0⟩, ⟨0, 0, 0, 0⟩, ⟨0, 0, 0, 0⟩] = _
    rw [List.foldl_cons, (ps_2_2_0_8 (10240) (0) (rd) (rn) (rm) (x) (list) (cond) (by omega) (by omega) (by omega) (by omega) (by omega)), List.foldl_cons, (ps_4_7_0_0 (10240 + rn / 1 % 8 * 256) (0) (rd) (rn - rn / 1 % 8 * 1) (rm) (x) (list) (cond) (by omega) (by omega) (by omega) (by omega) (by omega)), List.foldl_cons, (ps_none (10240 + rn / 1 % 8 * 256 + x / 1 % 256 * 1) (rd) (rn - rn / 1 % 8 * 1) (rm) (x - x / 1 % 256 * 1) (list) (cond) (by omega) (by omega)), List.foldl_cons, (ps_none (10240 + rn / 1 % 8 * 256 + x / 1 % 256 * 1) (rd) (rn - rn / 1 % 8 * 1) (rm) (x - x / 1 % 256 * 1) (list) (cond) (by omega) (by omega)), List.foldl_nil]
  rw [e]
  show fillEnd _ _ 0 imm = _
  unfold fillEnd
  rw [fits0, zero_fw]
  rfl
theorem fill_8_0 (cond rd rn rm imm list x : Int) (hx : imm % 4294967296 = x) (hd0 : 0 ≤ rd) (hd1 : rd ≤ 15) (hn0 : 0 ≤ rn) (hn1 : rn ≤ 15) (hm0 : 0 ≤ rm) (hm1 : rm ≤ 15) (hl0 : 0 ≤ list) (hl1 : list ≤ 65535) (hc0 : 0 ≤ cond) (hc1 : cond ≤ 15) :
    fillP row_8 8192 cond rd rn rm imm list = if z7 (0) (rd - rd / 1 % 8 * 1) (rn) (rm) (x - x / 1 % 256 * 1) (list) (cond) = true then some (8192 + rd / 1 % 8 * 256 + x / 1 % 256 * 1) else none := by
  have hx0 : 0 ≤ x := by omega
  have hx1 : x < 4294967296 := by omega
  unfold fillP foldP
  rw [fields_fw cond rd rn rm imm list hd0 hd1 hn0 hn1 hm0 hm1 hl0 hl1 hc0 hc1, hx]
  have e : row_8.pcs.foldl pcStep (8192, fw 0 rd rn rm x list cond) = (8192 + rd / 1 % 8 * 256 + x / 1 % 256 * 1, fw (0) (rd - rd / 1 % 8 * 1) (rn) (rm) (x - x / 1 % 256 * 1) (list) (cond)) := by
    show List.foldl pcStep _ [⟨1, 2, 0, 8⟩, ⟨4, 7, 0, 0⟩, ⟨0, 0, 0, 0⟩, ⟨0, 0, 0, 0⟩] = _
    rw [List.foldl_cons, (ps_1_2_0_8 (8192) (0) (rd) (rn) (rm) (x) (list) (cond) (by omega) (by omega) (by omega) (by omega) (by omega)), List.foldl_cons, (ps_4_7_0_0 (8192 + rd / 1 % 8 * 256) (0) (rd - rd / 1 % 8 * 1) (rn) (rm) (x) (list) (cond) (by omega) (by omega) (by omega) (by omega) (by omega)), List.foldl_cons, (ps_none (8192 + rd / 1 % 8 * 256 + x / 1 % 256 * 1) (rd - rd / 1 % 8 * 1) (rn) (rm) (x - x / 1 % 256 * 1) (list) (cond) (by omega) (by omega)), List.foldl_cons, (ps_none (8192 + rd / 1 % 8 * 256 + x / 1 % 256 * 1) (rd - rd / 1 % 8 * 1) (rn) (rm) (x - x / 1 % 256 * 1) (list) (cond) (by omega) (by omega)), List.foldl_nil]
  rw [e]
  show fillEnd _ _ 0 imm = _
  unfold fillEnd
  rw [fits0, zero_fw]
  rfl
theorem fill_9_0 (cond rd rn rm imm list x : Int) (hx : imm % 4294967296 = x) (hd0 : 0 ≤ rd) (hd1 : rd ≤ 15) (hn0 : 0 ≤ rn) (hn1 : rn ≤ 15) (hm0 : 0 ≤ rm) (hm1 : rm ≤ 15) (hl0 : 0 ≤ list) (hl1 : list ≤ 65535) (hc0 : 0 ≤ cond) (hc1 : cond ≤ 15) :
    fillP row_9 0 cond rd rn rm imm list = if z7 (0) (rd - rd / 1 % 8 * 1) (rn) (rm - rm / 1 % 8 * 1) (x) (list) (cond) = true then some (0 + rm / 1 % 8 * 8 + rd / 1 % 8 * 1) else none := by
  have hx0 : 0 ≤ x := by omega
  have hx1 : x < 4294967296 := by omega
  unfold fillP foldP
  rw [fields_fw cond rd rn rm imm list hd0 hd1 hn0 hn1 hm0 hm1 hl0 hl1 hc0 hc1, hx]
  have e : row_9.pcs.foldl pcStep (0, fw 0 rd rn rm x list cond) = (0 + rm / 1 % 8 * 8 + rd / 1 % 8 * 1, fw (0) (rd - rd / 1 % 8 * 1) (rn) (rm - rm / 1 % 8 * 1) (x) (list) (cond)) := by
    show List.foldl pcStep _ [⟨3, 2, 0, 3⟩, ⟨1, 2, 0, 0⟩, ⟨0, 0, 0, 0⟩, ⟨0, 0, 0, 0⟩] = _
    rw [List.foldl_cons, (ps_3_2_0_3 (0) (0) (rd) (rn) (rm) (x) (list) (cond) (by omega) (by omega) (by omega) (by omega) (by omega)), List.foldl_cons, (ps_1_2_0_0 (0 + rm / 1 % 8 * 8) (0) (rd) (rn) (rm - rm / 1 % 8 * 1) (x) (list) (cond) (by omega) (by omega) (by omega) (by omega) (by omega)), List.foldl_cons, (ps_none (0 + rm / 1 % 8 * 8 + rd / 1 % 8 * 1) (rd - rd / 1 % 8 * 1) (rn) (rm - rm / 1 % 8 * 1) (x) (list) (cond) (by omega) (by omega)), List.foldl_cons, (ps_none (0 + rm / 1 % 8 * 8 + rd / 1 % 8 * 1) (rd - rd / 1 % 8 * 1) (rn) (rm - rm / 1 % 8 * 1) (x) (list) (cond) (by omega) (by omega)), List.foldl_nil]
  rw [e]
  show fillEnd _ _ 0 imm = _
  unfold fillEnd
  rw [fits0, zero_fw]
  rfl
theorem fill_10_0 (cond rd rn rm imm list x : Int) (hx : imm % 4294967296 = x) (hd0 : 0 ≤ rd) (hd1 : rd ≤ 15) (hn0 : 0 ≤ rn) (hn1 : rn ≤ 15) (hm0 : 0 ≤ rm) (hm1 : rm ≤ 15) (hl0 : 0 ≤ list) (hl1 : list ≤ 65535) (hc0 : 0 ≤ cond) (hc1 : cond ≤ 15) :
    fillP row_10 17920 cond rd rn rm imm list = if z7 (0) (rd - rd / 8 % 2 * 8 - (rd - rd / 8 % 2 * 8) / 1 % 8 * 1) (rn) (rm - rm / 1 % 16 * 1) (x) (list) (cond) = true then some (17920 + rm / 1 % 16 * 8 + rd / 8 % 2 * 128 + (rd - rd / 8 % 2 * 8) / 1 % 8 * 1) else none := by
  have hx0 : 0 ≤ x := by omega
  have hx1 : x < 4294967296 := by omega
  unfold fillP foldP
  rw [fields_fw cond rd rn rm imm list hd0 hd1 hn0 hn1 hm0 hm1 hl0 hl1 hc0 hc1, hx]
  have e : row_10.pcs.foldl pcStep (17920, fw 0 rd rn rm x list cond) = (17920 + rm / 1 % 16 * 8 + rd / 8 % 2 * 128 + (rd - rd / 8 % 2 * 8) / 1 % 8 * 1, fw (0) (rd - rd / 8 % 2 * 8 - (rd - rd / 8 % 2 * 8) / 1 % 8 * 1) (rn) (rm - rm / 1 % 16 * 1) (x) (list) (cond)) := by
    show List.foldl pcStep _ [⟨3, 3, 0, 3⟩, ⟨1, 3, 3, 7⟩, ⟨1, 2, 0, 0⟩, ⟨0, 0, 0, 0⟩] = _
    rw [List.foldl_cons, (ps_3_3_0_3 (17920) (0) (rd) (rn) (rm) (x) (list) (cond) (by omega) (by omega) (by omega) (by omega) (by omega)), List.foldl_cons, (ps_1_3_3_7 (17920 + rm / 1 % 16 * 8) (0) (rd) (rn) (rm - rm / 1 % 16 * 1) (x) (list) (cond) (by omega) (by omega) (by omega) (by omega) (by omega)), List.foldl_cons, (ps_1_2_0_0 (17920 + rm / 1 % 16 * 8 + rd / 8 % 2 * 128) (0) (rd - rd / 8 % 2 * 8) (rn) (rm - rm / 1 % 16 * 1) (x) (list) (cond) (by omega) (by omega) (by omega) (by omega) (by omega)), List.foldl_cons, (ps_none (17920 + rm / 1 % 16 * 8 + rd / 8 % 2 * 128 + (rd - rd / 8 % 2 * 8) / 1 % 8 * 1) (rd - rd / 8 % 2 * 8 - (rd - rd / 8 % 2 * 8) / 1 % 8 * 1) (rn) (rm - rm / 1 % 16 * 1) (x) (list) (cond) (by omega) (by omega)), List.foldl_nil]
  rw [e]
  show fillEnd _ _ 0 imm = _
  unfold fillEnd
  rw [fits0, zero_fw]
  rfl
theorem fill_11_0 (cond rd rn rm imm list x : Int) (hx : imm % 4294967296 = x) (hd0 : 0 ≤ rd) (hd1 : rd ≤ 15) (hn0 : 0 ≤ rn) (hn1 : rn ≤ 15) (hm0 : 0 ≤ rm) (hm1 : rm ≤ 15) (hl0 : 0 ≤ list) (hl1 : list ≤ 65535) (hc0 : 0 ≤ cond) (hc1 : cond ≤ 15) :
    fillP row_11 6144 cond rd rn rm imm list = if z7 (0) (rd - rd / 1 % 8 * 1) (rn - rn / 1 % 8 * 1) (rm - rm / 1 % 8 * 1) (x) (list) (cond) = true then some (6144 + rm / 1 % 8 * 64 + rn / 1 % 8 * 8 + rd / 1 % 8 * 1) else none := by
  have hx0 : 0 ≤ x := by omega
  have hx1 : x < 4294967296 := by omega
  unfold fillP foldP
  rw [fields_fw cond rd rn rm imm list hd0 hd1 hn0 hn1 hm0 hm1 hl0 hl1 hc0 hc1, hx]
  have e : row_11.pcs.foldl pcStep (6144, fw 0 rd rn rm x list cond) = (6144 + rm / 1 % 8 * 64 + rn / 1 % 8 * 8 + rd / 1 % 8 * 1, fw (0) (rd - rd / 1 % 8 * 1) (rn - rn / 1 % 8 * 1) (rm - rm / 1 % 8 * 1) (x) (list) (cond)) := by
    show List.foldl pcStep _ [⟨3, 2, 0, 6⟩, ⟨2, 2, 0, 3⟩, ⟨1, 2, 0, 0⟩, ⟨0, 0, 0, 0⟩] = _
    rw [List.foldl_cons, (ps_3_2_0_6 (6144) (0) (rd) (rn) (rm) (x) (list) (cond) (by omega) (by omega) (by omega) (by omega) (by omega)), List.foldl_cons, (ps_2_2_0_3 (6144 + rm / 1 % 8 * 64) (0) (rd) (rn) (rm - rm / 1 % 8 * 1) (x) (list) (cond) (by omega) (by omega) (by omega) (by omega) (by omega)), List.foldl_cons, (ps_1_2_0_0 (6144 + rm / 1 % 8 * 64 + rn / 1 % 8 * 8) (0) (rd) (rn - rn / 1 % 8 * 1) (rm - rm / 1 % 8 * 1) (x) (list) (cond) (by omega) (by omega) (by omega) (by omega) (by omega)), List.foldl_cons, (ps_none (6144 + rm / 1 % 8 * 64 + rn / 1 % 8 * 8 + rd / 1 % 8 * 1) (rd - rd / 1 % 8 * 1) (rn - rn / 1 % 8 * 1) (rm - rm / 1 % 8 * 1) (x) (list) (cond) (by omega) (by omega)), List.foldl_nil]
  rw [e]
  show fillEnd _ _ 0 imm = _
  unfold fillEnd
  rw [fits0, zero_fw]
  rfl
theorem fill_11_1 (cond rd rn rm imm list x : Int) (hx : imm % 4294967296 = x) (hd0 : 0 ≤ rd) (hd1 : rd ≤ 15) (hn0 : 0 ≤ rn) (hn1 : rn ≤ 15) (hm0 : 0 ≤ rm) (hm1 : rm ≤ 15) (hl0 : 0 ≤ list) (hl1 : list ≤ 65535) (hc0 : 0 ≤ cond) (hc1 : cond ≤ 15) :
    fillP row_11 6656 cond rd rn rm imm list = if z7 (0) (rd - rd / 1 % 8 * 1) (rn - rn / 1 % 8 * 1) (rm - rm / 1 % 8 * 1) (x) (list) (cond) = true then some (6656 + rm / 1 % 8 * 64 + rn / 1 % 8 * 8 + rd / 1 % 8 * 1) else none := by
  have hx0 : 0 ≤ x := by omega
  have hx1 : x < 4294967296 := by omega
  unfold fillP foldP
  rw [fields_fw cond rd rn rm imm list hd0 hd1 hn0 hn1 hm0 hm1 hl0 hl1 hc0 hc1, hx]
  have e : row_11.pcs.foldl pcStep (6656, fw 0 rd rn rm x list cond) = (6656 + rm / 1 % 8 * 64 + rn / 1 % 8 * 8 + rd / 1 % 8 * 1, fw (0) (rd - rd / 1 % 8 * 1) (rn - rn / 1 % 8 * 1) (rm - rm / 1 % 8 * 1) (x) (list) (cond)) := by
    show List.foldl pcStep _ [⟨3, 2, 0, 6⟩, ⟨2, 2, 0, 3⟩, ⟨1, 2, 0, 0⟩, ⟨0, 0, 0, 0⟩] = _
    rw [List.foldl_cons, (ps_3_2_0_6 (6656) (0) (rd) (rn) (rm) (x) (list) (cond) (by omega) (by omega) (by omega) (by omega) (by omega)), List.foldl_cons, (ps_2_2_0_3 (6656 + rm / 1 % 8 * 64) (0) (rd) (rn) (rm - rm / 1 % 8 * 1) (x) (list) (cond) (by omega) (by omega) (by omega) (by omega) (by omega)), List.foldl_cons, (ps_1_2_0_0 (6656 + rm / 1 % 8 * 64 + rn / 1 % 8 * 8) (0) (rd) (rn - rn / 1 % 8 * 1) (rm - rm / 1 % 8 * 1) (x) (list) (cond) (by omega) (by omega) (by omega) (by omega) (by omega)), List.foldl_cons, (ps_none (6656 + rm / 1 % 8 * 64 + rn / 1 % 8 * 8 + rd / 1 % 8 * 1) (rd - rd / 1 % 8 * 1) (rn - rn / 1 % 8 * 1) (rm - rm / 1 % 8 * 1) (x) (list) (cond) (by omega) (by omega)), List.foldl_nil]
  rw [e]
  show fillEnd _ _ 0 imm = _
  unfold fillEnd
  rw [fits0, zero_fw]
  rfl
theorem fill_12_0 (cond rd rn rm imm list x : Int) (hx : imm % 4294967296 = x) (hd0 : 0 ≤ rd) (hd1 : rd ≤ 15) (hn0 : 0 ≤ rn) (hn1 : rn ≤ 15) (hm0 : 0 ≤ rm) (hm1 : rm ≤ 15) (hl0 : 0 ≤ list) (hl1 : list ≤ 65535) (hc0 : 0 ≤ cond) (hc1 : cond ≤ 15) :
    fillP row_12 17408 cond rd rn rm imm list = if z7 (0) (rd - rd / 8 % 2 * 8 - (rd - rd / 8 % 2 * 8) / 1 % 8 * 1) (rn - rn / 1 % 16 * 1) (rm - rm / 1 % 16 * 1) (x) (list) (cond) = true then some (17408 + rm / 1 % 16 * 8 + rd / 8 % 2 * 128 + (rd - rd / 8 % 2 * 8) / 1 % 8 * 1) else none := by
  have hx0 : 0 ≤ x := by omega
  have hx1 : x < 4294967296 := by omega
  unfold fillP foldP
  rw [fields_fw cond rd rn rm imm list hd0 hd1 hn0 hn1 hm0 hm1 hl0 hl1 hc0 hc1, hx]
  have e : row_12.pcs.foldl pcStep (17408, fw 0 rd rn rm x list cond) = (17408 + rm / 1 % 16 * 8 + rd / 8 % 2 * 128 + (rd - rd / 8 % 2 * 8) / 1 % 8 * 1, fw (0) (rd - rd / 8 % 2 * 8 - (rd - rd / 8 % 2 * 8) / 1 % 8 * 1) (rn - rn / 1 % 16 * 1) (rm - rm / 1 % 16 * 1) (x) (list) (cond)) := by
    show List.foldl pcStep _ [⟨3, 3, 0, 3⟩, ⟨1, 3, 3, 7⟩, ⟨1, 2, 0, 0⟩, ⟨2, 3, 0, 32⟩] = _
    rw [List.foldl_cons, (ps_3_3_0_3 (17408) (0) (rd) (rn) (rm) (x) (list) (cond) (by omega) (by omega) (by omega) (by omega) (by omega)), List.foldl_cons, (ps_1_3_3_7 (17408 + rm / 1 % 16 * 8) (0) (rd) (rn) (rm - rm / 1 % 16 * 1) (x) (list) (cond) (by omega) (by omega) (by omega) (by omega) (by omega)), List.foldl_cons, (ps_1_2_0_0 (17408 + rm / 1 % 16 * 8 + rd / 8 % 2 * 128) (0) (rd - rd / 8 % 2 * 8) (rn) (rm - rm / 1 % 16 * 1) (x) (list) (cond) (by omega) (by omega) (by omega) (by omega) (by omega)), List.foldl_cons, (ps_2_3_0_32 (17408 + rm / 1 % 16 * 8 + rd / 8 % 2 * 128 + (rd - rd / 8 % 2 * 8) / 1 % 8 * 1) (0) (rd - rd / 8 % 2 * 8 - (rd - rd / 8 % 2 * 8) / 1 % 8 * 1) (rn) (rm - rm / 1 % 16 * 1) (x) (list) (cond) (by omega) (by omega) (by omega) (by omega)), List.foldl_nil]
  rw [e]
  show fillEnd _ _ 0 imm = _
  unfold fillEnd
  rw [fits0, zero_fw]
  rfl
theorem fill_13_0 (cond rd rn rm imm list x : Int) (hx : imm % 4294967296 = x) (hd0 : 0 ≤ rd) (hd1 : rd ≤ 15) (hn0 : 0 ≤ rn) (hn1 : rn ≤ 15) (hm0 : 0 ≤ rm) (hm1 : rm ≤ 15) (hl0 : 0 ≤ list) (hl1 : list ≤ 65535) (hc0 : 0 ≤ cond) (hc1 : cond ≤ 15) :
    fillP row_13 7168 cond rd rn rm imm list = if z7 (0) (rd - rd / 1 % 8 * 1) (rn - rn / 1 % 8 * 1) (rm) (x - x / 1 % 8 * 1) (list) (cond) = true then some (7168 + x / 1 % 8 * 64 + rn / 1 % 8 * 8 + rd / 1 % 8 * 1) else none := by
  have hx0 : 0 ≤ x := by omega
  have hx1 : x < 4294967296 := by omega
  unfold fillP foldP
  rw [fields_fw cond rd rn rm imm list hd0 hd1 hn0 hn1 hm0 hm1 hl0 hl1 hc0 hc1, hx]
  have e : row_13.pcs.foldl pcStep (7168, fw 0 rd rn rm x list cond) = (7168 + x / 1 % 8 * 64 + rn / 1 % 8 * 8 + rd / 1 % 8 * 1, fw (0) (rd - rd / 1 % 8 * 1) (rn - rn / 1 % 8 * 1) (rm) (x - x / 1 % 8 * 1) (list) (cond)) := by
    show List.foldl pcStep _ [⟨4, 2, 0, 6⟩, ⟨2, 2, 0, 3⟩, ⟨1, 2, 0, 0⟩, ⟨0, 0, 0, 0⟩] = _
    rw [List.foldl_cons, (ps_4_2_0_6 (7168) (0) (rd) (rn) (rm) (x) (list) (cond) (by omega) (by omega) (by omega) (by omega) (by omega)), List.foldl_cons, (ps_2_2_0_3 (7168 + x / 1 % 8 * 64) (0) (rd) (rn) (rm) (x - x / 1 % 8 * 1) (list) (cond) (by omega) (by omega) (by omega) (by omega) (by omega)), List.foldl_cons, (ps_1_2_0_0 (7168 + x / 1 % 8 * 64 + rn / 1 % 8 * 8) (0) (rd) (rn - rn / 1 % 8 * 1) (rm) (x - x / 1 % 8 * 1) (list) (cond) (by omega) (by omega) (by omega) (by omega) (by omega)), List.foldl_cons, (ps_none (7168 + x / 1 % 8 * 64 + rn / 1 % 8 * 8 + rd / 1 % 8 * 1) (rd - rd / 1 % 8 * 1) (rn - rn / 1 % 8 * 1) (rm) (x - x / 1 % 8 * 1) (list) (cond) (by omega) (by omega)), List.foldl_nil]
  rw [e]
  show fillEnd _ _ 0 imm = _
  unfold fillEnd
  rw [fits0, zero_fw]
  rfl
theorem fill_13_1 (cond rd rn rm imm list x : Int) (hx : imm % 4294967296 = x) (hd0 : 0 ≤ rd) (hd1 : rd ≤ 15) (hn0 : 0 ≤ rn) (hn1 : rn ≤ 15) (hm0 : 0 ≤ rm) (hm1 : rm ≤ 15) (hl0 : 0 ≤ list) (hl1 : list ≤ 65535) (hc0 : 0 ≤ cond) (hc1 : cond ≤ 15) :
    fillP row_13 7680 cond rd rn rm imm list = if z7 (0) (rd - rd / 1 % 8 * 1) (rn - rn / 1 % 8 * 1) (rm) (x - x / 1 % 8 * 1) (list) (cond) = true then some (7680 + x / 1 % 8 * 64 + rn / 1 % 8 * 8 + rd / 1 % 8 * 1) else none := by
  have hx0 : 0 ≤ x := by omega
  have hx1 : x < 4294967296 := by omega
  unfold fillP foldP
  rw [fields_fw cond rd rn rm imm list hd0 hd1 hn0 hn1 hm0 hm1 hl0 hl1 hc0 hc1, hx]
  have e : row_13.pcs.foldl pcStep (7680, fw 0 rd rn rm x list cond) = (7680 + x / 1 % 8 * 64 + rn / 1 % 8 * 8 + rd / 1 % 8 * 1, fw (0) (rd - rd / 1 % 8 * 1) (rn - rn / 1 % 8 * 1) (rm) (x - x / 1 % 8 * 1) (list) (cond)) := by
    show List.foldl pcStep _ [⟨4, 2, 0, 6⟩, ⟨2, 2, 0, 3⟩, ⟨1, 2, 0, 0⟩, ⟨0, 0, 0, 0⟩] = _
    rw [List.foldl_cons, (ps_4_2_0_6 (7680) (0) (rd) (rn) (rm) (x) (list) (cond) (by omega) (by omega) (by omega) (by omega) (by omega)), List.foldl_cons, (ps_2_2_0_3 (7680 + x / 1 % 8 * 64) (0) (rd) (rn) (rm) (x - x / 1 % 8 * 1) (list) (cond) (by omega) (by omega) (by omega) (by omega) (by omega)), List.foldl_cons, (ps_1_2_0_0 (7680 + x / 1 % 8 * 64 + rn / 1 % 8 * 8) (0) (rd) (rn - rn / 1 % 8 * 1) (rm) (x - x / 1 % 8 * 1) (list) (cond) (by omega) (by omega) (by omega) (by omega) (by omega)), List.foldl_cons, (ps_none (7680 + x / 1 % 8 * 64 + rn / 1 % 8 * 8 + rd / 1 % 8 * 1) (rd - rd / 1 % 8 * 1) (rn - rn / 1 % 8 * 1) (rm) (x - x / 1 % 8 * 1) (list) (cond) (by omega) (by omega)), List.foldl_nil]
  rw [e]
  show fillEnd _ _ 0 imm = _
  unfold fillEnd
  rw [fits0, zero_fw]
  rfl
theorem fill_14_0 (cond rd rn rm imm list x : Int) (hx : imm % 4294967296 = x) (hd0 : 0 ≤ rd) (hd1 : rd ≤ 15) (hn0 : 0 ≤ rn) (hn1 : rn ≤ 15) (hm0 : 0 ≤ rm) (hm1 : rm ≤ 15) (hl0 : 0 ≤ list) (hl1 : list ≤ 65535) (hc0 : 0 ≤ cond) (hc1 : cond ≤ 15) :
    fillP row_14 12288 cond rd rn rm imm list = if z7 (0) (rd - rd / 1 % 8 * 1) (rn - rn / 1 % 8 * 1) (rm) (x - x / 1 % 256 * 1) (list) (cond) = true then some (12288 + rd / 1 % 8 * 256 + x / 1 % 256 * 1) else none := by
  have hx0 : 0 ≤ x := by omega
  have hx1 : x < 4294967296 := by omega
  unfold fillP foldP
  rw [fields_fw cond rd rn rm imm list hd0 hd1 hn0 hn1 hm0 hm1 hl0 hl1 hc0 hc1, hx]
  have e : row_14.pcs.foldl pcStep (12288, fw 0 rd rn rm x list cond) = (12288 + rd / 1 % 8 * 256 + x / 1 % 256 * 1, fw (0) (rd - rd / 1 % 8 * 1) (rn - rn / 1 % 8 * 1) (rm) (x - x / 1 % 256 * 1) (list) (cond)) := by
    show List.foldl pcStep _ [⟨1, 2, 0, 8⟩, ⟨4, 7, 0, 0⟩, ⟨2, 2, 0, 32⟩, ⟨0, 0, 0, 0⟩] = _
    rw [List.foldl_cons, (ps_1_2_0_8 (12288) (0) (rd) (rn) (rm) (x) (list) (cond) (by omega) (by omega) (by omega) (by omega) (by omega)), List.foldl_cons, (ps_4_7_0_0 (12288 + rd / 1 % 8 * 256) (0) (rd - rd / 1 % 8 * 1) (rn) (rm) (x) (list) (cond) (by omega) (by omega) (by omega) (by omega) (by omega)), List.foldl_cons, (ps_2_2_0_32 (12288 + rd / 1 % 8 * 256 + x / 1 % 256 * 1) (0) (rd - rd / 1 % 8 * 1) (rn) (rm) (x - x / 1 % 256 * 1) (list) (cond) (by omega) (by omega) (by omega) (by omega)), List.foldl_cons, (ps_none (12288 + rd / 1 % 8 * 256 + x / 1 % 256 * 1) (rd - rd / 1 % 8 * 1) (rn - rn / 1 % 8 * 1) (rm) (x - x / 1 % 256 * 1) (list) (cond) (by omega) (by omega)), List.foldl_nil]
  rw [e]
  show fillEnd _ _ 0 imm = _
  unfold fillEnd
  rw [fits0, zero_fw]
  rfl
theorem fill_14_1 (cond rd rn rm imm list x : Int) (hx : imm % 4294967296 = x) (hd0 : 0 ≤ rd) (hd1 : rd ≤ 15) (hn0 : 0 ≤ rn) (hn1 : rn ≤ 15) (hm0 : 0 ≤ rm) (hm1 : rm ≤ 15) (hl0 : 0 ≤ list) (hl1 : list ≤ 65535) (hc0 : 0 ≤ cond) (hc1 : cond ≤ 15) :
    fillP row_14 14336 cond rd rn rm imm list = if z7 (0) (rd - rd / 1 % 8 * 1) (rn - rn / 1 % 8 * 1) (rm) (x - x / 1 % 256 * 1) (list) (cond) = true then some (14336 + rd / 1 % 8 * 256 + x / 1 % 256 * 1) else none := by
  have hx0 : 0 ≤ x := by omega
  have hx1 : x < 4294967296 := by omega
  unfold fillP foldP
  rw [fields_fw cond rd rn rm imm list hd0 hd1 hn0 hn1 hm0 hm1 hl0 hl1 hc0 hc1, hx]
  have e : row_14.pcs.foldl pcStep (14336, fw 0 rd rn rm x list cond) = (14336 + rd / 1 % 8 * 256 + x / 1 % 256 * 1, fw (0) (rd - rd / 1 % 8 * 1) (rn - rn / 1 % 8 * 1) (rm) (x - x / 1 % 256 * 1) (list) (cond)) := by
    show List.foldl pcStep _ [⟨1, 2, 0, 8⟩, ⟨4, 7, 0, 0⟩, ⟨2, 2, 0, 32⟩, ⟨0, 0, 0, 0⟩] = _
    rw [List.foldl_cons, (ps_1_2_0_8 (14336) (0) (rd) (rn) (rm) (x) (list) (cond) (by omega) (by omega) (by omega) (by omega) (by omega)), List.foldl_cons, (ps_4_7_0_0 (14336 + rd / 1 % 8 * 256) (0) (rd - rd / 1 % 8 * 1) (rn) (rm) (x) (list) (cond) (by omega) (by omega) (by omega) (by omega) (by omega)), List.foldl_cons, (ps_2_2_0_32 (14336 + rd / 1 % 8 * 256 + x / 1 % 256 * 1) (0) (rd - rd / 1 % 8 * 1) (rn) (rm) (x - x / 1 % 256 * 1) (list) (cond) (by omega) (by omega) (by omega) (by omega)), List.foldl_cons, (ps_none (14336 + rd / 1 % 8 * 256 + x / 1 % 256 * 1) (rd - rd / 1 % 8 * 1) (rn - rn / 1 % 8 * 1) (rm) (x - x / 1 % 256 * 1) (list) (cond) (by omega) (by omega)), List.foldl_nil]
  rw [e]
  show fillEnd _ _ 0 imm = _
  unfold fillEnd
  rw [fits0, zero_fw]
  rfl
theorem fill_15_0 (cond rd rn rm imm list x : Int) (hx : imm % 4294967296 = x) (hd0 : 0 ≤ rd) (hd1 : rd ≤ 15) (hn0 : 0 ≤ rn) (hn1 : rn ≤ 15) (hm0 : 0 ≤ rm) (hm1 : rm ≤ 15) (hl0 : 0 ≤ list) (hl1 : list ≤ 65535) (hc0 : 0 ≤ cond) (hc1 : cond ≤ 15) :
    fillP row_15 0 cond rd rn rm imm list = if z7 (0) (rd - rd / 1 % 8 * 1) (rn - rn / 1 % 8 * 1) (rm) (x - x / 1 % 32 * 1 - (x - x / 1 % 32 * 1) / 32 % 2 * 32) (list) (cond) = true then some (0 + x / 1 % 32 * 64 + rn / 1 % 8 * 8 + rd / 1 % 8 * 1) else none := by
  have hx0 : 0 ≤ x := by omega
  have hx1 : x < 4294967296 := by omega
  unfold fillP foldP
  rw [fields_fw cond rd rn rm imm list hd0 hd1 hn0 hn1 hm0 hm1 hl0 hl1 hc0 hc1, hx]
  have e : row_15.pcs.foldl pcStep (0, fw 0 rd rn rm x list cond) = (0 + x / 1 % 32 * 64 + rn / 1 % 8 * 8 + rd / 1 % 8 * 1, fw (0) (rd - rd / 1 % 8 * 1) (rn - rn / 1 % 8 * 1) (rm) (x - x / 1 % 32 * 1 - (x - x / 1 % 32 * 1) / 32 % 2 * 32) (list) (cond)) := by
    show List.foldl pcStep _ [⟨4, 4, 0, 6⟩, ⟨4, 5, 5, 32⟩, ⟨2, 2, 0, 3⟩, ⟨1, 2, 0, 0⟩] = _
    rw [List.foldl_cons, (ps_4_4_0_6 (0) (0) (rd) (rn) (rm) (x) (list) (cond) (by omega) (by omega) (by omega) (by omega) (by omega)), List.foldl_cons, (ps_4_5_5_32 (0 + x / 1 % 32 * 64) (0) (rd) (rn) (rm) (x - x / 1 % 32 * 1) (list) (cond) (by omega) (by omega) (by omega) (by omega)), List.foldl_cons, (ps_2_2_0_3 (0 + x / 1 % 32 * 64) (0) (rd) (rn) (rm) (x - x / 1 % 32 * 1 - (x - x / 1 % 32 * 1) / 32 % 2 * 32) (list) (cond) (by omega) (by omega) (by omega) (by omega) (by omega)), List.foldl_cons, (ps_1_2_0_0 (0 + x / 1 % 32 * 64 + rn / 1 % 8 * 8) (0) (rd) (rn - rn / 1 % 8 * 1) (rm) (x - x / 1 % 32 * 1 - (x - x / 1 % 32 * 1) / 32 % 2 * 32) (list) (cond) (by omega) (by omega) (by omega) (by omega) (by omega)), List.foldl_nil]
  rw [e]
  show fillEnd _ _ 0 imm = _
  unfold fillEnd
  rw [fits0, zero_fw]
  rfl
theorem fill_15_1 (cond rd rn rm imm list x : Int) (hx : imm % 4294967296 = x) (hd0 : 0 ≤ rd) (hd1 : rd ≤ 15) (hn0 : 0 ≤ rn) (hn1 : rn ≤ 15) (hm0 : 0 ≤ rm) (hm1 : rm ≤ 15) (hl0 : 0 ≤ list) (hl1 : list ≤ 65535) (hc0 : 0 ≤ cond) (hc1 : cond ≤ 15) :
    fillP row_15 2048 cond rd rn rm imm list = if z7 (0) (rd - rd / 1 % 8 * 1) (rn - rn / 1 % 8 * 1) (rm) (x - x / 1 % 32 * 1 - (x - x / 1 % 32 * 1) / 32 % 2 * 32) (list) (cond) = true then some (2048 + x / 1 % 32 * 64 + rn / 1 % 8 * 8 + rd / 1 % 8 * 1) else none := by
  have hx0 : 0 ≤ x := by omega
  have hx1 : x < 4294967296 := by omega
  unfold fillP foldP
  rw [fields_fw cond rd rn rm imm list hd0 hd1 hn0 hn1 hm0 hm1 hl0 hl1 hc0 hc1, hx]
  have e : row_15.pcs.foldl pcStep (2048, fw 0 rd rn rm x list cond) = (2048 + x / 1 % 32 * 64 + rn / 1 % 8 * 8 + rd / 1 % 8 * 1, fw (0) (rd - rd / 1 % 8 * 1) (rn - rn / 1 % 8 * 1) (rm) (x - x / 1 % 32 * 1 - (x - x / 1 % 32 * 1) / 32 % 2 * 32) (list) (cond)) := by
    show List.foldl pcStep _ [⟨4, 4, 0, 6⟩, ⟨4, 5, 5, 32⟩, ⟨2, 2, 0, 3⟩, ⟨1, 2, 0, 0⟩] = _
    rw [List.foldl_cons, (ps_4_4_0_6 (2048) (0) (rd) (rn) (rm) (x) (list) (cond) (by omega) (by omega) (by omega) (by omega) (by omega)), List.foldl_cons, (ps_4_5_5_32 (2048 + x / 1 % 32 * 64) (0) (rd) (rn) (rm) (x - x / 1 % 32 * 1) (list) (cond) (by omega) (by omega) (by omega) (by omega)), List.foldl_cons, (ps_2_2_0_3 (2048 + x / 1 % 32 * 64) (0) (rd) (rn) (rm) (x - x / 1 % 32 * 1 - (x - x / 1 % 32 * 1) / 32 % 2 * 32) (list) (cond) (by omega) (by omega) (by omega) (by omega) (by omega)), List.foldl_cons, (ps_1_2_0_0 (2048 + x / 1 % 32 * 64 + rn / 1 % 8 * 8) (0) (rd) (rn - rn / 1 % 8 * 1) (rm) (x - x / 1 % 32 * 1 - (x - x / 1 % 32 * 1) / 32 % 2 * 32) (list) (cond) (by omega) (by omega) (by omega) (by omega) (by omega)), List.foldl_nil]
  rw [e]
  show fillEnd _ _ 0 imm = _
  unfold fillEnd
  rw [fits0, zero_fw]
  rfl
theorem fill_15_2 (cond rd rn rm imm list x : Int) (hx : imm % 4294967296 = x) (hd0 : 0 ≤ rd) (hd1 : rd ≤ 15) (hn0 : 0 ≤ rn) (hn1 : rn ≤ 15) (hm0 : 0 ≤ rm) (hm1 : rm ≤ 15) (hl0 : 0 ≤ list) (hl1 : list ≤ 65535) (hc0 : 0 ≤ cond) (hc1 : cond ≤ 15) :
    fillP row_15 4096 cond rd rn rm imm list = if z7 (0) (rd - rd / 1 % 8 * 1) (rn - rn / 1 % 8 * 1) (rm) (x - x / 1 % 32 * 1 - (x - x / 1 % 32 * 1) / 32 % 2 * 32) (list) (cond) = true then some (4096 + x / 1 % 32 * 64 + rn / 1 % 8 * 8 + rd / 1 % 8 * 1) else none := by
  have hx0 : 0 ≤ x := by omega
  have hx1 : x < 4294967296 := by omega
  unfold fillP foldP
  rw [fields_fw cond rd rn rm imm list hd0 hd1 hn0 hn1 hm0 hm1 hl0 hl1 hc0 hc1, hx]
  have e : row_15.pcs.foldl pcStep (4096, fw 0 rd rn rm x list cond) = (4096 + x / 1 % 32 * 64 + rn / 1 % 8 * 8 + rd / 1 % 8 * 1, fw (0) (rd - rd / 1 % 8 * 1) (rn - rn / 1 % 8 * 1) (rm) (x - x / 1 % 32 * 1 - (x - x / 1 % 32 * 1) / 32 % 2 * 32) (list) (cond)) := by
    show List.foldl pcStep _ [⟨4, 4, 0, 6⟩, ⟨4, 5, 5, 32⟩, ⟨2, 2, 0, 3⟩, ⟨1, 2, 0, 0⟩] = _
    rw [List.foldl_cons, (ps_4_4_0_6 (4096) (0) (rd) (rn) (rm) (x) (list) (cond) (by omega) (by omega) (by omega) (by omega) (by omega)), List.foldl_cons, (ps_4_5_5_32 (4096 + x / 1 % 32 * 64) (0) (rd) (rn) (rm) (x - x / 1 % 32 * 1) (list) (cond) (by omega) (by omega) (by omega) (by omega)), List.foldl_cons, (ps_2_2_0_3 (4096 + x / 1 % 32 * 64) (0) (rd) (rn) (rm) (x - x / 1 % 32 * 1 - (x - x / 1 % 32 * 1) / 32 % 2 * 32) (list) (cond) (by omega) (by omega) (by omega) (by omega) (by omega)), List.foldl_cons, (ps_1_2_0_0 (4096 + x / 1 % 32 * 64 + rn / 1 % 8 * 8) (0) (rd) (rn - rn / 1 % 8 * 1) (rm) (x - x / 1 % 32 * 1 - (x - x / 1 % 32 * 1) / 32 % 2 * 32) (list) (cond) (by omega) (by omega) (by omega) (by omega) (by omega)), List.foldl_nil]
  rw [e]
  show fillEnd _ _ 0 imm = _
  unfold fillEnd
  rw [fits0, zero_fw]
  rfl
theorem fill_16_0 (cond rd rn rm imm list x : Int) (hx : imm % 4294967296 = x) (hd0 : 0 ≤ rd) (hd1 : rd ≤ 15) (hn0 : 0 ≤ rn) (hn1 : rn ≤ 15) (hm0 : 0 ≤ rm) (hm1 : rm ≤ 15) (hl0 : 0 ≤ list) (hl1 : list ≤ 65535) (hc0 : 0 ≤ cond) (hc1 : cond ≤ 15) :
    fillP row_16 16512 cond rd rn rm imm list = if z7 (0) (rd - rd / 1 % 8 * 1) (rn - rn / 1 % 8 * 1) (rm - rm / 1 % 8 * 1) (x) (list) (cond) = true then some (16512 + rm / 1 % 8 * 8 + rd / 1 % 8 * 1) else none := by
  have hx0 : 0 ≤ x := by omega
  have hx1 : x < 4294967296 := by omega
  unfold fillP foldP
  rw [fields_fw cond rd rn rm imm list hd0 hd1 hn0 hn1 hm0 hm1 hl0 hl1 hc0 hc1, hx]
  have e : row_16.pcs.foldl pcStep (16512, fw 0 rd rn rm x list cond) = (16512 + rm / 1 % 8 * 8 + rd / 1 % 8 * 1, fw (0) (rd - rd / 1 % 8 * 1) (rn - rn / 1 % 8 * 1) (rm - rm / 1 % 8 * 1) (x) (list) (cond)) := by
    show List.foldl pcStep _ [⟨3, 2, 0, 3⟩, ⟨1, 2, 0, 0⟩, ⟨2, 2, 0, 32⟩, ⟨0, 0, 0, 0⟩] = _
    rw [List.foldl_cons, (ps_3_2_0_3 (16512) (0) (rd) (rn) (rm) (x) (list) (cond) (by omega) (by omega) (by omega) (by omega) (by omega)), List.foldl_cons, (ps_1_2_0_0 (16512 + rm / 1 % 8 * 8) (0) (rd) (rn) (rm - rm / 1 % 8 * 1) (x) (list) (cond) (by omega) (by omega) (by omega) (by omega) (by omega)), List.foldl_cons, (ps_2_2_0_32 (16512 + rm / 1 % 8 * 8 + rd / 1 % 8 * 1) (0) (rd - rd / 1 % 8 * 1) (rn) (rm - rm / 1 % 8 * 1) (x) (list) (cond) (by omega) (by omega) (by omega) (by omega)), List.foldl_cons, (ps_none (16512 + rm / 1 % 8 * 8 + rd / 1 % 8 * 1) (rd - rd / 1 % 8 * 1) (rn - rn / 1 % 8 * 1) (rm - rm / 1 % 8 * 1) (x) (list) (cond) (by omega) (by omega)), List.foldl_nil]
  rw [e]
  show fillEnd _ _ 0 imm = _
  unfold fillEnd
  rw [fits0, zero_fw]
  rfl
theorem fill_16_1 (cond rd rn rm imm list x : Int) (hx : imm % 4294967296 = x) (hd0 : 0 ≤ rd) (hd1 : rd ≤ 15) (hn0 : 0 ≤ rn) (hn1 : rn ≤ 15) (hm0 : 0 ≤ rm) (hm1 : rm ≤ 15) (hl0 : 0 ≤ list) (hl1 : list ≤ 65535) (hc0 : 0 ≤ cond) (hc1 : cond ≤ 15) :
    fillP row_16 16576 cond rd rn rm imm list = if z7 (0) (rd - rd / 1 % 8 * 1) (rn - rn / 1 % 8 * 1) (rm - rm / 1 % 8 * 1) (x) (list) (cond) = true then some (16576 + rm / 1 % 8 * 8 + rd / 1 % 8 * 1) else none := by
  have hx0 : 0 ≤ x := by omega
  have hx1 : x < 4294967296 := by omega
  unfold fillP foldP
  rw [fields_fw cond rd rn rm imm list hd0 hd1 hn0 hn1 hm0 hm1 hl0 hl1 hc0 hc1, hx]
  have e : row_16.pcs.foldl pcStep (16576, fw 0 rd rn rm x list cond) = (16576 + rm / 1 % 8 * 8 + rd / 1 % 8 * 1, fw (0) (rd - rd / 1 % 8 * 1) (rn - rn / 1 % 8 * 1) (rm - rm / 1 % 8 * 1) (x) (list) (cond)) := by
    show List.foldl pcStep _ [⟨3, 2, 0, 3⟩, ⟨1, 2, 0, 0⟩, ⟨2, 2, 0, 32⟩, ⟨0, 0, 0, 0⟩] = _
    rw [List.foldl_cons, (ps_3_2_0_3 (16576) (0) (rd) (rn) (rm) (x) (list) (cond) (by omega) (by omega) (by omega) (by omega) (by omega)), List.foldl_cons, (ps_1_2_0_0 (16576 + rm / 1 % 8 * 8) (0) (rd) (rn) (rm - rm / 1 % 8 * 1) (x) (list) (cond) (by omega) (by omega) (by omega) (by omega) (by omega)), List.foldl_cons, (ps_2_2_0_32 (16576 + rm / 1 % 8 * 8 + rd / 1 % 8 * 1) (0) (rd - rd / 1 % 8 * 1) (rn) (rm - rm / 1 % 8 * 1) (x) (list) (cond) (by omega) (by omega) (by omega) (by omega)), List.foldl_cons, (ps_none (16576 + rm / 1 % 8 * 8 + rd / 1 % 8 * 1) (rd - rd / 1 % 8 * 1) (rn - rn / 1 % 8 * 1) (rm - rm / 1 % 8 * 1) (x) (list) (cond) (by omega) (by omega)), List.foldl_nil]
  rw [e]
  show fillEnd _ _ 0 imm = _
  unfold fillEnd
  rw [fits0, zero_fw]
  rfl
theorem fill_16_2 (cond rd rn rm imm list x : Int) (hx : imm % 4294967296 = x) (hd0 : 0 ≤ rd) (hd1 : rd ≤ 15) (hn0 : 0 ≤ rn) (hn1 : rn ≤ 15) (hm0 : 0 ≤ rm) (hm1 : rm ≤ 15) (hl0 : 0 ≤ list) (hl1 : list ≤ 65535) (hc0 : 0 ≤ cond) (hc1 : cond ≤ 15) :
    fillP row_16 16640 cond rd rn rm imm list = if z7 (0) (rd - rd / 1 % 8 * 1) (rn - rn / 1 % 8 * 1) (rm - rm / 1 % 8 * 1) (x) (list) (cond) = true then some (16640 + rm / 1 % 8 * 8 + rd / 1 % 8 * 1) else none := by
  have hx0 : 0 ≤ x := by omega
  have hx1 : x < 4294967296 := by omega
  unfold fillP foldP
  rw [fields_fw cond rd rn rm imm list hd0 hd1 hn0 hn1 hm0 hm1 hl0 hl1 hc0 hc1, hx]
  have e : row_16.pcs.foldl pcStep (16640, fw 0 rd rn rm x list cond) = (16640 + rm / 1 % 8 * 8 + rd / 1 % 8 * 1, fw (0) (rd - rd / 1 % 8 * 1) (rn - rn / 1 % 8 * 1) (rm - rm / 1 % 8 * 1) (x) (list) (cond)) := by
    show List.foldl pcStep _ [⟨3, 2, 0, 3⟩, ⟨1, 2, 0, 0⟩, ⟨2, 2, 0, 32⟩, ⟨0, 0, 0, 0⟩] = _
    rw [List.foldl_cons, (ps_3_2_0_3 (16640) (0) (rd) (rn) (rm) (x) (list) (cond) (by omega) (by omega) (by omega) (by omega) (by omega)), List.foldl_cons, (ps_1_2_0_0 (16640 + rm / 1 % 8 * 8) (0) (rd) (rn) (rm - rm / 1 % 8 * 1) (x) (list) (cond) (by omega) (by omega) (by omega) (by omega) (by omega)), List.foldl_cons, (ps_2_2_0_32 (16640 + rm / 1 % 8 * 8 + rd / 1 % 8 * 1) (0) (rd - rd / 1 % 8 * 1) (rn) (rm - rm / 1 % 8 * 1) (x) (list) (cond) (by omega) (by omega) (by omega) (by omega)), List.foldl_cons, (ps_none (16640 + rm / 1 % 8 * 8 + rd / 1 % 8 * 1) (rd - rd / 1 % 8 * 1) (rn - rn / 1 % 8 * 1) (rm - rm / 1 % 8 * 1) (x) (list) (cond) (by omega) (by omega)), List.foldl_nil]
  rw [e]
  show fillEnd _ _ 0 imm = _
  unfold fillEnd
  rw [fits0, zero_fw]
  rfl
theorem fill_16_3 (cond rd rn rm imm list x : Int) (hx : imm % 4294967296 = x) (hd0 : 0 ≤ rd) (hd1 : rd ≤ 15) (hn0 : 0 ≤ rn) (hn1 : rn ≤ 15) (hm0 : 0 ≤ rm) (hm1 : rm ≤ 15) (hl0 : 0 ≤ list) (hl1 : list ≤ 65535) (hc0 : 0 ≤ cond) (hc1 : cond ≤ 15) :
    fillP row_16 16832 cond rd rn rm imm list = if z7 (0) (rd - rd / 1 % 8 * 1) (rn - rn / 1 % 8 * 1) (rm - rm / 1 % 8 * 1) (x) (list) (cond) = true then some (16832 + rm / 1 % 8 * 8 + rd / 1 % 8 * 1) else none := by
  have hx0 : 0 ≤ x := by omega
  have hx1 : x < 4294967296 := by omega
  unfold fillP foldP
  rw [fields_fw cond rd rn rm imm list hd0 hd1 hn0 hn1 hm0 hm1 hl0 hl1 hc0 hc1, hx]
  have e : row_16.pcs.foldl pcStep (16832, fw 0 rd rn rm x list cond) = (16832 + rm / 1 % 8 * 8 + rd / 1 % 8 * 1, fw (0) (rd - rd / 1 % 8 * 1) (rn - rn / 1 % 8 * 1) (rm - rm / 1 % 8 * 1) (x) (list) (cond)) := by
    show List.foldl pcStep _ [⟨3, 2, 0, 3⟩, ⟨1, 2, 0, 0⟩, ⟨2, 2, 0, 32⟩, ⟨0, 0, 0, 0⟩] = _
    rw [List.foldl_cons, (ps_3_2_0_3 (16832) (0) (rd) (rn) (rm) (x) (list) (cond) (by omega) (by omega) (by omega) (by omega) (by omega)), List.foldl_cons, (ps_1_2_0_0 (16832 + rm / 1 % 8 * 8) (0) (rd) (rn) (rm - rm / 1 % 8 * 1) (x) (list) (cond) (by omega) (by omega) (by omega) (by omega) (by omega)), List.foldl_cons, (ps_2_2_0_32 (16832 + rm / 1 % 8 * 8 + rd / 1 % 8 * 1) (0) (rd - rd / 1 % 8 * 1) (rn) (rm - rm / 1 % 8 * 1) (x) (list) (cond) (by omega) (by omega) (by omega) (by omega)), List.foldl_cons, (ps_none (16832 + rm / 1 % 8 * 8 + rd / 1 % 8 * 1) (rd - rd / 1 % 8 * 1) (rn - rn / 1 % 8 * 1) (rm - rm / 1 % 8 * 1) (x) (list) (cond) (by omega) (by omega)), List.foldl_nil]
  rw [e]
  show fillEnd _ _ 0 imm = _
  unfold fillEnd
  rw [fits0, zero_fw]
  rfl
theorem fill_17_0 (cond rd rn rm imm list x : Int) (hx : imm % 4294967296 = x) (hd0 : 0 ≤ rd) (hd1 : rd ≤ 15) (hn0 : 0 ≤ rn) (hn1 : rn ≤ 15) (hm0 : 0 ≤ rm) (hm1 : rm ≤ 15) (hl0 : 0 ≤ list) (hl1 : list ≤ 65535) (hc0 : 0 ≤ cond) (hc1 : cond ≤ 15) :
    fillP row_17 24576 cond rd rn rm imm list = if z7 (0) (rd - rd / 1 % 8 * 1) (rn - rn / 1 % 8 * 1) (rm) (x - x / 4 % 32 * 4) (list) (cond) = true then some (24576 + x / 4 % 32 * 64 + rn / 1 % 8 * 8 + rd / 1 % 8 * 1) else none := by
  have hx0 : 0 ≤ x := by omega
  have hx1 : x < 4294967296 := by omega
  unfold fillP foldP
  rw [fields_fw cond rd rn rm imm list hd0 hd1 hn0 hn1 hm0 hm1 hl0 hl1 hc0 hc1, hx]
  have e : row_17.pcs.foldl pcStep (24576, fw 0 rd rn rm x list cond) = (24576 + x / 4 % 32 * 64 + rn / 1 % 8 * 8 + rd / 1 % 8 * 1, fw (0) (rd - rd / 1 % 8 * 1) (rn - rn / 1 % 8 * 1) (rm) (x - x / 4 % 32 * 4) (list) (cond)) := by
    show List.foldl pcStep _ [⟨4, 6, 2, 6⟩, ⟨2, 2, 0, 3⟩, ⟨1, 2, 0, 0⟩, ⟨0, 0, 0, 0⟩] = _
    rw [List.foldl_cons, (ps_4_6_2_6 (24576) (0) (rd) (rn) (rm) (x) (list) (cond) (by omega) (by omega) (by omega) (by omega) (by omega)), List.foldl_cons, (ps_2_2_0_3 (24576 + x / 4 % 32 * 64) (0) (rd) (rn) (rm) (x - x / 4 % 32 * 4) (list) (cond) (by omega) (by omega) (by omega) (by omega) (by omega)), List.foldl_cons, (ps_1_2_0_0 (24576 + x / 4 % 32 * 64 + rn / 1 % 8 * 8) (0) (rd) (rn - rn / 1 % 8 * 1) (rm) (x - x / 4 % 32 * 4) (list) (cond) (by omega) (by omega) (by omega) (by omega) (by omega)), List.foldl_cons, (ps_none (24576 + x / 4 % 32 * 64 + rn / 1 % 8 * 8 + rd / 1 % 8 * 1) (rd - rd / 1 % 8 * 1) (rn - rn / 1 % 8 * 1) (rm) (x - x / 4 % 32 * 4) (list) (cond) (by omega) (by omega)), List.foldl_nil]
  rw [e]
  show fillEnd _ _ 0 imm = _
  unfold fillEnd
  rw [fits0, zero_fw]
  rfl
theorem fill_17_1 (cond rd rn rm imm list x : Int) (hx : imm % 4294967296 = x) (hd0 : 0 ≤ rd) (hd1 : rd ≤ 15) (hn0 : 0 ≤ rn) (hn1 : rn ≤ 15) (hm0 : 0 ≤ rm) (hm1 : rm ≤ 15) (hl0 : 0 ≤ list) (hl1 : list ≤ 65535) (hc0 : 0 ≤ cond) (hc1 : cond ≤ 15) :
    fillP row_17 26624 cond rd rn rm imm list = if z7 (0) (rd - rd / 1 % 8 * 1) (rn - rn / 1 % 8 * 1) (rm) (x - x / 4 % 32 * 4) (list) (cond) = true then some (26624 + x / 4 % 32 * 64 + rn / 1 % 8 * 8 + rd / 1 % 8 * 1) else none := by
  have hx0 : 0 ≤ x := by omega
  have hx1 : x < 4294967296 := by omega
  unfold fillP foldP
  rw [fields_fw cond rd rn rm imm list hd0 hd1 hn0 hn1 hm0 hm1 hl0 hl1 hc0 hc1, hx]
  have e : row_17.pcs.foldl pcStep (26624, fw 0 rd rn rm x list cond) = (26624 + x / 4 % 32 * 64 + rn / 1 % 8 * 8 + rd / 1 % 8 * 1, fw (0) (rd - rd / 1 % 8 * 1) (rn - rn / 1 % 8 * 1) (rm) (x - x / 4 % 32 * 4) (list) (cond)) := by
    show List.foldl pcStep _ [⟨4, 6, 2, 6⟩, ⟨2, 2, 0, 3⟩, ⟨1, 2, 0, 0⟩, ⟨0, 0, 0, 0⟩] = _
    rw [List.foldl_cons, (ps_4_6_2_6 (26624) (0) (rd) (rn) (rm) (x) (list) (cond) (by omega) (by omega) (by omega) (by omega) (by omega)), List.foldl_cons, (ps_2_2_0_3 (26624 + x / 4 % 32 * 64) (0) (rd) (rn) (rm) (x - x / 4 % 32 * 4) (list) (cond) (by omega) (by omega) (by omega) (by omega) (by omega)), List.foldl_cons, (ps_1_2_0_0 (26624 + x / 4 % 32 * 64 + rn / 1 % 8 * 8) (0) (rd) (rn - rn / 1 % 8 * 1) (rm) (x - x / 4 % 32 * 4) (list) (cond) (by omega) (by omega) (by omega) (by omega) (by omega)), List.foldl_cons, (ps_none (26624 + x / 4 % 32 * 64 + rn / 1 % 8 * 8 + rd / 1 % 8 * 1) (rd - rd / 1 % 8 * 1) (rn - rn / 1 % 8 * 1) (rm) (x - x / 4 % 32 * 4) (list) (cond) (by omega) (by omega)), List.foldl_nil]
  rw [e]
  show fillEnd _ _ 0 imm = _
  unfold fillEnd
  rw [fits0, zero_fw]
  rfl
theorem fill_18_0 (cond rd rn rm imm list x : Int) (hx : imm % 4294967296 = x) (hd0 : 0 ≤ rd) (hd1 : rd ≤ 15) (hn0 : 0 ≤ rn) (hn1 : rn ≤ 15) (hm0 : 0 ≤ rm) (hm1 : rm ≤ 15) (hl0 : 0 ≤ list) (hl1 : list ≤ 65535) (hc0 : 0 ≤ cond) (hc1 : cond ≤ 15) :
    fillP row_18 28672 cond rd rn rm imm list = if z7 (0) (rd - rd / 1 % 8 * 1) (rn - rn / 1 % 8 * 1) (rm) (x - x / 1 % 32 * 1) (list) (cond) = true then some (28672 + x / 1 % 32 * 64 + rn / 1 % 8 * 8 + rd / 1 % 8 * 1) else none := by
  have hx0 : 0 ≤ x := by omega
  have hx1 : x < 4294967296 := by omega
  unfold fillP foldP
  rw [fields_fw cond rd rn rm imm list hd0 hd1 hn0 hn1 hm0 hm1 hl0 hl1 hc0 hc1, hx]
  have e : row_18.pcs.foldl pcStep (28672, fw 0 rd rn rm x list cond) = (28672 + x / 1 % 32 * 64 + rn / 1 % 8 * 8 + rd / 1 % 8 * 1, fw (0) (rd - rd / 1 % 8 * 1) (rn - rn / 1 % 8 * 1) (rm) (x - x / 1 % 32 * 1) (list) (cond)) := by
    show List.foldl pcStep _ [⟨4, 4, 0, 6⟩, ⟨2, 2, 0, 3⟩, ⟨1, 2, 0, 0⟩, ⟨0, 0, 0, 0⟩] = _
    rw [List.foldl_cons, (ps_4_4_0_6 (28672) (0) (rd) (rn) (rm) (x) (list) (cond) (by omega) (by omega) (by omega) (by omega) (by omega)), List.foldl_cons, (ps_2_2_0_3 (28672 + x / 1 % 32 * 64) (0) (rd) (rn) (rm) (x - x / 1 % 32 * 1) (list) (cond) (by omega) (by omega) (by omega) (by omega) (by omega)), List.foldl_cons, (ps_1_2_0_0 (28672 + x / 1 % 32 * 64 + rn / 1 % 8 * 8) (0) (rd) (rn - rn / 1 % 8 * 1) (rm) (x - x / 1 % 32 * 1) (list) (cond) (by omega) (by omega) (by omega) (by omega) (by omega)), List.foldl_cons, (ps_none (28672 + x / 1 % 32 * 64 + rn / 1 % 8 * 8 + rd / 1 % 8 * 1) (rd - rd / 1 % 8 * 1) (rn - rn / 1 % 8 * 1) (rm) (x - x / 1 % 32 * 1) (list) (cond) (by omega) (by omega)), List.foldl_nil]
  rw [e]
  show fillEnd _ _ 0 imm = _
  unfold fillEnd
  rw [fits0, zero_fw]
  rfl
theorem fill_18_1 (cond rd rn rm imm list x : Int) (hx : imm % 4294967296 = x) (hd0 : 0 ≤ rd) (hd1 : rd ≤ 15) (hn0 : 0 ≤ rn) (hn1 : rn ≤ 15) (hm0 : 0 ≤ rm) (hm1 : rm ≤ 15) (hl0 : 0 ≤ list) (hl1 : list ≤ 65535) (hc0 : 0 ≤ cond) (hc1 : cond ≤ 15) :
    fillP row_18 30720 cond rd rn rm imm list = if z7 (0) (rd - rd / 1 % 8 * 1) (rn - rn / 1 % 8 * 1) (rm) (x - x / 1 % 32 * 1) (list) (cond) = true then some (30720 + x / 1 % 32 * 64 + rn / 1 % 8 * 8 + rd / 1 % 8 * 1) else none := by
  have hx0 : 0 ≤ x := by omega
  have hx1 : x < 4294967296 := by omega
  unfold fillP foldP
  rw [fields_fw cond rd rn rm imm list hd0 hd1 hn0 hn1 hm0 hm1 hl0 hl1 hc0 hc1, hx]
  have e : row_18.pcs.foldl pcStep (30720, fw 0 rd rn rm x list cond) = (30720 + x / 1 % 32 * 64 + rn / 1 % 8 * 8 + rd / 1 % 8 * 1, fw (0) (rd - rd / 1 % 8 * 1) (rn - rn / 1 % 8 * 1) (rm) (x - x / 1 % 32 * 1) (list) (cond)) := by
    show List.foldl pcStep _ [⟨4, 4, 0, 6⟩, ⟨2, 2, 0, 3⟩, ⟨1, 2, 0, 0⟩, ⟨0, 0, 0, 0⟩] = _
    rw [List.foldl_cons, (ps_4_4_0_6 (30720) (0) (rd) (rn) (rm) (x) (list) (cond) (by omega) (by omega) (by omega) (by omega) (by omega)), List.foldl_cons, (ps_2_2_0_3 (30720 + x / 1 % 32 * 64) (0) (rd) (rn) (rm) (x - x / 1 % 32 * 1) (list) (cond) (by omega) (by omega) (by omega) (by omega) (by omega)), List.foldl_cons, (ps_1_2_0_0 (30720 + x / 1 % 32 * 64 + rn / 1 % 8 * 8) (0) (rd) (rn - rn / 1 % 8 * 1) (rm) (x - x / 1 % 32 * 1) (list) (cond) (by omega) (by omega) (by omega) (by omega) (by omega)), List.foldl_cons, (ps_none (30720 + x / 1 % 32 * 64 + rn / 1 % 8 * 8 + rd / 1 % 8 * 1) (rd - rd / 1 % 8 * 1) (rn - rn / 1 % 8 * 1) (rm) (x - x / 1 % 32 * 1) (list) (cond) (by omega) (by omega)), List.foldl_nil]
  rw [e]
  show fillEnd _ _ 0 imm = _
  unfold fillEnd
  rw [fits0, zero_fw]
  rfl
theorem fill_19_0 (cond rd rn rm imm list x : Int) (hx : imm % 4294967296 = x) (hd0 : 0 ≤ rd) (hd1 : rd ≤ 15) (hn0 : 0 ≤ rn) (hn1 : rn ≤ 15) (hm0 : 0 ≤ rm) (hm1 : rm ≤ 15) (hl0 : 0 ≤ list) (hl1 : list ≤ 65535) (hc0 : 0 ≤ cond) (hc1 : cond ≤ 15) :
    fillP row_19 32768 cond rd rn rm imm list = if z7 (0) (rd - rd / 1 % 8 * 1) (rn - rn / 1 % 8 * 1) (rm) (x - x / 2 % 32 * 2) (list) (cond) = true then some (32768 + x / 2 % 32 * 64 + rn / 1 % 8 * 8 + rd / 1 % 8 * 1) else none := by
  have hx0 : 0 ≤ x := by omega
  have hx1 : x < 4294967296 := by omega
  unfold fillP foldP
  rw [fields_fw cond rd rn rm imm list hd0 hd1 hn0 hn1 hm0 hm1 hl0 hl1 hc0 hc1, hx]
  have e : row_19.pcs.foldl pcStep (32768, fw 0 rd rn rm x list cond) = (32768 + x / 2 % 32 * 64 + rn / 1 % 8 * 8 + rd / 1 % 8 * 1, fw (0) (rd - rd / 1 % 8 * 1) (rn - rn / 1 % 8 * 1) (rm) (x - x / 2 % 32 * 2) (list) (cond)) := by
    show List.foldl pcStep _ [⟨4, 5, 1, 6⟩, ⟨2, 2, 0, 3⟩, ⟨1, 2, 0, 0⟩, ⟨0, 0, 0, 0⟩] = _
    rw [List.foldl_cons, (ps_4_5_1_6 (32768) (0) (rd) (rn) (rm) (x) (list) (cond) (by omega) (by omega) (by omega) (by omega) (by omega)), List.foldl_cons, (ps_2_2_0_3 (32768 + x / 2 % 32 * 64) (0) (rd) (rn) (rm) (x - x / 2 % 32 * 2) (list) (cond) (by omega) (by omega) (by omega) (by omega) (by omega)), List.foldl_cons, (ps_1_2_0_0 (32768 + x / 2 % 32 * 64 + rn / 1 % 8 * 8) (0) (rd) (rn - rn / 1 % 8 * 1) (rm) (x - x / 2 % 32 * 2) (list) (cond) (by omega) (by omega) (by omega) (by omega) (by omega)), List.foldl_cons, (ps_none (32768 + x / 2 % 32 * 64 + rn / 1 % 8 * 8 + rd / 1 % 8 * 1) (rd - rd / 1 % 8 * 1) (rn - rn / 1 % 8 * 1) (rm) (x - x / 2 % 32 * 2) (list) (cond) (by omega) (by omega)), List.foldl_nil]
  rw [e]
  show fillEnd _ _ 0 imm = _
  unfold fillEnd
  rw [fits0, zero_fw]
  rfl
theorem fill_19_1 (cond rd rn rm imm list x : Int) (hx : imm % 4294967296 = x) (hd0 : 0 ≤ rd) (hd1 : rd ≤ 15) (hn0 : 0 ≤ rn) (hn1 : rn ≤ 15) (hm0 : 0 ≤ rm) (hm1 : rm ≤ 15) (hl0 : 0 ≤ list) (hl1 : list ≤ 65535) (hc0 : 0 ≤ cond) (hc1 : cond ≤ 15) :
    fillP row_19 34816 cond rd rn rm imm list = if z7 (0) (rd - rd / 1 % 8 * 1) (rn - rn / 1 % 8 * 1) (rm) (x - x / 2 % 32 * 2) (list) (cond) = true then some (34816 + x / 2 % 32 * 64 + rn / 1 % 8 * 8 + rd / 1 % 8 * 1) else none := by
  have hx0 : 0 ≤ x := by omega
  have hx1 : x < 4294967296 := by omega
  unfold fillP foldP
  rw [fields_fw cond rd rn rm imm list hd0 hd1 hn0 hn1 hm0 hm1 hl0 hl1 hc0 hc1, hx]
  have e : row_19.pcs.foldl pcStep (34816, fw 0 rd rn rm x list cond) = (34816 + x / 2 % 32 * 64 + rn / 1 % 8 * 8 + rd / 1 % 8 * 1, fw (0) (rd - rd / 1 % 8 * 1) (rn - rn / 1 % 8 * 1) (rm) (x - x / 2 % 32 * 2) (list) (cond)) := by
    show List.foldl pcStep _ [⟨4, 5, 1, 6⟩, ⟨2, 2, 0, 3⟩, ⟨1, 2, 0, 0⟩, ⟨0, 0, 0, 0⟩] = _
    rw [List.foldl_cons, (ps_4_5_1_6 (34816) (0) (rd) (rn) (rm) (x) (list) (cond) (by omega) (by omega) (by omega) (by omega) (by omega)), List.foldl_cons, (ps_2_2_0_3 (34816 + x / 2 % 32 * 64) (0) (rd) (rn) (rm) (x - x / 2 % 32 * 2) (list) (cond) (by omega) (by omega) (by omega) (by omega) (by omega)), List.foldl_cons, (ps_1_2_0_0 (34816 + x / 2 % 32 * 64 + rn / 1 % 8 * 8) (0) (rd) (rn - rn / 1 % 8 * 1) (rm) (x - x / 2 % 32 * 2) (list) (cond) (by omega) (by omega) (by omega) (by omega) (by omega)), List.foldl_cons, (ps_none (34816 + x / 2 % 32 * 64 + rn / 1 % 8 * 8 + rd / 1 % 8 * 1) (rd - rd / 1 % 8 * 1) (rn - rn / 1 % 8 * 1) (rm) (x - x / 2 % 32 * 2) (list) (cond) (by omega) (by omega)), List.foldl_nil]
  rw [e]
  show fillEnd _ _ 0 imm = _
  unfold fillEnd
  rw [fits0, zero_fw]
  rfl
theorem fill_20_0 (cond rd rn rm imm list x : Int) (hx : imm % 4294967296 = x) (hd0 : 0 ≤ rd) (hd1 : rd ≤ 15) (hn0 : 0 ≤ rn) (hn1 : rn ≤ 15) (hm0 : 0 ≤ rm) (hm1 : rm ≤ 15) (hl0 : 0 ≤ list) (hl1 : list ≤ 65535) (hc0 : 0 ≤ cond) (hc1 : cond ≤ 15) :
    fillP row_20 36864 cond rd rn rm imm list = if z7 (0) (rd - rd / 1 % 8 * 1) (rn - rn / 1 % 16 * 1) (rm) (x - x / 4 % 256 * 4) (list) (cond) = true then some (36864 + rd / 1 % 8 * 256 + x / 4 % 256 * 1) else none := by
  have hx0 : 0 ≤ x := by omega
  have hx1 : x < 4294967296 := by omega
  unfold fillP foldP
  rw [fields_fw cond rd rn rm imm list hd0 hd1 hn0 hn1 hm0 hm1 hl0 hl1 hc0 hc1, hx]
  have e : row_20.pcs.foldl pcStep (36864, fw 0 rd rn rm x list cond) = (36864 + rd / 1 % 8 * 256 + x / 4 % 256 * 1, fw (0) (rd - rd / 1 % 8 * 1) (rn - rn / 1 % 16 * 1) (rm) (x - x / 4 % 256 * 4) (list) (cond)) := by
    show List.foldl pcStep _ [⟨1, 2, 0, 8⟩, ⟨4, 9, 2, 0⟩, ⟨2, 3, 0, 32⟩, ⟨0, 0, 0, 0⟩] = _
    rw [List.foldl_cons, (ps_1_2_0_8 (36864) (0) (rd) (rn) (rm) (x) (list) (cond) (by omega) (by omega) (by omega) (by omega) (by omega)), List.foldl_cons, (ps_4_9_2_0 (36864 + rd / 1 % 8 * 256) (0) (rd - rd / 1 % 8 * 1) (rn) (rm) (x) (list) (cond) (by omega) (by omega) (by omega) (by omega) (by omega)), List.foldl_cons, (ps_2_3_0_32 (36864 + rd / 1 % 8 * 256 + x / 4 % 256 * 1) (0) (rd - rd / 1 % 8 * 1) (rn) (rm) (x - x / 4 % 256 * 4) (list) (cond) (by omega) (by omega) (by omega) (by omega)), List.foldl_cons, (ps_none (36864 + rd / 1 % 8 * 256 + x / 4 % 256 * 1) (rd - rd / 1 % 8 * 1) (rn - rn / 1 % 16 * 1) (rm) (x - x / 4 % 256 * 4) (list) (cond) (by omega) (by omega)), List.foldl_nil]
  rw [e]
  show fillEnd _ _ 0 imm = _
  unfold fillEnd
  rw [fits0, zero_fw]
  rfl
theorem fill_20_1 (cond rd rn rm imm list x : Int) (hx : imm % 4294967296 = x) (hd0 : 0 ≤ rd) (hd1 : rd ≤ 15) (hn0 : 0 ≤ rn) (hn1 : rn ≤ 15) (hm0 : 0 ≤ rm) (hm1 : rm ≤ 15) (hl0 : 0 ≤ list) (hl1 : list ≤ 65535) (hc0 : 0 ≤ cond) (hc1 : cond ≤ 15) :
    fillP row_20 38912 cond rd rn rm imm list = if z7 (0) (rd - rd / 1 % 8 * 1) (rn - rn / 1 % 16 * 1) (rm) (x - x / 4 % 256 * 4) (list) (cond) = true then some (38912 + rd / 1 % 8 * 256 + x / 4 % 256 * 1) else none := by
  have hx0 : 0 ≤ x := by omega
  have hx1 : x < 4294967296 := by omega
  unfold fillP foldP
  rw [fields_fw cond rd rn rm imm list hd0 hd1 hn0 hn1 hm0 hm1 hl0 hl1 hc0 hc1, hx]
  have e : row_20.pcs.foldl pcStep (38912, fw 0 rd rn rm x list cond) = (38912 + rd / 1 % 8 * 256 + x / 4 % 256 * 1, fw (0) (rd - rd / 1 % 8 * 1) (rn - rn / 1 % 16 * 1) (rm) (x - x / 4 % 256 * 4) (list) (cond)) := by
    show List.foldl pcStep _ [⟨1, 2, 0, 8⟩, ⟨4, 9, 2, 0⟩, ⟨2, 3, 0, 32⟩, ⟨0, 0, 0, 0⟩] = _
    rw [List.foldl_cons, (ps_1_2_0_8 (38912) (0) (rd) (rn) (rm) (x) (list) (cond) (by omega) (by omega) (by omega) (by omega) (by omega)), List.foldl_cons, (ps_4_9_2_0 (38912 + rd / 1 % 8 * 256) (0) (rd - rd / 1 % 8 * 1) (rn) (rm) (x) (list) (cond) (by omega) (by omega) (by omega) (by omega) (by omega)), List.foldl_cons, (ps_2_3_0_32 (38912 + rd / 1 % 8 * 256 + x / 4 % 256 * 1) (0) (rd - rd / 1 % 8 * 1) (rn) (rm) (x - x / 4 % 256 * 4) (list) (cond) (by omega) (by omega) (by omega) (by omega)), List.foldl_cons, (ps_none (38912 + rd / 1 % 8 * 256 + x / 4 % 256 * 1) (rd - rd / 1 % 8 * 1) (rn - rn / 1 % 16 * 1) (rm) (x - x / 4 % 256 * 4) (list) (cond) (by omega) (by omega)), List.foldl_nil]
  rw [e]
  show fillEnd _ _ 0 imm = _
  unfold fillEnd
  rw [fits0, zero_fw]
  rfl
theorem fill_21_0 (cond rd rn rm imm list x : Int) (hx : imm % 4294967296 = x) (hd0 : 0 ≤ rd) (hd1 : rd ≤ 15) (hn0 : 0 ≤ rn) (hn1 : rn ≤ 15) (hm0 : 0 ≤ rm) (hm1 : rm ≤ 15) (hl0 : 0 ≤ list) (hl1 : list ≤ 65535) (hc0 : 0 ≤ cond) (hc1 : cond ≤ 15) :
    fillP row_21 20480 cond rd rn rm imm list = if z7 (0) (rd - rd / 1 % 8 * 1) (rn - rn / 1 % 8 * 1) (rm - rm / 1 % 8 * 1) (x) (list) (cond) = true then some (20480 + rm / 1 % 8 * 64 + rn / 1 % 8 * 8 + rd / 1 % 8 * 1) else none := by
  have hx0 : 0 ≤ x := by omega
  have hx1 : x < 4294967296 := by omega
  unfold fillP foldP
  rw [fields_fw cond rd rn rm imm list hd0 hd1 hn0 hn1 hm0 hm1 hl0 hl1 hc0 hc1, hx]
  have e : row_21.pcs.foldl pcStep (20480, fw 0 rd rn rm x list cond) = (20480 + rm / 1 % 8 * 64 + rn / 1 % 8 * 8 + rd / 1 % 8 * 1, fw (0) (rd - rd / 1 % 8 * 1) (rn - rn / 1 % 8 * 1) (rm - rm / 1 % 8 * 1) (x) (list) (cond)) := by
    show List.foldl pcStep _ [⟨3, 2, 0, 6⟩, ⟨2, 2, 0, 3⟩, ⟨1, 2, 0, 0⟩, ⟨0, 0, 0, 0⟩] = _
    rw [List.foldl_cons, (ps_3_2_0_6 (20480) (0) (rd) (rn) (rm) (x) (list) (cond) (by omega) (by omega) (by omega) (by omega) (by omega)), List.foldl_cons, (ps_2_2_0_3 (20480 + rm / 1 % 8 * 64) (0) (rd) (rn) (rm - rm / 1 % 8 * 1) (x) (list) (cond) (by omega) (by omega) (by omega) (by omega) (by omega)), List.foldl_cons, (ps_1_2_0_0 (20480 + rm / 1 % 8 * 64 + rn / 1 % 8 * 8) (0) (rd) (rn - rn / 1 % 8 * 1) (rm - rm / 1 % 8 * 1) (x) (list) (cond) (by omega) (by omega) (by omega) (by omega) (by omega)), List.foldl_cons, (ps_none (20480 + rm / 1 % 8 * 64 + rn / 1 % 8 * 8 + rd / 1 % 8 * 1) (rd - rd / 1 % 8 * 1) (rn - rn / 1 % 8 * 1) (rm - rm / 1 % 8 * 1) (x) (list) (cond) (by omega) (by omega)), List.foldl_nil]
  rw [e]
  show fillEnd _ _ 0 imm = _
  unfold fillEnd
  rw [fits0, zero_fw]
  rfl
theorem fill_21_1 (cond rd rn rm imm list x : Int) (hx : imm % 4294967296 = x) (hd0 : 0 ≤ rd) (hd1 : rd ≤ 15) (hn0 : 0 ≤ rn) (hn1 : rn ≤ 15) (hm0 : 0 ≤ rm) (hm1 : rm ≤ 15) (hl0 : 0 ≤ list) (hl1 : list ≤ 65535) (hc0 : 0 ≤ cond) (hc1 : cond ≤ 15) :
    fillP row_21 20992 cond rd rn rm imm list = if z7 (0) (rd - rd / 1 % 8 * 1) (rn - rn / 1 % 8 * 1) (rm - rm / 1 % 8 * 1) (x) (list) (cond) = true then some (20992 + rm / 1 % 8 * 64 + rn / 1 % 8 * 8 + rd / 1 % 8 * 1) else none := by
  have hx0 : 0 ≤ x := by omega
  have hx1 : x < 4294967296 := by omega
  unfold fillP foldP
  rw [fields_fw cond rd rn rm imm list hd0 hd1 hn0 hn1 hm0 hm1 hl0 hl1 hc0 hc1, hx]
  have e : row_21.pcs.foldl pcStep (20992, fw 0 rd rn rm x list cond) = (20992 + rm / 1 % 8 * 64 + rn / 1 % 8 * 8 + rd / 1 % 8 * 1, fw (0) (rd - rd / 1 % 8 * 1) (rn - rn / 1 % 8 * 1) (rm - rm / 1 % 8 * 1) (x) (list) (cond)) := by
    show List.foldl pcStep _ [⟨3, 2, 0, 6⟩, ⟨2, 2, 0, 3⟩, ⟨1, 2, 0, 0⟩, ⟨0, 0, 0, 0⟩] = _
    rw [List.foldl_cons, (ps_3_2_0_6 (20992) (0) (rd) (rn) (rm) (x) (list) (cond) (by omega) (by omega) (by omega) (by omega) (by omega)), List.foldl_cons, (ps_2_2_0_3 (20992 + rm / 1 % 8 * 64) (0) (rd) (rn) (rm - rm / 1 % 8 * 1) (x) (list) (cond) (by omega) (by omega) (by omega) (by omega) (by omega)), List.foldl_cons, (ps_1_2_0_0 (20992 + rm / 1 % 8 * 64 + rn / 1 % 8 * 8) (0) (rd) (rn - rn / 1 % 8 * 1) (rm - rm / 1 % 8 * 1) (x) (list) (cond) (by omega) (by omega) (by omega) (by omega) (by omega)), List.foldl_cons, (ps_none (20992 + rm / 1 % 8 * 64 + rn / 1 % 8 * 8 + rd / 1 % 8 * 1) (rd - rd / 1 % 8 * 1) (rn - rn / 1 % 8 * 1) (rm - rm / 1 % 8 * 1) (x) (list) (cond) (by omega) (by omega)), List.foldl_nil]
  rw [e]
  show fillEnd _ _ 0 imm = _
  unfold fillEnd
  rw [fits0, zero_fw]
  rfl
theorem fill_21_2 (cond rd rn rm imm list x : Int) (hx : imm % 4294967296 = x) (hd0 : 0 ≤ rd) (hd1 : rd ≤ 15) (hn0 : 0 ≤ rn) (hn1 : rn ≤ 15) (hm0 : 0 ≤ rm) (hm1 : rm ≤ 15) (hl0 : 0 ≤ list) (hl1 : list ≤ 65535) (hc0 : 0 ≤ cond) (hc1 : cond ≤ 15) :
    fillP row_21 21504 cond rd rn rm imm list = if z7 (0) (rd - rd / 1 % 8 * 1) (rn - rn / 1 % 8 * 1) (rm - rm / 1 % 8 * 1) (x) (list) (cond) = true then some (21504 + rm / 1 % 8 * 64 + rn / 1 % 8 * 8 + rd / 1 % 8 * 1) else none := by
  have hx0 : 0 ≤ x := by omega
  have hx1 : x < 4294967296 := by omega
  unfold fillP foldP
  rw [fields_fw cond rd rn rm imm list hd0 hd1 hn0 hn1 hm0 hm1 hl0 hl1 hc0 hc1, hx]
  have e : row_21.pcs.foldl pcStep (21504, fw 0 rd rn rm x list cond) = (21504 + rm / 1 % 8 * 64 + rn / 1 % 8 * 8 + rd / 1 % 8 * 1, fw (0) (rd - rd / 1 % 8 * 1) (rn - rn / 1 % 8 * 1) (rm - rm / 1 % 8 * 1) (x) (list) (cond)) := by
    show List.foldl pcStep _ [⟨3, 2, 0, 6⟩, ⟨2, 2, 0, 3⟩, ⟨1, 2, 0, 0⟩, ⟨0, 0, 0, 0⟩] = _
    rw [List.foldl_cons, (ps_3_2_0_6 (21504) (0) (rd) (rn) (rm) (x) (list) (cond) (by omega) (by omega) (by omega) (by omega) (by omega)), List.foldl_cons, (ps_2_2_0_3 (21504 + rm / 1 % 8 * 64) (0) (rd) (rn) (rm - rm / 1 % 8 * 1) (x) (list) (cond) (by omega) (by omega) (by omega) (by omega) (by omega)), List.foldl_cons, (ps_1_2_0_0 (21504 + rm / 1 % 8 * 64 + rn / 1 % 8 * 8) (0) (rd) (rn - rn / 1 % 8 * 1) (rm - rm / 1 % 8 * 1) (x) (list) (cond) (by omega) (by omega) (by omega) (by omega) (by omega)), List.foldl_cons, (ps_none (21504 + rm / 1 % 8 * 64 + rn / 1 % 8 * 8 + rd / 1 % 8 * 1) (rd - rd / 1 % 8 * 1) (rn - rn / 1 % 8 * 1) (rm - rm / 1 % 8 * 1) (x) (list) (cond) (by omega) (by omega)), List.foldl_nil]
  rw [e]
  show fillEnd _ _ 0 imm = _
  unfold fillEnd
  rw [fits0, zero_fw]
  rfl
theorem fill_21_3 (cond rd rn rm imm list x : Int) (hx : imm % 4294967296 = x) (hd0 : 0 ≤ rd) (hd1 : rd ≤ 15) (hn0 : 0 ≤ rn) (hn1 : rn ≤ 15) (hm0 : 0 ≤ rm) (hm1 : rm ≤ 15) (hl0 : 0 ≤ list) (hl1 : list ≤ 65535) (hc0 : 0 ≤ cond) (hc1 : cond ≤ 15) :
    fillP row_21 22528 cond rd rn rm imm list = if z7 (0) (rd - rd / 1 % 8 * 1) (rn - rn / 1 % 8 * 1) (rm - rm / 1 % 8 * 1) (x) (list) (cond) = true then some (22528 + rm / 1 % 8 * 64 + rn / 1 % 8 * 8 + rd / 1 % 8 * 1) else none := by
  have hx0 : 0 ≤ x := by omega
  have hx1 : x < 4294967296 := by omega
  unfold fillP foldP
  rw [fields_fw cond rd rn rm imm list hd0 hd1 hn0 hn1 hm0 hm1 hl0 hl1 hc0 hc1, hx]
  have e : row_21.pcs.foldl pcStep (22528, fw 0 rd rn rm x list cond) = (22528 + rm / 1 % 8 * 64 + rn / 1 % 8 * 8 + rd / 1 % 8 * 1, fw (0) (rd - rd / 1 % 8 * 1) (rn - rn / 1 % 8 * 1) (rm - rm / 1 % 8 * 1) (x) (list) (cond)) := by
    show List.foldl pcStep _ [⟨3, 2, 0, 6⟩, ⟨2, 2, 0, 3⟩, ⟨1, 2, 0, 0⟩, ⟨0, 0, 0, 0⟩] = _
    rw [List.foldl_cons, (ps_3_2_0_6 (22528) (0) (rd) (rn) (rm) (x) (list) (cond) (by omega) (by omega) (by omega) (by omega) (by omega)), List.foldl_cons, (ps_2_2_0_3 (22528 + rm / 1 % 8 * 64) (0) (rd) (rn) (rm - rm / 1 % 8 * 1) (x) (list) (cond) (by omega) (by omega) (by omega) (by omega) (by omega)), List.foldl_cons, (ps_1_2_0_0 (22528 + rm / 1 % 8 * 64 + rn / 1 % 8 * 8) (0) (rd) (rn - rn / 1 % 8 * 1) (rm - rm / 1 % 8 * 1) (x) (list) (cond) (by omega) (by omega) (by omega) (by omega) (by omega)), List.foldl_cons, (ps_none (22528 + rm / 1 % 8 * 64 + rn / 1 % 8 * 8 + rd / 1 % 8 * 1) (rd - rd / 1 % 8 * 1) (rn - rn / 1 % 8 * 1) (rm - rm / 1 % 8 * 1) (x) (list) (cond) (by omega) (by omega)), List.foldl_nil]
  rw [e]
  show fillEnd _ _ 0 imm = _
  unfold fillEnd
  rw [fits0, zero_fw]
  rfl
theorem fill_21_4 (cond rd rn rm imm list x : Int) (hx : imm % 4294967296 = x) (hd0 : 0 ≤ rd) (hd1 : rd ≤ 15) (hn0 : 0 ≤ rn) (hn1 : rn ≤ 15) (hm0 : 0 ≤ rm) (hm1 : rm ≤ 15) (hl0 : 0 ≤ list) (hl1 : list ≤ 65535) (hc0 : 0 ≤ cond) (hc1 : cond ≤ 15) :
    fillP row_21 23040 cond rd rn rm imm list = if z7 (0) (rd - rd / 1 % 8 * 1) (rn - rn / 1 % 8 * 1) (rm - rm / 1 % 8 * 1) (x) (list) (cond) = true then some (23040 + rm / 1 % 8 * 64 + rn / 1 % 8 * 8 + rd / 1 % 8 * 1) else none := by
  have hx0 : 0 ≤ x := by omega
  have hx1 : x < 4294967296 := by omega
  unfold fillP foldP
  rw [fields_fw cond rd rn rm imm list hd0 hd1 hn0 hn1 hm0 hm1 hl0 hl1 hc0 hc1, hx]
  have e : row_21.pcs.foldl pcStep (23040, fw 0 rd rn rm x list cond) = (23040 + rm / 1 % 8 * 64 + rn / 1 % 8 * 8 + rd / 1 % 8 * 1, fw (0) (rd - rd / 1 % 8 * 1) (rn - rn / 1 % 8 * 1) (rm - rm / 1 % 8 * 1) (x) (list) (cond)) := by
    show List.foldl pcStep _ [⟨3, 2, 0, 6⟩, ⟨2, 2, 0, 3⟩, ⟨1, 2, 0, 0⟩, ⟨0, 0, 0, 0⟩] = _
    rw [List.foldl_cons, (ps_3_2_0_6 (23040) (0) (rd) (rn) (rm) (x) (list) (cond) (by omega) (by omega) (by omega) (by omega) (by omega)), List.foldl_cons, (ps_2_2_0_3 (23040 + rm / 1 % 8 * 64) (0) (rd) (rn) (rm - rm / 1 % 8 * 1) (x) (list) (cond) (by omega) (by omega) (by omega) (by omega) (by omega)), List.foldl_cons, (ps_1_2_0_0 (23040 + rm / 1 % 8 * 64 + rn / 1 % 8 * 8) (0) (rd) (rn - rn / 1 % 8 * 1) (rm - rm / 1 % 8 * 1) (x) (list) (cond) (by omega) (by omega) (by omega) (by omega) (by omega)), List.foldl_cons, (ps_none (23040 + rm / 1 % 8 * 64 + rn / 1 % 8 * 8 + rd / 1 % 8 * 1) (rd - rd / 1 % 8 * 1) (rn - rn / 1 % 8 * 1) (rm - rm / 1 % 8 * 1) (x) (list) (cond) (by omega) (by omega)), List.foldl_nil]
  rw [e]
  show fillEnd _ _ 0 imm = _
  unfold fillEnd
  rw [fits0, zero_fw]
  rfl
theorem fill_21_5 (cond rd rn rm imm list x : Int) (hx : imm % 4294967296 = x) (hd0 : 0 ≤ rd) (hd1 : rd ≤ 15) (hn0 : 0 ≤ rn) (hn1 : rn ≤ 15) (hm0 : 0 ≤ rm) (hm1 : rm ≤ 15) (hl0 : 0 ≤ list) (hl1 : list ≤ 65535) (hc0 : 0 ≤ cond) (hc1 : cond ≤ 15) :
    fillP row_21 23552 cond rd rn rm imm list = if z7 (0) (rd - rd / 1 % 8 * 1) (rn - rn / 1 % 8 * 1) (rm - rm / 1 % 8 * 1) (x) (list) (cond) = true then some (23552 + rm / 1 % 8 * 64 + rn / 1 % 8 * 8 + rd / 1 % 8 * 1) else none := by
  have hx0 : 0 ≤ x := by omega
  have hx1 : x < 4294967296 := by omega
  unfold fillP foldP
  rw [fields_fw cond rd rn rm imm list hd0 hd1 hn0 hn1 hm0 hm1 hl0 hl1 hc0 hc1, hx]
  have e : row_21.pcs.foldl pcStep (23552, fw 0 rd rn rm x list cond) = (23552 + rm / 1 % 8 * 64 + rn / 1 % 8 * 8 + rd / 1 % 8 * 1, fw (0) (rd - rd / 1 % 8 * 1) (rn - rn / 1 % 8 * 1) (rm - rm / 1 % 8 * 1) (x) (list) (cond)) := by
    show List.foldl pcStep _ [⟨3, 2, 0, 6⟩, ⟨2, 2, 0, 3⟩, ⟨1, 2, 0, 0⟩, ⟨0, 0, 0, 0⟩] = _
    rw [List.foldl_cons, (ps_3_2_0_6 (23552) (0) (rd) (rn) (rm) (x) (list) (cond) (by omega) (by omega) (by omega) (by omega) (by omega)), List.foldl_cons, (ps_2_2_0_3 (23552 + rm / 1 % 8 * 64) (0) (rd) (rn) (rm - rm / 1 % 8 * 1) (x) (list) (cond) (by omega) (by omega) (by omega) (by omega) (by omega)), List.foldl_cons, (ps_1_2_0_0 (23552 + rm / 1 % 8 * 64 + rn / 1 % 8 * 8) (0) (rd) (rn - rn / 1 % 8 * 1) (rm - rm / 1 % 8 * 1) (x) (list) (cond) (by omega) (by omega) (by omega) (by omega) (by omega)), List.foldl_cons, (ps_none (23552 + rm / 1 % 8 * 64 + rn / 1 % 8 * 8 + rd / 1 % 8 * 1) (rd - rd / 1 % 8 * 1) (rn - rn / 1 % 8 * 1) (rm - rm / 1 % 8 * 1) (x) (list) (cond) (by omega) (by omega)), List.foldl_nil]
  rw [e]
  show fillEnd _ _ 0 imm = _
  unfold fillEnd
  rw [fits0, zero_fw]
  rfl
theorem fill_22_0 (cond rd rn rm imm list x : Int) (hx : imm % 4294967296 = x) (hd0 : 0 ≤ rd) (hd1 : rd ≤ 15) (hn0 : 0 ≤ rn) (hn1 : rn ≤ 15) (hm0 : 0 ≤ rm) (hm1 : rm ≤ 15) (hl0 : 0 ≤ list) (hl1 : list ≤ 65535) (hc0 : 0 ≤ cond) (hc1 : cond ≤ 15) :
    fillP row_22 49152 cond rd rn rm imm list = if z7 (0) (rd) (rn - rn / 1 % 8 * 1) (rm) (x) (list - list / 1 % 256 * 1) (cond) = true then some (49152 + rn / 1 % 8 * 256 + list / 1 % 256 * 1) else none := by
  have hx0 : 0 ≤ x := by omega
  have hx1 : x < 4294967296 := by omega
  unfold fillP foldP
  rw [fields_fw cond rd rn rm imm list hd0 hd1 hn0 hn1 hm0 hm1 hl0 hl1 hc0 hc1, hx]
  have e : row_22.pcs.foldl pcStep (49152, fw 0 rd rn rm x list cond) = (49152 + rn / 1 % 8 * 256 + list / 1 % 256 * 1, fw (0) (rd) (rn - rn / 1 % 8 * 1) (rm) (x) (list - list / 1 % 256 * 1) (cond)) := by
    show List.foldl pcStep _ [⟨2, 2, 0, 8⟩, ⟨5, 7, 0, 0⟩, ⟨0, 0, 0, 0⟩, ⟨0, 0, 0, 0⟩] = _
    rw [List.foldl_cons, (ps_2_2_0_8 (49152) (0) (rd) (rn) (rm) (x) (list) (cond) (by omega) (by omega) (by omega) (by omega) (by omega)), List.foldl_cons, (ps_5_7_0_0 (49152 + rn / 1 % 8 * 256) (0) (rd) (rn - rn / 1 % 8 * 1) (rm) (x) (list) (cond) (by omega) (by omega) (by omega) (by omega) (by omega)), List.foldl_cons, (ps_none (49152 + rn / 1 % 8 * 256 + list / 1 % 256 * 1) (rd) (rn - rn / 1 % 8 * 1) (rm) (x) (list - list / 1 % 256 * 1) (cond) (by omega) (by omega)), List.foldl_cons, (ps_none (49152 + rn / 1 % 8 * 256 + list / 1 % 256 * 1) (rd) (rn - rn / 1 % 8 * 1) (rm) (x) (list - list / 1 % 256 * 1) (cond) (by omega) (by omega)), List.foldl_nil]
  rw [e]
  show fillEnd _ _ 0 imm = _
  unfold fillEnd
  rw [fits0, zero_fw]
  rfl
theorem fill_22_1 (cond rd rn rm imm list x : Int) (hx : imm % 4294967296 = x) (hd0 : 0 ≤ rd) (hd1 : rd ≤ 15) (hn0 : 0 ≤ rn) (hn1 : rn ≤ 15) (hm0 : 0 ≤ rm) (hm1 : rm ≤ 15) (hl0 : 0 ≤ list) (hl1 : list ≤ 65535) (hc0 : 0 ≤ cond) (hc1 : cond ≤ 15) :
    fillP row_22 51200 cond rd rn rm imm list = if z7 (0) (rd) (rn - rn / 1 % 8 * 1) (rm) (x) (list - list / 1 % 256 * 1) (cond) = true then some (51200 + rn / 1 % 8 * 256 + list / 1 % 256 * 1) else none := by
  have hx0 : 0 ≤ x := by omega
  have hx1 : x < 4294967296 := by omega
  unfold fillP foldP
  rw [fields_fw cond rd rn rm imm list hd0 hd1 hn0 hn1 hm0 hm1 hl0 hl1 hc0 hc1, hx]
  have e : row_22.pcs.foldl pcStep (51200, fw 0 rd rn rm x list cond) = (51200 + rn / 1 % 8 * 256 + list / 1 % 256 * 1, fw (0) (rd) (rn - rn / 1 % 8 * 1) (rm) (x) (list - list / 1 % 256 * 1) (cond)) := by
    show List.foldl pcStep _ [⟨2, 2, 0, 8⟩, ⟨5, 7, 0, 0⟩, ⟨0, 0, 0, 0⟩, ⟨0, 0, 0, 0⟩] = _
    rw [List.foldl_cons, (ps_2_2_0_8 (51200) (0) (rd) (rn) (rm) (x) (list) (cond) (by omega) (by omega) (by omega) (by omega) (by omega)), List.foldl_cons, (ps_5_7_0_0 (51200 + rn / 1 % 8 * 256) (0) (rd) (rn - rn / 1 % 8 * 1) (rm) (x) (list) (cond) (by omega) (by omega) (by omega) (by omega) (by omega)), List.foldl_cons, (ps_none (51200 + rn / 1 % 8 * 256 + list / 1 % 256 * 1) (rd) (rn - rn / 1 % 8 * 1) (rm) (x) (list - list / 1 % 256 * 1) (cond) (by omega) (by omega)), List.foldl_cons, (ps_none (51200 + rn / 1 % 8 * 256 + list / 1 % 256 * 1) (rd) (rn - rn / 1 % 8 * 1) (rm) (x) (list - list / 1 % 256 * 1) (cond) (by omega) (by omega)), List.foldl_nil]
  rw [e]
  show fillEnd _ _ 0 imm = _
  unfold fillEnd
  rw [fits0, zero_fw]
  rfl
theorem fill_23_0 (cond rd rn rm imm list x : Int) (hx : imm % 4294967296 = x) (hd0 : 0 ≤ rd) (hd1 : rd ≤ 15) (hn0 : 0 ≤ rn) (hn1 : rn ≤ 15) (hm0 : 0 ≤ rm) (hm1 : rm ≤ 15) (hl0 : 0 ≤ list) (hl1 : list ≤ 65535) (hc0 : 0 ≤ cond) (hc1 : cond ≤ 15) :
    fillP row_23 46080 cond rd rn rm imm list = if z7 (0) (rd) (rn) (rm) (x) (list - list / 1 % 256 * 1 - (list - list / 1 % 256 * 1) / 16384 % 2 * 16384) (cond) = true then some (46080 + list / 1 % 256 * 1 + (list - list / 1 % 256 * 1) / 16384 % 2 * 256) else none := by
  have hx0 : 0 ≤ x := by omega
  have hx1 : x < 4294967296 := by omega
  unfold fillP foldP
  rw [fields_fw cond rd rn rm imm list hd0 hd1 hn0 hn1 hm0 hm1 hl0 hl1 hc0 hc1, hx]
  have e : row_23.pcs.foldl pcStep (46080, fw 0 rd rn rm x list cond) = (46080 + list / 1 % 256 * 1 + (list - list / 1 % 256 * 1) / 16384 % 2 * 256, fw (0) (rd) (rn) (rm) (x) (list - list / 1 % 256 * 1 - (list - list / 1 % 256 * 1) / 16384 % 2 * 16384) (cond)) := by
    show List.foldl pcStep _ [⟨5, 7, 0, 0⟩, ⟨5, 14, 14, 8⟩, ⟨0, 0, 0, 0⟩, ⟨0, 0, 0, 0⟩] = _
    rw [List.foldl_cons, (ps_5_7_0_0 (46080) (0) (rd) (rn) (rm) (x) (list) (cond) (by omega) (by omega) (by omega) (by omega) (by omega)), List.foldl_cons, (ps_5_14_14_8 (46080 + list / 1 % 256 * 1) (0) (rd) (rn) (rm) (x) (list - list / 1 % 256 * 1) (cond) (by omega) (by omega) (by omega) (by omega) (by omega)), List.foldl_cons, (ps_none (46080 + list / 1 % 256 * 1 + (list - list / 1 % 256 * 1) / 16384 % 2 * 256) (rd) (rn) (rm) (x) (list - list / 1 % 256 * 1 - (list - list / 1 % 256 * 1) / 16384 % 2 * 16384) (cond) (by omega) (by omega)), List.foldl_cons, (ps_none (46080 + list / 1 % 256 * 1 + (list - list / 1 % 256 * 1) / 16384 % 2 * 256) (rd) (rn) (rm) (x) (list - list / 1 % 256 * 1 - (list - list / 1 % 256 * 1) / 16384 % 2 * 16384) (cond) (by omega) (by omega)), List.foldl_nil]
  rw [e]
  show fillEnd _ _ 0 imm = _
  unfold fillEnd
  rw [fits0, zero_fw]
  rfl
theorem fill_24_0 (cond rd rn rm imm list x : Int) (hx : imm % 4294967296 = x) (hd0 : 0 ≤ rd) (hd1 : rd ≤ 15) (hn0 : 0 ≤ rn) (hn1 : rn ≤ 15) (hm0 : 0 ≤ rm) (hm1 : rm ≤ 15) (hl0 : 0 ≤ list) (hl1 : list ≤ 65535) (hc0 : 0 ≤ cond) (hc1 : cond ≤ 15) :
    fillP row_24 48128 cond rd rn rm imm list = if z7 (0) (rd) (rn) (rm) (x) (list - list / 1 % 256 * 1 - (list - list / 1 % 256 * 1) / 32768 % 2 * 32768) (cond) = true then some (48128 + list / 1 % 256 * 1 + (list - list / 1 % 256 * 1) / 32768 % 2 * 256) else none := by
  have hx0 : 0 ≤ x := by omega
  have hx1 : x < 4294967296 := by omega
  unfold fillP foldP
  rw [fields_fw cond rd rn rm imm list hd0 hd1 hn0 hn1 hm0 hm1 hl0 hl1 hc0 hc1, hx]
  have e : row_24.pcs.foldl pcStep (48128, fw 0 rd rn rm x list cond) = (48128 + list / 1 % 256 * 1 + (list - list / 1 % 256 * 1) / 32768 % 2 * 256, fw (0) (rd) (rn) (rm) (x) (list - list / 1 % 256 * 1 - (list - list / 1 % 256 * 1) / 32768 % 2 * 32768) (cond)) := by
    show List.foldl pcStep _ [⟨5, 7, 0, 0⟩, ⟨5, 15, 15, 8⟩, ⟨0, 0, 0, 0⟩, ⟨0, 0, 0, 0⟩] = _
    rw [List.foldl_cons, (ps_5_7_0_0 (48128) (0) (rd) (rn) (rm) (x) (list) (cond) (by omega) (by omega) (by omega) (by omega) (by omega)), List.foldl_cons, (ps_5_15_15_8 (48128 + list / 1 % 256 * 1) (0) (rd) (rn) (rm) (x) (list - list / 1 % 256 * 1) (cond) (by omega) (by omega) (by omega) (by omega) (by omega)), List.foldl_cons, (ps_none (48128 + list / 1 % 256 * 1 + (list - list / 1 % 256 * 1) / 32768 % 2 * 256) (rd) (rn) (rm) (x) (list - list / 1 % 256 * 1 - (list - list / 1 % 256 * 1) / 32768 % 2 * 32768) (cond) (by omega) (by omega)), List.foldl_cons, (ps_none (48128 + list / 1 % 256 * 1 + (list - list / 1 % 256 * 1) / 32768 % 2 * 256) (rd) (rn) (rm) (x) (list - list / 1 % 256 * 1 - (list - list / 1 % 256 * 1) / 32768 % 2 * 32768) (cond) (by omega) (by omega)), List.foldl_nil]
  rw [e]
  show fillEnd _ _ 0 imm = _
  unfold fillEnd
  rw [fits0, zero_fw]
  rfl
theorem fill_25_0 (cond rd rn rm imm list x : Int) (hx : imm % 4294967296 = x) (hd0 : 0 ≤ rd) (hd1 : rd ≤ 15) (hn0 : 0 ≤ rn) (hn1 : rn ≤ 15) (hm0 : 0 ≤ rm) (hm1 : rm ≤ 15) (hl0 : 0 ≤ list) (hl1 : list ≤ 65535) (hc0 : 0 ≤ cond) (hc1 : cond ≤ 15) :
    fillP row_25 53248 cond rd rn rm imm list = if fitsB 1 imm = true then (if z7 (0) (rd) (rn) (rm) (0) (list) (cond - cond / 1 % 16 * 1) = true then some (bits .or .u32 (53248 + cond / 1 % 16 * 256) (putA 1 imm % 4294967296)) else none) else if z7 (0) (rd) (rn) (rm) (x) (list) (cond - cond / 1 % 16 * 1) = true then some (53248 + cond / 1 % 16 * 256) else none := by
  have hx0 : 0 ≤ x := by omega
  have hx1 : x < 4294967296 := by omega
  unfold fillP foldP
  rw [fields_fw cond rd rn rm imm list hd0 hd1 hn0 hn1 hm0 hm1 hl0 hl1 hc0 hc1, hx]
  have e : row_25.pcs.foldl pcStep (53248, fw 0 rd rn rm x list cond) = (53248 + cond / 1 % 16 * 256, fw (0) (rd) (rn) (rm) (x) (list) (cond - cond / 1 % 16 * 1)) := by
    show List.foldl pcStep _ [⟨6, 3, 0, 8⟩, ⟨0, 0, 0, 0⟩, ⟨0, 0, 0, 0⟩, ⟨0, 0, 0, 0⟩] = _
    rw [List.foldl_cons, (ps_6_3_0_8 (53248) (0) (rd) (rn) (rm) (x) (list) (cond) (by omega) (by omega) (by omega) (by omega) (by omega)), List.foldl_cons, (ps_none (53248 + cond / 1 % 16 * 256) (rd) (rn) (rm) (x) (list) (cond - cond / 1 % 16 * 1) (by omega) (by omega)), List.foldl_cons, (ps_none (53248 + cond / 1 % 16 * 256) (rd) (rn) (rm) (x) (list) (cond - cond / 1 % 16 * 1) (by omega) (by omega)), List.foldl_cons, (ps_none (53248 + cond / 1 % 16 * 256) (rd) (rn) (rm) (x) (list) (cond - cond / 1 % 16 * 1) (by omega) (by omega)), List.foldl_nil]
  rw [e]
  show fillEnd _ _ 1 imm = _
  unfold fillEnd
  rw [zero_fw, zero_fw4]
theorem fill_26_0 (cond rd rn rm imm list x : Int) (hx : imm % 4294967296 = x) (hd0 : 0 ≤ rd) (hd1 : rd ≤ 15) (hn0 : 0 ≤ rn) (hn1 : rn ≤ 15) (hm0 : 0 ≤ rm) (hm1 : rm ≤ 15) (hl0 : 0 ≤ list) (hl1 : list ≤ 65535) (hc0 : 0 ≤ cond) (hc1 : cond ≤ 15) :
    fillP row_26 57344 cond rd rn rm imm list = if fitsB 2 imm = true then (if z7 (0) (rd) (rn) (rm) (0) (list) (cond - cond / 1 % 16 * 1) = true then some (bits .or .u32 (57344) (putA 2 imm % 4294967296)) else none) else if z7 (0) (rd) (rn) (rm) (x) (list) (cond - cond / 1 % 16 * 1) = true then some (57344) else none := by
  have hx0 : 0 ≤ x := by omega
  have hx1 : x < 4294967296 := by omega
  unfold fillP foldP
  rw [fields_fw cond rd rn rm imm list hd0 hd1 hn0 hn1 hm0 hm1 hl0 hl1 hc0 hc1, hx]
  have e : row_26.pcs.foldl pcStep (57344, fw 0 rd rn rm x list cond) = (57344, fw (0) (rd) (rn) (rm) (x) (list) (cond - cond / 1 % 16 * 1)) := by
    show List.foldl pcStep _ [⟨6, 3, 0, 32⟩, ⟨0, 0, 0, 0⟩, ⟨0, 0, 0, 0⟩, ⟨0, 0, 0, 0⟩] = _
    rw [List.foldl_cons, (ps_6_3_0_32 (57344) (0) (rd) (rn) (rm) (x) (list) (cond) (by omega) (by omega) (by omega) (by omega)), List.foldl_cons, (ps_none (57344) (rd) (rn) (rm) (x) (list) (cond - cond / 1 % 16 * 1) (by omega) (by omega)), List.foldl_cons, (ps_none (57344) (rd) (rn) (rm) (x) (list) (cond - cond / 1 % 16 * 1) (by omega) (by omega)), List.foldl_cons, (ps_none (57344) (rd) (rn) (rm) (x) (list) (cond - cond / 1 % 16 * 1) (by omega) (by omega)), List.foldl_nil]
  rw [e]
  show fillEnd _ _ 2 imm = _
  unfold fillEnd
  rw [zero_fw, zero_fw4]
theorem fill_27_0 (cond rd rn rm imm list x : Int) (hx : imm % 4294967296 = x) (hd0 : 0 ≤ rd) (hd1 : rd ≤ 15) (hn0 : 0 ≤ rn) (hn1 : rn ≤ 15) (hm0 : 0 ≤ rm) (hm1 : rm ≤ 15) (hl0 : 0 ≤ list) (hl1 : list ≤ 65535) (hc0 : 0 ≤ cond) (hc1 : cond ≤ 15) :
    fillP row_27 45312 cond rd rn rm imm list = if fitsB 5 imm = true then (if z7 (0) (rd) (rn - rn / 1 % 8 * 1) (rm) (0) (list) (cond) = true then some (bits .or .u32 (45312 + rn / 1 % 8 * 1) (putA 5 imm % 4294967296)) else none) else if z7 (0) (rd) (rn - rn / 1 % 8 * 1) (rm) (x) (list) (cond) = true then some (45312 + rn / 1 % 8 * 1) else none := by
  have hx0 : 0 ≤ x := by omega
  have hx1 : x < 4294967296 := by omega
  unfold fillP foldP
  rw [fields_fw cond rd rn rm imm list hd0 hd1 hn0 hn1 hm0 hm1 hl0 hl1 hc0 hc1, hx]
  have e : row_27.pcs.foldl pcStep (45312, fw 0 rd rn rm x list cond) = (45312 + rn / 1 % 8 * 1, fw (0) (rd) (rn - rn / 1 % 8 * 1) (rm) (x) (list) (cond)) := by
    show List.foldl pcStep _ [⟨2, 2, 0, 0⟩, ⟨0, 0, 0, 0⟩, ⟨0, 0, 0, 0⟩, ⟨0, 0, 0, 0⟩] = _
    rw [List.foldl_cons, (ps_2_2_0_0 (45312) (0) (rd) (rn) (rm) (x) (list) (cond) (by omega) (by omega) (by omega) (by omega) (by omega)), List.foldl_cons, (ps_none (45312 + rn / 1 % 8 * 1) (rd) (rn - rn / 1 % 8 * 1) (rm) (x) (list) (cond) (by omega) (by omega)), List.foldl_cons, (ps_none (45312 + rn / 1 % 8 * 1) (rd) (rn - rn / 1 % 8 * 1) (rm) (x) (list) (cond) (by omega) (by omega)), List.foldl_cons, (ps_none (45312 + rn / 1 % 8 * 1) (rd) (rn - rn / 1 % 8 * 1) (rm) (x) (list) (cond) (by omega) (by omega)), List.foldl_nil]
  rw [e]
  show fillEnd _ _ 5 imm = _
  unfold fillEnd
  rw [zero_fw, zero_fw4]
theorem fill_27_1 (cond rd rn rm imm list x : Int) (hx : imm % 4294967296 = x) (hd0 : 0 ≤ rd) (hd1 : rd ≤ 15) (hn0 : 0 ≤ rn) (hn1 : rn ≤ 15) (hm0 : 0 ≤ rm) (hm1 : rm ≤ 15) (hl0 : 0 ≤ list) (hl1 : list ≤ 65535) (hc0 : 0 ≤ cond) (hc1 : cond ≤ 15) :
    fillP row_27 47360 cond rd rn rm imm list = if fitsB 5 imm = true then (if z7 (0) (rd) (rn - rn / 1 % 8 * 1) (rm) (0) (list) (cond) = true then some (bits .or .u32 (47360 + rn / 1 % 8 * 1) (putA 5 imm % 4294967296)) else none) else if z7 (0) (rd) (rn - rn / 1 % 8 * 1) (rm) (x) (list) (cond) = true then some (47360 + rn / 1 % 8 * 1) else none := by
  have hx0 : 0 ≤ x := by omega
  have hx1 : x < 4294967296 := by omega
  unfold fillP foldP
  rw [fields_fw cond rd rn rm imm list hd0 hd1 hn0 hn1 hm0 hm1 hl0 hl1 hc0 hc1, hx]
  have e : row_27.pcs.foldl pcStep (47360, fw 0 rd rn rm x list cond) = (47360 + rn / 1 % 8 * 1, fw (0) (rd) (rn - rn / 1 % 8 * 1) (rm) (x) (list) (cond)) := by
    show List.foldl pcStep _ [⟨2, 2, 0, 0⟩, ⟨0, 0, 0, 0⟩, ⟨0, 0, 0, 0⟩, ⟨0, 0, 0, 0⟩] = _
    rw [List.foldl_cons, (ps_2_2_0_0 (47360) (0) (rd) (rn) (rm) (x) (list) (cond) (by omega) (by omega) (by omega) (by omega) (by omega)), List.foldl_cons, (ps_none (47360 + rn / 1 % 8 * 1) (rd) (rn - rn / 1 % 8 * 1) (rm) (x) (list) (cond) (by omega) (by omega)), List.foldl_cons, (ps_none (47360 + rn / 1 % 8 * 1) (rd) (rn - rn / 1 % 8 * 1) (rm) (x) (list) (cond) (by omega) (by omega)), List.foldl_cons, (ps_none (47360 + rn / 1 % 8 * 1) (rd) (rn - rn / 1 % 8 * 1) (rm) (x) (list) (cond) (by omega) (by omega)), List.foldl_nil]
  rw [e]
  show fillEnd _ _ 5 imm = _
  unfold fillEnd
  rw [zero_fw, zero_fw4]
theorem fill_28_0 (cond rd rn rm imm list x : Int) (hx : imm % 4294967296 = x) (hd0 : 0 ≤ rd) (hd1 : rd ≤ 15) (hn0 : 0 ≤ rn) (hn1 : rn ≤ 15) (hm0 : 0 ≤ rm) (hm1 : rm ≤ 15) (hl0 : 0 ≤ list) (hl1 : list ≤ 65535) (hc0 : 0 ≤ cond) (hc1 : cond ≤ 15) :
    fillP row_28 18176 cond rd rn rm imm list = if z7 (0) (rd) (rn) (rm - rm / 1 % 16 * 1) (x) (list) (cond) = true then some (18176 + rm / 1 % 16 * 8) else none := by
  have hx0 : 0 ≤ x := by omega
  have hx1 : x < 4294967296 := by omega
  unfold fillP foldP
  rw [fields_fw cond rd rn rm imm list hd0 hd1 hn0 hn1 hm0 hm1 hl0 hl1 hc0 hc1, hx]
  have e : row_28.pcs.foldl pcStep (18176, fw 0 rd rn rm x list cond) = (18176 + rm / 1 % 16 * 8, fw (0) (rd) (rn) (rm - rm / 1 % 16 * 1) (x) (list) (cond)) := by
    show List.foldl pcStep _ [⟨3, 3, 0, 3⟩, ⟨0, 0, 0, 0⟩, ⟨0, 0, 0, 0⟩, ⟨0, 0, 0, 0⟩] = _
    rw [List.foldl_cons, (ps_3_3_0_3 (18176) (0) (rd) (rn) (rm) (x) (list) (cond) (by omega) (by omega) (by omega) (by omega) (by omega)), List.foldl_cons, (ps_none (18176 + rm / 1 % 16 * 8) (rd) (rn) (rm - rm / 1 % 16 * 1) (x) (list) (cond) (by omega) (by omega)), List.foldl_cons, (ps_none (18176 + rm / 1 % 16 * 8) (rd) (rn) (rm - rm / 1 % 16 * 1) (x) (list) (cond) (by omega) (by omega)), List.foldl_cons, (ps_none (18176 + rm / 1 % 16 * 8) (rd) (rn) (rm - rm / 1 % 16 * 1) (x) (list) (cond) (by omega) (by omega)), List.foldl_nil]
  rw [e]
  show fillEnd _ _ 0 imm = _
  unfold fillEnd
  rw [fits0, zero_fw]
  rfl
theorem fill_29_0 (cond rd rn rm imm list x : Int) (hx : imm % 4294967296 = x) (hd0 : 0 ≤ rd) (hd1 : rd ≤ 15) (hn0 : 0 ≤ rn) (hn1 : rn ≤ 15) (hm0 : 0 ≤ rm) (hm1 : rm ≤ 15) (hl0 : 0 ≤ list) (hl1 : list ≤ 65535) (hc0 : 0 ≤ cond) (hc1 : cond ≤ 15) :
    fillP row_29 18432 cond rd rn rm imm list = if z7 (0) (rd - rd / 1 % 8 * 1) (rn) (rm) (x - x / 4 % 256 * 4) (list) (cond) = true then some (18432 + rd / 1 % 8 * 256 + x / 4 % 256 * 1) else none := by
  have hx0 : 0 ≤ x := by omega
  have hx1 : x < 4294967296 := by omega
  unfold fillP foldP
  rw [fields_fw cond rd rn rm imm list hd0 hd1 hn0 hn1 hm0 hm1 hl0 hl1 hc0 hc1, hx]
  have e : row_29.pcs.foldl pcStep (18432, fw 0 rd rn rm x list cond) = (18432 + rd / 1 % 8 * 256 + x / 4 % 256 * 1, fw (0) (rd - rd / 1 % 8 * 1) (rn) (rm) (x - x / 4 % 256 * 4) (list) (cond)) := by
    show List.foldl pcStep _ [⟨1, 2, 0, 8⟩, ⟨4, 9, 2, 0⟩, ⟨0, 0, 0, 0⟩, ⟨0, 0, 0, 0⟩] = _
    rw [List.foldl_cons, (ps_1_2_0_8 (18432) (0) (rd) (rn) (rm) (x) (list) (cond) (by omega) (by omega) (by omega) (by omega) (by omega)), List.foldl_cons, (ps_4_9_2_0 (18432 + rd / 1 % 8 * 256) (0) (rd - rd / 1 % 8 * 1) (rn) (rm) (x) (list) (cond) (by omega) (by omega) (by omega) (by omega) (by omega)), List.foldl_cons, (ps_none (18432 + rd / 1 % 8 * 256 + x / 4 % 256 * 1) (rd - rd / 1 % 8 * 1) (rn) (rm) (x - x / 4 % 256 * 4) (list) (cond) (by omega) (by omega)), List.foldl_cons, (ps_none (18432 + rd / 1 % 8 * 256 + x / 4 % 256 * 1) (rd - rd / 1 % 8 * 1) (rn) (rm) (x - x / 4 % 256 * 4) (list) (cond) (by omega) (by omega)), List.foldl_nil]
  rw [e]
  show fillEnd _ _ 0 imm = _
  unfold fillEnd
  rw [fits0, zero_fw]
  rfl
theorem fill_29_1 (cond rd rn rm imm list x : Int) (hx : imm % 4294967296 = x) (hd0 : 0 ≤ rd) (hd1 : rd ≤ 15) (hn0 : 0 ≤ rn) (hn1 : rn ≤ 15) (hm0 : 0 ≤ rm) (hm1 : rm ≤ 15) (hl0 : 0 ≤ list) (hl1 : list ≤ 65535) (hc0 : 0 ≤ cond) (hc1 : cond ≤ 15) :
    fillP row_29 40960 cond rd rn rm imm list = if z7 (0) (rd - rd / 1 % 8 * 1) (rn) (rm) (x - x / 4 % 256 * 4) (list) (cond) = true then some (40960 + rd / 1 % 8 * 256 + x / 4 % 256 * 1) else none := by
  have hx0 : 0 ≤ x := by omega
  have hx1 : x < 4294967296 := by omega
  unfold fillP foldP
  rw [fields_fw cond rd rn rm imm list hd0 hd1 hn0 hn1 hm0 hm1 hl0 hl1 hc0 hc1, hx]
  have e : row_29.pcs.foldl pcStep (40960, fw 0 rd rn rm x list cond) = (40960 + rd / 1 % 8 * 256 + x / 4 % 256 * 1, fw (0) (rd - rd / 1 % 8 * 1) (rn) (rm) (x - x / 4 % 256 * 4) (list) (cond)) := by
    show List.foldl pcStep _ [⟨1, 2, 0, 8⟩, ⟨4, 9, 2, 0⟩, ⟨0, 0, 0, 0⟩, ⟨0, 0, 0, 0⟩] = _
    rw [List.foldl_cons, (ps_1_2_0_8 (40960) (0) (rd) (rn) (rm) (x) (list) (cond) (by omega) (by omega) (by omega) (by omega) (by omega)), List.foldl_cons, (ps_4_9_2_0 (40960 + rd / 1 % 8 * 256) (0) (rd - rd / 1 % 8 * 1) (rn) (rm) (x) (list) (cond) (by omega) (by omega) (by omega) (by omega) (by omega)), List.foldl_cons, (ps_none (40960 + rd / 1 % 8 * 256 + x / 4 % 256 * 1) (rd - rd / 1 % 8 * 1) (rn) (rm) (x - x / 4 % 256 * 4) (list) (cond) (by omega) (by omega)), List.foldl_cons, (ps_none (40960 + rd / 1 % 8 * 256 + x / 4 % 256 * 1) (rd - rd / 1 % 8 * 1) (rn) (rm) (x - x / 4 % 256 * 4) (list) (cond) (by omega) (by omega)), List.foldl_nil]
  rw [e]
  show fillEnd _ _ 0 imm = _
  unfold fillEnd
  rw [fits0, zero_fw]
  rfl
theorem fill_30_0 (cond rd rn rm imm list x : Int) (hx : imm % 4294967296 = x) (hd0 : 0 ≤ rd) (hd1 : rd ≤ 15) (hn0 : 0 ≤ rn) (hn1 : rn ≤ 15) (hm0 : 0 ≤ rm) (hm1 : rm ≤ 15) (hl0 : 0 ≤ list) (hl1 : list ≤ 65535) (hc0 : 0 ≤ cond) (hc1 : cond ≤ 15) :
    fillP row_30 48896 cond rd rn rm imm list = if z7 (0) (rd) (rn) (rm) (x - x / 1 % 16 * 1) (list) (cond - cond / 1 % 16 * 1) = true then some (48896 + cond / 1 % 16 * 16 + x / 1 % 16 * 1) else none := by
  have hx0 : 0 ≤ x := by omega
  have hx1 : x < 4294967296 := by omega
  unfold fillP foldP
  rw [fields_fw cond rd rn rm imm list hd0 hd1 hn0 hn1 hm0 hm1 hl0 hl1 hc0 hc1, hx]
  have e : row_30.pcs.foldl pcStep (48896, fw 0 rd rn rm x list cond) = (48896 + cond / 1 % 16 * 16 + x / 1 % 16 * 1, fw (0) (rd) (rn) (rm) (x - x / 1 % 16 * 1) (list) (cond - cond / 1 % 16 * 1)) := by
    show List.foldl pcStep _ [⟨6, 3, 0, 4⟩, ⟨4, 3, 0, 0⟩, ⟨0, 0, 0, 0⟩, ⟨0, 0, 0, 0⟩] = _
    rw [List.foldl_cons, (ps_6_3_0_4 (48896) (0) (rd) (rn) (rm) (x) (list) (cond) (by omega) (by omega) (by omega) (by omega) (by omega)), List.foldl_cons, (ps_4_3_0_0 (48896 + cond / 1 % 16 * 16) (0) (rd) (rn) (rm) (x) (list) (cond - cond / 1 % 16 * 1) (by omega) (by omega) (by omega) (by omega) (by omega)), List.foldl_cons, (ps_none (48896 + cond / 1 % 16 * 16 + x / 1 % 16 * 1) (rd) (rn) (rm) (x - x / 1 % 16 * 1) (list) (cond - cond / 1 % 16 * 1) (by omega) (by omega)), List.foldl_cons, (ps_none (48896 + cond / 1 % 16 * 16 + x / 1 % 16 * 1) (rd) (rn) (rm) (x - x / 1 % 16 * 1) (list) (cond - cond / 1 % 16 * 1) (by omega) (by omega)), List.foldl_nil]
  rw [e]
  show fillEnd _ _ 0 imm = _
  unfold fillEnd
  rw [fits0, zero_fw]
  rfl
theorem fill_31_0 (cond rd rn rm imm list x : Int) (hx : imm % 4294967296 = x) (hd0 : 0 ≤ rd) (hd1 : rd ≤ 15) (hn0 : 0 ≤ rn) (hn1 : rn ≤ 15) (hm0 : 0 ≤ rm) (hm1 : rm ≤ 15) (hl0 : 0 ≤ list) (hl1 : list ≤ 65535) (hc0 : 0 ≤ cond) (hc1 : cond ≤ 15) :
    fillP row_31 48896 cond rd rn rm imm list = if z7 (0) (rd) (rn) (rm) (x) (list) (cond) = true then some (48896) else none := by
  have hx0 : 0 ≤ x := by omega
  have hx1 : x < 4294967296 := by omega
  unfold fillP foldP
  rw [fields_fw cond rd rn rm imm list hd0 hd1 hn0 hn1 hm0 hm1 hl0 hl1 hc0 hc1, hx]
  have e : row_31.pcs.foldl pcStep (48896, fw 0 rd rn rm x list cond) = (48896, fw (0) (rd) (rn) (rm) (x) (list) (cond)) := by
    show List.foldl pcStep _ [⟨0, 0, 0, 0⟩, ⟨0, 0, 0, 0⟩, ⟨0, 0, 0, 0⟩, ⟨0, 0, 0, 0⟩] = _
    rw [List.foldl_cons, (ps_none (48896) (rd) (rn) (rm) (x) (list) (cond) (by omega) (by omega)), List.foldl_cons, (ps_none (48896) (rd) (rn) (rm) (x) (list) (cond) (by omega) (by omega)), List.foldl_cons, (ps_none (48896) (rd) (rn) (rm) (x) (list) (cond) (by omega) (by omega)), List.foldl_cons, (ps_none (48896) (rd) (rn) (rm) (x) (list) (cond) (by omega) (by omega)), List.foldl_nil]
  rw [e]
  show fillEnd _ _ 0 imm = _
  unfold fillEnd
  rw [fits0, zero_fw]
  rfl
theorem fill_32_0 (cond rd rn rm imm list x : Int) (hx : imm % 4294967296 = x) (hd0 : 0 ≤ rd) (hd1 : rd ≤ 15) (hn0 : 0 ≤ rn) (hn1 : rn ≤ 15) (hm0 : 0 ≤ rm) (hm1 : rm ≤ 15) (hl0 : 0 ≤ list) (hl1 : list ≤ 65535) (hc0 : 0 ≤ cond) (hc1 : cond ≤ 15) :
    fillP row_32 48640 cond rd rn rm imm list = if z7 (0) (rd) (rn) (rm) (x - x / 1 % 256 * 1) (list) (cond) = true then some (48640 + x / 1 % 256 * 1) else none := by
  have hx0 : 0 ≤ x := by omega
  have hx1 : x < 4294967296 := by omega
  unfold fillP foldP
  rw [fields_fw cond rd rn rm imm list hd0 hd1 hn0 hn1 hm0 hm1 hl0 hl1 hc0 hc1, hx]
  have e : row_32.pcs.foldl pcStep (48640, fw 0 rd rn rm x list cond) = (48640 + x / 1 % 256 * 1, fw (0) (rd) (rn) (rm) (x - x / 1 % 256 * 1) (list) (cond)) := by
    show List.foldl pcStep _ [⟨4, 7, 0, 0⟩, ⟨0, 0, 0, 0⟩, ⟨0, 0, 0, 0⟩, ⟨0, 0, 0, 0⟩] = _
    rw [List.foldl_cons, (ps_4_7_0_0 (48640) (0) (rd) (rn) (rm) (x) (list) (cond) (by omega) (by omega) (by omega) (by omega) (by omega)), List.foldl_cons, (ps_none (48640 + x / 1 % 256 * 1) (rd) (rn) (rm) (x - x / 1 % 256 * 1) (list) (cond) (by omega) (by omega)), List.foldl_cons, (ps_none (48640 + x / 1 % 256 * 1) (rd) (rn) (rm) (x - x / 1 % 256 * 1) (list) (cond) (by omega) (by omega)), List.foldl_cons, (ps_none (48640 + x / 1 % 256 * 1) (rd) (rn) (rm) (x - x / 1 % 256 * 1) (list) (cond) (by omega) (by omega)), List.foldl_nil]
  rw [e]
  show fillEnd _ _ 0 imm = _
  unfold fillEnd
  rw [fits0, zero_fw]
  rfl
theorem cands_1 : cands 1 = [(row_0, 16384)] := by kernel_rfl
theorem cands_2 : cands 2 = [(row_0, 16448)] := by kernel_rfl
theorem cands_3 : cands 3 = [(row_0, 17152)] := by kernel_rfl
theorem cands_4 : cands 4 = [(row_0, 17280)] := by kernel_rfl
theorem cands_5 : cands 5 = [(row_11, 6144), (row_12, 17408), (row_13, 7168), (row_14, 12288)] := by kernel_rfl
theorem cands_6 : cands 6 = [(row_0, 16704)] := by kernel_rfl
theorem cands_7 : cands 7 = [(row_11, 6656), (row_13, 7680), (row_14, 14336)] := by kernel_rfl
theorem cands_8 : cands 8 = [(row_0, 16768)] := by kernel_rfl
theorem cands_9 : cands 9 = [(row_1, 16960)] := by kernel_rfl
theorem cands_10 : cands 10 = [(row_8, 8192), (row_9, 0), (row_10, 17920)] := by kernel_rfl
theorem cands_11 : cands 11 = [(row_2, 17344)] := by kernel_rfl
theorem cands_12 : cands 12 = [(row_5, 17024), (row_6, 17664), (row_7, 10240)] := by kernel_rfl
theorem cands_13 : cands 13 = [(row_4, 17088)] := by kernel_rfl
theorem cands_14 : cands 14 = [(row_4, 16896)] := by kernel_rfl
theorem cands_15 : cands 15 = [] := by kernel_rfl
theorem cands_16 : cands 16 = [(row_15, 0), (row_16, 16512)] := by kernel_rfl
theorem cands_17 : cands 17 = [(row_15, 2048), (row_16, 16576)] := by kernel_rfl
theorem cands_18 : cands 18 = [(row_15, 4096), (row_16, 16640)] := by kernel_rfl
theorem cands_19 : cands 19 = [(row_16, 16832)] := by kernel_rfl
theorem cands_20 : cands 20 = [(row_3, 17216)] := by kernel_rfl
theorem cands_21 : cands 21 = [] := by kernel_rfl
theorem cands_22 : cands 22 = [] := by kernel_rfl
theorem cands_23 : cands 23 = [] := by kernel_rfl
theorem cands_24 : cands 24 = [] := by kernel_rfl
theorem cands_25 : cands 25 = [(row_17, 26624), (row_20, 38912), (row_21, 22528)] := by kernel_rfl
theorem cands_26 : cands 26 = [(row_18, 30720), (row_21, 23552)] := by kernel_rfl
theorem cands_27 : cands 27 = [(row_19, 34816), (row_21, 23040)] := by kernel_rfl
theorem cands_28 : cands 28 = [(row_17, 24576), (row_20, 36864), (row_21, 20480)] := by kernel_rfl
theorem cands_29 : cands 29 = [(row_18, 28672), (row_21, 21504)] := by kernel_rfl
theorem cands_30 : cands 30 = [(row_19, 32768), (row_21, 20992)] := by kernel_rfl
theorem cands_31 : cands 31 = [(row_22, 51200)] := by kernel_rfl
theorem cands_32 : cands 32 = [(row_22, 49152)] := by kernel_rfl
theorem cands_33 : cands 33 = [(row_23, 46080)] := by kernel_rfl
theorem cands_34 : cands 34 = [(row_24, 48128)] := by kernel_rfl
theorem cands_35 : cands 35 = [(row_25, 53248), (row_26, 57344)] := by kernel_rfl
theorem cands_36 : cands 36 = [] := by kernel_rfl
theorem cands_37 : cands 37 = [(row_27, 45312)] := by kernel_rfl
theorem cands_38 : cands 38 = [(row_27, 47360)] := by kernel_rfl
theorem cands_39 : cands 39 = [(row_28, 18176)] := by kernel_rfl
theorem cands_40 : cands 40 = [(row_29, 18432)] := by kernel_rfl
theorem cands_41 : cands 41 = [(row_29, 40960)] := by kernel_rfl
theorem cands_42 : cands 42 = [(row_30, 48896)] := by kernel_rfl
theorem cands_43 : cands 43 = [(row_31, 48896)] := by kernel_rfl
theorem cands_44 : cands 44 = [(row_32, 48640)] := by kernel_rfl
theorem cands_45 : cands 45 = [] := by kernel_rfl
end Pl
end Go.Proofs.YtmofimgodmcdjaaDoor

namespace Go.Proofs.YtmofimgodmcdjaaDoor
open Go.ChangeShapes Go.WideShapes Go.ChangeAt Go.RowKit
namespace Pl

theorem fits1_iff (imm : Int) : (fitsB 1 imm = true) = (-256 ≤ imm ∧ imm ≤ 254 ∧ imm % 2 = 0) := by
  unfold fitsB
  simp only [decide_eq_true_eq]
  rw [show lowI 1 = -256 from rfl, show highI 1 = 254 from rfl]
  apply propext; omega
theorem fits2_iff (imm : Int) : (fitsB 2 imm = true) = (-2048 ≤ imm ∧ imm ≤ 2046 ∧ imm % 2 = 0) := by
  unfold fitsB
  simp only [decide_eq_true_eq]
  rw [show lowI 2 = -2048 from rfl, show highI 2 = 2046 from rfl]
  apply propext; omega
theorem fits5_iff (imm : Int) : (fitsB 5 imm = true) = (0 ≤ imm ∧ imm ≤ 126 ∧ imm % 2 = 0) := by
  unfold fitsB
  simp only [decide_eq_true_eq]
  rw [show lowI 5 = 0 from rfl, show highI 5 = 126 from rfl]
  apply propext; omega
theorem off_1 (H imm : Int) (h : -256 ≤ imm ∧ imm ≤ 254 ∧ imm % 2 = 0) (hH0 : 0 ≤ H) (hH1 : H < 65536) (hz : H % 256 = 0) : bits .or .u32 H (putA 1 imm % 4294967296) = H + imm / 2 % 256 := by
  have e : putA 1 imm = imm / 2 % 256 := (Om.put_1 imm h.1 h.2.1 h.2.2).1
  have := or_add H (imm / 2 % 256) 0 8 1 256 (by decide) (by decide) (by decide) hH0 (by omega) (by omega) (by omega) (by omega)
  rw [e]
  rw [Int.mul_one] at this
  exact this
theorem off_2 (H imm : Int) (h : -2048 ≤ imm ∧ imm ≤ 2046 ∧ imm % 2 = 0) (hH0 : 0 ≤ H) (hH1 : H < 65536) (hz : H % 2048 = 0) : bits .or .u32 H (putA 2 imm % 4294967296) = H + imm / 2 % 2048 := by
  have e : putA 2 imm = imm / 2 % 2048 := (Om.put_2 imm h.1 h.2.1 h.2.2).1
  have := or_add H (imm / 2 % 2048) 0 11 1 2048 (by decide) (by decide) (by decide) hH0 (by omega) (by omega) (by omega) (by omega)
  rw [e]
  rw [Int.mul_one] at this
  exact this
theorem or_assoc32 (a b c : Int) (ha0 : 0 ≤ a) (ha1 : a < 65536) (hb0 : 0 ≤ b) (hb1 : b < 65536) (hc0 : 0 ≤ c) (hc1 : c < 65536) : bits .or .u32 a (bits .or .u32 b c) = bits .or .u32 (bits .or .u32 a b) c := by
  obtain ⟨A, rfl⟩ := Int.eq_ofNat_of_zero_le ha0
  obtain ⟨B, rfl⟩ := Int.eq_ofNat_of_zero_le hb0
  obtain ⟨C, rfl⟩ := Int.eq_ofNat_of_zero_le hc0
  have h1 := Nat.or_lt_two_pow (n := 16) (x := B) (y := C) (by omega) (by omega)
  have h2 := Nat.or_lt_two_pow (n := 16) (x := A) (y := B) (by omega) (by omega)
  rw [u32_or_nat B C (by omega) (by omega), u32_or_nat A (B ||| C) (by omega) (by omega), u32_or_nat A B (by omega) (by omega), u32_or_nat (A ||| B) C (by omega) (by omega), Nat.or_assoc]
theorem off_5 (H imm : Int) (h : 0 ≤ imm ∧ imm ≤ 126 ∧ imm % 2 = 0) (hH0 : 0 ≤ H) (hH1 : H < 60000) (hz : H / 8 % 32 = 0) (hz2 : H / 512 % 2 = 0) : bits .or .u32 H (putA 5 imm % 4294967296) = H + imm / 2 % 32 * 8 + imm / 64 % 2 * 512 := by
  have e : putA 5 imm = imm / 64 % 2 * 512 + imm / 2 % 32 * 8 := (Om.put_5 imm h.1 h.2.1 h.2.2).1
  have h1 := or_add (imm / 2 % 32 * 8) (imm / 64 % 2) 9 1 512 2 (by decide) (by decide) (by decide) (by omega) (by omega) (by omega) (by omega) (by omega)
  have h2 := or_add H (imm / 2 % 32) 3 5 8 32 (by decide) (by decide) (by decide) hH0 (by omega) hz (by omega) (by omega)
  have h3 := or_add (H + imm / 2 % 32 * 8) (imm / 64 % 2) 9 1 512 2 (by decide) (by decide) (by decide) (by omega) (by omega) (by omega) (by omega) (by omega)
  rw [show imm / 64 % 2 * 512 % 4294967296 = imm / 64 % 2 * 512 by omega] at h1 h3
  rw [show imm / 2 % 32 * 8 % 4294967296 = imm / 2 % 32 * 8 by omega] at h2
  rw [e, show (imm / 64 % 2 * 512 + imm / 2 % 32 * 8) % 4294967296 = imm / 2 % 32 * 8 + imm / 64 % 2 * 512 by omega, ← h1, or_assoc32 _ _ _ hH0 (by omega) (by omega) (by omega) (by omega) (by omega), h2, h3]
theorem orI_ite2 (c : Prop) [Decidable c] (a b r : Option Int) : orI (if c then a else b) r = if c then orI a r else orI b r := by split <;> rfl
theorem orI_some (h : Int) (r : Option Int) : orI (some h) r = some h := rfl
theorem orI_nil (r : Option Int) : orI none r = r := rfl
theorem tmod_even {n : Int} (h : Int.tmod n 2 = 0) : n % 2 = 0 := by rw [Int.tmod_eq_emod] at h; split at h <;> omega
theorem fillB_25_0 (cond rd rn rm imm list x : Int) (hx : imm % 4294967296 = x) (hd0 : 0 ≤ rd) (hd1 : rd ≤ 15) (hn0 : 0 ≤ rn) (hn1 : rn ≤ 15) (hm0 : 0 ≤ rm) (hm1 : rm ≤ 15) (hl0 : 0 ≤ list) (hl1 : list ≤ 65535) (hc0 : 0 ≤ cond) (hc1 : cond ≤ 15) :
    fillP row_25 53248 cond rd rn rm imm list = if -256 ≤ imm ∧ imm ≤ 254 ∧ imm % 2 = 0 then (if z7 (0) (rd) (rn) (rm) (0) (list) (cond - cond / 1 % 16 * 1) = true then some (53248 + cond / 1 % 16 * 256 + imm / 2 % 256) else none) else if z7 (0) (rd) (rn) (rm) (x) (list) (cond - cond / 1 % 16 * 1) = true then some (53248 + cond / 1 % 16 * 256) else none := by
  rw [fill_25_0 cond rd rn rm imm list x hx hd0 hd1 hn0 hn1 hm0 hm1 hl0 hl1 hc0 hc1]
  simp only [fits1_iff]
  split
  · rename_i h
    rw [off_1 _ imm h (by omega) (by omega) (by omega)]
  · rfl
theorem fillB_26_0 (cond rd rn rm imm list x : Int) (hx : imm % 4294967296 = x) (hd0 : 0 ≤ rd) (hd1 : rd ≤ 15) (hn0 : 0 ≤ rn) (hn1 : rn ≤ 15) (hm0 : 0 ≤ rm) (hm1 : rm ≤ 15) (hl0 : 0 ≤ list) (hl1 : list ≤ 65535) (hc0 : 0 ≤ cond) (hc1 : cond ≤ 15) :
    fillP row_26 57344 cond rd rn rm imm list = if -2048 ≤ imm ∧ imm ≤ 2046 ∧ imm % 2 = 0 then (if z7 (0) (rd) (rn) (rm) (0) (list) (cond - cond / 1 % 16 * 1) = true then some (57344 + imm / 2 % 2048) else none) else if z7 (0) (rd) (rn) (rm) (x) (list) (cond - cond / 1 % 16 * 1) = true then some (57344) else none := by
  rw [fill_26_0 cond rd rn rm imm list x hx hd0 hd1 hn0 hn1 hm0 hm1 hl0 hl1 hc0 hc1]
  simp only [fits2_iff]
  split
  · rename_i h
    rw [off_2 _ imm h (by omega) (by omega) (by omega)]
  · rfl
theorem fillB_27_0 (cond rd rn rm imm list x : Int) (hx : imm % 4294967296 = x) (hd0 : 0 ≤ rd) (hd1 : rd ≤ 15) (hn0 : 0 ≤ rn) (hn1 : rn ≤ 15) (hm0 : 0 ≤ rm) (hm1 : rm ≤ 15) (hl0 : 0 ≤ list) (hl1 : list ≤ 65535) (hc0 : 0 ≤ cond) (hc1 : cond ≤ 15) :
    fillP row_27 45312 cond rd rn rm imm list = if 0 ≤ imm ∧ imm ≤ 126 ∧ imm % 2 = 0 then (if z7 (0) (rd) (rn - rn / 1 % 8 * 1) (rm) (0) (list) (cond) = true then some (45312 + rn / 1 % 8 * 1 + imm / 2 % 32 * 8 + imm / 64 % 2 * 512) else none) else if z7 (0) (rd) (rn - rn / 1 % 8 * 1) (rm) (x) (list) (cond) = true then some (45312 + rn / 1 % 8 * 1) else none := by
  rw [fill_27_0 cond rd rn rm imm list x hx hd0 hd1 hn0 hn1 hm0 hm1 hl0 hl1 hc0 hc1]
  simp only [fits5_iff]
  split
  · rename_i h
    rw [off_5 _ imm h (by omega) (by omega) (by omega) (by omega)]
  · rfl
theorem fillB_27_1 (cond rd rn rm imm list x : Int) (hx : imm % 4294967296 = x) (hd0 : 0 ≤ rd) (hd1 : rd ≤ 15) (hn0 : 0 ≤ rn) (hn1 : rn ≤ 15) (hm0 : 0 ≤ rm) (hm1 : rm ≤ 15) (hl0 : 0 ≤ list) (hl1 : list ≤ 65535) (hc0 : 0 ≤ cond) (hc1 : cond ≤ 15) :
    fillP row_27 47360 cond rd rn rm imm list = if 0 ≤ imm ∧ imm ≤ 126 ∧ imm % 2 = 0 then (if z7 (0) (rd) (rn - rn / 1 % 8 * 1) (rm) (0) (list) (cond) = true then some (47360 + rn / 1 % 8 * 1 + imm / 2 % 32 * 8 + imm / 64 % 2 * 512) else none) else if z7 (0) (rd) (rn - rn / 1 % 8 * 1) (rm) (x) (list) (cond) = true then some (47360 + rn / 1 % 8 * 1) else none := by
  rw [fill_27_1 cond rd rn rm imm list x hx hd0 hd1 hn0 hn1 hm0 hm1 hl0 hl1 hc0 hc1]
  simp only [fits5_iff]
  split
  · rename_i h
    rw [off_5 _ imm h (by omega) (by omega) (by omega) (by omega)]
  · rfl
end Pl
end Go.Proofs.YtmofimgodmcdjaaDoor
