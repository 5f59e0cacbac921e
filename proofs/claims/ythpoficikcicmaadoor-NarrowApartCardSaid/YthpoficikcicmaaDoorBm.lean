/- Plain facts on fields of words of 32 bits, without any program: what a field holds, what is put into it, a sign, a turn; each bit by bit. No conditions but those that each fact names. -/
import Derived.Laws.BitsAllLaws
namespace Go.Proofs.YthpoficikcicmaaDoor
namespace Bm

/-- 'n' bits from 'lo' on -/
def fieldU (lo n : Nat) : Nat := (2 ^ n - 1) * 2 ^ lo
/-- the bits from 'hi' to 'lo' -/
def getB (X hi lo : Nat) : Nat := X / 2 ^ lo % 2 ^ (hi + 1 - lo)
/-- X with the lowest n bits of V from lo on -/
def putU (X lo n V : Nat) : Nat := (X &&& (4294967295 - fieldU lo n)) ||| ((V * 2 ^ lo % 4294967296) &&& fieldU lo n)
/-- X turned right by t bits -/
def rorB (X t : Nat) : Nat := X / 2 ^ t ||| (X * 2 ^ (32 - t) % 4294967296)

theorem tb_high {X i : Nat} (h : X < 4294967296) (hi : 32 ≤ i) : X.testBit i = false :=
  Nat.testBit_lt_two_pow (Nat.lt_of_lt_of_le h (by have : 2 ^ 32 ≤ 2 ^ i := Nat.pow_le_pow_right (by omega) hi; simpa using this))

theorem and_yes {p : Prop} [Decidable p] (h : p) (b : Bool) : (decide p && b) = b := by simp [h]
theorem and_no {p : Prop} [Decidable p] (h : ¬ p) (b : Bool) : (decide p && b) = false := by simp [h]

theorem word_ext {X Y : Nat} (hX : X < 4294967296) (hY : Y < 4294967296) (h : ∀ i, i < 32 → X.testBit i = Y.testBit i) : X = Y := by
  apply Nat.eq_of_testBit_eq
  intro i
  by_cases hi : i < 32
  · exact h i hi
  · rw [tb_high hX (by omega), tb_high hY (by omega)]

theorem get_tb (X hi lo i : Nat) : (getB X hi lo).testBit i = (decide (i < hi + 1 - lo) && X.testBit (i + lo)) := by
  unfold getB; rw [Nat.testBit_mod_two_pow, Nat.testBit_div_two_pow]

theorem field_tb (lo n i : Nat) : (fieldU lo n).testBit i = (decide (lo ≤ i) && decide (i - lo < n)) := by
  unfold fieldU; rw [Nat.testBit_mul_two_pow, Nat.testBit_two_pow_sub_one]

theorem field_lt {lo n : Nat} (h : lo + n ≤ 32) : fieldU lo n < 4294967296 := by
  unfold fieldU
  have h1 : (2 ^ n - 1) * 2 ^ lo < 2 ^ n * 2 ^ lo := Nat.mul_lt_mul_of_pos_right (by have := Nat.two_pow_pos n; omega) (Nat.two_pow_pos lo)
  rw [← Nat.pow_add] at h1
  have h2 : 2 ^ (n + lo) ≤ 2 ^ 32 := Nat.pow_le_pow_right (by omega) (by omega)
  have h3 : (2 : Nat) ^ 32 = 4294967296 := by decide
  omega

theorem not_tb {F i : Nat} (hF : F < 4294967296) : (4294967295 - F).testBit i = (decide (i < 32) && !F.testBit i) := by
  have h := Nat.testBit_two_pow_sub_succ (x := F) (n := 32) hF i
  have e : 2 ^ 32 - (F + 1) = 4294967295 - F := by omega
  rw [e] at h; exact h

theorem put_lt (X lo n V : Nat) (hX : X < 4294967296) : putU X lo n V < 4294967296 := by
  unfold putU
  have h1 : X &&& (4294967295 - fieldU lo n) < 2 ^ 32 := Nat.lt_of_le_of_lt Nat.and_le_left hX
  have h2 : (V * 2 ^ lo % 4294967296) &&& fieldU lo n < 2 ^ 32 := Nat.lt_of_le_of_lt Nat.and_le_left (Nat.mod_lt _ (by decide))
  exact Nat.or_lt_two_pow h1 h2

theorem put_tb {X lo n V i : Nat} (h : lo + n ≤ 32) (hi : i < 32) :
    (putU X lo n V).testBit i = if lo ≤ i ∧ i < lo + n then V.testBit (i - lo) else X.testBit i := by
  unfold putU
  rw [show (4294967296 : Nat) = 2 ^ 32 by decide, Nat.testBit_or, Nat.testBit_and, Nat.testBit_and, not_tb (field_lt h), field_tb, Nat.testBit_mod_two_pow, Nat.testBit_mul_two_pow]
  by_cases h1 : lo ≤ i
  · by_cases h2 : i < lo + n
    · have h3 : i - lo < n := by omega
      simp [h1, h2, h3, hi]
    · have h3 : ¬ (i - lo < n) := by omega
      simp [h2, h3, hi]
  · simp [h1, hi]

theorem get_lt (X hi lo : Nat) (hX : X < 4294967296) : getB X hi lo < 4294967296 := by
  unfold getB
  exact Nat.lt_of_le_of_lt (Nat.mod_le _ _) (Nat.lt_of_le_of_lt (Nat.div_le_self _ _) hX)

theorem put_zero {X lo V : Nat} (hX : X < 4294967296) (h : lo ≤ 32) : putU X lo 0 V = X := by
  apply word_ext (put_lt _ _ _ _ hX) hX
  intro i hi
  rw [put_tb (by omega) hi, if_neg (by omega)]

theorem pow_tb (k i : Nat) : (2 ^ k).testBit i = decide (k = i) := Nat.testBit_two_pow

/-- one bit more is put -/
theorem put_step {X lo n V : Nat} (hX : X < 4294967296) (h : lo + n + 1 ≤ 32) :
    putU X lo (n + 1) V = if V / 2 ^ n % 2 = 1 then (putU X lo n V &&& (4294967295 - 2 ^ (lo + n))) ||| 2 ^ (lo + n) else putU X lo n V &&& (4294967295 - 2 ^ (lo + n)) := by
  have hp : 2 ^ (lo + n) < 4294967296 := by
    have h2 : 2 ^ (lo + n) < 2 ^ 32 := Nat.pow_lt_pow_right (by omega) (by omega)
    simpa using h2
  have hb : (V.testBit n = true) ↔ V / 2 ^ n % 2 = 1 := by rw [Nat.testBit_eq_decide_div_mod_eq]; simp
  have ha : putU X lo n V &&& (4294967295 - 2 ^ (lo + n)) < 2 ^ 32 := Nat.lt_of_le_of_lt Nat.and_le_left (put_lt _ _ _ _ hX)
  have hall : ∀ i, i < 32 → (putU X lo n V &&& (4294967295 - 2 ^ (lo + n))).testBit i = if lo ≤ i ∧ i < lo + n then V.testBit (i - lo) else (X.testBit i && !decide (lo + n = i)) := by
    intro i hi
    rw [Nat.testBit_and, not_tb hp, put_tb (by omega) hi, pow_tb]
    by_cases h1 : lo ≤ i ∧ i < lo + n
    · have h2 : ¬ (lo + n = i) := by omega
      simp [h1, h2, hi]
    · simp [h1, hi]
  split
  · rename_i hv
    apply word_ext (put_lt _ _ _ _ hX) (Nat.or_lt_two_pow ha hp)
    intro i hi
    rw [put_tb (by omega) hi, Nat.testBit_or, hall i hi, pow_tb]
    by_cases h1 : lo + n = i
    · have h2 : ¬ (lo ≤ i ∧ i < lo + n) := by omega
      have h3 : lo ≤ i ∧ i < lo + (n + 1) := by omega
      rw [if_pos h3, show i - lo = n by omega, if_neg h2, hb.2 hv]
      simp [h1]
    · by_cases h2 : lo ≤ i ∧ i < lo + n
      · rw [if_pos h2, if_pos (by omega)]; simp [h1]
      · rw [if_neg h2, if_neg (by omega)]; simp [h1]
  · rename_i hv
    apply word_ext (put_lt _ _ _ _ hX) ha
    intro i hi
    rw [put_tb (by omega) hi, hall i hi]
    by_cases h1 : lo + n = i
    · have h2 : ¬ (lo ≤ i ∧ i < lo + n) := by omega
      have h3 : lo ≤ i ∧ i < lo + (n + 1) := by omega
      have h4 : V.testBit n = false := by
        cases hq : V.testBit n with
        | false => rfl
        | true => exact absurd (hb.1 hq) hv
      rw [if_pos h3, show i - lo = n by omega, if_neg h2, h4]
      simp [h1]
    · by_cases h2 : lo ≤ i ∧ i < lo + n
      · rw [if_pos h2, if_pos (by omega)]
      · rw [if_neg h2, if_neg (by omega)]; simp [h1]

/-- one bit more is got, from above -/
theorem get_step {X hi j : Nat} (hj : j ≤ hi) (hh : hi < 32) :
    getB X hi j = (getB X hi (j + 1) * 2 % 4294967296) ||| (X / 2 ^ j % 2) := by
  apply Nat.eq_of_testBit_eq
  intro i
  have e1 : getB X hi (j + 1) * 2 % 4294967296 = getB X hi (j + 1) * 2 ^ 1 % 2 ^ 32 := by simp
  have e2 : X / 2 ^ j % 2 = X / 2 ^ j % 2 ^ 1 := by simp
  rw [e1, e2, Nat.testBit_or, Nat.testBit_mod_two_pow, Nat.testBit_mul_two_pow, Nat.testBit_mod_two_pow, Nat.testBit_div_two_pow, get_tb, get_tb]
  cases i with
  | zero =>
    have : 0 < hi + 1 - j := by omega
    simp [this]
  | succ i =>
    have e : i + 1 - 1 + (j + 1) = i + 1 + j := by omega
    rw [e]
    by_cases h : i + 1 < hi + 1 - j
    · have h1 : i < hi - j := by omega
      have h2 : i + 1 < 32 := by omega
      simp [h, h1, h2]
    · have h1 : ¬ (i < hi - j) := by omega
      simp [h, h1]

theorem get_top (X hi : Nat) : getB X hi (hi + 1) = 0 := by
  unfold getB; rw [Nat.sub_self, Nat.pow_zero, Nat.mod_one]

/-! what is put is got -/
theorem put_back {X V lo n : Nat} (hX : X < 4294967296) (h : lo + n ≤ 32) (h1 : 1 ≤ n) :
    putU (putU X lo n V) lo n (getB X (lo + n - 1) lo) = X := by
  apply word_ext (put_lt _ _ _ _ (put_lt _ _ _ _ hX)) hX
  intro i hi
  rw [put_tb h hi, put_tb h hi]
  by_cases h2 : lo ≤ i ∧ i < lo + n
  · have h3 : i - lo < lo + n - 1 + 1 - lo := by omega
    rw [if_pos h2, get_tb, show i - lo + lo = i by omega, and_yes h3]
  · rw [if_neg h2, if_neg h2]

theorem got_put {X V lo n : Nat} (h : lo + n ≤ 32) (h1 : 1 ≤ n) :
    getB (putU X lo n V) (lo + n - 1) lo = getB V (n - 1) 0 := by
  apply Nat.eq_of_testBit_eq
  intro i
  rw [get_tb, get_tb]
  by_cases h2 : i < n
  · have h3 : i < lo + n - 1 + 1 - lo := by omega
    have h4 : i < n - 1 + 1 - 0 := by omega
    rw [put_tb h (by omega), if_pos (by omega), show i + lo - lo = i by omega, and_yes h3, and_yes h4, Nat.add_zero]
  · have h3 : ¬ (i < lo + n - 1 + 1 - lo) := by omega
    have h4 : ¬ (i < n - 1 + 1 - 0) := by omega
    rw [and_no h3, and_no h4]

theorem below_put {X V lo n : Nat} (h : lo + n ≤ 32) : getB (putU X lo n V) (lo - 1) 0 = getB X (lo - 1) 0 ∨ lo = 0 := by
  by_cases h0 : lo = 0
  · exact .inr h0
  · refine .inl ?_
    apply Nat.eq_of_testBit_eq
    intro i
    rw [get_tb, get_tb]
    by_cases h2 : i < lo
    · rw [put_tb h (by omega), if_neg (by omega)]
    · have h3 : ¬ (i < lo - 1 + 1 - 0) := by omega
      rw [and_no h3, and_no h3]

theorem above_put {X V lo n : Nat} (h : lo + n ≤ 32) : getB (putU X lo n V) 31 (lo + n) = getB X 31 (lo + n) := by
  apply Nat.eq_of_testBit_eq
  intro i
  rw [get_tb, get_tb]
  by_cases h2 : i < 31 + 1 - (lo + n)
  · rw [put_tb h (by omega), if_neg (by omega)]
  · simp [h2]

/-! turns -/
theorem ror_lt (X t : Nat) (hX : X < 4294967296) : rorB X t < 4294967296 := by
  unfold rorB
  exact Nat.or_lt_two_pow (n := 32) (Nat.lt_of_le_of_lt (Nat.div_le_self _ _) hX) (Nat.mod_lt _ (by decide))

theorem ror_tb {X t i : Nat} (hX : X < 4294967296) (ht : t < 32) (hi : i < 32) : (rorB X t).testBit i = X.testBit ((i + t) % 32) := by
  unfold rorB
  rw [show (4294967296 : Nat) = 2 ^ 32 by decide, Nat.testBit_or, Nat.testBit_mod_two_pow, Nat.testBit_mul_two_pow, Nat.testBit_div_two_pow]
  by_cases h : i + t < 32
  · have h1 : ¬ (32 - t ≤ i) := by omega
    rw [Nat.mod_eq_of_lt h]
    simp [h1]
  · have h1 : 32 - t ≤ i := by omega
    have e : (i + t) % 32 = i - (32 - t) := by omega
    rw [e, tb_high hX (by omega)]
    simp [h1, hi]

theorem ror_zero {X : Nat} (hX : X < 4294967296) : rorB X 0 = X := by
  apply word_ext (ror_lt _ _ hX) hX
  intro i hi
  rw [ror_tb hX (by omega) hi, show (i + 0) % 32 = i by omega]

theorem ror_ror {X a b : Nat} (hX : X < 4294967296) (ha : a < 32) (hb : b < 32) : rorB (rorB X a) b = rorB X ((a + b) % 32) := by
  apply word_ext (ror_lt _ _ (ror_lt _ _ hX)) (ror_lt _ _ hX)
  intro i hi
  rw [ror_tb (ror_lt _ _ hX) hb hi, ror_tb hX ha (by omega), ror_tb hX (by omega) hi]
  rw [show ((i + b) % 32 + a) % 32 = (i + (a + b) % 32) % 32 by omega]

end Bm
end Go.Proofs.YthpoficikcicmaaDoor
