/- Plain facts on fields of words of 32 bits, without any program: what a field holds, what is put into it, a sign, a turn; each bit by bit. No conditions but those that each fact names. Contracts of the program's functions on words, and of the document's own answers for them. Contract of the program's Put. Plain data that lie in cells: what a reading tells of the cells, whatever the nesting of arrays and structs. No program, no conditions but those that each fact names. The two tables of the offsets: what their cells hold when a call begins (out of the rows' condition), and that they hold it still in every later world. Contracts of the program's small functions on offsets: isKind, Fits, top, cross. Contract of the program's Get of offsets: a loop over the table of pieces. -/
import Derived.Test.YtmofimgodmcdjaaDoorRows
import Derived.Laws.BitsAllLaws
import Derived.Test.YtmofimgodmcdjaaDoorGa
import Derived.WalkKit
import Derived.ProofKit
import Derived.OpenShut
import Derived.LaidMore
import Derived.Lib.LaidTab
import Derived.Deep.MidRow
import Derived.Below
import Derived.Deep.RegionHeld3

namespace Go.Proofs.YtmofimgodmcdjaaDoor
namespace Bm

/-- 'n' bits from 'lo' on -/
def fieldU (lo n : Nat) : Nat := (2 ^ n - 1) * 2 ^ lo
/-- the bits from 'hi' to 'lo' -/
def getB (X hi lo : Nat) : Nat := X / 2 ^ lo % 2 ^ (hi + 1 - lo)
/-- X with the lowest n bits of V from lo on -/
def putU (X lo n V : Nat) : Nat := (X &&& (4294967295 - fieldU lo n)) ||| ((V * 2 ^ lo % 4294967296) &&& fieldU lo n)
/-- X turned right by t bits -/
def rorB (X t : Nat) : Nat := X / 2 ^ t ||| (X * 2 ^ (32 - t) % 4294967296)

theorem tb_high {X i : Nat} (h : X < 4294967296) (hi : 32 ≤ i) : X.testBit i = false :=
  Nat.testBit_lt_two_pow (Nat.lt_of_lt_of_le h (by have : 2 ^ 32 ≤ 2 ^ i := Nat.pow_le_pow_right (by omega) hi; simpa using this))

theorem and_yes {p : Prop} [Decidable p] (h : p) (b : Bool) : (decide p && b) = b := by simp [h]
theorem and_no {p : Prop} [Decidable p] (h : ¬ p) (b : Bool) : (decide p && b) = false := by simp [h]

theorem word_ext {X Y : Nat} (hX : X < 4294967296) (hY : Y < 4294967296) (h : ∀ i, i < 32 → X.testBit i = Y.testBit i) : X = Y := by
  apply Nat.eq_of_testBit_eq
  intro i
  by_cases hi : i < 32
  · exact h i hi
  · rw [tb_high hX (by omega), tb_high hY (by omega)]

theorem get_tb (X hi lo i : Nat) : (getB X hi lo).testBit i = (decide (i < hi + 1 - lo) && X.testBit (i + lo)) := by
  unfold getB; rw [Nat.testBit_mod_two_pow, Nat.testBit_div_two_pow]

theorem field_tb (lo n i : Nat) : (fieldU lo n).testBit i = (decide (lo ≤ i) && decide (i - lo < n)) := by
  unfold fieldU; rw [Nat.testBit_mul_two_pow, Nat.testBit_two_pow_sub_one]

theorem field_lt {lo n : Nat} (h : lo + n ≤ 32) : fieldU lo n < 4294967296 := by
  unfold fieldU
  have h1 : (2 ^ n - 1) * 2 ^ lo < 2 ^ n * 2 ^ lo := Nat.mul_lt_mul_of_pos_right (by have := Nat.two_pow_pos n; omega) (Nat.two_pow_pos lo)
  rw [← Nat.pow_add] at h1
  have h2 : 2 ^ (n + lo) ≤ 2 ^ 32 := Nat.pow_le_pow_right (by omega) (by omega)
  have h3 : (2 : Nat) ^ 32 = 4294967296 := by decide
  omega

theorem not_tb {F i : Nat} (hF : F < 4294967296) : (4294967295 - F).testBit i = (decide (i < 32) && !F.testBit i) := by
  have h := Nat.testBit_two_pow_sub_succ (x := F) (n := 32) hF i
  have e : 2 ^ 32 - (F + 1) = 4294967295 - F := by omega
  rw [e] at h; exact h

theorem put_lt (X lo n V : Nat) (hX : X < 4294967296) : putU X lo n V < 4294967296 := by
  unfold putU
  have h1 : X &&& (4294967295 - fieldU lo n) < 2 ^ 32 := Nat.lt_of_le_of_lt Nat.and_le_left hX
  have h2 : (V * 2 ^ lo % 4294967296) &&& fieldU lo n < 2 ^ 32 := Nat.lt_of_le_of_lt Nat.and_le_left (Nat.mod_lt _ (by decide))
  exact Nat.or_lt_two_pow h1 h2

theorem put_tb {X lo n V i : Nat} (h : lo + n ≤ 32) (hi : i < 32) :
    (putU X lo n V).testBit i = if lo ≤ i ∧ i < lo + n then V.testBit (i - lo) else X.testBit i := by
  unfold putU
  rw [show (4294967296 : Nat) = 2 ^ 32 by decide, Nat.testBit_or, Nat.testBit_and, Nat.testBit_and, not_tb (field_lt h), field_tb, Nat.testBit_mod_two_pow, Nat.testBit_mul_two_pow]
  by_cases h1 : lo ≤ i
  · by_cases h2 : i < lo + n
    · have h3 : i - lo < n := by omega
      simp [h1, h2, h3, hi]
    · have h3 : ¬ (i - lo < n) := by omega
      simp [h2, h3, hi]
  · simp [h1, hi]

theorem get_lt (X hi lo : Nat) (hX : X < 4294967296) : getB X hi lo < 4294967296 := by
  unfold getB
  exact Nat.lt_of_le_of_lt (Nat.mod_le _ _) (Nat.lt_of_le_of_lt (Nat.div_le_self _ _) hX)

theorem put_zero {X lo V : Nat} (hX : X < 4294967296) (h : lo ≤ 32) : putU X lo 0 V = X := by
  apply word_ext (put_lt _ _ _ _ hX) hX
  intro i hi
  rw [put_tb (by omega) hi, if_neg (by omega)]

theorem pow_tb (k i : Nat) : (2 ^ k).testBit i = decide (k = i) := Nat.testBit_two_pow

/-- one bit more is put -/
theorem put_step {X lo n V : Nat} (hX : X < 4294967296) (h : lo + n + 1 ≤ 32) :
    putU X lo (n + 1) V = if V / 2 ^ n % 2 = 1 then (putU X lo n V &&& (4294967295 - 2 ^ (lo + n))) ||| 2 ^ (lo + n) else putU X lo n V &&& (4294967295 - 2 ^ (lo + n)) := by
  have hp : 2 ^ (lo + n) < 4294967296 := by
    have h2 : 2 ^ (lo + n) < 2 ^ 32 := Nat.pow_lt_pow_right (by omega) (by omega)
    simpa using h2
  have hb : (V.testBit n = true) ↔ V / 2 ^ n % 2 = 1 := by rw [Nat.testBit_eq_decide_div_mod_eq]; simp
  have ha : putU X lo n V &&& (4294967295 - 2 ^ (lo + n)) < 2 ^ 32 := Nat.lt_of_le_of_lt Nat.and_le_left (put_lt _ _ _ _ hX)
  have hall : ∀ i, i < 32 → (putU X lo n V &&& (4294967295 - 2 ^ (lo + n))).testBit i = if lo ≤ i ∧ i < lo + n then V.testBit (i - lo) else (X.testBit i && !decide (lo + n = i)) := by
    intro i hi
    rw [Nat.testBit_and, not_tb hp, put_tb (by omega) hi, pow_tb]
    by_cases h1 : lo ≤ i ∧ i < lo + n
    · have h2 : ¬ (lo + n = i) := by omega
      simp [h1, h2, hi]
    · simp [h1, hi]
  split
  · rename_i hv
    apply word_ext (put_lt _ _ _ _ hX) (Nat.or_lt_two_pow ha hp)
    intro i hi
    rw [put_tb (by omega) hi, Nat.testBit_or, hall i hi, pow_tb]
    by_cases h1 : lo + n = i
    · have h2 : ¬ (lo ≤ i ∧ i < lo + n) := by omega
      have h3 : lo ≤ i ∧ i < lo + (n + 1) := by omega
      rw [if_pos h3, show i - lo = n by omega, if_neg h2, hb.2 hv]
      simp [h1]
    · by_cases h2 : lo ≤ i ∧ i < lo + n
      · rw [if_pos h2, if_pos (by omega)]; simp [h1]
      · rw [if_neg h2, if_neg (by omega)]; simp [h1]
  · rename_i hv
    apply word_ext (put_lt _ _ _ _ hX) ha
    intro i hi
    rw [put_tb (by omega) hi, hall i hi]
    by_cases h1 : lo + n = i
    · have h2 : ¬ (lo ≤ i ∧ i < lo + n) := by omega
      have h3 : lo ≤ i ∧ i < lo + (n + 1) := by omega
      have h4 : V.testBit n = false := by
        cases hq : V.testBit n with
        | false => rfl
        | true => exact absurd (hb.1 hq) hv
      rw [if_pos h3, show i - lo = n by omega, if_neg h2, h4]
      simp [h1]
    · by_cases h2 : lo ≤ i ∧ i < lo + n
      · rw [if_pos h2, if_pos (by omega)]
      · rw [if_neg h2, if_neg (by omega)]; simp [h1]

/-- one bit more is got, from above -/
theorem get_step {X hi j : Nat} (hj : j ≤ hi) (hh : hi < 32) :
    getB X hi j = (getB X hi (j + 1) * 2 % 4294967296) ||| (X / 2 ^ j % 2) := by
  apply Nat.eq_of_testBit_eq
  intro i
  have e1 : getB X hi (j + 1) * 2 % 4294967296 = getB X hi (j + 1) * 2 ^ 1 % 2 ^ 32 := by simp
  have e2 : X / 2 ^ j % 2 = X / 2 ^ j % 2 ^ 1 := by simp
  rw [e1, e2, Nat.testBit_or, Nat.testBit_mod_two_pow, Nat.testBit_mul_two_pow, Nat.testBit_mod_two_pow, Nat.testBit_div_two_pow, get_tb, get_tb]
  cases i with
  | zero =>
    have : 0 < hi + 1 - j := by omega
    simp [this]
  | succ i =>
    have e : i + 1 - 1 + (j + 1) = i + 1 + j := by omega
    rw [e]
    by_cases h : i + 1 < hi + 1 - j
    · have h1 : i < hi - j := by omega
      have h2 : i + 1 < 32 := by omega
      simp [h, h1, h2]
    · have h1 : ¬ (i < hi - j) := by omega
      simp [h, h1]

theorem get_top (X hi : Nat) : getB X hi (hi + 1) = 0 := by
  unfold getB; rw [Nat.sub_self, Nat.pow_zero, Nat.mod_one]

/-! what is put is got -/
theorem put_back {X V lo n : Nat} (hX : X < 4294967296) (h : lo + n ≤ 32) (h1 : 1 ≤ n) :
    putU (putU X lo n V) lo n (getB X (lo + n - 1) lo) = X := by
  apply word_ext (put_lt _ _ _ _ (put_lt _ _ _ _ hX)) hX
  intro i hi
  rw [put_tb h hi, put_tb h hi]
  by_cases h2 : lo ≤ i ∧ i < lo + n
  · have h3 : i - lo < lo + n - 1 + 1 - lo := by omega
    rw [if_pos h2, get_tb, show i - lo + lo = i by omega, and_yes h3]
  · rw [if_neg h2, if_neg h2]

theorem got_put {X V lo n : Nat} (h : lo + n ≤ 32) (h1 : 1 ≤ n) :
    getB (putU X lo n V) (lo + n - 1) lo = getB V (n - 1) 0 := by
  apply Nat.eq_of_testBit_eq
  intro i
  rw [get_tb, get_tb]
  by_cases h2 : i < n
  · have h3 : i < lo + n - 1 + 1 - lo := by omega
    have h4 : i < n - 1 + 1 - 0 := by omega
    rw [put_tb h (by omega), if_pos (by omega), show i + lo - lo = i by omega, and_yes h3, and_yes h4, Nat.add_zero]
  · have h3 : ¬ (i < lo + n - 1 + 1 - lo) := by omega
    have h4 : ¬ (i < n - 1 + 1 - 0) := by omega
    rw [and_no h3, and_no h4]

theorem below_put {X V lo n : Nat} (h : lo + n ≤ 32) : getB (putU X lo n V) (lo - 1) 0 = getB X (lo - 1) 0 ∨ lo = 0 := by
  by_cases h0 : lo = 0
  · exact .inr h0
  · refine .inl ?_
    apply Nat.eq_of_testBit_eq
    intro i
    rw [get_tb, get_tb]
    by_cases h2 : i < lo
    · rw [put_tb h (by omega), if_neg (by omega)]
    · have h3 : ¬ (i < lo - 1 + 1 - 0) := by omega
      rw [and_no h3, and_no h3]

theorem above_put {X V lo n : Nat} (h : lo + n ≤ 32) : getB (putU X lo n V) 31 (lo + n) = getB X 31 (lo + n) := by
  apply Nat.eq_of_testBit_eq
  intro i
  rw [get_tb, get_tb]
  by_cases h2 : i < 31 + 1 - (lo + n)
  · rw [put_tb h (by omega), if_neg (by omega)]
  · simp [h2]

/-! turns -/
theorem ror_lt (X t : Nat) (hX : X < 4294967296) : rorB X t < 4294967296 := by
  unfold rorB
  exact Nat.or_lt_two_pow (n := 32) (Nat.lt_of_le_of_lt (Nat.div_le_self _ _) hX) (Nat.mod_lt _ (by decide))

theorem ror_tb {X t i : Nat} (hX : X < 4294967296) (ht : t < 32) (hi : i < 32) : (rorB X t).testBit i = X.testBit ((i + t) % 32) := by
  unfold rorB
  rw [show (4294967296 : Nat) = 2 ^ 32 by decide, Nat.testBit_or, Nat.testBit_mod_two_pow, Nat.testBit_mul_two_pow, Nat.testBit_div_two_pow]
  by_cases h : i + t < 32
  · have h1 : ¬ (32 - t ≤ i) := by omega
    rw [Nat.mod_eq_of_lt h]
    simp [h1]
  · have h1 : 32 - t ≤ i := by omega
    have e : (i + t) % 32 = i - (32 - t) := by omega
    rw [e, tb_high hX (by omega)]
    simp [h1, hi]

theorem ror_zero {X : Nat} (hX : X < 4294967296) : rorB X 0 = X := by
  apply word_ext (ror_lt _ _ hX) hX
  intro i hi
  rw [ror_tb hX (by omega) hi, show (i + 0) % 32 = i by omega]

theorem ror_ror {X a b : Nat} (hX : X < 4294967296) (ha : a < 32) (hb : b < 32) : rorB (rorB X a) b = rorB X ((a + b) % 32) := by
  apply word_ext (ror_lt _ _ (ror_lt _ _ hX)) (ror_lt _ _ hX)
  intro i hi
  rw [ror_tb (ror_lt _ _ hX) hb hi, ror_tb hX ha (by omega), ror_tb hX (by omega) hi]
  rw [show ((i + b) % 32 + a) % 32 = (i + (a + b) % 32) % 32 by omega]

end Bm
end Go.Proofs.YtmofimgodmcdjaaDoor

namespace Go.Proofs.YtmofimgodmcdjaaDoor
open Go.ChangeShapes Go.WideShapes Go.ChangeAt Go.RowKit

theorem two_pow_wrap (n : Nat) (h1 : 1 ≤ n) (h2 : n ≤ 32) : ((2 : Int) ^ n % 4294967296 - 1) % 4294967296 = ((2 ^ n - 1 : Nat) : Int) := by
  have e : ((2 : Int) ^ n) = ((2 ^ n : Nat) : Int) := by simp
  rw [e]
  have hp := Nat.two_pow_pos n
  have hl : 2 ^ n ≤ 2 ^ 32 := Nat.pow_le_pow_right (by omega) h2
  have h3 : (2 : Nat) ^ 32 = 4294967296 := by decide
  have h4 : 2 ^ 1 ≤ 2 ^ n := Nat.pow_le_pow_right (by omega) h1
  generalize 2 ^ n = q at *
  omega

theorem bones_c (n : Int) (w : World) (h1 : 1 ≤ n) (h2 : n ≤ 32) :
    Calls Tryd.prog 48 #[.int .i64 n] w fun e w' => e = .returned (.int .u32 ((2 ^ n.toNat - 1 : Nat) : Int)) ∧ ∃ n, w' = w.drewN n := by
  go_enter Tryd.func48, Tryd.ntmps48
  go_wp2
  go_ret
  exact ⟨ret_int (two_pow_wrap _ (by omega) (by omega)), 0, rfl⟩

theorem isField_yes (hi lo : Int) (w : World) (h1 : 0 ≤ lo) (h2 : lo ≤ hi) (h3 : hi < 32) :
    Calls Tryd.prog 47 #[.int .i64 hi, .int .i64 lo] w fun e w' => e = .returned (.bool true) ∧ ∃ n, w' = w.drewN n := by
  go_enter Tryd.func47, Tryd.ntmps47
  go_wp2
  go_ret
  exact ⟨rfl, 0, rfl⟩

theorem isField_no (hi lo : Int) (w : World) (h : ¬ (0 ≤ lo ∧ lo ≤ hi ∧ hi < 32)) :
    Calls Tryd.prog 47 #[.int .i64 hi, .int .i64 lo] w fun e w' => e = .returned (.bool false) ∧ ∃ n, w' = w.drewN n := by
  by_cases h3 : hi < 32
  · by_cases h2 : lo ≤ hi
    · have h1 : ¬ (0 ≤ lo) := by omega
      clear h
      go_enter Tryd.func47, Tryd.ntmps47
      go_wp2
      go_ret
      exact ⟨rfl, 0, rfl⟩
    · clear h
      go_enter Tryd.func47, Tryd.ntmps47
      go_wp2
      go_ret
      exact ⟨rfl, 0, rfl⟩
  · clear h
    go_enter Tryd.func47, Tryd.ntmps47
    go_wp2
    go_ret
    exact ⟨rfl, 0, rfl⟩

/-- the bits from hi to lo; 0 where these are no field -/
def getI (x hi lo : Int) : Int := if 0 ≤ lo ∧ lo ≤ hi ∧ hi < 32 then ((Bm.getB x.toNat hi.toNat lo.toNat : Nat) : Int) else 0
/-- x with the lowest bits of v there; x where these are no field -/
def putI (x hi lo v : Int) : Int := if 0 ≤ lo ∧ lo ≤ hi ∧ hi < 32 then ((Bm.putU x.toNat lo.toNat (hi.toNat + 1 - lo.toNat) v.toNat : Nat) : Int) else x

theorem get_eq (x hi lo : Int) (hx0 : 0 ≤ x) (hx : x < 4294967296) (h1 : 0 ≤ lo) (h2 : lo ≤ hi) (h3 : hi < 32) :
    bits .and .u32 (x / 2 ^ lo.toNat) ((2 ^ (hi - lo + 1).toNat - 1 : Nat) : Int) = getI x hi lo := by
  unfold getI
  rw [if_pos ⟨h1, h2, h3⟩]
  obtain ⟨X, rfl⟩ := Int.eq_ofNat_of_zero_le hx0
  obtain ⟨L, rfl⟩ := Int.eq_ofNat_of_zero_le h1
  obtain ⟨H, rfl⟩ := Int.eq_ofNat_of_zero_le (Int.le_trans h1 h2)
  have e : ((X : Int) / 2 ^ (L : Int).toNat) = ((X / 2 ^ L : Nat) : Int) := by simp
  have e2 : ((H : Int) - (L : Int) + 1).toNat = H + 1 - L := by omega
  have hl : 2 ^ (H + 1 - L) ≤ 2 ^ 32 := Nat.pow_le_pow_right (by omega) (by omega)
  have h4 : (2 : Nat) ^ 32 = 4294967296 := by decide
  have hp := Nat.two_pow_pos (H + 1 - L)
  rw [e, e2, u32_and_nat _ _ (Nat.lt_of_le_of_lt (Nat.div_le_self _ _) (by omega)) (by omega), Nat.and_two_pow_sub_one_eq_mod]
  simp [Bm.getB]

theorem get_c (x hi lo : Int) (w : World) (hx0 : 0 ≤ x) (hx : x < 4294967296) :
    Calls Tryd.prog 16 #[.int .u32 x, .int .i64 hi, .int .i64 lo] w fun e w' => e = .returned (.int .u32 (getI x hi lo)) ∧ ∃ n, w' = w.drewN n := by
  by_cases hf : 0 ≤ lo ∧ lo ≤ hi ∧ hi < 32
  · obtain ⟨h1, h2, h3⟩ := hf
    go_enter Tryd.func16, Tryd.ntmps16
    go_wp2_with ((go_at_call 47; refine (isField_yes _ _ _ h1 h2 h3).mono ?_; rintro e w' ⟨rfl, n, rfl⟩))
    go_quiet ((go_at_call 48; first | exact Calls.quiet_of (bones_c _ _ (by omega) (by omega)) | exact drawn_on (bones_c _ _ (by omega) (by omega))))
    go_wp2
    go_ret
    exact ⟨ret_int (get_eq x hi lo hx0 hx h1 h2 h3), n + nq, World.drewN_drewN ..⟩
  · go_enter Tryd.func16, Tryd.ntmps16
    go_wp2_with ((go_at_call 47; refine (isField_no _ _ _ hf).mono ?_; rintro e w' ⟨rfl, n, rfl⟩))
    go_ret
    exact ⟨ret_int (by unfold getI; rw [if_neg hf]), n, rfl⟩

theorem ofNat_shl (X k : Nat) : ((X : Int) * 2 ^ k % 4294967296) = ((X * 2 ^ k % 4294967296 : Nat) : Int) := by simp
theorem getv_bd (x hi i : Int) (hx0 : 0 ≤ x) (hx : x < 4294967296) : 0 ≤ ((Bm.getB x.toNat hi.toNat i.toNat : Nat) : Int) ∧ ((Bm.getB x.toNat hi.toNat i.toNat : Nat) : Int) < 4294967296 := by
  have := Bm.get_lt x.toNat hi.toNat i.toNat (by omega)
  omega

end Go.Proofs.YtmofimgodmcdjaaDoor

namespace Go.Proofs.YtmofimgodmcdjaaDoor
open Go.ChangeShapes Go.WideShapes Go.ChangeAt Go.RowKit

theorem put_eq (x hi lo v : Int) (hx0 : 0 ≤ x) (hx : x < 4294967296) (hv0 : 0 ≤ v) (hv : v < 4294967296) (h1 : 0 ≤ lo) (h2 : lo ≤ hi) (h3 : hi < 32) :
    bits .or .u32 (bits .andNot .u32 x (((2 ^ (hi - lo + 1).toNat - 1 : Nat) : Int) * 2 ^ lo.toNat % 4294967296)) (bits .and .u32 (v * 2 ^ lo.toNat % 4294967296) (((2 ^ (hi - lo + 1).toNat - 1 : Nat) : Int) * 2 ^ lo.toNat % 4294967296)) = putI x hi lo v := by
  unfold putI
  rw [if_pos ⟨h1, h2, h3⟩]
  obtain ⟨X, rfl⟩ := Int.eq_ofNat_of_zero_le hx0
  obtain ⟨V, rfl⟩ := Int.eq_ofNat_of_zero_le hv0
  obtain ⟨L, rfl⟩ := Int.eq_ofNat_of_zero_le h1
  obtain ⟨H, rfl⟩ := Int.eq_ofNat_of_zero_le (Int.le_trans h1 h2)
  have e2 : ((H : Int) - (L : Int) + 1).toNat = H + 1 - L := by omega
  have hF := Bm.field_lt (lo := L) (n := H + 1 - L) (by omega)
  have e3 : (((2 ^ (H + 1 - L) - 1 : Nat) : Int) * 2 ^ L % 4294967296) = ((Bm.fieldU L (H + 1 - L) : Nat) : Int) := by
    rw [ofNat_shl, show (2 ^ (H + 1 - L) - 1) * 2 ^ L = Bm.fieldU L (H + 1 - L) from rfl, Nat.mod_eq_of_lt hF]
  simp only [Int.toNat_natCast]
  rw [e2, e3, ofNat_shl, u32_andNot_nat _ _ (by omega) hF, u32_and_nat _ _ (Nat.mod_lt _ (by decide)) hF]
  rw [u32_or_nat _ _ (Nat.lt_of_le_of_lt Nat.and_le_left (by omega)) (Nat.lt_of_le_of_lt Nat.and_le_right hF)]
  rfl

theorem put_c (x hi lo v : Int) (w : World) (hx0 : 0 ≤ x) (hx : x < 4294967296) (hv0 : 0 ≤ v) (hv : v < 4294967296) :
    Calls Tryd.prog 51 #[.int .u32 x, .int .i64 hi, .int .i64 lo, .int .u32 v] w fun e w' => e = .returned (.int .u32 (putI x hi lo v)) ∧ ∃ n, w' = w.drewN n := by
  by_cases hf : 0 ≤ lo ∧ lo ≤ hi ∧ hi < 32
  · obtain ⟨h1, h2, h3⟩ := hf
    go_enter Tryd.func51, Tryd.ntmps51
    go_wp2_with (first | (go_at_call 47; refine (isField_yes _ _ _ h1 h2 h3).mono ?_; rintro e w' ⟨rfl, n, rfl⟩) | (go_at_call 48; refine (bones_c _ _ (by omega) (by omega)).mono ?_; rintro e w' ⟨rfl, n2, rfl⟩))
    go_ret
    exact ⟨ret_int (put_eq x hi lo v hx0 hx hv0 hv h1 h2 h3), n + n2, rfl⟩
  · go_enter Tryd.func51, Tryd.ntmps51
    go_wp2_with ((go_at_call 47; refine (isField_no _ _ _ hf).mono ?_; rintro e w' ⟨rfl, n, rfl⟩))
    go_ret
    exact ⟨ret_int (by unfold putI; rw [if_neg hf]), n, rfl⟩

end Go.Proofs.YtmofimgodmcdjaaDoor

namespace Go.Proofs.YtmofimgodmcdjaaDoor
open Go.ChangeShapes Go.WideShapes Go.ChangeAt Go.RowKit

/-! what a datum of numbers, bools, strings, arrays and structs is as a row of cells -/
namespace Flat
mutual
def flat {H : Type} : DataW H → Option (List Value)
  | .lit (.int k n) => some [.int k n]
  | .lit (.bool b) => some [.bool b]
  | .lit (.string l) => some [.string ⟨l.toArray⟩]
  | .agg ds => flats ds
  | _ => none
def flats {H : Type} : List (DataW H) → Option (List Value)
  | [] => some []
  | d :: r => (flat d).bind fun a => (flats r).map fun b => a ++ b
end

/-- the fields lie one behind the other, from o on, and fill the type -/
def rowB (tight : TypeId → Bool) (P : Program) (all : Nat) : Nat → List Field → Bool
  | o, [] => o == all
  | o, f :: r => f.offset == o && tight f.type && rowB tight P all (o + P.cellsOf f.type) r
/-- no cell lies between fields or elements -/
def tight (P : Program) : Nat → TypeId → Bool
  | 0, _ => false
  | n + 1, t => match P.underlying t with
    | some (.struct fs) => rowB (tight P n) P (P.cellsOf t) 0 fs.toList
    | some (.array k e) => P.cellsOf t == k * P.cellsOf e && tight P n e
    | _ => true

theorem flats_cons {H : Type} {d : DataW H} {r : List (DataW H)} {cs : List Value} (h : flats (d :: r) = some cs) : ∃ a b, flat d = some a ∧ flats r = some b ∧ cs = a ++ b := by
  simp only [flats, Option.bind_eq_some_iff, Option.map_eq_some_iff] at h
  obtain ⟨a, ha, b, hb, rfl⟩ := h
  exact ⟨a, b, ha, hb, rfl⟩

theorem cut (cs : List Value) (o c : Nat) : (cs.drop o).take c ++ cs.drop (o + c) = cs.drop o := by
  rw [← List.drop_drop]; exact List.take_append_drop _ _

variable {H : Type} {enc : TypeId × Value → H} {P : Program} {w : World} {base : Nat} {sp : Nat → Bool} {held : Bool}

theorem row_cells {fuel n : Nat} {all : Nat} {cs : List Value} (hl : cs.length = all)
    (ih : ∀ (t : TypeId) (cs cs' : List Value) (d : DataW H) (p : List MemPlace), DataW.trod enc P w base sp held fuel t cs = some (d, p) → flat d = some cs' → tight P n t = true → cs = cs') :
    ∀ (fs : List Field) (o : Nat) (xs : List (DataW H × List MemPlace)) (r : List Value),
      fs.mapM (fun f => DataW.trod enc P w base sp held fuel f.type ((cs.drop f.offset).take (P.cellsOf f.type))) = some xs → rowB (tight P n) P all o fs = true → flats (xs.map (·.1)) = some r → cs.drop o = r
  | [], o, xs, r, hm, hr, hf => by
    simp only [List.mapM_nil, Option.pure_def, Option.some.injEq] at hm
    subst hm
    simp [rowB] at hr
    simp [flats] at hf
    subst hf
    rw [List.drop_eq_nil_of_le (by omega)]
  | f :: fs, o, xs, r, hm, hr, hf => by
    simp only [List.mapM_cons, Option.bind_eq_bind, Option.bind_eq_some_iff, Option.pure_def, Option.some.injEq] at hm
    obtain ⟨x, hx, xs', hxs, rfl⟩ := hm
    simp only [rowB, Bool.and_eq_true, beq_iff_eq] at hr
    obtain ⟨⟨ho, ht⟩, hr⟩ := hr
    subst ho
    obtain ⟨a, b, ha, hb, rfl⟩ := flats_cons (by simpa using hf)
    have h1 := ih _ _ a x.1 x.2 hx ha ht
    have h2 := row_cells hl ih fs _ xs' b hxs hr hb
    rw [← cut cs f.offset (P.cellsOf f.type), h1, h2]

theorem arr_cells {fuel n : Nat} {e : TypeId} {cs : List Value}
    (ih : ∀ (t : TypeId) (cs cs' : List Value) (d : DataW H) (p : List MemPlace), DataW.trod enc P w base sp held fuel t cs = some (d, p) → flat d = some cs' → tight P n t = true → cs = cs') (ht : tight P n e = true) :
    ∀ (m s : Nat) (xs : List (DataW H × List MemPlace)) (r : List Value), cs.length = (s + m) * P.cellsOf e →
      (List.range' s m).mapM (fun i => DataW.trod enc P w base sp held fuel e ((cs.drop (i * P.cellsOf e)).take (P.cellsOf e))) = some xs → flats (xs.map (·.1)) = some r → cs.drop (s * P.cellsOf e) = r
  | 0, s, xs, r, hl, hm, hf => by
    simp only [List.range'_zero, List.mapM_nil, Option.pure_def, Option.some.injEq] at hm
    subst hm
    simp [flats] at hf
    subst hf
    rw [List.drop_eq_nil_of_le (by rw [hl]; simp)]
  | m + 1, s, xs, r, hl, hm, hf => by
    simp only [List.range'_succ, List.mapM_cons, Option.bind_eq_bind, Option.bind_eq_some_iff, Option.pure_def, Option.some.injEq] at hm
    obtain ⟨x, hx, xs', hxs, rfl⟩ := hm
    obtain ⟨a, b, ha, hb, rfl⟩ := flats_cons (by simpa using hf)
    have h1 := ih _ _ a x.1 x.2 hx ha ht
    have h2 := arr_cells ih ht m (s + 1) xs' b (by rw [hl]; congr 1; omega) hxs hb
    rw [← cut cs (s * P.cellsOf e) (P.cellsOf e), h1, ← h2, Nat.succ_mul]

/-- A reading that holds numbers and bools alone, in arrays and structs: the cells are just these. -/
theorem cells : ∀ (fuel n : Nat) (t : TypeId) (cs cs' : List Value) (d : DataW H) (p : List MemPlace), DataW.trod enc P w base sp held fuel t cs = some (d, p) → flat d = some cs' → tight P n t = true → cs = cs'
  | 0, _, _, _, _, _, _, h, _, _ => by simp [DataW.trod] at h
  | _ + 1, 0, _, _, _, _, _, _, _, ht => by simp [tight] at ht
  | fuel + 1, n + 1, t, cs, cs', d, p, h, hf, ht => by
    have ih := fun t cs cs' d p => cells fuel n t cs cs' d p
    unfold DataW.trod at h
    unfold tight at ht
    split at h
    case h_2 =>
      split at h
      · rename_i hk
        obtain ⟨rfl, _⟩ := hk
        simp only [Option.some.injEq, Prod.mk.injEq] at h
        obtain ⟨rfl, _⟩ := h
        simpa [flat] using hf
      · cases h
    case h_4 =>
      split at h
      · simp only [Option.some.injEq, Prod.mk.injEq] at h
        obtain ⟨rfl, _⟩ := h
        simpa [flat] using hf
      · cases h
    case h_8 =>
      split at h
      · simp only [Option.bind_eq_some_iff, Option.map_eq_some_iff, Prod.mk.injEq] at h
        obtain ⟨_, _, _, _, rfl, _⟩ := h
        simp [flat] at hf
      · cases h
    case h_9 =>
      rename_i fs hu
      rw [hu] at ht
      split at h
      · rename_i hl
        simp only [Option.map_eq_some_iff, Prod.mk.injEq] at h
        obtain ⟨xs, hm, rfl, _⟩ := h
        have := row_cells hl ih fs.toList 0 xs cs' hm ht (by simpa [flat] using hf)
        simpa using this
      · cases h
    case h_10 =>
      rename_i k e hu
      rw [hu] at ht
      simp only [Bool.and_eq_true, beq_iff_eq] at ht
      split at h
      · rename_i hl
        simp only [Option.map_eq_some_iff, Prod.mk.injEq] at h
        obtain ⟨xs, hm, rfl, _⟩ := h
        rw [List.range_eq_range'] at hm
        have := arr_cells ih ht.2 k 0 xs cs' (by rw [hl, ht.1]; simp) hm (by simpa [flat] using hf)
        simpa using this
      · cases h
    case h_12 =>
      split at h
      · simp only [Option.some.injEq, Prod.mk.injEq] at h
        obtain ⟨rfl, _⟩ := h
        simp [flat] at hf
      · simp only [Option.map_eq_some_iff, Prod.mk.injEq] at h
        obtain ⟨_, _, rfl, _⟩ := h
        simp [flat] at hf
      · cases h
    case h_14 =>
      split at h
      · split at h
        · simp only [Option.bind_eq_some_iff] at h
          obtain ⟨es, _, h⟩ := h
          split at h
          · simp only [Option.some.injEq, Prod.mk.injEq] at h
            obtain ⟨rfl, _⟩ := h
            simp [flat] at hf
          · cases h
        · cases h
      · cases h
    all_goals try (cases h; done)
    all_goals try (simp only [Option.map_eq_some_iff, Prod.mk.injEq, Option.some.injEq] at h)
    all_goals try (obtain ⟨⟨⟩, rfl⟩ := h; simp [flat] at hf; exact hf; done)
    all_goals try (obtain ⟨rfl, _⟩ := h; simp [flat] at hf; done)
    all_goals try (obtain ⟨rfl, _⟩ := h; simp [flat] at hf; exact hf)
    all_goals try (obtain ⟨_, _, rfl, _⟩ := h; simp [flat] at hf; done)
    all_goals (split at h <;> simp only [Option.some.injEq, Prod.mk.injEq, reduceCtorEq] at h <;> obtain ⟨rfl, _⟩ := h <;> simp [flat] at hf <;> first | done | exact hf)
end Flat
end Go.Proofs.YtmofimgodmcdjaaDoor

namespace Go.Proofs.YtmofimgodmcdjaaDoor
open Go.ChangeShapes Go.WideShapes Go.ChangeAt Go.RowKit

def rangeCells : List Value := [.int .i64 (-256), .int .i64 (254), .int .i64 (9), .int .i64 (-2048), .int .i64 (2046), .int .i64 (12), .int .i64 (-1048576), .int .i64 (1048574), .int .i64 (21), .int .i64 (-16777216), .int .i64 (16777214), .int .i64 (25), .int .i64 (0), .int .i64 (126), .int .i64 (8)]
def pieceCells : List Value := [.int .i64 (1), .int .i64 (0), .int .i64 (0), .int .i64 (8), .int .i64 (1), .int .i64 (2), .int .i64 (0), .int .i64 (0), .int .i64 (11), .int .i64 (1), .int .i64 (3), .int .i64 (0), .int .i64 (10), .int .i64 (20), .int .i64 (20), .int .i64 (3), .int .i64 (0), .int .i64 (0), .int .i64 (17), .int .i64 (12), .int .i64 (3), .int .i64 (1), .int .i64 (13), .int .i64 (18), .int .i64 (18), .int .i64 (3), .int .i64 (1), .int .i64 (11), .int .i64 (19), .int .i64 (19), .int .i64 (3), .int .i64 (1), .int .i64 (0), .int .i64 (11), .int .i64 (1), .int .i64 (4), .int .i64 (0), .int .i64 (10), .int .i64 (24), .int .i64 (24), .int .i64 (4), .int .i64 (0), .int .i64 (0), .int .i64 (21), .int .i64 (12), .int .i64 (4), .int .i64 (1), .int .i64 (13), .int .i64 (23), .int .i64 (23), .int .i64 (4), .int .i64 (1), .int .i64 (11), .int .i64 (22), .int .i64 (22), .int .i64 (4), .int .i64 (1), .int .i64 (0), .int .i64 (11), .int .i64 (1), .int .i64 (5), .int .i64 (0), .int .i64 (9), .int .i64 (6), .int .i64 (6), .int .i64 (5), .int .i64 (0), .int .i64 (3), .int .i64 (5), .int .i64 (1)]

/-- both tables lie in memory as the program's text lays them -/
structure Tabs (W : World) : Prop where
  r : W.rangeAt 0 0 rangeCells
  p : W.rangeAt 1 0 pieceCells
  big : 2 ≤ W.heap.size

theorem Tabs.below {W W' : World} {n : Nat} (h : Tabs W) (hb : Below n W W') (hn : 2 ≤ n) : Tabs W' :=
  ⟨fun j v hv => (hb.cell (by show 0 < n; omega)).trans (h.r j v hv), fun j v hv => (hb.cell (by show 1 < n; omega)).trans (h.p j v hv), Nat.le_trans h.big hb.size⟩
theorem Tabs.drew {W : World} (h : Tabs W) (n : Nat) : Tabs (W.drewN n) := h.below (n := W.heap.size) (below_drewN (Below.refl _ _) _) h.big

theorem gR : Tryd.prog.globalNamed "cartouche/offs.ranges" = some 0 := by kernel_rfl
theorem gP : Tryd.prog.globalNamed "cartouche/offs.pieces" = some 1 := by kernel_rfl
theorem tR : (Tryd.prog.globals[0]?).map (·.type) = some 96 := by kernel_rfl
theorem tP : (Tryd.prog.globals[1]?).map (·.type) = some 101 := by kernel_rfl
theorem tightR : Flat.tight Tryd.prog 4 96 = true := by kernel_rfl
theorem tightP : Flat.tight Tryd.prog 4 101 = true := by kernel_rfl
theorem flatR {H : Type} : Flat.flat (Rows.laid_cartouche_offs_ranges : DataW H) = some rangeCells := by kernel_rfl
theorem flatP {H : Type} : Flat.flat (Rows.laid_cartouche_offs_pieces : DataW H) = some pieceCells := by kernel_rfl

theorem range_of_var {W : World} {name : String} {g : Nat} {cs : Array Value} {l : List Value} (hg : Tryd.prog.globalNamed name = some g) (hv : W.var? Tryd.prog name = some cs) (hl : cs.toList = l) : W.rangeAt g 0 l := by
  intro j v hj
  have h := World.var?_cell hg hv j
  rw [Nat.zero_add, h]
  subst hl
  simpa using hj

theorem tabs_of_laid {W : World} (h : laidMetH Tryd.prog [("cartouche/offs.ranges", Rows.laid_cartouche_offs_ranges), ("cartouche/offs.pieces", Rows.laid_cartouche_offs_pieces)] W) : Tabs W := by
  rw [MakeChecks.laidMetH_plain _ _ _ (by kernel_rfl)] at h
  obtain ⟨ps, ⟨g0, t0, cs0, f0, p0, q0, hg0, ht0, hv0, hd0, ⟨g1, t1, cs1, f1, p1, q1, hg1, ht1, hv1, hd1, _, _⟩, _⟩, _, _⟩ := h
  obtain rfl := Option.some.inj (gR.symm.trans hg0)
  obtain rfl := Option.some.inj (gP.symm.trans hg1)
  obtain rfl := Option.some.inj (tR.symm.trans ht0)
  obtain rfl := Option.some.inj (tP.symm.trans ht1)
  have e0 := Flat.cells _ _ _ _ _ _ _ hd0 flatR tightR
  have e1 := Flat.cells _ _ _ _ _ _ _ hd1 flatP tightP
  have hr := range_of_var gR hv0 e0
  have hp := range_of_var gP hv1 e1
  exact ⟨hr, hp, by have h1 : 0 < W.heap.size := World.block_lt_of_cell? W ⟨0, 0 + 0, none⟩ (hr 0 _ rfl); have h2 : 1 < W.heap.size := World.block_lt_of_cell? W ⟨1, 0 + 0, none⟩ (hp 0 _ rfl); omega⟩
end Go.Proofs.YtmofimgodmcdjaaDoor

namespace Go.Proofs.YtmofimgodmcdjaaDoor
open Go.ChangeShapes Go.WideShapes Go.ChangeAt Go.RowKit

def lowI (k : Int) : Int := if k = 1 then -256 else if k = 2 then -2048 else if k = 3 then -1048576 else if k = 4 then -16777216 else 0
def highI (k : Int) : Int := if k = 5 then 126 else -lowI k - 2
/-- has the kind the offset? -/
def fitsB (k off : Int) : Bool := decide (1 ≤ k ∧ k ≤ 5 ∧ lowI k ≤ off ∧ off ≤ highI k ∧ off % 2 = 0)

theorem isKind_yes (k : Int) (w : World) (h1 : 1 ≤ k) (h2 : k ≤ 5) :
    Calls Tryd.prog 63 #[.int .i64 k] w fun e w' => e = .returned (.bool true) ∧ ∃ n, w' = w.drewN n := by
  go_enter Tryd.func63, Tryd.ntmps63
  go_wp2
  go_ret
  exact ⟨rfl, 0, rfl⟩

theorem isKind_no (k : Int) (w : World) (h : ¬ (1 ≤ k ∧ k ≤ 5)) :
    Calls Tryd.prog 63 #[.int .i64 k] w fun e w' => e = .returned (.bool false) ∧ ∃ n, w' = w.drewN n := by
  by_cases h1 : 1 ≤ k
  · have h2 : ¬ (k ≤ 5) := by omega
    clear h
    go_enter Tryd.func63, Tryd.ntmps63
    go_wp2
    go_ret
    exact ⟨rfl, 0, rfl⟩
  · clear h
    go_enter Tryd.func63, Tryd.ntmps63
    go_wp2
    go_ret
    exact ⟨rfl, 0, rfl⟩

theorem fits_no (k off : Int) (w : World) (h : ¬ (1 ≤ k ∧ k ≤ 5)) :
    Calls Tryd.prog 52 #[.int .i64 k, .int .i64 off] w fun e w' => e = .returned (.bool (fitsB k off)) ∧ Below w.heap.size w w' := by
  have hF : fitsB k off = false := by unfold fitsB; simp; omega
  rw [hF]
  clear hF
  go_enter Tryd.func52, Tryd.ntmps52
  go_wp2_with ((go_at_call 63; refine (isKind_no _ _ h).mono ?_; rintro e w' ⟨rfl, n, rfl⟩))
  go_ret
  exact ⟨rfl, below_drewN (Below.refl _ _) _⟩

theorem tmod2 (off : Int) : (off.tmod 2 == 0) = decide (off % 2 = 0) := by
  by_cases h : off % 2 = 0
  · have : off.tmod 2 = 0 := by rw [Int.tmod_eq_emod]; split <;> omega
    simp [h, this]
  · have : ¬ off.tmod 2 = 0 := by rw [Int.tmod_eq_emod]; split <;> omega
    simp [h, this]
theorem fitsB_lo {k off : Int} (h : off < lowI k) : false = fitsB k off := by unfold fitsB; simp; omega
theorem fitsB_hi {k off : Int} (h : highI k < off) : false = fitsB k off := by unfold fitsB; simp; omega
theorem fitsB_in {k off : Int} (h1 : 1 ≤ k) (h2 : k ≤ 5) (h3 : lowI k ≤ off) (h4 : off ≤ highI k) : (off.tmod 2 == 0) = fitsB k off := by
  rw [tmod2]; unfold fitsB; simp [h1, h2, h3, h4]
theorem fitsB_in' {k off : Int} (h1 : 1 ≤ k) (h2 : k ≤ 5) (h3 : lowI k ≤ off) (h4 : off ≤ highI k) : (off % 2 == 0) = fitsB k off := by
  unfold fitsB; by_cases h : off % 2 = 0 <;> simp [h1, h2, h3, h4, h]

theorem fits_1 (off : Int) (w : World) (hT : Tabs w) :
    Calls Tryd.prog 52 #[.int .i64 1, .int .i64 off] w fun e w' => e = .returned (.bool (fitsB 1 off)) ∧ Below w.heap.size w w' := by
  have c0 := hT.r 0 _ rfl
  have c1 := hT.r 1 _ rfl
  have c2 := hT.r 2 _ rfl
  simp only [Nat.zero_add] at c0 c1 c2
  clear hT
  go_enter Tryd.func52, Tryd.ntmps52
  go_wp2_with ((go_at_call 63; refine (isKind_yes _ _ (by omega) (by omega)).mono ?_; rintro e w' ⟨rfl, n, rfl⟩))
  all_goals
    go_ret
    refine ⟨ret_bool ?_, below_drewN ((Below.refl _ _).alloc (Nat.le_refl _) _) _⟩
    first
      | exact fitsB_in (k := 1) (by decide) (by decide) (show (-256) ≤ off by omega) (show off ≤ 254 by omega)
      | exact fitsB_hi (k := 1) (show 254 < off by omega)
      | exact fitsB_lo (k := 1) (show off < (-256) by omega)

theorem fits_2 (off : Int) (w : World) (hT : Tabs w) :
    Calls Tryd.prog 52 #[.int .i64 2, .int .i64 off] w fun e w' => e = .returned (.bool (fitsB 2 off)) ∧ Below w.heap.size w w' := by
  have c0 := hT.r 3 _ rfl
  have c1 := hT.r 4 _ rfl
  have c2 := hT.r 5 _ rfl
  simp only [Nat.zero_add] at c0 c1 c2
  clear hT
  go_enter Tryd.func52, Tryd.ntmps52
  go_wp2_with ((go_at_call 63; refine (isKind_yes _ _ (by omega) (by omega)).mono ?_; rintro e w' ⟨rfl, n, rfl⟩))
  all_goals
    go_ret
    refine ⟨ret_bool ?_, below_drewN ((Below.refl _ _).alloc (Nat.le_refl _) _) _⟩
    first
      | exact fitsB_in (k := 2) (by decide) (by decide) (show (-2048) ≤ off by omega) (show off ≤ 2046 by omega)
      | exact fitsB_hi (k := 2) (show 2046 < off by omega)
      | exact fitsB_lo (k := 2) (show off < (-2048) by omega)

theorem fits_3 (off : Int) (w : World) (hT : Tabs w) :
    Calls Tryd.prog 52 #[.int .i64 3, .int .i64 off] w fun e w' => e = .returned (.bool (fitsB 3 off)) ∧ Below w.heap.size w w' := by
  have c0 := hT.r 6 _ rfl
  have c1 := hT.r 7 _ rfl
  have c2 := hT.r 8 _ rfl
  simp only [Nat.zero_add] at c0 c1 c2
  clear hT
  go_enter Tryd.func52, Tryd.ntmps52
  go_wp2_with ((go_at_call 63; refine (isKind_yes _ _ (by omega) (by omega)).mono ?_; rintro e w' ⟨rfl, n, rfl⟩))
  all_goals
    go_ret
    refine ⟨ret_bool ?_, below_drewN ((Below.refl _ _).alloc (Nat.le_refl _) _) _⟩
    first
      | exact fitsB_in (k := 3) (by decide) (by decide) (show (-1048576) ≤ off by omega) (show off ≤ 1048574 by omega)
      | exact fitsB_hi (k := 3) (show 1048574 < off by omega)
      | exact fitsB_lo (k := 3) (show off < (-1048576) by omega)

theorem fits_4 (off : Int) (w : World) (hT : Tabs w) :
    Calls Tryd.prog 52 #[.int .i64 4, .int .i64 off] w fun e w' => e = .returned (.bool (fitsB 4 off)) ∧ Below w.heap.size w w' := by
  have c0 := hT.r 9 _ rfl
  have c1 := hT.r 10 _ rfl
  have c2 := hT.r 11 _ rfl
  simp only [Nat.zero_add] at c0 c1 c2
  clear hT
  go_enter Tryd.func52, Tryd.ntmps52
  go_wp2_with ((go_at_call 63; refine (isKind_yes _ _ (by omega) (by omega)).mono ?_; rintro e w' ⟨rfl, n, rfl⟩))
  all_goals
    go_ret
    refine ⟨ret_bool ?_, below_drewN ((Below.refl _ _).alloc (Nat.le_refl _) _) _⟩
    first
      | exact fitsB_in (k := 4) (by decide) (by decide) (show (-16777216) ≤ off by omega) (show off ≤ 16777214 by omega)
      | exact fitsB_hi (k := 4) (show 16777214 < off by omega)
      | exact fitsB_lo (k := 4) (show off < (-16777216) by omega)

theorem fits_5 (off : Int) (w : World) (hT : Tabs w) :
    Calls Tryd.prog 52 #[.int .i64 5, .int .i64 off] w fun e w' => e = .returned (.bool (fitsB 5 off)) ∧ Below w.heap.size w w' := by
  have c0 := hT.r 12 _ rfl
  have c1 := hT.r 13 _ rfl
  have c2 := hT.r 14 _ rfl
  simp only [Nat.zero_add] at c0 c1 c2
  clear hT
  go_enter Tryd.func52, Tryd.ntmps52
  go_wp2_with ((go_at_call 63; refine (isKind_yes _ _ (by omega) (by omega)).mono ?_; rintro e w' ⟨rfl, n, rfl⟩))
  all_goals
    go_ret
    refine ⟨ret_bool ?_, below_drewN ((Below.refl _ _).alloc (Nat.le_refl _) _) _⟩
    first
      | exact fitsB_in (k := 5) (by decide) (by decide) (show 0 ≤ off by omega) (show off ≤ 126 by omega)
      | exact fitsB_in' (k := 5) (by decide) (by decide) (show 0 ≤ off by omega) (show off ≤ 126 by omega)
      | exact fitsB_hi (k := 5) (show 126 < off by omega)
      | exact fitsB_lo (k := 5) (show off < 0 by omega)

theorem kinds {k : Int} (h : 1 ≤ k ∧ k ≤ 5) : k = 1 ∨ k = 2 ∨ k = 3 ∨ k = 4 ∨ k = 5 := by omega

theorem fits_c (k off : Int) (w : World) (hT : Tabs w) :
    Calls Tryd.prog 52 #[.int .i64 k, .int .i64 off] w fun e w' => e = .returned (.bool (fitsB k off)) ∧ Below w.heap.size w w' := by
  by_cases h : 1 ≤ k ∧ k ≤ 5
  · rcases kinds h with rfl | rfl | rfl | rfl | rfl
    · exact fits_1 off w hT
    · exact fits_2 off w hT
    · exact fits_3 off w hT
    · exact fits_4 off w hT
    · exact fits_5 off w hT
  · exact fits_no k off w h

theorem top_c (k h a hi lo : Int) (w : World) (ha : 0 ≤ a) (ha2 : a < 32) (hh : 0 ≤ hi) (hh2 : hi < 32) (hl : 0 ≤ lo) (hl2 : lo < 32) :
    Calls Tryd.prog 65 #[.agg #[.int .i64 k, .int .i64 h, .int .i64 a, .int .i64 hi, .int .i64 lo]] w fun e w' => e = .returned (.int .i64 (a + hi - lo)) ∧ Below w.heap.size w w' := by
  go_enter Tryd.func65, Tryd.ntmps65
  go_wp2
  go_ret
  exact ⟨rfl, (Below.refl _ _).alloc (Nat.le_refl _) _⟩

/-- what is written of an offset of the kind, and back -/
def crossI (k x : Int) : Int := if k = 4 ∧ getI x 24 24 = 0 then bits .xor .u32 x 12582912 else x

theorem cross_c (k x : Int) (w : World) (hx0 : 0 ≤ x) (hx : x < 4294967296) :
    Calls Tryd.prog 64 #[.int .i64 k, .int .u32 x] w fun e w' => e = .returned (.int .u32 (crossI k x)) ∧ ∃ n, w' = w.drewN n := by
  by_cases hk : k = 4
  · subst hk
    by_cases h : getI x 24 24 = 0
    · have hR : crossI 4 x = bits .xor .u32 x 12582912 := by unfold crossI; rw [if_pos ⟨rfl, h⟩]
      rw [hR]
      have hB : (getI x 24 24 == 0) = true := by simp [h]
      clear hR h
      go_enter Tryd.func64, Tryd.ntmps64
      go_wp2_with ((go_at_call 16; refine (get_c _ _ _ _ hx0 hx).mono ?_; rintro e w' ⟨rfl, n, rfl⟩))
      go_ret
      exact ⟨rfl, n, rfl⟩
    · have hR : crossI 4 x = x := by unfold crossI; rw [if_neg (fun q => h q.2)]
      rw [hR]
      have hB : (getI x 24 24 == 0) = false := by simp [h]
      clear hR h
      go_enter Tryd.func64, Tryd.ntmps64
      go_wp2_with ((go_at_call 16; refine (get_c _ _ _ _ hx0 hx).mono ?_; rintro e w' ⟨rfl, n, rfl⟩))
      go_ret
      exact ⟨rfl, n, rfl⟩
  · have hR : crossI k x = x := by unfold crossI; rw [if_neg (fun q => hk q.1)]
    rw [hR]
    have hB : (k == 4) = false := by simp [hk]
    clear hR hk
    go_enter Tryd.func64, Tryd.ntmps64
    go_wp2
    go_ret
    exact ⟨rfl, 0, rfl⟩
end Go.Proofs.YtmofimgodmcdjaaDoor

namespace Go.Proofs.YtmofimgodmcdjaaDoor
open Go.ChangeShapes Go.WideShapes Go.ChangeAt Go.RowKit

structure Piece where
  k : Int
  h : Int
  a : Int
  hi : Int
  lo : Int
def pieceTab : List Piece := [⟨1, 0, 0, 8, 1⟩, ⟨2, 0, 0, 11, 1⟩, ⟨3, 0, 10, 20, 20⟩, ⟨3, 0, 0, 17, 12⟩, ⟨3, 1, 13, 18, 18⟩, ⟨3, 1, 11, 19, 19⟩, ⟨3, 1, 0, 11, 1⟩, ⟨4, 0, 10, 24, 24⟩, ⟨4, 0, 0, 21, 12⟩, ⟨4, 1, 13, 23, 23⟩, ⟨4, 1, 11, 22, 22⟩, ⟨4, 1, 0, 11, 1⟩, ⟨5, 0, 9, 6, 6⟩, ⟨5, 0, 3, 5, 1⟩]
def pieceAt (n : Nat) : Piece := pieceTab.getD n ⟨0, 0, 0, 0, 0⟩

def cellsOfPiece (p : Piece) : Value := .agg #[.int .i64 p.k, .int .i64 p.h, .int .i64 p.a, .int .i64 p.hi, .int .i64 p.lo]

theorem index_piece (n : Nat) (hn : n < 14) (w : World) : (Instr.index 101 (.agg pieceCells.toArray) (.int .i64 (n : Int))).run Tryd.prog w = .ok (cellsOfPiece (pieceAt n)) w := by
  rcases (by omega : n = 0 ∨ n = 1 ∨ n = 2 ∨ n = 3 ∨ n = 4 ∨ n = 5 ∨ n = 6 ∨ n = 7 ∨ n = 8 ∨ n = 9 ∨ n = 10 ∨ n = 11 ∨ n = 12 ∨ n = 13) with rfl | rfl | rfl | rfl | rfl | rfl | rfl | rfl | rfl | rfl | rfl | rfl | rfl | rfl <;> kernel_rfl

/-- what the loops ask of a piece -/
structure PieceOk (p : Piece) : Prop where
  h0 : 0 ≤ p.h
  h1 : p.h < 2
  a0 : 0 ≤ p.a
  a1 : p.a < 32
  hi0 : 0 ≤ p.hi
  hi1 : p.hi < 32
  lo0 : 0 ≤ p.lo
  lo1 : p.lo < 32
theorem piece_ok (n : Nat) (hn : n < 14) : PieceOk (pieceAt n) := by
  rcases (by omega : n = 0 ∨ n = 1 ∨ n = 2 ∨ n = 3 ∨ n = 4 ∨ n = 5 ∨ n = 6 ∨ n = 7 ∨ n = 8 ∨ n = 9 ∨ n = 10 ∨ n = 11 ∨ n = 12 ∨ n = 13) with rfl | rfl | rfl | rfl | rfl | rfl | rfl | rfl | rfl | rfl | rfl | rfl | rfl | rfl <;> exact ⟨by decide, by decide, by decide, by decide, by decide, by decide, by decide, by decide⟩

theorem getI_bd (x hi lo : Int) (hx0 : 0 ≤ x) (hx : x < 4294967296) : 0 ≤ getI x hi lo ∧ getI x hi lo < 4294967296 := by
  unfold getI
  split
  · exact getv_bd x hi lo hx0 hx
  · omega
theorem putI_bd (x hi lo v : Int) (hx0 : 0 ≤ x) (hx : x < 4294967296) : 0 ≤ putI x hi lo v ∧ putI x hi lo v < 4294967296 := by
  unfold putI
  split
  · have := Bm.put_lt x.toNat lo.toNat (hi.toNat + 1 - lo.toNat) v.toNat (by omega)
    omega
  · omega

theorem underP : Tryd.prog.underlying 101 = some (.array 14 100) := by kernel_rfl
theorem infoP : (Tryd.prog.info? 101).map (·.size) = some pieceCells.length := by kernel_rfl

theorem top_x (k h a hi lo : Int) (w : World) (ha : 0 ≤ a) (ha2 : a < 32) (hh : 0 ≤ hi) (hh2 : hi < 32) (hl : 0 ≤ lo) (hl2 : lo < 32) :
    Calls Tryd.prog 65 #[.agg #[.int .i64 k, .int .i64 h, .int .i64 a, .int .i64 hi, .int .i64 lo]] w fun e w' => e = .returned (.int .i64 (a + hi - lo)) ∧ w' = w.alloc (.cells #[.int .i64 k, .int .i64 h, .int .i64 a, .int .i64 hi, .int .i64 lo] 100) := by
  go_enter Tryd.func65, Tryd.ntmps65
  go_wp2
  go_ret
  exact ⟨rfl, rfl⟩

theorem below_other {B k : Nat} {a w : World} (h : Below B a (w.drewN k)) (n : Nat) : Below B a (w.drewN n) := ⟨h.os, h.tape, h.output, h.size, h.block⟩

theorem cross_bd (k x : Int) (hx0 : 0 ≤ x) (hx : x < 4294967296) : 0 ≤ crossI k x ∧ crossI k x < 4294967296 := by
  unfold crossI
  split
  · have h := bounds_u32 (wf_bits .xor .u32 x 12582912)
    omega
  · omega

theorem range_later {w : World} {cs : List Value} (h : w.rangeAt 1 0 cs) (hs : 1 < w.heap.size) (o : Obj) (n : Nat) : ((w.alloc o).drewN n).rangeAt 1 0 cs := fun j v hv =>
  (World.cell?_alloc_lt w o ⟨1, 0 + j, none⟩ hs).trans (h j v hv)

end Go.Proofs.YtmofimgodmcdjaaDoor
