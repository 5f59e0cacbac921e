/- Plain facts on offsets in pieces: what the program's two loops come to, as sums of products; that they are there and back. No memory, no calls; no conditions but those that each fact names. The pair that tall's readers take their fields from: how it lies; take, and the fields that have a name. No conditions but those that each fact names. The pair's fields that have a name. No conditions but those that each fact names (text by gen_pb.py). Which operation's beginning is left; ahead of the PC or behind it. No conditions but those that each fact names. A place ahead of the PC or behind it; an offset out of the pair. No conditions but those that each fact names. An offset out of the pair. No conditions but those that each fact names. -/
import Derived.Test.YtdcnkmkaafimlaaDoorRows
import Derived.Test.YtdcnkmkaafimlaaDoorGb
import Derived.Test.YtdcnkmkaafimlaaDoorGa
import Derived.Test.YtdcnkmkaafimlaaDoorGc
import Derived.Lib.Hide
import Derived.Deep.RegionHeld3

namespace Go.Proofs.YtdcnkmkaafimlaaDoor
open Go.ChangeShapes Go.WideShapes Go.ChangeAt Go.RowKit
namespace Om

/-! fields as quotients and rests -/
theorem putU_add {X lo n V : Nat} (hX : X < 4294967296) (h : lo + n ≤ 32) (hz : X / 2 ^ lo % 2 ^ n = 0) (hV : V < 2 ^ n) : Bm.putU X lo n V = X + V * 2 ^ lo := by
  have hlt : V * 2 ^ lo < 2 ^ (lo + n) := by rw [Nat.pow_add, Nat.mul_comm]; exact Nat.mul_lt_mul_of_pos_left hV (Nat.two_pow_pos lo)
  have h32 : 2 ^ (lo + n) ≤ 2 ^ 32 := Nat.pow_le_pow_right (by omega) h
  have e : Bm.putU X lo n V = X ||| V * 2 ^ lo := by
    apply Bm.word_ext (Bm.put_lt _ _ _ _ hX) (Nat.or_lt_two_pow (n := 32) hX (Nat.lt_of_lt_of_le hlt h32))
    intro i hi
    rw [Bm.put_tb h hi, Nat.testBit_or, Nat.testBit_mul_two_pow]
    by_cases h1 : lo ≤ i ∧ i < lo + n
    · have h2 : X.testBit i = false := by
        have h3 := Nat.testBit_mod_two_pow (X / 2 ^ lo) n (i - lo)
        rw [hz, Nat.zero_testBit, Nat.testBit_div_two_pow, show i - lo + lo = i by omega] at h3
        have h4 : i - lo < n := by omega
        simpa [h4] using h3.symm
      rw [if_pos h1, h2]
      simp [h1.1]
    · rw [if_neg h1]
      by_cases h2 : lo ≤ i
      · have h3 : V.testBit (i - lo) = false := Nat.testBit_lt_two_pow (Nat.lt_of_lt_of_le hV (Nat.pow_le_pow_right (by omega) (by omega)))
        simp [h3]
      · simp [h2]
  rw [e]
  have hs := Nat.div_add_mod X (2 ^ (lo + n))
  have hl : X % 2 ^ (lo + n) = X % 2 ^ lo := by rw [Nat.pow_add, Nat.mod_mul, hz]; simp
  have hm := Nat.mod_lt X (Nat.two_pow_pos lo)
  rw [hl] at hs
  generalize X % 2 ^ lo = L at *
  have h5 : V * 2 ^ lo ||| L = V * 2 ^ lo + L := nat_join lo _ _ (by simp) hm
  have h6 : 2 ^ (lo + n) * (X / 2 ^ (lo + n)) ||| L = X := by rw [nat_join (lo + n) _ _ (by simp) (Nat.lt_of_lt_of_le hm (Nat.pow_le_pow_right (by omega) (by omega)))]; exact hs
  have h7 : V * 2 ^ lo + L < 2 ^ (lo + n) := by
    have : V * 2 ^ lo + 2 ^ lo ≤ 2 ^ (lo + n) := by
      rw [Nat.pow_add, ← Nat.succ_mul, Nat.mul_comm (2 ^ lo)]; exact Nat.mul_le_mul_right _ hV
    omega
  have h8 : X ||| V * 2 ^ lo = 2 ^ (lo + n) * (X / 2 ^ (lo + n)) ||| (V * 2 ^ lo ||| L) := by
    rw [Nat.or_comm (V * 2 ^ lo) L, ← Nat.or_assoc, h6]
  rw [h8, h5, nat_join (lo + n) _ _ (by simp) h7]
  omega

theorem putI_add (x v : Int) (hi lo : Nat) (h1 : lo ≤ hi) (h2 : hi < 32) (hx0 : 0 ≤ x) (hx1 : x < 4294967296) (hz : x / 2 ^ lo % 2 ^ (hi + 1 - lo) = 0) (hv0 : 0 ≤ v) (hv1 : v < 2 ^ (hi + 1 - lo)) :
    putI x hi lo v = x + v * 2 ^ lo := by
  obtain ⟨X, rfl⟩ := Int.eq_ofNat_of_zero_le hx0
  obtain ⟨V, rfl⟩ := Int.eq_ofNat_of_zero_le hv0
  unfold putI
  rw [if_pos (by omega)]
  simp only [Int.toNat_natCast]
  rw [putU_add (by omega) (by omega) (by exact_mod_cast hz) (by exact_mod_cast hv1)]
  simp

theorem getI_ar (x : Int) (hi lo : Nat) (h1 : lo ≤ hi) (h2 : hi < 32) (hx0 : 0 ≤ x) : getI x hi lo = x / 2 ^ lo % 2 ^ (hi + 1 - lo) := by
  obtain ⟨X, rfl⟩ := Int.eq_ofNat_of_zero_le hx0
  unfold getI
  rw [if_pos (by omega)]
  simp [Bm.getB]

/-! the two bits that are turned over -/
theorem xor3 : ∀ Z, Z < 1024 → Z ^^^ 3 = Z - Z % 4 + (3 - Z % 4) := by
  have h : ((List.range 1024).all fun Z => Z ^^^ 3 == Z - Z % 4 + (3 - Z % 4)) = true := by decide +kernel
  intro Z hZ
  simpa using List.all_eq_true.1 h Z (List.mem_range.2 hZ)

theorem xor_ar (x : Int) (hx0 : 0 ≤ x) (hx1 : x < 4294967296) : bits .xor .u32 x 12582912 = x - x / 4194304 % 4 * 4194304 + (3 - x / 4194304 % 4) * 4194304 := by
  obtain ⟨X, rfl⟩ := Int.eq_ofNat_of_zero_le hx0
  rw [show (12582912 : Int) = ((12582912 : Nat) : Int) by rfl, u32_xor_nat X 12582912 (by omega) (by decide)]
  have h1 : (X ^^^ 12582912) / 2 ^ 22 = X / 2 ^ 22 ^^^ 3 := by rw [Nat.xor_div_two_pow]
  have h2 : (X ^^^ 12582912) % 2 ^ 22 = X % 2 ^ 22 := by rw [Nat.xor_mod_two_pow]; simp
  rw [xor3 _ (by omega)] at h1
  omega
/-! sums -/
theorem put_n (x v : Int) (hi lo : Nat) (m c : Int) {hi' lo' : Int} (eh : (hi : Int) = hi') (el : (lo : Int) = lo') (hm : 2 ^ lo = m) (hc : 2 ^ (hi + 1 - lo) = c) (h1 : lo ≤ hi) (h2 : hi < 32) (hx0 : 0 ≤ x) (hx1 : x < 4294967296) (hz : x / m % c = 0) (hv0 : 0 ≤ v) (hv1 : v < c) :
    putI x hi' lo' v = x + v * m := by
  subst hm hc eh el
  exact putI_add x v hi lo h1 h2 hx0 hx1 hz hv0 hv1
theorem get_n (x : Int) (hi lo : Nat) (m c : Int) {hi' lo' : Int} (eh : (hi : Int) = hi') (el : (lo : Int) = lo') (hm : 2 ^ lo = m) (hc : 2 ^ (hi + 1 - lo) = c) (h1 : lo ≤ hi) (h2 : hi < 32) (hx0 : 0 ≤ x) : getI x hi' lo' = x / m % c := by
  subst hm hc eh el
  exact getI_ar x hi lo h1 h2 hx0

/-- v as a number with a sign, h its half -/
def sg (v h : Int) : Int := if v < h then v else v - 2 * h
theorem sign_n (x : Int) (n : Nat) (h : Int) {n' : Int} (en : ((n + 1 : Nat) : Int) = n') (hh : 2 ^ n = h) (h2 : n < 32) : signI x n' = sg (x % (2 * h)) h := by
  subst en
  have hp : (0 : Int) < h := by rw [← hh]; exact Int.pow_pos (by decide)
  unfold signI sg
  rw [if_pos (by omega), show (((n + 1 : Nat) : Int) - 1).toNat = n by omega, show ((n + 1 : Nat) : Int).toNat = n + 1 by omega, Int.pow_succ, hh, Int.mul_comm h 2]
  have e1 : x / h = 2 * (x / (2 * h)) + x % (2 * h) / h := by
    have h1 := Int.mul_ediv_add_emod x (2 * h)
    have h3 : x = h * (2 * (x / (2 * h))) + x % (2 * h) := by rw [← Int.mul_assoc, Int.mul_comm h 2]; omega
    calc x / h = (h * (2 * (x / (2 * h))) + x % (2 * h)) / h := by rw [← h3]
      _ = 2 * (x / (2 * h)) + x % (2 * h) / h := by rw [Int.add_comm, Int.add_mul_ediv_left _ _ (by omega), Int.add_comm]
  have h4 := Int.emod_nonneg x (show 2 * h ≠ 0 by omega)
  have h5 := Int.emod_lt_of_pos x (show 0 < 2 * h by omega)
  by_cases hb : x % (2 * h) < h
  · rw [if_pos hb, if_neg]
    rw [e1, Int.ediv_eq_zero_of_lt h4 hb]; omega
  · have h6 : x % (2 * h) / h = 1 := by
      have : x % (2 * h) = (x % (2 * h) - h) + h * 1 := by omega
      rw [this, Int.add_mul_ediv_left _ _ (by omega), Int.ediv_eq_zero_of_lt (by omega) (by omega)]; omega
    rw [if_neg hb, if_pos]
    rw [e1, h6]; omega

/-- the offset of the halfwords x and y -/
def gA (k x y : Int) : Int :=
  if k = 1 then 2 * sg (x % 256) 128
  else if k = 2 then 2 * sg (x % 2048) 1024
  else if k = 3 then 2 * sg (x / 1024 % 2 * 524288 + y / 2048 % 2 * 262144 + y / 8192 % 2 * 131072 + x % 64 * 2048 + y % 2048) 524288
  else if k = 4 then 2 * sg (x / 1024 % 2 * 8388608 + (1 + y / 8192 % 2 + x / 1024 % 2) % 2 * 4194304 + (1 + y / 2048 % 2 + x / 1024 % 2) % 2 * 2097152 + x % 1024 * 2048 + y % 2048) 8388608
  else if k = 5 then 2 * (x / 512 % 2 * 32 + x / 8 % 32)
  else 0

theorem getTo_1 (x y : Int) (hx0 : 0 ≤ x) (_hy0 : 0 ≤ y) : getTo 1 x y 14 = 0 + (x / 1 % 256) * 2 := by
  have e : getTo 1 x y 14 = putI 0 8 1 (getI x 7 0) := by simp [getTo, getStep, pieceAt, pieceTab]
  rw [e, (get_n x 7 0 1 256 rfl rfl (by decide) (by decide) (by decide) (by decide) hx0 : getI x 7 0 = _)]
  rw [(put_n (0) (x / 1 % 256) 8 1 2 256 rfl rfl (by decide) (by decide) (by decide) (by decide) (by omega) (by omega) (by omega) (by omega) (by omega) : putI (0) 8 1 (x / 1 % 256) = _)]

theorem getTo_2 (x y : Int) (hx0 : 0 ≤ x) (_hy0 : 0 ≤ y) : getTo 2 x y 14 = 0 + (x / 1 % 2048) * 2 := by
  have e : getTo 2 x y 14 = putI 0 11 1 (getI x 10 0) := by simp [getTo, getStep, pieceAt, pieceTab]
  rw [e, (get_n x 10 0 1 2048 rfl rfl (by decide) (by decide) (by decide) (by decide) hx0 : getI x 10 0 = _)]
  rw [(put_n (0) (x / 1 % 2048) 11 1 2 2048 rfl rfl (by decide) (by decide) (by decide) (by decide) (by omega) (by omega) (by omega) (by omega) (by omega) : putI (0) 11 1 (x / 1 % 2048) = _)]

theorem getTo_3 (x y : Int) (hx0 : 0 ≤ x) (hy0 : 0 ≤ y) : getTo 3 x y 14 = 0 + (x / 1024 % 2) * 1048576 + (x / 1 % 64) * 4096 + (y / 8192 % 2) * 262144 + (y / 2048 % 2) * 524288 + (y / 1 % 2048) * 2 := by
  have e : getTo 3 x y 14 = putI (putI (putI (putI (putI 0 20 20 (getI x 10 10)) 17 12 (getI x 5 0)) 18 18 (getI y 13 13)) 19 19 (getI y 11 11)) 11 1 (getI y 10 0) := by simp [getTo, getStep, pieceAt, pieceTab]
  rw [e, (get_n x 10 10 1024 2 rfl rfl (by decide) (by decide) (by decide) (by decide) hx0 : getI x 10 10 = _), (get_n x 5 0 1 64 rfl rfl (by decide) (by decide) (by decide) (by decide) hx0 : getI x 5 0 = _), (get_n y 13 13 8192 2 rfl rfl (by decide) (by decide) (by decide) (by decide) hy0 : getI y 13 13 = _), (get_n y 11 11 2048 2 rfl rfl (by decide) (by decide) (by decide) (by decide) hy0 : getI y 11 11 = _), (get_n y 10 0 1 2048 rfl rfl (by decide) (by decide) (by decide) (by decide) hy0 : getI y 10 0 = _)]
  rw [(put_n (0) (x / 1024 % 2) 20 20 1048576 2 rfl rfl (by decide) (by decide) (by decide) (by decide) (by omega) (by omega) (by omega) (by omega) (by omega) : putI (0) 20 20 (x / 1024 % 2) = _)]
  rw [(put_n (0 + (x / 1024 % 2) * 1048576) (x / 1 % 64) 17 12 4096 64 rfl rfl (by decide) (by decide) (by decide) (by decide) (by omega) (by omega) (by omega) (by omega) (by omega) : putI (0 + (x / 1024 % 2) * 1048576) 17 12 (x / 1 % 64) = _)]
  rw [(put_n (0 + (x / 1024 % 2) * 1048576 + (x / 1 % 64) * 4096) (y / 8192 % 2) 18 18 262144 2 rfl rfl (by decide) (by decide) (by decide) (by decide) (by omega) (by omega) (by omega) (by omega) (by omega) : putI (0 + (x / 1024 % 2) * 1048576 + (x / 1 % 64) * 4096) 18 18 (y / 8192 % 2) = _)]
  rw [(put_n (0 + (x / 1024 % 2) * 1048576 + (x / 1 % 64) * 4096 + (y / 8192 % 2) * 262144) (y / 2048 % 2) 19 19 524288 2 rfl rfl (by decide) (by decide) (by decide) (by decide) (by omega) (by omega) (by omega) (by omega) (by omega) : putI (0 + (x / 1024 % 2) * 1048576 + (x / 1 % 64) * 4096 + (y / 8192 % 2) * 262144) 19 19 (y / 2048 % 2) = _)]
  rw [(put_n (0 + (x / 1024 % 2) * 1048576 + (x / 1 % 64) * 4096 + (y / 8192 % 2) * 262144 + (y / 2048 % 2) * 524288) (y / 1 % 2048) 11 1 2 2048 rfl rfl (by decide) (by decide) (by decide) (by decide) (by omega) (by omega) (by omega) (by omega) (by omega) : putI (0 + (x / 1024 % 2) * 1048576 + (x / 1 % 64) * 4096 + (y / 8192 % 2) * 262144 + (y / 2048 % 2) * 524288) 11 1 (y / 1 % 2048) = _)]

theorem getTo_4 (x y : Int) (hx0 : 0 ≤ x) (hy0 : 0 ≤ y) : getTo 4 x y 14 = 0 + (x / 1024 % 2) * 16777216 + (x / 1 % 1024) * 4096 + (y / 8192 % 2) * 8388608 + (y / 2048 % 2) * 4194304 + (y / 1 % 2048) * 2 := by
  have e : getTo 4 x y 14 = putI (putI (putI (putI (putI 0 24 24 (getI x 10 10)) 21 12 (getI x 9 0)) 23 23 (getI y 13 13)) 22 22 (getI y 11 11)) 11 1 (getI y 10 0) := by simp [getTo, getStep, pieceAt, pieceTab]
  rw [e, (get_n x 10 10 1024 2 rfl rfl (by decide) (by decide) (by decide) (by decide) hx0 : getI x 10 10 = _), (get_n x 9 0 1 1024 rfl rfl (by decide) (by decide) (by decide) (by decide) hx0 : getI x 9 0 = _), (get_n y 13 13 8192 2 rfl rfl (by decide) (by decide) (by decide) (by decide) hy0 : getI y 13 13 = _), (get_n y 11 11 2048 2 rfl rfl (by decide) (by decide) (by decide) (by decide) hy0 : getI y 11 11 = _), (get_n y 10 0 1 2048 rfl rfl (by decide) (by decide) (by decide) (by decide) hy0 : getI y 10 0 = _)]
  rw [(put_n (0) (x / 1024 % 2) 24 24 16777216 2 rfl rfl (by decide) (by decide) (by decide) (by decide) (by omega) (by omega) (by omega) (by omega) (by omega) : putI (0) 24 24 (x / 1024 % 2) = _)]
  rw [(put_n (0 + (x / 1024 % 2) * 16777216) (x / 1 % 1024) 21 12 4096 1024 rfl rfl (by decide) (by decide) (by decide) (by decide) (by omega) (by omega) (by omega) (by omega) (by omega) : putI (0 + (x / 1024 % 2) * 16777216) 21 12 (x / 1 % 1024) = _)]
  rw [(put_n (0 + (x / 1024 % 2) * 16777216 + (x / 1 % 1024) * 4096) (y / 8192 % 2) 23 23 8388608 2 rfl rfl (by decide) (by decide) (by decide) (by decide) (by omega) (by omega) (by omega) (by omega) (by omega) : putI (0 + (x / 1024 % 2) * 16777216 + (x / 1 % 1024) * 4096) 23 23 (y / 8192 % 2) = _)]
  rw [(put_n (0 + (x / 1024 % 2) * 16777216 + (x / 1 % 1024) * 4096 + (y / 8192 % 2) * 8388608) (y / 2048 % 2) 22 22 4194304 2 rfl rfl (by decide) (by decide) (by decide) (by decide) (by omega) (by omega) (by omega) (by omega) (by omega) : putI (0 + (x / 1024 % 2) * 16777216 + (x / 1 % 1024) * 4096 + (y / 8192 % 2) * 8388608) 22 22 (y / 2048 % 2) = _)]
  rw [(put_n (0 + (x / 1024 % 2) * 16777216 + (x / 1 % 1024) * 4096 + (y / 8192 % 2) * 8388608 + (y / 2048 % 2) * 4194304) (y / 1 % 2048) 11 1 2 2048 rfl rfl (by decide) (by decide) (by decide) (by decide) (by omega) (by omega) (by omega) (by omega) (by omega) : putI (0 + (x / 1024 % 2) * 16777216 + (x / 1 % 1024) * 4096 + (y / 8192 % 2) * 8388608 + (y / 2048 % 2) * 4194304) 11 1 (y / 1 % 2048) = _)]

theorem getTo_5 (x y : Int) (hx0 : 0 ≤ x) (_hy0 : 0 ≤ y) : getTo 5 x y 14 = 0 + (x / 512 % 2) * 64 + (x / 8 % 32) * 2 := by
  have e : getTo 5 x y 14 = putI (putI 0 6 6 (getI x 9 9)) 5 1 (getI x 7 3) := by simp [getTo, getStep, pieceAt, pieceTab]
  rw [e, (get_n x 9 9 512 2 rfl rfl (by decide) (by decide) (by decide) (by decide) hx0 : getI x 9 9 = _), (get_n x 7 3 8 32 rfl rfl (by decide) (by decide) (by decide) (by decide) hx0 : getI x 7 3 = _)]
  rw [(put_n (0) (x / 512 % 2) 6 6 64 2 rfl rfl (by decide) (by decide) (by decide) (by decide) (by omega) (by omega) (by omega) (by omega) (by omega) : putI (0) 6 6 (x / 512 % 2) = _)]
  rw [(put_n (0 + (x / 512 % 2) * 64) (x / 8 % 32) 5 1 2 32 rfl rfl (by decide) (by decide) (by decide) (by decide) (by omega) (by omega) (by omega) (by omega) (by omega) : putI (0 + (x / 512 % 2) * 64) 5 1 (x / 8 % 32) = _)]

theorem getV_1 (x y : Int) (hx0 : 0 ≤ x) (hy0 : 0 ≤ y) : getV 1 x y = gA 1 x y := by
  have e : getV 1 x y = signI (crossI 1 (getTo 1 x y 14)) 9 := by kernel_rfl
  have hc : ∀ X, crossI 1 X = X := fun X => by unfold crossI; rw [if_neg (by omega)]
  rw [e, hc, getTo_1 x y hx0 hy0, (sign_n _ 8 256 rfl (by decide) (by decide) : signI _ 9 = _)]
  unfold gA sg
  simp only [if_true]
  split <;> split <;> omega

theorem getV_2 (x y : Int) (hx0 : 0 ≤ x) (hy0 : 0 ≤ y) : getV 2 x y = gA 2 x y := by
  have e : getV 2 x y = signI (crossI 2 (getTo 2 x y 14)) 12 := by kernel_rfl
  have hc : ∀ X, crossI 2 X = X := fun X => by unfold crossI; rw [if_neg (by omega)]
  rw [e, hc, getTo_2 x y hx0 hy0, (sign_n _ 11 2048 rfl (by decide) (by decide) : signI _ 12 = _)]
  unfold gA sg
  simp only [if_true, show ¬ ((2 : Int) = 1) from by decide, if_false]
  split <;> split <;> omega

theorem getV_3 (x y : Int) (hx0 : 0 ≤ x) (hy0 : 0 ≤ y) : getV 3 x y = gA 3 x y := by
  have e : getV 3 x y = signI (crossI 3 (getTo 3 x y 14)) 21 := by kernel_rfl
  have hc : ∀ X, crossI 3 X = X := fun X => by unfold crossI; rw [if_neg (by omega)]
  rw [e, hc, getTo_3 x y hx0 hy0, (sign_n _ 20 1048576 rfl (by decide) (by decide) : signI _ 21 = _)]
  unfold gA sg
  simp only [if_true, show ¬ ((3 : Int) = 1) from by decide, show ¬ ((3 : Int) = 2) from by decide, if_false]
  split <;> split <;> omega

theorem getV_4 (x y : Int) (hx0 : 0 ≤ x) (hy0 : 0 ≤ y) : getV 4 x y = gA 4 x y := by
  have e : getV 4 x y = signI (crossI 4 (getTo 4 x y 14)) 25 := by kernel_rfl
  rw [e, getTo_4 x y hx0 hy0]
  have hg : gA 4 x y = 2 * sg (x / 1024 % 2 * 8388608 + (1 + y / 8192 % 2 + x / 1024 % 2) % 2 * 4194304 + (1 + y / 2048 % 2 + x / 1024 % 2) % 2 * 2097152 + x % 1024 * 2048 + y % 2048) 8388608 := by kernel_rfl
  rw [hg, (sign_n _ 24 16777216 rfl (by decide) (by decide) : signI _ 25 = _)]
  have a1 : 0 ≤ x / 1024 % 2 ∧ x / 1024 % 2 ≤ 1 := by omega
  have a2 : 0 ≤ x / 1 % 1024 ∧ x / 1 % 1024 < 1024 := by omega
  have a3 : 0 ≤ y / 8192 % 2 ∧ y / 8192 % 2 ≤ 1 := by omega
  have a4 : 0 ≤ y / 2048 % 2 ∧ y / 2048 % 2 ≤ 1 := by omega
  have a5 : 0 ≤ y / 1 % 2048 ∧ y / 1 % 2048 < 2048 := by omega
  have a6 : x % 1024 = x / 1 % 1024 := by omega
  have a7 : y % 2048 = y / 1 % 2048 := by omega
  rw [a6, a7]
  clear a6 a7 hg e hx0 hy0
  generalize x / 1024 % 2 = s at *
  generalize x / 1 % 1024 = f at *
  generalize y / 8192 % 2 = j at *
  generalize y / 2048 % 2 = i at *
  generalize y / 1 % 2048 = g at *
  have hX : ∀ X : Int, X = 0 + s * 16777216 + f * 4096 + j * 8388608 + i * 4194304 + g * 2 → sg (crossI 4 X % (2 * 16777216)) 16777216 = 2 * sg (s * 8388608 + (1 + j + s) % 2 * 4194304 + (1 + i + s) % 2 * 2097152 + f * 2048 + g) 8388608 := by
    intro X hX
    unfold crossI
    rw [(get_n X 24 24 16777216 2 rfl rfl (by decide) (by decide) (by decide) (by decide) (by omega) : getI X 24 24 = _), xor_ar X (by omega) (by omega)]
    have h1 : X / 16777216 % 2 = s := by omega
    have h2 : X / 4194304 % 4 = j * 2 + i := by omega
    rw [h1, h2]
    rcases (by omega : s = 0 ∨ s = 1) with rfl | rfl
    · rw [if_pos (⟨rfl, rfl⟩ : (4 : Int) = 4 ∧ (0 : Int) = 0)]
      unfold sg
      split <;> split <;> omega
    · rw [if_neg (show ¬ ((4 : Int) = 4 ∧ (1 : Int) = 0) from fun q => absurd q.2 (by decide))]
      unfold sg
      split <;> split <;> omega
  exact hX _ rfl

theorem getV_5 (x y : Int) (hx0 : 0 ≤ x) (hy0 : 0 ≤ y) : getV 5 x y = gA 5 x y := by
  have e : getV 5 x y = signI (crossI 5 (getTo 5 x y 14)) 8 := by kernel_rfl
  have hc : ∀ X, crossI 5 X = X := fun X => by unfold crossI; rw [if_neg (by omega)]
  rw [e, hc, getTo_5 x y hx0 hy0, (sign_n _ 7 128 rfl (by decide) (by decide) : signI _ 8 = _)]
  show _ = 2 * (x / 512 % 2 * 32 + x / 8 % 32)
  unfold sg
  split <;> omega

theorem getV_ar (k x y : Int) (hk : 1 ≤ k ∧ k ≤ 5) (hx0 : 0 ≤ x) (hy0 : 0 ≤ y) : getV k x y = gA k x y := by
  rcases kinds hk with rfl | rfl | rfl | rfl | rfl
  · exact getV_1 x y hx0 hy0
  · exact getV_2 x y hx0 hy0
  · exact getV_3 x y hx0 hy0
  · exact getV_4 x y hx0 hy0
  · exact getV_5 x y hx0 hy0

/-- is it below 0? -/
def sI (off : Int) : Int := if off < 0 then 1 else 0
/-- the first and the second halfword of an offset -/
def pA (k off : Int) : Int :=
  if k = 1 then off / 2 % 256
  else if k = 2 then off / 2 % 2048
  else if k = 3 then sI off * 1024 + off / 4096 % 64
  else if k = 4 then sI off * 1024 + off / 4096 % 1024
  else off / 64 % 2 * 512 + off / 2 % 32 * 8
def pB (k off : Int) : Int :=
  if k = 3 then off / 262144 % 2 * 8192 + off / 524288 % 2 * 2048 + off / 2 % 2048
  else if k = 4 then (1 + off / 8388608 % 2 + sI off) % 2 * 8192 + (1 + off / 4194304 % 2 + sI off) % 2 * 2048 + off / 2 % 2048
  else 0

/-- a kind's range, out of the test -/
theorem fits_spec {k off : Int} (h : fitsB k off = true) : 1 ≤ k ∧ k ≤ 5 ∧ lowI k ≤ off ∧ off ≤ highI k ∧ off % 2 = 0 := by
  unfold fitsB at h; simpa using h

end Om
end Go.Proofs.YtdcnkmkaafimlaaDoor

namespace Go.Proofs.YtdcnkmkaafimlaaDoor
open Go.ChangeShapes Go.WideShapes Go.ChangeAt Go.RowKit
namespace Tp

/-! a field left behind -/
theorem putU_zero {X lo n : Nat} (hX : X < 4294967296) (h : lo + n ≤ 32) : Bm.putU X lo n 0 = X - X / 2 ^ lo % 2 ^ n * 2 ^ lo := by
  have hp := Nat.two_pow_pos lo
  have hn := Nat.two_pow_pos n
  obtain ⟨f, hf⟩ : ∃ f, X / 2 ^ lo % 2 ^ n = f := ⟨_, rfl⟩
  have hf1 : f < 2 ^ n := by rw [← hf]; exact Nat.mod_lt _ hn
  have e0 := Nat.div_add_mod X (2 ^ lo)
  have e1 := Nat.div_add_mod (X / 2 ^ lo) (2 ^ n)
  rw [hf] at e1
  obtain ⟨q, hq⟩ : ∃ q, X / 2 ^ lo / 2 ^ n = q := ⟨_, rfl⟩
  rw [hq] at e1
  obtain ⟨r, hr⟩ : ∃ r, X % 2 ^ lo = r := ⟨_, rfl⟩
  have hr1 : r < 2 ^ lo := by rw [← hr]; exact Nat.mod_lt _ hp
  rw [hr, ← e1] at e0
  have e2 : X = (2 ^ lo * (2 ^ n * q) + r) + f * 2 ^ lo := by rw [← e0, Nat.mul_add, Nat.mul_comm f]; omega
  obtain ⟨Y, hY⟩ : ∃ Y, 2 ^ lo * (2 ^ n * q) + r = Y := ⟨_, rfl⟩
  rw [hY] at e2
  have hYz : Y / 2 ^ lo % 2 ^ n = 0 := by
    rw [← hY, Nat.mul_add_div hp, Nat.div_eq_of_lt hr1, Nat.add_zero, Nat.mul_mod_right]
  have hYX : Y < 4294967296 := by omega
  have e3 := Om.putU_add hYX h hYz hf1
  have e4 := Om.putU_add hYX h hYz hn
  rw [hf, ← e4.trans (by omega : Y + 0 * 2 ^ lo = X - f * 2 ^ lo)]
  apply Bm.word_ext (Bm.put_lt _ _ _ _ hX) (Bm.put_lt _ _ _ _ hYX)
  intro i hi
  rw [Bm.put_tb h hi, Bm.put_tb h hi]
  split
  · rfl
  · rename_i hc
    have e5 := congrArg (fun z => z.testBit i) e3
    simp only [Bm.put_tb h hi, if_neg hc] at e5
    rw [e5, ← e2]
theorem put0_n (x : Int) (hi lo : Nat) (m c : Int) {hi' lo' : Int} (eh : (hi : Int) = hi') (el : (lo : Int) = lo') (hm : 2 ^ lo = m) (hc : 2 ^ (hi + 1 - lo) = c) (h1 : lo ≤ hi) (h2 : hi < 32) (hx0 : 0 ≤ x) (hx1 : x < 4294967296) : putI x hi' lo' 0 = x - x / m % c * m := by
  subst hm hc eh el
  obtain ⟨X, rfl⟩ := Int.eq_ofNat_of_zero_le hx0
  unfold putI
  rw [if_pos (by omega)]
  simp only [Int.toNat_natCast]
  rw [show (0 : Int).toNat = 0 from rfl, show hi + 1 - lo = hi + 1 - lo from rfl, putU_zero (by omega) (by omega)]
  have hle : X / 2 ^ lo % 2 ^ (hi + 1 - lo) * 2 ^ lo ≤ X := by
    have a1 := Nat.mod_le (X / 2 ^ lo) (2 ^ (hi + 1 - lo))
    have a2 := Nat.mul_le_mul_right (2 ^ lo) a1
    have a3 := Nat.div_mul_le_self X (2 ^ lo)
    omega
  rw [Int.natCast_sub hle]
  simp

/-! how the pair lies -/
structure Pair (W : World) (b : Nat) (X : Int) (t : Bool) : Prop where
  word : W.cell? ⟨b, 0, none⟩ = some (.int .u32 X)
  it : W.cell? ⟨b, 1, none⟩ = some (.bool t)
  free : W.frozen? ⟨b, 0, none⟩ = false
  lt : b < W.heap.size
/-- block b alone was written -/
structure Kept (b : Nat) (W w' : World) : Prop where
  os : w'.os = W.os
  tape : w'.tape = W.tape
  output : w'.output = W.output
  size : W.heap.size ≤ w'.heap.size
  block : ∀ k, k ≠ b → k < W.heap.size → w'.heap[k]? = W.heap[k]?
theorem Kept.trans {b : Nat} {w w1 w2 : World} (h : Kept b w w1) (k : Kept b w1 w2) : Kept b w w2 :=
  ⟨k.os.trans h.os, k.tape.trans h.tape, k.output.trans h.output, Nat.le_trans h.size k.size, fun i hi hl => (k.block i hi (Nat.lt_of_lt_of_le hl h.size)).trans (h.block i hi hl)⟩
theorem Kept.below {b : Nat} {w w1 : World} (h : Kept b w w1) (hb : b ≤ w.heap.size) : Below b w w1 :=
  ⟨h.os, h.tape, h.output, h.size, fun k hk => h.block k (Nat.ne_of_lt hk) (Nat.lt_of_lt_of_le hk hb)⟩
theorem Kept.cell {b : Nat} {w w1 : World} (h : Kept b w w1) {p : Addr} (hp : p.block ≠ b) (hl : p.block < w.heap.size) : w1.cell? p = w.cell? p := World.cell?_of_block (w := w) (h.block p.block hp hl)
theorem Kept.frozen {b : Nat} {w w1 : World} (h : Kept b w w1) {p : Addr} (hp : p.block ≠ b) (hl : p.block < w.heap.size) : w1.frozen? p = w.frozen? p := World.frozen?_of_block (w := w) (h.block p.block hp hl)
theorem Kept.of_below {b : Nat} {w w1 : World} (h : Below w.heap.size w w1) : Kept b w w1 := ⟨h.os, h.tape, h.output, h.size, fun k _ hl => h.block k hl⟩
theorem Kept.set {b : Nat} {w w1 : World} (h : Kept b w w1) (j : Nat) (v : Value) : Kept b w (w1.setCell ⟨b, j, none⟩ v) :=
  ⟨h.os, h.tape, h.output, by simpa using h.size, fun k hk hl => (Below.heap_setCell w1 ⟨b, j, none⟩ v k hk).trans (h.block k hk hl)⟩
theorem Kept.drewn {b : Nat} {w w1 : World} (h : Kept b w w1) (n : Nat) : Kept b w (w1.drewN n) := ⟨h.os, h.tape, h.output, h.size, h.block⟩
theorem Kept.refl (b : Nat) (w : World) : Kept b w w := ⟨rfl, rfl, rfl, Nat.le_refl _, fun _ _ _ => rfl⟩
theorem Pair.below {W w' : World} {b : Nat} {X : Int} {t : Bool} (h : Pair W b X t) (hb : Below W.heap.size W w') : Pair w' b X t :=
  ⟨(hb.cell (p := ⟨b, 0, none⟩) h.lt).trans h.word, (hb.cell (p := ⟨b, 1, none⟩) h.lt).trans h.it, (hb.frozen (p := ⟨b, 0, none⟩) h.lt).trans h.free, Nat.lt_of_lt_of_le h.lt hb.size⟩
theorem Pair.drewn {W : World} {b : Nat} {X : Int} {t : Bool} (h : Pair W b X t) (n : Nat) : Pair (W.drewN n) b X t := ⟨h.word, h.it, h.free, h.lt⟩
theorem Pair.set {W : World} {b : Nat} {X : Int} {t : Bool} (h : Pair W b X t) (Y : Int) : Pair (W.setCell ⟨b, 0, none⟩ (.int .u32 Y)) b Y t :=
  ⟨World.cell?_setCell_same' W _ _ (by rw [h.word]; rfl), (World.cell?_setCell_other W _ _ _ (by simp)).trans h.it, (by rw [World.frozen?_setCell]; exact h.free), by simpa using h.lt⟩
theorem Tabs.kept {W w' : World} {b : Nat} (h : Tabs W) (hk : Kept b W w') (hb : 5 ≤ b) (hl : b ≤ W.heap.size) : Tabs w' := h.below (hk.below hl) hb

/-! take -/
set_option maxHeartbeats 1000000 in
theorem take_c (b : Nat) (X hi lo v Y : Int) (t : Bool) (W : World) (hx0 : 0 ≤ X) (hx1 : X < 4294967296) (hv : getI X hi lo = v) (hY : putI X hi lo 0 = Y) (hP : Pair W b X t) :
    Calls Tryd.prog 37 #[.pointer (some ⟨b, 0, none⟩), .int .i64 hi, .int .i64 lo] W fun e w' => e = .returned (.int .i64 v) ∧ Pair w' b Y t ∧ Kept b W w' := by
  have hg := fun W => get_c X hi lo W hx0 hx1
  have hp := fun W => put_c X hi lo 0 W hx0 hx1 (by decide) (by decide)
  have hb := getI_bd X hi lo hx0 hx1
  rw [hv] at hg hb
  rw [hY] at hp
  obtain ⟨hv0, hv1⟩ := hb
  have HP := Lib.hid hP
  obtain ⟨hw, hi_, hf, hl⟩ := hP
  clear hi_
  replace hg := Lib.hid hg
  replace hp := Lib.hid hp
  clear hv hY
  go_enter Tryd.func37, Tryd.ntmps37
  go_wp2_with (first | (go_at_call 7; refine (hg.out _).mono ?_; rintro e w' ⟨rfl, n, rfl⟩) | (go_at_call 48; refine (hp.out _).mono ?_; rintro e w' ⟨rfl, m, rfl⟩))
  go_ret
  refine ⟨rfl, ?_, ?_⟩
  · exact (HP.out.set Y).drewn _
  · exact ((Kept.refl b W).set 0 _).drewn _
/-- of a field as a quotient's rest -/
theorem take_n (hi lo : Nat) (m c : Int) {hi' lo' : Int} (b : Nat) (X v Y : Int) (t : Bool) (W : World) (hv : X / m % c = v) (hY : X - v * m = Y) (hx0 : 0 ≤ X) (hx1 : X < 4294967296) (hP : Pair W b X t) (eh : (hi : Int) = hi') (el : (lo : Int) = lo') (hm : 2 ^ lo = m) (hc : 2 ^ (hi + 1 - lo) = c) (h1 : lo ≤ hi) (h2 : hi < 32) :
    Calls Tryd.prog 37 #[.pointer (some ⟨b, 0, none⟩), .int .i64 hi', .int .i64 lo'] W fun e w' => e = .returned (.int .i64 v) ∧ Pair w' b Y t ∧ Kept b W w' :=
  take_c b X hi' lo' v Y t W hx0 hx1 ((Om.get_n X hi lo m c eh el hm hc h1 h2 hx0).trans hv) (by rw [put0_n X hi lo m c eh el hm hc h1 h2 hx0 hx1, hv, hY]) hP
end Tp
end Go.Proofs.YtdcnkmkaafimlaaDoor

namespace Go.Proofs.YtdcnkmkaafimlaaDoor
open Go.ChangeShapes Go.WideShapes Go.ChangeAt Go.RowKit
namespace Tp

theorem base_c (b : Nat) (X v Y : Int) (t : Bool) (W : World) (hv : X / 65536 % 16 = v) (hY : X - v * 65536 = Y) (hx0 : 0 ≤ X) (hx1 : X < 4294967296) (hP : Pair W b X t) :
    Calls Tryd.prog 33 #[.pointer (some ⟨b, 0, none⟩)] W fun e w' => e = .returned (.int .i64 v) ∧ Pair w' b Y t ∧ Kept b W w' := by
  have HC := Lib.hid (fun W hP => take_n 19 16 65536 16 (hi' := 19) (lo' := 16) b X v Y t W hv hY hx0 hx1 hP rfl rfl (by decide) (by decide) (by decide) (by decide))
  have HP := Lib.hid hP
  clear hv hY hP
  go_enter Tryd.func33, Tryd.ntmps33
  go_wp2_with (go_at_call 37; refine (HC.out _ HP.out).mono ?_; rintro e w' ⟨rfl, hP', hK'⟩)
  go_ret
  exact ⟨rfl, hP', hK'⟩
theorem loaded_c (b : Nat) (X v Y : Int) (t : Bool) (W : World) (hv : X / 4096 % 16 = v) (hY : X - v * 4096 = Y) (hx0 : 0 ≤ X) (hx1 : X < 4294967296) (hP : Pair W b X t) :
    Calls Tryd.prog 38 #[.pointer (some ⟨b, 0, none⟩)] W fun e w' => e = .returned (.int .i64 v) ∧ Pair w' b Y t ∧ Kept b W w' := by
  have HC := Lib.hid (fun W hP => take_n 15 12 4096 16 (hi' := 15) (lo' := 12) b X v Y t W hv hY hx0 hx1 hP rfl rfl (by decide) (by decide) (by decide) (by decide))
  have HP := Lib.hid hP
  clear hv hY hP
  go_enter Tryd.func38, Tryd.ntmps38
  go_wp2_with (go_at_call 37; refine (HC.out _ HP.out).mono ?_; rintro e w' ⟨rfl, hP', hK'⟩)
  go_ret
  exact ⟨rfl, hP', hK'⟩
theorem result_c (b : Nat) (X v Y : Int) (t : Bool) (W : World) (hv : X / 256 % 16 = v) (hY : X - v * 256 = Y) (hx0 : 0 ≤ X) (hx1 : X < 4294967296) (hP : Pair W b X t) :
    Calls Tryd.prog 32 #[.pointer (some ⟨b, 0, none⟩)] W fun e w' => e = .returned (.int .i64 v) ∧ Pair w' b Y t ∧ Kept b W w' := by
  have HC := Lib.hid (fun W hP => take_n 11 8 256 16 (hi' := 11) (lo' := 8) b X v Y t W hv hY hx0 hx1 hP rfl rfl (by decide) (by decide) (by decide) (by decide))
  have HP := Lib.hid hP
  clear hv hY hP
  go_enter Tryd.func32, Tryd.ntmps32
  go_wp2_with (go_at_call 37; refine (HC.out _ HP.out).mono ?_; rintro e w' ⟨rfl, hP', hK'⟩)
  go_ret
  exact ⟨rfl, hP', hK'⟩
theorem last_c (b : Nat) (X v Y : Int) (t : Bool) (W : World) (hv : X / 1 % 16 = v) (hY : X - v * 1 = Y) (hx0 : 0 ≤ X) (hx1 : X < 4294967296) (hP : Pair W b X t) :
    Calls Tryd.prog 35 #[.pointer (some ⟨b, 0, none⟩)] W fun e w' => e = .returned (.int .i64 v) ∧ Pair w' b Y t ∧ Kept b W w' := by
  have HC := Lib.hid (fun W hP => take_n 3 0 1 16 (hi' := 3) (lo' := 0) b X v Y t W hv hY hx0 hx1 hP rfl rfl (by decide) (by decide) (by decide) (by decide))
  have HP := Lib.hid hP
  clear hv hY hP
  go_enter Tryd.func35, Tryd.ntmps35
  go_wp2_with (go_at_call 37; refine (HC.out _ HP.out).mono ?_; rintro e w' ⟨rfl, hP', hK'⟩)
  go_ret
  exact ⟨rfl, hP', hK'⟩
theorem sets_c (b : Nat) (X v Y : Int) (t : Bool) (W : World) (hv : X / 1048576 % 2 = v) (hY : X - v * 1048576 = Y) (hx0 : 0 ≤ X) (hx1 : X < 4294967296) (hP : Pair W b X t) :
    Calls Tryd.prog 36 #[.pointer (some ⟨b, 0, none⟩)] W fun e w' => e = .returned (.bool (v == 1)) ∧ Pair w' b Y t ∧ Kept b W w' := by
  have HC := Lib.hid (fun W hP => take_n 20 20 1048576 2 (hi' := 20) (lo' := 20) b X v Y t W hv hY hx0 hx1 hP rfl rfl (by decide) (by decide) (by decide) (by decide))
  have HP := Lib.hid hP
  clear hv hY hP
  go_enter Tryd.func36, Tryd.ntmps36
  go_wp2_with (go_at_call 37; refine (HC.out _ HP.out).mono ?_; rintro e w' ⟨rfl, hP', hK'⟩)
  go_ret
  exact ⟨rfl, hP', hK'⟩
theorem or_12 (i j l : Int) (hi : 0 ≤ i ∧ i ≤ 1) (hj : 0 ≤ j ∧ j ≤ 7) (hl : 0 ≤ l ∧ l ≤ 255) : bits .or .i64 (bits .or .i64 (i * 2048) (j * 256)) l = i * 2048 + j * 256 + l := by
  rw [Ow.or_at (i * 2048) j 8 3 256 8 (by decide) (by decide) (by omega) (by omega) (by omega) (.inr (by omega)) hj.1 (by omega), Ow.or_low (i * 2048 + j * 256) l 8 256 (by decide) (by omega) (by omega) (by omega) (by omega) hl.1 (by omega)]
theorem twelve_c (b : Nat) (X i j l Y1 Y2 Y3 : Int) (t : Bool) (W : World) (h1 : X / 67108864 % 2 = i) (e1 : X - i * 67108864 = Y1) (h2 : Y1 / 4096 % 8 = j) (e2 : Y1 - j * 4096 = Y2) (h3 : Y2 % 256 = l) (e3 : Y2 - l = Y3) (hx0 : 0 ≤ X) (hx1 : X < 4294967296) (hP : Pair W b X t) :
    Calls Tryd.prog 28 #[.pointer (some ⟨b, 0, none⟩)] W fun e w' => e = .returned (.int .i64 (i * 2048 + j * 256 + l)) ∧ Pair w' b Y3 t ∧ Kept b W w' := by
  have i0 : 0 ≤ i ∧ i ≤ 1 := by omega
  have j0 : 0 ≤ j ∧ j ≤ 7 := by omega
  have l0 : 0 ≤ l ∧ l ≤ 255 := by omega
  have H1 := Lib.hid (fun W hP => take_n 26 26 67108864 2 (hi' := 26) (lo' := 26) b X i Y1 t W h1 e1 hx0 hx1 hP rfl rfl (by decide) (by decide) (by decide) (by decide))
  have H2 := Lib.hid (fun W hP => take_n 14 12 4096 8 (hi' := 14) (lo' := 12) b Y1 j Y2 t W h2 e2 (by omega) (by omega) hP rfl rfl (by decide) (by decide) (by decide) (by decide))
  have H3 := Lib.hid (fun W hP => take_n 7 0 1 256 (hi' := 7) (lo' := 0) b Y2 l Y3 t W (by rw [Int.ediv_one]; exact h3) (by rw [Int.mul_one]; exact e3) (by omega) (by omega) hP rfl rfl (by decide) (by decide) (by decide) (by decide))
  have HP := Lib.hid hP
  have HO := Lib.hid (or_12 i j l i0 j0 l0)
  obtain ⟨i0, i1⟩ := i0
  obtain ⟨j0, j1⟩ := j0
  obtain ⟨l0, l1⟩ := l0
  clear h1 e1 h2 e2 h3 e3 hP hx0 hx1
  go_enter Tryd.func28, Tryd.ntmps28
  go_wp2_with fail
  refine (H1.out _ HP.out).mono ?_
  rintro e w1 ⟨rfl, hP1, hK1⟩
  clear HP
  replace hP1 := Lib.hid hP1
  go_wp2_with fail
  refine (H2.out _ hP1.out).mono ?_
  rintro e w2 ⟨rfl, hP2, hK2⟩
  clear hP1
  replace hP2 := Lib.hid hP2
  go_wp2_with fail
  refine (H3.out _ hP2.out).mono ?_
  rintro e w3 ⟨rfl, hP3, hK3⟩
  clear hP2
  replace hP3 := Lib.hid hP3
  go_wp2
  go_ret
  exact ⟨ret_int HO.out, hP3.out, (hK1.trans hK2).trans hK3⟩
end Tp
end Go.Proofs.YtdcnkmkaafimlaaDoor

namespace Go.Proofs.YtdcnkmkaafimlaaDoor
open Go.ChangeShapes Go.WideShapes Go.ChangeAt Go.RowKit
namespace Tp

/-- the operation of the first beginning that is the word -/
def leftI : List (Int × Int) → Int → Int
  | [], _ => 0
  | b :: r, X => if b.2 = X then b.1 else leftI r X
def begC (b : Int × Int) : List Value := [.int .i64 b.1, .int .u32 b.2]
theorem beg_at {W : World} {c : Nat} : ∀ (L : List (Int × Int)) (o : Nat), W.rangeAt c o (L.map begC).flatten → ∀ k, k < L.length → W.rangeAt c (o + k * 2) (begC (L.getD k (0, 0)))
  | [], _, _, k, hk => absurd hk (Nat.not_lt_zero _)
  | b :: L, o, h, 0, _ => by
    intro j v hv
    refine h j v ?_
    rw [List.map_cons, List.flatten_cons]
    rw [List.getD_cons_zero] at hv
    rw [List.getElem?_append_left (List.getElem?_eq_some_iff.1 hv).1]
    exact hv
  | b :: L, o, h, k + 1, hk => by
    have h2 : W.rangeAt c (o + 2) (L.map begC).flatten := by
      intro j v hv
      have := h (2 + j) v (by rw [List.map_cons, List.flatten_cons, List.getElem?_append_right (by simp [begC])]; simpa [begC] using hv)
      rwa [← Nat.add_assoc] at this
    have h3 := beg_at L (o + 2) h2 k (by simpa using hk)
    rw [List.getD_cons_succ, show o + (k + 1) * 2 = o + 2 + k * 2 by omega]
    exact h3
theorem underB : Tryd.prog.underlying 44 = some (.struct (Tryd.prog.fieldsOf 44)) := by kernel_rfl
theorem sizeB (b : Int × Int) : (Tryd.prog.info? 44).map (·.size) = some (begC b).length := by
  rw [show (begC b).length = 2 from rfl]; kernel_rfl
set_option maxHeartbeats 1000000 in
theorem left_c (L : List (Int × Int)) (X : Int) (t : Bool) (c n cp : Nat) (w : World) (hn : L.length = n) (hc : w.rangeAt c 0 (L.map begC).flatten) (hcl : c < w.heap.size) (hn2 : n < 1000) :
    Calls Tryd.prog 34 #[.agg #[.int .u32 X, .bool t], .slice (some ⟨c, 0, none⟩) n cp] w fun e w' => e = .returned (.int .i64 (leftI L X)) ∧ Below w.heap.size w w' := by
  obtain ⟨V, hV⟩ : ∃ V, leftI L X = V := ⟨_, rfl⟩
  rw [hV]
  have HC := Lib.hid hc
  have HN := Lib.hid hn
  have hb0 : Below w.heap.size w (w.alloc (.cells #[.int .u32 X, .bool t] 33)) := (Below.refl _ _).alloc (Nat.le_refl _) _
  have hx0 : (w.alloc (.cells #[.int .u32 X, .bool t] 33)).cell? ⟨w.heap.size, 0, none⟩ = some (.int .u32 X) := by rw [World.cell?_alloc_new]; rfl
  have hz0 : w.heap.size < (w.alloc (.cells #[.int .u32 X, .bool t] 33)).heap.size := by simp
  have Hb0 := Lib.hid hb0
  have Hx0 := Lib.hid hx0
  have Hz0 := Lib.hid hz0
  have HV := Lib.hid hV
  clear hc hn hb0 hx0 hz0 hV
  go_enter Tryd.func34, Tryd.ntmps34
  go_wp2
  go_loopw [9] (fun iv wr => ∃ k : Nat, k ≤ n ∧ iv = .int .i64 (k : Int) ∧ RowKit.Hid (leftI (L.drop k) X = V) ∧ RowKit.Hid (wr.cell? ⟨w.heap.size, 0, none⟩ = some (.int .u32 X)) ∧ RowKit.Hid (w.heap.size < wr.heap.size) ∧ RowKit.Hid (Below w.heap.size w wr)) (fun iv _ => (n - intOf iv).toNat)
  case atStart => exact ⟨0, by omega, rfl, HV, Hx0, Hz0, Hb0⟩
  case round =>
    obtain ⟨k, hk, rfl, HX, HP, HZ, HW⟩ := hrel
    clear HV Hx0 Hz0 Hb0
    by_cases hkn : k < n
    · have hkl : k < L.length := by rw [HN.out]; exact hkn
      have hrow0 := beg_at L 0 HC.out k hkl
      rw [Nat.zero_add] at hrow0
      have hrow : wr.rangeAt c (k * 2) (begC (L.getD k (0, 0))) := fun j v hv => (HW.out.cell (p := ⟨c, k * 2 + j, none⟩) hcl).trans (hrow0 j v hv)
      have hstep : leftI (L.getD k (0, 0) :: L.drop (k + 1)) X = V := by
        rw [← HX.out, List.drop_eq_getElem_cons hkl, List.getD_eq_getElem?_getD, List.getElem?_eq_getElem hkl]; rfl
      have HS := Lib.hid hstep
      have hsz := sizeB (L.getD k (0, 0))
      generalize L.getD k (0, 0) = b at *
      obtain ⟨op, wd⟩ := b
      unfold begC at hrow hsz
      have hp := HP.out
      have hz := HZ.out
      clear hstep hrow0 HX hkl
      dsimp only at hrow hsz
      have hW2 := Lib.hid (HW.out.alloc HW.out.size (.cells #[.int .i64 op, .int .u32 wd] 44))
      by_cases hx : wd = X
      · have hv : op = V := by rw [← HS.out]; unfold leftI; rw [if_pos hx]
        subst hx
        subst hv
        go_wp2_with (refine wpList_load_mid rfl 44 (.tmp 11) rfl c (k * 2) rfl [.int .i64 op, .int .u32 wd] _ hrow underB rfl hsz ?_)
        go_ret
        exact ⟨rfl, hW2.out⟩
      · have hX2 := Lib.hid (show leftI (L.drop (k + 1)) X = V by rw [← HS.out, leftI, if_neg hx])
        have hP2 := Lib.hid (show (wr.alloc (.cells #[.int .i64 op, .int .u32 wd] 44)).cell? ⟨w.heap.size, 0, none⟩ = some (.int .u32 X) from (World.cell?_alloc_lt wr _ ⟨w.heap.size, 0, none⟩ hz).trans hp)
        have hZ2 := Lib.hid (show w.heap.size < (wr.alloc (.cells #[.int .i64 op, .int .u32 wd] 44)).heap.size by simp; omega)
        have hxb : (wd == X) = false := by simpa using hx
        clear HS
        go_wp2_with (refine wpList_load_mid rfl 44 (.tmp 11) rfl c (k * 2) rfl [.int .i64 op, .int .u32 wd] _ hrow underB rfl hsz ?_)
        go_roundw
        case rel => exact ⟨k + 1, by omega, rfl, hX2, hP2, hZ2, hW2⟩
        case measure => simp [intOf]; omega
    · have hk' : k = n := by omega
      have hv : 0 = V := by rw [← HX.out, List.drop_of_length_le (by rw [HN.out]; omega)]; rfl
      subst hk'
      subst hv
      clear HX
      go_wp2
      go_ret
      exact ⟨rfl, HW.out⟩
end Tp
end Go.Proofs.YtdcnkmkaafimlaaDoor

namespace Go.Proofs.YtdcnkmkaafimlaaDoor
open Go.ChangeShapes Go.WideShapes Go.ChangeAt Go.RowKit
namespace Tp
open Nm (I)
open Tl (IV)

def sideI (i : I) (X ahead behind : Int) : I := if X = ahead then i else if X = behind ∧ i.imm ≠ 0 then ⟨i.op, i.cond, i.rd, i.rn, i.rm, -i.imm, i.mode, i.list, i.s⟩ else Tm.Z
theorem nine_set {B b : Nat} {a w' : World} (hb : Below B a w') (hB : B ≤ b) (v0 v1 v2 v3 v4 v5 v6 v7 v8 : Value) : Below B a (((((((((w'.setCell ⟨b, 0, none⟩ v0).setCell ⟨b, 1, none⟩ v1).setCell ⟨b, 2, none⟩ v2).setCell ⟨b, 3, none⟩ v3).setCell ⟨b, 4, none⟩ v4).setCell ⟨b, 5, none⟩ v5).setCell ⟨b, 6, none⟩ v6).setCell ⟨b, 7, none⟩ v7).setCell ⟨b, 8, none⟩ v8) :=
  ((((((((hb.setCell (p := ⟨b, 0, none⟩) hB v0).setCell (p := ⟨b, 1, none⟩) hB v1).setCell (p := ⟨b, 2, none⟩) hB v2).setCell (p := ⟨b, 3, none⟩) hB v3).setCell (p := ⟨b, 4, none⟩) hB v4).setCell (p := ⟨b, 5, none⟩) hB v5).setCell (p := ⟨b, 6, none⟩) hB v6).setCell (p := ⟨b, 7, none⟩) hB v7).setCell (p := ⟨b, 8, none⟩) hB v8
theorem nine_alloc {B b : Nat} {a w' : World} (hb : Below B a w') (hB : B ≤ b) (hz : B ≤ w'.heap.size) (v0 v1 v2 v3 v4 v5 v6 v7 v8 : Value) (o : Obj) : Below B a ((((((((((w'.setCell ⟨b, 0, none⟩ v0).setCell ⟨b, 1, none⟩ v1).setCell ⟨b, 2, none⟩ v2).setCell ⟨b, 3, none⟩ v3).setCell ⟨b, 4, none⟩ v4).setCell ⟨b, 5, none⟩ v5).setCell ⟨b, 6, none⟩ v6).setCell ⟨b, 7, none⟩ v7).setCell ⟨b, 8, none⟩ v8).alloc o) :=
  (nine_set hb hB v0 v1 v2 v3 v4 v5 v6 v7 v8).alloc (by simpa using hz) o
theorem al3 (w : World) (a b c : Obj) : Below w.heap.size w (((w.alloc a).alloc b).alloc c) :=
  (((Below.refl w.heap.size w).alloc (Nat.le_refl _) a).alloc (by simp) b).alloc (by simp; omega) c
set_option maxHeartbeats 1000000 in
theorem side_c (X ahead behind : Int) (t : Bool) (op cond rd rn rm imm mode list : Int) (s : Bool) (w : World) (hi0 : 0 ≤ imm) (hi1 : imm ≤ 4095) :
    Calls Tryd.prog 40 #[.agg #[.int .u32 X, .bool t], IV ⟨op, cond, rd, rn, rm, imm, mode, list, s⟩, .int .u32 ahead, .int .u32 behind] w fun e w' => e = .returned (IV (sideI ⟨op, cond, rd, rn, rm, imm, mode, list, s⟩ X ahead behind)) ∧ Below w.heap.size w w' := by
  by_cases h1 : X = ahead
  · rw [show sideI ⟨op, cond, rd, rn, rm, imm, mode, list, s⟩ X ahead behind = ⟨op, cond, rd, rn, rm, imm, mode, list, s⟩ by unfold sideI; rw [if_pos h1]]
    subst h1
    unfold IV
    try unfold Tm.Z
    dsimp only
    go_enter Tryd.func40, Tryd.ntmps40
    go_wp2
    refine bodyPost_ret (v := .agg #[.int .i64 op, .int .i64 cond, .int .i64 rd, .int .i64 rn, .int .i64 rm, .int .i64 imm, .int .i64 mode, .int .i64 list, .bool s]) (by simp [results, Tryd.f40, go_sem]) rfl ?_
    exact ⟨rfl, al3 w _ _ _⟩
  · have b1 : (X == ahead) = false := by simpa using h1
    by_cases h2 : X = behind
    · by_cases h3 : imm = 0
      · rw [show sideI ⟨op, cond, rd, rn, rm, imm, mode, list, s⟩ X ahead behind = Tm.Z by unfold sideI; rw [if_neg h1, if_neg (fun h => h.2 h3)]]
        subst h2
        subst h3
        clear h1
        unfold IV
        try unfold Tm.Z
        dsimp only
        go_enter Tryd.func40, Tryd.ntmps40
        go_wp2
        refine bodyPost_ret (v := .agg #[.int .i64 0, .int .i64 0, .int .i64 0, .int .i64 0, .int .i64 0, .int .i64 0, .int .i64 0, .int .i64 0, .bool false]) (by simp [results, Tryd.f40, go_sem]) rfl ?_
        exact ⟨rfl, al3 w _ _ _⟩
      · have b3 : (imm == 0) = false := by simpa using h3
        rw [show sideI ⟨op, cond, rd, rn, rm, imm, mode, list, s⟩ X ahead behind = ⟨op, cond, rd, rn, rm, -imm, mode, list, s⟩ by unfold sideI; rw [if_neg h1, if_pos ⟨h2, h3⟩]]
        subst h2
        clear h1 h3
        unfold IV
        try unfold Tm.Z
        dsimp only
        go_enter Tryd.func40, Tryd.ntmps40
        go_wp2
        refine bodyPost_ret (v := .agg #[.int .i64 op, .int .i64 cond, .int .i64 rd, .int .i64 rn, .int .i64 rm, .int .i64 (-imm), .int .i64 mode, .int .i64 list, .bool s]) (by simp [results, Tryd.f40, go_sem]) rfl ?_
        exact ⟨rfl, al3 w _ _ _⟩
    · have b2 : (X == behind) = false := by simpa using h2
      rw [show sideI ⟨op, cond, rd, rn, rm, imm, mode, list, s⟩ X ahead behind = Tm.Z by unfold sideI; rw [if_neg h1, if_neg (fun h => h2 h.1)]]
      clear h1 h2
      unfold IV
      try unfold Tm.Z
      dsimp only
      go_enter Tryd.func40, Tryd.ntmps40
      go_wp2
      refine bodyPost_ret (v := .agg #[.int .i64 0, .int .i64 0, .int .i64 0, .int .i64 0, .int .i64 0, .int .i64 0, .int .i64 0, .int .i64 0, .bool false]) (by simp [results, Tryd.f40, go_sem]) rfl ?_
      exact ⟨rfl, al3 w _ _ _⟩
end Tp
end Go.Proofs.YtdcnkmkaafimlaaDoor

namespace Go.Proofs.YtdcnkmkaafimlaaDoor
open Go.ChangeShapes Go.WideShapes Go.ChangeAt Go.RowKit
namespace Tp

/-- W is behind W0 in which block b alone was written, and the pair lies there -/
structure Stt (b : Nat) (W0 : World) (X : Int) (t : Bool) (W : World) : Prop where
  pair : Pair W b X t
  kept : Kept b W0 W
  tabs : Tabs W
theorem Kept.alloc {b : Nat} {w w1 : World} (h : Kept b w w1) (o : Obj) : Kept b w (w1.alloc o) :=
  ⟨h.os, h.tape, h.output, Nat.le_trans h.size (by simp), fun k hk hl => (Below.heap_alloc w1 o k (Nat.lt_of_lt_of_le hl h.size)).trans (h.block k hk hl)⟩
theorem Tabs.alloc {w : World} (h : Tabs w) (o : Obj) : Tabs (w.alloc o) := h.below ((Below.refl w.heap.size w).alloc (Nat.le_refl _) o) h.big
theorem Pair.drew {W : World} {b : Nat} {X : Int} {t : Bool} (h : Pair W b X t) : Pair W.drew b X t := ⟨h.word, h.it, h.free, h.lt⟩
theorem Pair.alloc {W : World} {b : Nat} {X : Int} {t : Bool} (h : Pair W b X t) (o : Obj) : Pair (W.alloc o) b X t := h.below ((Below.refl W.heap.size W).alloc (Nat.le_refl _) o)
theorem Stt.start {b : Nat} {W : World} {X : Int} {t : Bool} (h : Pair W b X t) (hT : Tabs W) : Stt b W X t W := ⟨h, Kept.refl b W, hT⟩
theorem Stt.drew {b : Nat} {W0 W : World} {X : Int} {t : Bool} (h : Stt b W0 X t W) : Stt b W0 X t W.drew := ⟨⟨h.pair.word, h.pair.it, h.pair.free, h.pair.lt⟩, ⟨h.kept.os, h.kept.tape, h.kept.output, h.kept.size, h.kept.block⟩, h.tabs.drew 1⟩
theorem Stt.drewn {b : Nat} {W0 W : World} {X : Int} {t : Bool} (h : Stt b W0 X t W) (n : Nat) : Stt b W0 X t (W.drewN n) := ⟨h.pair.drewn n, h.kept.drewn n, h.tabs.drew n⟩
theorem Stt.alloc {b : Nat} {W0 W : World} {X : Int} {t : Bool} (h : Stt b W0 X t W) (o : Obj) : Stt b W0 X t (W.alloc o) := ⟨h.pair.below ((Below.refl W.heap.size W).alloc (Nat.le_refl _) o), h.kept.alloc o, Tabs.alloc h.tabs o⟩
theorem Stt.call {b : Nat} {W0 W w1 : World} {X Y : Int} {t : Bool} (h : Stt b W0 X t W) (hb : 5 ≤ b) (hP : Pair w1 b Y t) (hK : Kept b W w1) : Stt b W0 Y t w1 :=
  ⟨hP, h.kept.trans hK, Tabs.kept h.tabs hK hb (Nat.le_of_lt h.pair.lt)⟩
theorem Stt.below {b : Nat} {W0 W w1 : World} {X : Int} {t : Bool} (h : Stt b W0 X t W) (hB : Below W.heap.size W w1) : Stt b W0 X t w1 :=
  ⟨h.pair.below hB, h.kept.trans (Kept.of_below hB), h.tabs.below hB h.tabs.big⟩

set_option maxHeartbeats 2000000 in
theorem offset_c (b : Nat) (k X A B V Y1 Y2 Y3 : Int) (p q r : Int) (t : Bool) (W : World) (hk : 1 ≤ k ∧ k ≤ 5) (hA : X / 65536 = A) (hB : X % 65536 = B) (hV : getV k A B = V)
    (h1 : X / 65536 % 2048 = p) (e1 : X - p * 65536 = Y1) (h2 : Y1 / 8192 % 2 = q) (e2 : Y1 - q * 8192 = Y2) (h3 : Y2 % 4096 = r) (e3 : Y2 - r = Y3) (hx0 : 0 ≤ X) (hx1 : X < 4294967296) (hP : Pair W b X t) (hT : Tabs W) (hb : 5 ≤ b) :
    Calls Tryd.prog 39 #[.pointer (some ⟨b, 0, none⟩), .int .i64 k] W fun e w' => e = .returned (.int .i64 V) ∧ Pair w' b Y3 t ∧ Kept b W w' := by
  have H1 := Lib.hid (fun W hP => take_n 26 16 65536 2048 (hi' := 26) (lo' := 16) b X p Y1 t W h1 e1 hx0 hx1 hP rfl rfl (by decide) (by decide) (by decide) (by decide))
  have H2 := Lib.hid (fun W hP => take_n 13 13 8192 2 (hi' := 13) (lo' := 13) b Y1 q Y2 t W h2 e2 (by omega) (by omega) hP rfl rfl (by decide) (by decide) (by decide) (by decide))
  have H3 := Lib.hid (fun W hP => take_n 11 0 1 4096 (hi' := 11) (lo' := 0) b Y2 r Y3 t W (by rw [Int.ediv_one]; exact h3) (by rw [Int.mul_one]; exact e3) (by omega) (by omega) hP rfl rfl (by decide) (by decide) (by decide) (by decide))
  have A0 : 0 ≤ A := by omega
  have A1 : A < 65536 := by omega
  have B0 : 0 ≤ B := by omega
  have B1 : B < 65536 := by omega
  have HA := Lib.hid (fun hi lo W => get_c X hi lo W hx0 hx1)
  have hGA : getI X 31 16 = A := by rw [Om.get_n X 31 16 65536 65536 (hi' := 31) (lo' := 16) rfl rfl (by decide) (by decide) (by decide) (by decide) hx0, hA, Int.emod_eq_of_lt A0 A1]
  have hGB : getI X 15 0 = B := by rw [Om.get_n X 15 0 1 65536 (hi' := 15) (lo' := 0) rfl rfl (by decide) (by decide) (by decide) (by decide) hx0, Int.ediv_one, hB]
  have hwa : IntKind.i64.wrap (getI X 31 16) = A := by rw [hGA]; exact IntWalk.i64_in _ (by omega)
  have hwb : IntKind.i64.wrap (getI X 15 0) = B := by rw [hGB]; exact IntWalk.i64_in _ (by omega)
  have HG : RowKit.Hid (∀ W, Tabs W → Calls Tryd.prog 49 #[.int .i64 k, .int .i64 (IntKind.i64.wrap (getI X 31 16)), .int .i64 (IntKind.i64.wrap (getI X 15 0))] W fun e w' => e = .returned (.int .i64 V) ∧ Below W.heap.size W w') := fun W hT => by
    have h := oget_c k A B W hk hT
    rw [Int.emod_eq_of_lt A0 (by omega : A < 4294967296), Int.emod_eq_of_lt B0 (by omega : B < 4294967296), hV] at h
    rw [hwa, hwb]
    exact h
  obtain ⟨ga0, ga1⟩ := getI_bd X 31 16 hx0 hx1
  obtain ⟨gb0, gb1⟩ := getI_bd X 15 0 hx0 hx1
  clear hGA hGB hwa hwb
  have HS := Lib.hid (Stt.start hP hT)
  clear h1 e1 h2 e2 h3 e3 hA hB hV hP hT hk A0 A1 B0 B1
  go_enter Tryd.func39, Tryd.ntmps39
  go_wp2_with fail
  go_region_held3 (fun W' => W'.cell? ⟨b, 0, none⟩ = some (.int .u32 X) ∧ Stt b W X t W')
    (first
      | (exact ⟨HS.out.pair.word, HS.out⟩)
      | (exact ⟨HS.out.drew.pair.word, HS.out.drew⟩)
      | (go_split_ands; refine ⟨by assumption, Stt.drewn (by assumption) _⟩)
      | (go_split_ands; refine ⟨by assumption, Stt.drew (by assumption)⟩)
      | (go_split_ands; refine ⟨(Stt.below (by assumption) hbel.out).pair.word, Stt.below (by assumption) hbel.out⟩))
    (first
      | (go_at_call 7; refine (HA.out _ _ _).mono ?_; rintro e w' ⟨rfl, n1, rfl⟩)
      | (go_at_call 49; go_split_ands; refine (HG.out _ (Stt.tabs (by assumption))).mono ?_; rintro e w' ⟨rfl, hbel⟩; replace hbel := Lib.hid hbel))
  have hS1 := Lib.hid (show Stt b W X t w' by rename_i hh; exact hh.2)
  rename_i hh
  clear hh
  go_wp2_with fail
  refine (H1.out _ hS1.out.pair).mono ?_
  rintro e w1 ⟨rfl, hP1, hK1⟩
  replace hS1 := Lib.hid (hS1.out.call hb hP1 hK1)
  clear hP1 hK1 hbel
  go_wp2_with fail
  refine (H2.out _ hS1.out.pair).mono ?_
  rintro e w2 ⟨rfl, hP1, hK1⟩
  replace hS1 := Lib.hid (hS1.out.call hb hP1 hK1)
  clear hP1 hK1
  go_wp2_with fail
  refine (H3.out _ hS1.out.pair).mono ?_
  rintro e w3 ⟨rfl, hP1, hK1⟩
  replace hS1 := Lib.hid (hS1.out.call hb hP1 hK1)
  clear hP1 hK1
  go_wp2
  go_ret
  exact ⟨rfl, hS1.out.pair, hS1.out.kept⟩
end Tp
end Go.Proofs.YtdcnkmkaafimlaaDoor
