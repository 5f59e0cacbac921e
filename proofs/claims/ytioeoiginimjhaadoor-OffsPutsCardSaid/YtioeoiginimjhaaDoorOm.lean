/- Plain facts on offsets in pieces: what the program's two loops come to, as sums of products; that they are there and back. No memory, no calls; no conditions but those that each fact names. -/
import Derived.Test.YtioeoiginimjhaaDoorOq
namespace Go.Proofs.YtioeoiginimjhaaDoor
open Go.ChangeShapes Go.WideShapes Go.ChangeAt Go.RowKit
namespace Om

/-! fields as quotients and rests -/
theorem putU_add {X lo n V : Nat} (hX : X < 4294967296) (h : lo + n ≤ 32) (hz : X / 2 ^ lo % 2 ^ n = 0) (hV : V < 2 ^ n) : Bm.putU X lo n V = X + V * 2 ^ lo := by
  have hlt : V * 2 ^ lo < 2 ^ (lo + n) := by rw [Nat.pow_add, Nat.mul_comm]; exact Nat.mul_lt_mul_of_pos_left hV (Nat.two_pow_pos lo)
  have h32 : 2 ^ (lo + n) ≤ 2 ^ 32 := Nat.pow_le_pow_right (by omega) h
  have e : Bm.putU X lo n V = X ||| V * 2 ^ lo := by
    apply Bm.word_ext (Bm.put_lt _ _ _ _ hX) (Nat.or_lt_two_pow (n := 32) hX (Nat.lt_of_lt_of_le hlt h32))
    intro i hi
    rw [Bm.put_tb h hi, Nat.testBit_or, Nat.testBit_mul_two_pow]
    by_cases h1 : lo ≤ i ∧ i < lo + n
    · have h2 : X.testBit i = false := by
        have h3 := Nat.testBit_mod_two_pow (X / 2 ^ lo) n (i - lo)
        rw [hz, Nat.zero_testBit, Nat.testBit_div_two_pow, show i - lo + lo = i by omega] at h3
        have h4 : i - lo < n := by omega
        simpa [h4] using h3.symm
      rw [if_pos h1, h2]
      simp [h1.1]
    · rw [if_neg h1]
      by_cases h2 : lo ≤ i
      · have h3 : V.testBit (i - lo) = false := Nat.testBit_lt_two_pow (Nat.lt_of_lt_of_le hV (Nat.pow_le_pow_right (by omega) (by omega)))
        simp [h3]
      · simp [h2]
  rw [e]
  have hs := Nat.div_add_mod X (2 ^ (lo + n))
  have hl : X % 2 ^ (lo + n) = X % 2 ^ lo := by rw [Nat.pow_add, Nat.mod_mul, hz]; simp
  have hm := Nat.mod_lt X (Nat.two_pow_pos lo)
  rw [hl] at hs
  generalize X % 2 ^ lo = L at *
  have h5 : V * 2 ^ lo ||| L = V * 2 ^ lo + L := nat_join lo _ _ (by simp) hm
  have h6 : 2 ^ (lo + n) * (X / 2 ^ (lo + n)) ||| L = X := by rw [nat_join (lo + n) _ _ (by simp) (Nat.lt_of_lt_of_le hm (Nat.pow_le_pow_right (by omega) (by omega)))]; exact hs
  have h7 : V * 2 ^ lo + L < 2 ^ (lo + n) := by
    have : V * 2 ^ lo + 2 ^ lo ≤ 2 ^ (lo + n) := by
      rw [Nat.pow_add, ← Nat.succ_mul, Nat.mul_comm (2 ^ lo)]; exact Nat.mul_le_mul_right _ hV
    omega
  have h8 : X ||| V * 2 ^ lo = 2 ^ (lo + n) * (X / 2 ^ (lo + n)) ||| (V * 2 ^ lo ||| L) := by
    rw [Nat.or_comm (V * 2 ^ lo) L, ← Nat.or_assoc, h6]
  rw [h8, h5, nat_join (lo + n) _ _ (by simp) h7]
  omega

theorem putI_add (x v : Int) (hi lo : Nat) (h1 : lo ≤ hi) (h2 : hi < 32) (hx0 : 0 ≤ x) (hx1 : x < 4294967296) (hz : x / 2 ^ lo % 2 ^ (hi + 1 - lo) = 0) (hv0 : 0 ≤ v) (hv1 : v < 2 ^ (hi + 1 - lo)) :
    putI x hi lo v = x + v * 2 ^ lo := by
  obtain ⟨X, rfl⟩ := Int.eq_ofNat_of_zero_le hx0
  obtain ⟨V, rfl⟩ := Int.eq_ofNat_of_zero_le hv0
  unfold putI
  rw [if_pos (by omega)]
  simp only [Int.toNat_natCast]
  rw [putU_add (by omega) (by omega) (by exact_mod_cast hz) (by exact_mod_cast hv1)]
  simp

theorem getI_ar (x : Int) (hi lo : Nat) (h1 : lo ≤ hi) (h2 : hi < 32) (hx0 : 0 ≤ x) : getI x hi lo = x / 2 ^ lo % 2 ^ (hi + 1 - lo) := by
  obtain ⟨X, rfl⟩ := Int.eq_ofNat_of_zero_le hx0
  unfold getI
  rw [if_pos (by omega)]
  simp [Bm.getB]

/-! the two bits that are turned over -/
theorem xor3 : ∀ Z, Z < 1024 → Z ^^^ 3 = Z - Z % 4 + (3 - Z % 4) := by
  have h : ((List.range 1024).all fun Z => Z ^^^ 3 == Z - Z % 4 + (3 - Z % 4)) = true := by decide +kernel
  intro Z hZ
  simpa using List.all_eq_true.1 h Z (List.mem_range.2 hZ)

theorem xor_ar (x : Int) (hx0 : 0 ≤ x) (hx1 : x < 4294967296) : bits .xor .u32 x 12582912 = x - x / 4194304 % 4 * 4194304 + (3 - x / 4194304 % 4) * 4194304 := by
  obtain ⟨X, rfl⟩ := Int.eq_ofNat_of_zero_le hx0
  rw [show (12582912 : Int) = ((12582912 : Nat) : Int) by rfl, u32_xor_nat X 12582912 (by omega) (by decide)]
  have h1 : (X ^^^ 12582912) / 2 ^ 22 = X / 2 ^ 22 ^^^ 3 := by rw [Nat.xor_div_two_pow]
  have h2 : (X ^^^ 12582912) % 2 ^ 22 = X % 2 ^ 22 := by rw [Nat.xor_mod_two_pow]; simp
  rw [xor3 _ (by omega)] at h1
  omega
/-! sums -/
theorem put_n (x v : Int) (hi lo : Nat) (m c : Int) {hi' lo' : Int} (eh : (hi : Int) = hi') (el : (lo : Int) = lo') (hm : 2 ^ lo = m) (hc : 2 ^ (hi + 1 - lo) = c) (h1 : lo ≤ hi) (h2 : hi < 32) (hx0 : 0 ≤ x) (hx1 : x < 4294967296) (hz : x / m % c = 0) (hv0 : 0 ≤ v) (hv1 : v < c) :
    putI x hi' lo' v = x + v * m := by
  subst hm hc eh el
  exact putI_add x v hi lo h1 h2 hx0 hx1 hz hv0 hv1
theorem get_n (x : Int) (hi lo : Nat) (m c : Int) {hi' lo' : Int} (eh : (hi : Int) = hi') (el : (lo : Int) = lo') (hm : 2 ^ lo = m) (hc : 2 ^ (hi + 1 - lo) = c) (h1 : lo ≤ hi) (h2 : hi < 32) (hx0 : 0 ≤ x) : getI x hi' lo' = x / m % c := by
  subst hm hc eh el
  exact getI_ar x hi lo h1 h2 hx0

/-- v as a number with a sign, h its half -/
def sg (v h : Int) : Int := if v < h then v else v - 2 * h
theorem sign_n (x : Int) (n : Nat) (h : Int) {n' : Int} (en : ((n + 1 : Nat) : Int) = n') (hh : 2 ^ n = h) (h2 : n < 32) : signI x n' = sg (x % (2 * h)) h := by
  subst en
  have hp : (0 : Int) < h := by rw [← hh]; exact Int.pow_pos (by decide)
  unfold signI sg
  rw [if_pos (by omega), show (((n + 1 : Nat) : Int) - 1).toNat = n by omega, show ((n + 1 : Nat) : Int).toNat = n + 1 by omega, Int.pow_succ, hh, Int.mul_comm h 2]
  have e1 : x / h = 2 * (x / (2 * h)) + x % (2 * h) / h := by
    have h1 := Int.mul_ediv_add_emod x (2 * h)
    have h3 : x = h * (2 * (x / (2 * h))) + x % (2 * h) := by rw [← Int.mul_assoc, Int.mul_comm h 2]; omega
    calc x / h = (h * (2 * (x / (2 * h))) + x % (2 * h)) / h := by rw [← h3]
      _ = 2 * (x / (2 * h)) + x % (2 * h) / h := by rw [Int.add_comm, Int.add_mul_ediv_left _ _ (by omega), Int.add_comm]
  have h4 := Int.emod_nonneg x (show 2 * h ≠ 0 by omega)
  have h5 := Int.emod_lt_of_pos x (show 0 < 2 * h by omega)
  by_cases hb : x % (2 * h) < h
  · rw [if_pos hb, if_neg]
    rw [e1, Int.ediv_eq_zero_of_lt h4 hb]; omega
  · have h6 : x % (2 * h) / h = 1 := by
      have : x % (2 * h) = (x % (2 * h) - h) + h * 1 := by omega
      rw [this, Int.add_mul_ediv_left _ _ (by omega), Int.ediv_eq_zero_of_lt (by omega) (by omega)]; omega
    rw [if_neg hb, if_pos]
    rw [e1, h6]; omega

/-- the offset of the halfwords x and y -/
def gA (k x y : Int) : Int :=
  if k = 1 then 2 * sg (x % 256) 128
  else if k = 2 then 2 * sg (x % 2048) 1024
  else if k = 3 then 2 * sg (x / 1024 % 2 * 524288 + y / 2048 % 2 * 262144 + y / 8192 % 2 * 131072 + x % 64 * 2048 + y % 2048) 524288
  else if k = 4 then 2 * sg (x / 1024 % 2 * 8388608 + (1 + y / 8192 % 2 + x / 1024 % 2) % 2 * 4194304 + (1 + y / 2048 % 2 + x / 1024 % 2) % 2 * 2097152 + x % 1024 * 2048 + y % 2048) 8388608
  else if k = 5 then 2 * (x / 512 % 2 * 32 + x / 8 % 32)
  else 0

theorem getTo_1 (x y : Int) (hx0 : 0 ≤ x) (_hy0 : 0 ≤ y) : getTo 1 x y 14 = 0 + (x / 1 % 256) * 2 := by
  have e : getTo 1 x y 14 = putI 0 8 1 (getI x 7 0) := by simp [getTo, getStep, pieceAt, pieceTab]
  rw [e, (get_n x 7 0 1 256 rfl rfl (by decide) (by decide) (by decide) (by decide) hx0 : getI x 7 0 = _)]
  rw [(put_n (0) (x / 1 % 256) 8 1 2 256 rfl rfl (by decide) (by decide) (by decide) (by decide) (by omega) (by omega) (by omega) (by omega) (by omega) : putI (0) 8 1 (x / 1 % 256) = _)]

theorem getTo_2 (x y : Int) (hx0 : 0 ≤ x) (_hy0 : 0 ≤ y) : getTo 2 x y 14 = 0 + (x / 1 % 2048) * 2 := by
  have e : getTo 2 x y 14 = putI 0 11 1 (getI x 10 0) := by simp [getTo, getStep, pieceAt, pieceTab]
  rw [e, (get_n x 10 0 1 2048 rfl rfl (by decide) (by decide) (by decide) (by decide) hx0 : getI x 10 0 = _)]
  rw [(put_n (0) (x / 1 % 2048) 11 1 2 2048 rfl rfl (by decide) (by decide) (by decide) (by decide) (by omega) (by omega) (by omega) (by omega) (by omega) : putI (0) 11 1 (x / 1 % 2048) = _)]

theorem getTo_3 (x y : Int) (hx0 : 0 ≤ x) (hy0 : 0 ≤ y) : getTo 3 x y 14 = 0 + (x / 1024 % 2) * 1048576 + (x / 1 % 64) * 4096 + (y / 8192 % 2) * 262144 + (y / 2048 % 2) * 524288 + (y / 1 % 2048) * 2 := by
  have e : getTo 3 x y 14 = putI (putI (putI (putI (putI 0 20 20 (getI x 10 10)) 17 12 (getI x 5 0)) 18 18 (getI y 13 13)) 19 19 (getI y 11 11)) 11 1 (getI y 10 0) := by simp [getTo, getStep, pieceAt, pieceTab]
  rw [e, (get_n x 10 10 1024 2 rfl rfl (by decide) (by decide) (by decide) (by decide) hx0 : getI x 10 10 = _), (get_n x 5 0 1 64 rfl rfl (by decide) (by decide) (by decide) (by decide) hx0 : getI x 5 0 = _), (get_n y 13 13 8192 2 rfl rfl (by decide) (by decide) (by decide) (by decide) hy0 : getI y 13 13 = _), (get_n y 11 11 2048 2 rfl rfl (by decide) (by decide) (by decide) (by decide) hy0 : getI y 11 11 = _), (get_n y 10 0 1 2048 rfl rfl (by decide) (by decide) (by decide) (by decide) hy0 : getI y 10 0 = _)]
  rw [(put_n (0) (x / 1024 % 2) 20 20 1048576 2 rfl rfl (by decide) (by decide) (by decide) (by decide) (by omega) (by omega) (by omega) (by omega) (by omega) : putI (0) 20 20 (x / 1024 % 2) = _)]
  rw [(put_n (0 + (x / 1024 % 2) * 1048576) (x / 1 % 64) 17 12 4096 64 rfl rfl (by decide) (by decide) (by decide) (by decide) (by omega) (by omega) (by omega) (by omega) (by omega) : putI (0 + (x / 1024 % 2) * 1048576) 17 12 (x / 1 % 64) = _)]
  rw [(put_n (0 + (x / 1024 % 2) * 1048576 + (x / 1 % 64) * 4096) (y / 8192 % 2) 18 18 262144 2 rfl rfl (by decide) (by decide) (by decide) (by decide) (by omega) (by omega) (by omega) (by omega) (by omega) : putI (0 + (x / 1024 % 2) * 1048576 + (x / 1 % 64) * 4096) 18 18 (y / 8192 % 2) = _)]
  rw [(put_n (0 + (x / 1024 % 2) * 1048576 + (x / 1 % 64) * 4096 + (y / 8192 % 2) * 262144) (y / 2048 % 2) 19 19 524288 2 rfl rfl (by decide) (by decide) (by decide) (by decide) (by omega) (by omega) (by omega) (by omega) (by omega) : putI (0 + (x / 1024 % 2) * 1048576 + (x / 1 % 64) * 4096 + (y / 8192 % 2) * 262144) 19 19 (y / 2048 % 2) = _)]
  rw [(put_n (0 + (x / 1024 % 2) * 1048576 + (x / 1 % 64) * 4096 + (y / 8192 % 2) * 262144 + (y / 2048 % 2) * 524288) (y / 1 % 2048) 11 1 2 2048 rfl rfl (by decide) (by decide) (by decide) (by decide) (by omega) (by omega) (by omega) (by omega) (by omega) : putI (0 + (x / 1024 % 2) * 1048576 + (x / 1 % 64) * 4096 + (y / 8192 % 2) * 262144 + (y / 2048 % 2) * 524288) 11 1 (y / 1 % 2048) = _)]

theorem getTo_4 (x y : Int) (hx0 : 0 ≤ x) (hy0 : 0 ≤ y) : getTo 4 x y 14 = 0 + (x / 1024 % 2) * 16777216 + (x / 1 % 1024) * 4096 + (y / 8192 % 2) * 8388608 + (y / 2048 % 2) * 4194304 + (y / 1 % 2048) * 2 := by
  have e : getTo 4 x y 14 = putI (putI (putI (putI (putI 0 24 24 (getI x 10 10)) 21 12 (getI x 9 0)) 23 23 (getI y 13 13)) 22 22 (getI y 11 11)) 11 1 (getI y 10 0) := by simp [getTo, getStep, pieceAt, pieceTab]
  rw [e, (get_n x 10 10 1024 2 rfl rfl (by decide) (by decide) (by decide) (by decide) hx0 : getI x 10 10 = _), (get_n x 9 0 1 1024 rfl rfl (by decide) (by decide) (by decide) (by decide) hx0 : getI x 9 0 = _), (get_n y 13 13 8192 2 rfl rfl (by decide) (by decide) (by decide) (by decide) hy0 : getI y 13 13 = _), (get_n y 11 11 2048 2 rfl rfl (by decide) (by decide) (by decide) (by decide) hy0 : getI y 11 11 = _), (get_n y 10 0 1 2048 rfl rfl (by decide) (by decide) (by decide) (by decide) hy0 : getI y 10 0 = _)]
  rw [(put_n (0) (x / 1024 % 2) 24 24 16777216 2 rfl rfl (by decide) (by decide) (by decide) (by decide) (by omega) (by omega) (by omega) (by omega) (by omega) : putI (0) 24 24 (x / 1024 % 2) = _)]
  rw [(put_n (0 + (x / 1024 % 2) * 16777216) (x / 1 % 1024) 21 12 4096 1024 rfl rfl (by decide) (by decide) (by decide) (by decide) (by omega) (by omega) (by omega) (by omega) (by omega) : putI (0 + (x / 1024 % 2) * 16777216) 21 12 (x / 1 % 1024) = _)]
  rw [(put_n (0 + (x / 1024 % 2) * 16777216 + (x / 1 % 1024) * 4096) (y / 8192 % 2) 23 23 8388608 2 rfl rfl (by decide) (by decide) (by decide) (by decide) (by omega) (by omega) (by omega) (by omega) (by omega) : putI (0 + (x / 1024 % 2) * 16777216 + (x / 1 % 1024) * 4096) 23 23 (y / 8192 % 2) = _)]
  rw [(put_n (0 + (x / 1024 % 2) * 16777216 + (x / 1 % 1024) * 4096 + (y / 8192 % 2) * 8388608) (y / 2048 % 2) 22 22 4194304 2 rfl rfl (by decide) (by decide) (by decide) (by decide) (by omega) (by omega) (by omega) (by omega) (by omega) : putI (0 + (x / 1024 % 2) * 16777216 + (x / 1 % 1024) * 4096 + (y / 8192 % 2) * 8388608) 22 22 (y / 2048 % 2) = _)]
  rw [(put_n (0 + (x / 1024 % 2) * 16777216 + (x / 1 % 1024) * 4096 + (y / 8192 % 2) * 8388608 + (y / 2048 % 2) * 4194304) (y / 1 % 2048) 11 1 2 2048 rfl rfl (by decide) (by decide) (by decide) (by decide) (by omega) (by omega) (by omega) (by omega) (by omega) : putI (0 + (x / 1024 % 2) * 16777216 + (x / 1 % 1024) * 4096 + (y / 8192 % 2) * 8388608 + (y / 2048 % 2) * 4194304) 11 1 (y / 1 % 2048) = _)]

theorem getTo_5 (x y : Int) (hx0 : 0 ≤ x) (_hy0 : 0 ≤ y) : getTo 5 x y 14 = 0 + (x / 512 % 2) * 64 + (x / 8 % 32) * 2 := by
  have e : getTo 5 x y 14 = putI (putI 0 6 6 (getI x 9 9)) 5 1 (getI x 7 3) := by simp [getTo, getStep, pieceAt, pieceTab]
  rw [e, (get_n x 9 9 512 2 rfl rfl (by decide) (by decide) (by decide) (by decide) hx0 : getI x 9 9 = _), (get_n x 7 3 8 32 rfl rfl (by decide) (by decide) (by decide) (by decide) hx0 : getI x 7 3 = _)]
  rw [(put_n (0) (x / 512 % 2) 6 6 64 2 rfl rfl (by decide) (by decide) (by decide) (by decide) (by omega) (by omega) (by omega) (by omega) (by omega) : putI (0) 6 6 (x / 512 % 2) = _)]
  rw [(put_n (0 + (x / 512 % 2) * 64) (x / 8 % 32) 5 1 2 32 rfl rfl (by decide) (by decide) (by decide) (by decide) (by omega) (by omega) (by omega) (by omega) (by omega) : putI (0 + (x / 512 % 2) * 64) 5 1 (x / 8 % 32) = _)]

theorem getV_1 (x y : Int) (hx0 : 0 ≤ x) (hy0 : 0 ≤ y) : getV 1 x y = gA 1 x y := by
  have e : getV 1 x y = signI (crossI 1 (getTo 1 x y 14)) 9 := by kernel_rfl
  have hc : ∀ X, crossI 1 X = X := fun X => by unfold crossI; rw [if_neg (by omega)]
  rw [e, hc, getTo_1 x y hx0 hy0, (sign_n _ 8 256 rfl (by decide) (by decide) : signI _ 9 = _)]
  unfold gA sg
  simp only [if_true]
  split <;> split <;> omega

theorem getV_2 (x y : Int) (hx0 : 0 ≤ x) (hy0 : 0 ≤ y) : getV 2 x y = gA 2 x y := by
  have e : getV 2 x y = signI (crossI 2 (getTo 2 x y 14)) 12 := by kernel_rfl
  have hc : ∀ X, crossI 2 X = X := fun X => by unfold crossI; rw [if_neg (by omega)]
  rw [e, hc, getTo_2 x y hx0 hy0, (sign_n _ 11 2048 rfl (by decide) (by decide) : signI _ 12 = _)]
  unfold gA sg
  simp only [if_true, show ¬ ((2 : Int) = 1) from by decide, if_false]
  split <;> split <;> omega

theorem getV_3 (x y : Int) (hx0 : 0 ≤ x) (hy0 : 0 ≤ y) : getV 3 x y = gA 3 x y := by
  have e : getV 3 x y = signI (crossI 3 (getTo 3 x y 14)) 21 := by kernel_rfl
  have hc : ∀ X, crossI 3 X = X := fun X => by unfold crossI; rw [if_neg (by omega)]
  rw [e, hc, getTo_3 x y hx0 hy0, (sign_n _ 20 1048576 rfl (by decide) (by decide) : signI _ 21 = _)]
  unfold gA sg
  simp only [if_true, show ¬ ((3 : Int) = 1) from by decide, show ¬ ((3 : Int) = 2) from by decide, if_false]
  split <;> split <;> omega

theorem getV_4 (x y : Int) (hx0 : 0 ≤ x) (hy0 : 0 ≤ y) : getV 4 x y = gA 4 x y := by
  have e : getV 4 x y = signI (crossI 4 (getTo 4 x y 14)) 25 := by kernel_rfl
  rw [e, getTo_4 x y hx0 hy0]
  have hg : gA 4 x y = 2 * sg (x / 1024 % 2 * 8388608 + (1 + y / 8192 % 2 + x / 1024 % 2) % 2 * 4194304 + (1 + y / 2048 % 2 + x / 1024 % 2) % 2 * 2097152 + x % 1024 * 2048 + y % 2048) 8388608 := by kernel_rfl
  rw [hg, (sign_n _ 24 16777216 rfl (by decide) (by decide) : signI _ 25 = _)]
  have a1 : 0 ≤ x / 1024 % 2 ∧ x / 1024 % 2 ≤ 1 := by omega
  have a2 : 0 ≤ x / 1 % 1024 ∧ x / 1 % 1024 < 1024 := by omega
  have a3 : 0 ≤ y / 8192 % 2 ∧ y / 8192 % 2 ≤ 1 := by omega
  have a4 : 0 ≤ y / 2048 % 2 ∧ y / 2048 % 2 ≤ 1 := by omega
  have a5 : 0 ≤ y / 1 % 2048 ∧ y / 1 % 2048 < 2048 := by omega
  have a6 : x % 1024 = x / 1 % 1024 := by omega
  have a7 : y % 2048 = y / 1 % 2048 := by omega
  rw [a6, a7]
  clear a6 a7 hg e hx0 hy0
  generalize x / 1024 % 2 = s at *
  generalize x / 1 % 1024 = f at *
  generalize y / 8192 % 2 = j at *
  generalize y / 2048 % 2 = i at *
  generalize y / 1 % 2048 = g at *
  have hX : ∀ X : Int, X = 0 + s * 16777216 + f * 4096 + j * 8388608 + i * 4194304 + g * 2 → sg (crossI 4 X % (2 * 16777216)) 16777216 = 2 * sg (s * 8388608 + (1 + j + s) % 2 * 4194304 + (1 + i + s) % 2 * 2097152 + f * 2048 + g) 8388608 := by
    intro X hX
    unfold crossI
    rw [(get_n X 24 24 16777216 2 rfl rfl (by decide) (by decide) (by decide) (by decide) (by omega) : getI X 24 24 = _), xor_ar X (by omega) (by omega)]
    have h1 : X / 16777216 % 2 = s := by omega
    have h2 : X / 4194304 % 4 = j * 2 + i := by omega
    rw [h1, h2]
    rcases (by omega : s = 0 ∨ s = 1) with rfl | rfl
    · rw [if_pos (⟨rfl, rfl⟩ : (4 : Int) = 4 ∧ (0 : Int) = 0)]
      unfold sg
      split <;> split <;> omega
    · rw [if_neg (show ¬ ((4 : Int) = 4 ∧ (1 : Int) = 0) from fun q => absurd q.2 (by decide))]
      unfold sg
      split <;> split <;> omega
  exact hX _ rfl

theorem getV_5 (x y : Int) (hx0 : 0 ≤ x) (hy0 : 0 ≤ y) : getV 5 x y = gA 5 x y := by
  have e : getV 5 x y = signI (crossI 5 (getTo 5 x y 14)) 8 := by kernel_rfl
  have hc : ∀ X, crossI 5 X = X := fun X => by unfold crossI; rw [if_neg (by omega)]
  rw [e, hc, getTo_5 x y hx0 hy0, (sign_n _ 7 128 rfl (by decide) (by decide) : signI _ 8 = _)]
  show _ = 2 * (x / 512 % 2 * 32 + x / 8 % 32)
  unfold sg
  split <;> omega

theorem getV_ar (k x y : Int) (hk : 1 ≤ k ∧ k ≤ 5) (hx0 : 0 ≤ x) (hy0 : 0 ≤ y) : getV k x y = gA k x y := by
  rcases kinds hk with rfl | rfl | rfl | rfl | rfl
  · exact getV_1 x y hx0 hy0
  · exact getV_2 x y hx0 hy0
  · exact getV_3 x y hx0 hy0
  · exact getV_4 x y hx0 hy0
  · exact getV_5 x y hx0 hy0

/-- is it below 0? -/
def sI (off : Int) : Int := if off < 0 then 1 else 0
/-- the first and the second halfword of an offset -/
def pA (k off : Int) : Int :=
  if k = 1 then off / 2 % 256
  else if k = 2 then off / 2 % 2048
  else if k = 3 then sI off * 1024 + off / 4096 % 64
  else if k = 4 then sI off * 1024 + off / 4096 % 1024
  else off / 64 % 2 * 512 + off / 2 % 32 * 8
def pB (k off : Int) : Int :=
  if k = 3 then off / 262144 % 2 * 8192 + off / 524288 % 2 * 2048 + off / 2 % 2048
  else if k = 4 then (1 + off / 8388608 % 2 + sI off) % 2 * 8192 + (1 + off / 4194304 % 2 + sI off) % 2 * 2048 + off / 2 % 2048
  else 0

theorem putTo_1 (x : Int) (hx0 : 0 ≤ x) : putTo 1 x 14 = (0 + (x / 2 % 256) * 1, 0) := by
  have e : putTo 1 x 14 = (putI 0 7 0 (getI x 8 1), 0) := by simp [putTo, putStep, pieceAt, pieceTab]
  rw [e, (get_n x 8 1 2 256 rfl rfl (by decide) (by decide) (by decide) (by decide) hx0 : getI x 8 1 = _)]
  rw [(put_n (0) (x / 2 % 256) 7 0 1 256 rfl rfl (by decide) (by decide) (by decide) (by decide) (by omega) (by omega) (by omega) (by omega) (by omega) : putI (0) 7 0 (x / 2 % 256) = _)]

theorem putTo_2 (x : Int) (hx0 : 0 ≤ x) : putTo 2 x 14 = (0 + (x / 2 % 2048) * 1, 0) := by
  have e : putTo 2 x 14 = (putI 0 10 0 (getI x 11 1), 0) := by simp [putTo, putStep, pieceAt, pieceTab]
  rw [e, (get_n x 11 1 2 2048 rfl rfl (by decide) (by decide) (by decide) (by decide) hx0 : getI x 11 1 = _)]
  rw [(put_n (0) (x / 2 % 2048) 10 0 1 2048 rfl rfl (by decide) (by decide) (by decide) (by decide) (by omega) (by omega) (by omega) (by omega) (by omega) : putI (0) 10 0 (x / 2 % 2048) = _)]

theorem putTo_3 (x : Int) (hx0 : 0 ≤ x) : putTo 3 x 14 = (0 + (x / 1048576 % 2) * 1024 + (x / 4096 % 64) * 1, 0 + (x / 262144 % 2) * 8192 + (x / 524288 % 2) * 2048 + (x / 2 % 2048) * 1) := by
  have e : putTo 3 x 14 = (putI (putI 0 10 10 (getI x 20 20)) 5 0 (getI x 17 12), putI (putI (putI 0 13 13 (getI x 18 18)) 11 11 (getI x 19 19)) 10 0 (getI x 11 1)) := by simp [putTo, putStep, pieceAt, pieceTab]
  rw [e, (get_n x 20 20 1048576 2 rfl rfl (by decide) (by decide) (by decide) (by decide) hx0 : getI x 20 20 = _), (get_n x 17 12 4096 64 rfl rfl (by decide) (by decide) (by decide) (by decide) hx0 : getI x 17 12 = _), (get_n x 18 18 262144 2 rfl rfl (by decide) (by decide) (by decide) (by decide) hx0 : getI x 18 18 = _), (get_n x 19 19 524288 2 rfl rfl (by decide) (by decide) (by decide) (by decide) hx0 : getI x 19 19 = _), (get_n x 11 1 2 2048 rfl rfl (by decide) (by decide) (by decide) (by decide) hx0 : getI x 11 1 = _)]
  rw [(put_n (0) (x / 1048576 % 2) 10 10 1024 2 rfl rfl (by decide) (by decide) (by decide) (by decide) (by omega) (by omega) (by omega) (by omega) (by omega) : putI (0) 10 10 (x / 1048576 % 2) = _)]
  rw [(put_n (0 + (x / 1048576 % 2) * 1024) (x / 4096 % 64) 5 0 1 64 rfl rfl (by decide) (by decide) (by decide) (by decide) (by omega) (by omega) (by omega) (by omega) (by omega) : putI (0 + (x / 1048576 % 2) * 1024) 5 0 (x / 4096 % 64) = _)]
  rw [(put_n (0) (x / 262144 % 2) 13 13 8192 2 rfl rfl (by decide) (by decide) (by decide) (by decide) (by omega) (by omega) (by omega) (by omega) (by omega) : putI (0) 13 13 (x / 262144 % 2) = _)]
  rw [(put_n (0 + (x / 262144 % 2) * 8192) (x / 524288 % 2) 11 11 2048 2 rfl rfl (by decide) (by decide) (by decide) (by decide) (by omega) (by omega) (by omega) (by omega) (by omega) : putI (0 + (x / 262144 % 2) * 8192) 11 11 (x / 524288 % 2) = _)]
  rw [(put_n (0 + (x / 262144 % 2) * 8192 + (x / 524288 % 2) * 2048) (x / 2 % 2048) 10 0 1 2048 rfl rfl (by decide) (by decide) (by decide) (by decide) (by omega) (by omega) (by omega) (by omega) (by omega) : putI (0 + (x / 262144 % 2) * 8192 + (x / 524288 % 2) * 2048) 10 0 (x / 2 % 2048) = _)]

theorem putTo_4 (x : Int) (hx0 : 0 ≤ x) : putTo 4 x 14 = (0 + (x / 16777216 % 2) * 1024 + (x / 4096 % 1024) * 1, 0 + (x / 8388608 % 2) * 8192 + (x / 4194304 % 2) * 2048 + (x / 2 % 2048) * 1) := by
  have e : putTo 4 x 14 = (putI (putI 0 10 10 (getI x 24 24)) 9 0 (getI x 21 12), putI (putI (putI 0 13 13 (getI x 23 23)) 11 11 (getI x 22 22)) 10 0 (getI x 11 1)) := by simp [putTo, putStep, pieceAt, pieceTab]
  rw [e, (get_n x 24 24 16777216 2 rfl rfl (by decide) (by decide) (by decide) (by decide) hx0 : getI x 24 24 = _), (get_n x 21 12 4096 1024 rfl rfl (by decide) (by decide) (by decide) (by decide) hx0 : getI x 21 12 = _), (get_n x 23 23 8388608 2 rfl rfl (by decide) (by decide) (by decide) (by decide) hx0 : getI x 23 23 = _), (get_n x 22 22 4194304 2 rfl rfl (by decide) (by decide) (by decide) (by decide) hx0 : getI x 22 22 = _), (get_n x 11 1 2 2048 rfl rfl (by decide) (by decide) (by decide) (by decide) hx0 : getI x 11 1 = _)]
  rw [(put_n (0) (x / 16777216 % 2) 10 10 1024 2 rfl rfl (by decide) (by decide) (by decide) (by decide) (by omega) (by omega) (by omega) (by omega) (by omega) : putI (0) 10 10 (x / 16777216 % 2) = _)]
  rw [(put_n (0 + (x / 16777216 % 2) * 1024) (x / 4096 % 1024) 9 0 1 1024 rfl rfl (by decide) (by decide) (by decide) (by decide) (by omega) (by omega) (by omega) (by omega) (by omega) : putI (0 + (x / 16777216 % 2) * 1024) 9 0 (x / 4096 % 1024) = _)]
  rw [(put_n (0) (x / 8388608 % 2) 13 13 8192 2 rfl rfl (by decide) (by decide) (by decide) (by decide) (by omega) (by omega) (by omega) (by omega) (by omega) : putI (0) 13 13 (x / 8388608 % 2) = _)]
  rw [(put_n (0 + (x / 8388608 % 2) * 8192) (x / 4194304 % 2) 11 11 2048 2 rfl rfl (by decide) (by decide) (by decide) (by decide) (by omega) (by omega) (by omega) (by omega) (by omega) : putI (0 + (x / 8388608 % 2) * 8192) 11 11 (x / 4194304 % 2) = _)]
  rw [(put_n (0 + (x / 8388608 % 2) * 8192 + (x / 4194304 % 2) * 2048) (x / 2 % 2048) 10 0 1 2048 rfl rfl (by decide) (by decide) (by decide) (by decide) (by omega) (by omega) (by omega) (by omega) (by omega) : putI (0 + (x / 8388608 % 2) * 8192 + (x / 4194304 % 2) * 2048) 10 0 (x / 2 % 2048) = _)]

theorem putTo_5 (x : Int) (hx0 : 0 ≤ x) : putTo 5 x 14 = (0 + (x / 64 % 2) * 512 + (x / 2 % 32) * 8, 0) := by
  have e : putTo 5 x 14 = (putI (putI 0 9 9 (getI x 6 6)) 7 3 (getI x 5 1), 0) := by simp [putTo, putStep, pieceAt, pieceTab]
  rw [e, (get_n x 6 6 64 2 rfl rfl (by decide) (by decide) (by decide) (by decide) hx0 : getI x 6 6 = _), (get_n x 5 1 2 32 rfl rfl (by decide) (by decide) (by decide) (by decide) hx0 : getI x 5 1 = _)]
  rw [(put_n (0) (x / 64 % 2) 9 9 512 2 rfl rfl (by decide) (by decide) (by decide) (by decide) (by omega) (by omega) (by omega) (by omega) (by omega) : putI (0) 9 9 (x / 64 % 2) = _)]
  rw [(put_n (0 + (x / 64 % 2) * 512) (x / 2 % 32) 7 3 8 32 rfl rfl (by decide) (by decide) (by decide) (by decide) (by omega) (by omega) (by omega) (by omega) (by omega) : putI (0 + (x / 64 % 2) * 512) 7 3 (x / 2 % 32) = _)]

theorem put_1 (off : Int) (_h1 : -256 ≤ off) (_h2 : off ≤ 254) (_h3 : off % 2 = 0) : putA 1 off = pA 1 off ∧ putB 1 off = pB 1 off := by
  have hx0 : 0 ≤ off % 4294967296 := by omega
  have hc : ∀ X, crossI 1 X = X := fun X => by unfold crossI; rw [if_neg (by omega)]
  unfold putA putB
  rw [hc, putTo_1 _ hx0]
  refine ⟨?_, ?_⟩
  · show _ = off / 2 % 256
    dsimp only; omega
  · rfl

theorem put_2 (off : Int) (_h1 : -2048 ≤ off) (_h2 : off ≤ 2046) (_h3 : off % 2 = 0) : putA 2 off = pA 2 off ∧ putB 2 off = pB 2 off := by
  have hx0 : 0 ≤ off % 4294967296 := by omega
  have hc : ∀ X, crossI 2 X = X := fun X => by unfold crossI; rw [if_neg (by omega)]
  unfold putA putB
  rw [hc, putTo_2 _ hx0]
  refine ⟨?_, ?_⟩
  · show _ = off / 2 % 2048
    dsimp only; omega
  · rfl

theorem put_3 (off : Int) (h1 : -1048576 ≤ off) (h2 : off ≤ 1048574) (_h3 : off % 2 = 0) : putA 3 off = pA 3 off ∧ putB 3 off = pB 3 off := by
  have hx0 : 0 ≤ off % 4294967296 := by omega
  have hc : ∀ X, crossI 3 X = X := fun X => by unfold crossI; rw [if_neg (by omega)]
  unfold putA putB
  rw [hc, putTo_3 _ hx0]
  refine ⟨?_, ?_⟩
  · show _ = sI off * 1024 + off / 4096 % 64
    unfold sI
    split <;> (dsimp only; omega)
  · show _ = off / 262144 % 2 * 8192 + off / 524288 % 2 * 2048 + off / 2 % 2048
    dsimp only; omega

theorem put_4 (off : Int) (h1 : -16777216 ≤ off) (h2 : off ≤ 16777214) (_h3 : off % 2 = 0) : putA 4 off = pA 4 off ∧ putB 4 off = pB 4 off := by
  have hx0 : 0 ≤ off % 4294967296 := by omega
  unfold putA putB
  have hA : pA 4 off = sI off * 1024 + off / 4096 % 1024 := by unfold pA; simp
  have hB : pB 4 off = (1 + off / 8388608 % 2 + sI off) % 2 * 8192 + (1 + off / 4194304 % 2 + sI off) % 2 * 2048 + off / 2 % 2048 := by unfold pB; simp
  rw [hA, hB]
  by_cases hs : off < 0
  · have e : sI off = 1 := by unfold sI; rw [if_pos hs]
    have hc : crossI 4 (off % 4294967296) = off % 4294967296 := by
      unfold crossI
      rw [(get_n _ 24 24 16777216 2 rfl rfl (by decide) (by decide) (by decide) (by decide) hx0 : getI _ 24 24 = _), if_neg (by omega)]
    rw [hc, putTo_4 _ hx0, e]
    have hX : off % 4294967296 = off + 4294967296 := by omega
    rw [hX]
    have f1 : (off + 4294967296) / 16777216 % 2 = 1 := by omega
    have f2 : (off + 4294967296) / 4096 % 1024 = off / 4096 % 1024 := by omega
    have f3 : (off + 4294967296) / 8388608 % 2 = (1 + off / 8388608 % 2 + 1) % 2 := by omega
    have f4 : (off + 4294967296) / 4194304 % 2 = (1 + off / 4194304 % 2 + 1) % 2 := by omega
    have f5 : (off + 4294967296) / 2 % 2048 = off / 2 % 2048 := by omega
    rw [f1, f2, f3, f4, f5]
    refine ⟨?_, ?_⟩
    · show 0 + 1 * 1024 + off / 4096 % 1024 * 1 = 1 * 1024 + off / 4096 % 1024
      generalize off / 4096 % 1024 = q; omega
    · generalize (1 + off / 8388608 % 2 + 1) % 2 = q1
      generalize (1 + off / 4194304 % 2 + 1) % 2 = q2
      generalize off / 2 % 2048 = q3
      show 0 + q1 * 8192 + q2 * 2048 + q3 * 1 = q1 * 8192 + q2 * 2048 + q3
      omega
  · have e : sI off = 0 := by unfold sI; rw [if_neg hs]
    have hm : off % 4294967296 = off := by omega
    have hc : crossI 4 (off % 4294967296) = off - off / 4194304 % 4 * 4194304 + (3 - off / 4194304 % 4) * 4194304 := by
      unfold crossI
      rw [(get_n _ 24 24 16777216 2 rfl rfl (by decide) (by decide) (by decide) (by decide) hx0 : getI _ 24 24 = _), if_pos (by omega), hm, xor_ar _ (by omega) (by omega)]
    have h22 : off / 4194304 = 2 * (off / 8388608 % 2) + off / 4194304 % 2 := by omega
    have hq : 0 ≤ off / 8388608 % 2 ∧ off / 8388608 % 2 ≤ 1 ∧ 0 ≤ off / 4194304 % 2 ∧ off / 4194304 % 2 ≤ 1 := by omega
    have h23 : off / 4194304 % 4 = 2 * (off / 8388608 % 2) + off / 4194304 % 2 := by omega
    have hl : off - off / 4194304 % 4 * 4194304 = off % 4194304 := by omega
    have hr : 0 ≤ off % 4194304 ∧ off % 4194304 < 4194304 := by omega
    have g1 : off / 4096 % 1024 = off % 4194304 / 4096 := by omega
    have g2 : off / 2 % 2048 = off % 4194304 / 2 % 2048 := by omega
    rw [hl, h23] at hc
    rw [hc, putTo_4 _ (by omega), e, g1, g2]
    clear hc h22 h23 hl g1 g2 hA hB hm hx0 e hs
    generalize off / 8388608 % 2 = j at *
    generalize off / 4194304 % 2 = i at *
    generalize off % 4194304 = L at *
    have f1 : (L + (3 - (2 * j + i)) * 4194304) / 16777216 % 2 = 0 := by omega
    have f2 : (L + (3 - (2 * j + i)) * 4194304) / 4096 % 1024 = L / 4096 := by omega
    have f3 : (L + (3 - (2 * j + i)) * 4194304) / 8388608 % 2 = (1 + j + 0) % 2 := by omega
    have f4 : (L + (3 - (2 * j + i)) * 4194304) / 4194304 % 2 = (1 + i + 0) % 2 := by omega
    have f5 : (L + (3 - (2 * j + i)) * 4194304) / 2 % 2048 = L / 2 % 2048 := by omega
    rw [f1, f2, f3, f4, f5]
    refine ⟨?_, ?_⟩
    · show 0 + 0 * 1024 + L / 4096 * 1 = 0 * 1024 + L / 4096
      generalize L / 4096 = q; omega
    · generalize (1 + j + 0) % 2 = q1
      generalize (1 + i + 0) % 2 = q2
      generalize L / 2 % 2048 = q3
      show 0 + q1 * 8192 + q2 * 2048 + q3 * 1 = q1 * 8192 + q2 * 2048 + q3
      omega

theorem put_5 (off : Int) (h1 : 0 ≤ off) (h2 : off ≤ 126) (_h3 : off % 2 = 0) : putA 5 off = pA 5 off ∧ putB 5 off = pB 5 off := by
  have hx0 : 0 ≤ off % 4294967296 := by omega
  have hc : ∀ X, crossI 5 X = X := fun X => by unfold crossI; rw [if_neg (by omega)]
  unfold putA putB
  rw [hc, putTo_5 _ hx0]
  refine ⟨?_, ?_⟩
  · show _ = off / 64 % 2 * 512 + off / 2 % 32 * 8
    dsimp only; omega
  · rfl

/-- a kind's range, out of the test -/
theorem fits_spec {k off : Int} (h : fitsB k off = true) : 1 ≤ k ∧ k ≤ 5 ∧ lowI k ≤ off ∧ off ≤ highI k ∧ off % 2 = 0 := by
  unfold fitsB at h; simpa using h

theorem put_ar (k off : Int) (h : fitsB k off = true) : putA k off = pA k off ∧ putB k off = pB k off := by
  obtain ⟨h1, h2, h3, h4, h5⟩ := fits_spec h
  rcases kinds ⟨h1, h2⟩ with rfl | rfl | rfl | rfl | rfl
  · exact put_1 off h3 h4 h5
  · exact put_2 off h3 h4 h5
  · exact put_3 off h3 h4 h5
  · exact put_4 off h3 h4 h5
  · exact put_5 off h3 h4 h5

end Om
end Go.Proofs.YtioeoiginimjhaaDoor
