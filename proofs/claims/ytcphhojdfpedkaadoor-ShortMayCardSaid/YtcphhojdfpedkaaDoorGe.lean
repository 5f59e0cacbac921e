/- Plain facts on offsets in pieces: what the program's two loops come to, as sums of products; that they are there and back. No memory, no calls; no conditions but those that each fact names. Contracts of the document's own answers on offsets: low, high, Fits, bit, Put, Get. Contracts of the document's own Put and Get of offsets. Contract of the document's own Get of offsets. -/
import Derived.Test.YtcphhojdfpedkaaDoorGb
import Derived.Deep.RegionHeld3
import Derived.Lib.EndianBits

namespace Go.Proofs.YtcphhojdfpedkaaDoor
open Go.ChangeShapes Go.WideShapes Go.ChangeAt Go.RowKit
namespace Om
/-! fields as quotients and rests -/
theorem putU_add {X lo n V : Nat} (hX : X < 4294967296) (h : lo + n ≤ 32) (hz : X / 2 ^ lo % 2 ^ n = 0) (hV : V < 2 ^ n) : Bm.putU X lo n V = X + V * 2 ^ lo := by
  have hlt : V * 2 ^ lo < 2 ^ (lo + n) := by rw [Nat.pow_add, Nat.mul_comm]; exact Nat.mul_lt_mul_of_pos_left hV (Nat.two_pow_pos lo)
  have h32 : 2 ^ (lo + n) ≤ 2 ^ 32 := Nat.pow_le_pow_right (by omega) h
  have e : Bm.putU X lo n V = X ||| V * 2 ^ lo := by
    apply Bm.word_ext (Bm.put_lt _ _ _ _ hX) (Nat.or_lt_two_pow (n := 32) hX (Nat.lt_of_lt_of_le hlt h32))
    intro i hi
    rw [Bm.put_tb h hi, Nat.testBit_or, Nat.testBit_mul_two_pow]
    by_cases h1 : lo ≤ i ∧ i < lo + n
    · have h2 : X.testBit i = false := by
        have h3 := Nat.testBit_mod_two_pow (X / 2 ^ lo) n (i - lo)
        rw [hz, Nat.zero_testBit, Nat.testBit_div_two_pow, show i - lo + lo = i by omega] at h3
        have h4 : i - lo < n := by omega
        simpa [h4] using h3.symm
      rw [if_pos h1, h2]
      simp [h1.1]
    · rw [if_neg h1]
      by_cases h2 : lo ≤ i
      · have h3 : V.testBit (i - lo) = false := Nat.testBit_lt_two_pow (Nat.lt_of_lt_of_le hV (Nat.pow_le_pow_right (by omega) (by omega)))
        simp [h3]
      · simp [h2]
  rw [e]
  have hs := Nat.div_add_mod X (2 ^ (lo + n))
  have hl : X % 2 ^ (lo + n) = X % 2 ^ lo := by rw [Nat.pow_add, Nat.mod_mul, hz]; simp
  have hm := Nat.mod_lt X (Nat.two_pow_pos lo)
  rw [hl] at hs
  generalize X % 2 ^ lo = L at *
  have h5 : V * 2 ^ lo ||| L = V * 2 ^ lo + L := nat_join lo _ _ (by simp) hm
  have h6 : 2 ^ (lo + n) * (X / 2 ^ (lo + n)) ||| L = X := by rw [nat_join (lo + n) _ _ (by simp) (Nat.lt_of_lt_of_le hm (Nat.pow_le_pow_right (by omega) (by omega)))]; exact hs
  have h7 : V * 2 ^ lo + L < 2 ^ (lo + n) := by
    have : V * 2 ^ lo + 2 ^ lo ≤ 2 ^ (lo + n) := by
      rw [Nat.pow_add, ← Nat.succ_mul, Nat.mul_comm (2 ^ lo)]; exact Nat.mul_le_mul_right _ hV
    omega
  have h8 : X ||| V * 2 ^ lo = 2 ^ (lo + n) * (X / 2 ^ (lo + n)) ||| (V * 2 ^ lo ||| L) := by
    rw [Nat.or_comm (V * 2 ^ lo) L, ← Nat.or_assoc, h6]
  rw [h8, h5, nat_join (lo + n) _ _ (by simp) h7]
  omega
theorem putI_add (x v : Int) (hi lo : Nat) (h1 : lo ≤ hi) (h2 : hi < 32) (hx0 : 0 ≤ x) (hx1 : x < 4294967296) (hz : x / 2 ^ lo % 2 ^ (hi + 1 - lo) = 0) (hv0 : 0 ≤ v) (hv1 : v < 2 ^ (hi + 1 - lo)) :
    putI x hi lo v = x + v * 2 ^ lo := by
  obtain ⟨X, rfl⟩ := Int.eq_ofNat_of_zero_le hx0
  obtain ⟨V, rfl⟩ := Int.eq_ofNat_of_zero_le hv0
  unfold putI
  rw [if_pos (by omega)]
  simp only [Int.toNat_natCast]
  rw [putU_add (by omega) (by omega) (by exact_mod_cast hz) (by exact_mod_cast hv1)]
  simp
theorem getI_ar (x : Int) (hi lo : Nat) (h1 : lo ≤ hi) (h2 : hi < 32) (hx0 : 0 ≤ x) : getI x hi lo = x / 2 ^ lo % 2 ^ (hi + 1 - lo) := by
  obtain ⟨X, rfl⟩ := Int.eq_ofNat_of_zero_le hx0
  unfold getI
  rw [if_pos (by omega)]
  simp [Bm.getB]
/-! the two bits that are turned over -/
theorem xor3 : ∀ Z, Z < 1024 → Z ^^^ 3 = Z - Z % 4 + (3 - Z % 4) := by
  have h : ((List.range 1024).all fun Z => Z ^^^ 3 == Z - Z % 4 + (3 - Z % 4)) = true := by decide +kernel
  intro Z hZ
  simpa using List.all_eq_true.1 h Z (List.mem_range.2 hZ)
theorem xor_ar (x : Int) (hx0 : 0 ≤ x) (hx1 : x < 4294967296) : bits .xor .u32 x 12582912 = x - x / 4194304 % 4 * 4194304 + (3 - x / 4194304 % 4) * 4194304 := by
  obtain ⟨X, rfl⟩ := Int.eq_ofNat_of_zero_le hx0
  rw [show (12582912 : Int) = ((12582912 : Nat) : Int) by rfl, u32_xor_nat X 12582912 (by omega) (by decide)]
  have h1 : (X ^^^ 12582912) / 2 ^ 22 = X / 2 ^ 22 ^^^ 3 := by rw [Nat.xor_div_two_pow]
  have h2 : (X ^^^ 12582912) % 2 ^ 22 = X % 2 ^ 22 := by rw [Nat.xor_mod_two_pow]; simp
  rw [xor3 _ (by omega)] at h1
  omega
/-! sums -/
theorem put_n (x v : Int) (hi lo : Nat) (m c : Int) {hi' lo' : Int} (eh : (hi : Int) = hi') (el : (lo : Int) = lo') (hm : 2 ^ lo = m) (hc : 2 ^ (hi + 1 - lo) = c) (h1 : lo ≤ hi) (h2 : hi < 32) (hx0 : 0 ≤ x) (hx1 : x < 4294967296) (hz : x / m % c = 0) (hv0 : 0 ≤ v) (hv1 : v < c) :
    putI x hi' lo' v = x + v * m := by
  subst hm hc eh el
  exact putI_add x v hi lo h1 h2 hx0 hx1 hz hv0 hv1
theorem get_n (x : Int) (hi lo : Nat) (m c : Int) {hi' lo' : Int} (eh : (hi : Int) = hi') (el : (lo : Int) = lo') (hm : 2 ^ lo = m) (hc : 2 ^ (hi + 1 - lo) = c) (h1 : lo ≤ hi) (h2 : hi < 32) (hx0 : 0 ≤ x) : getI x hi' lo' = x / m % c := by
  subst hm hc eh el
  exact getI_ar x hi lo h1 h2 hx0
def sg (v h : Int) : Int := if v < h then v else v - 2 * h
theorem sign_n (x : Int) (n : Nat) (h : Int) {n' : Int} (en : ((n + 1 : Nat) : Int) = n') (hh : 2 ^ n = h) (h2 : n < 32) : signI x n' = sg (x % (2 * h)) h := by
  subst en
  have hp : (0 : Int) < h := by rw [← hh]; exact Int.pow_pos (by decide)
  unfold signI sg
  rw [if_pos (by omega), show (((n + 1 : Nat) : Int) - 1).toNat = n by omega, show ((n + 1 : Nat) : Int).toNat = n + 1 by omega, Int.pow_succ, hh, Int.mul_comm h 2]
  have e1 : x / h = 2 * (x / (2 * h)) + x % (2 * h) / h := by
    have h1 := Int.mul_ediv_add_emod x (2 * h)
    have h3 : x = h * (2 * (x / (2 * h))) + x % (2 * h) := by rw [← Int.mul_assoc, Int.mul_comm h 2]; omega
    calc x / h = (h * (2 * (x / (2 * h))) + x % (2 * h)) / h := by rw [← h3]
      _ = 2 * (x / (2 * h)) + x % (2 * h) / h := by rw [Int.add_comm, Int.add_mul_ediv_left _ _ (by omega), Int.add_comm]
  have h4 := Int.emod_nonneg x (show 2 * h ≠ 0 by omega)
  have h5 := Int.emod_lt_of_pos x (show 0 < 2 * h by omega)
  by_cases hb : x % (2 * h) < h
  · rw [if_pos hb, if_neg]
    rw [e1, Int.ediv_eq_zero_of_lt h4 hb]; omega
  · have h6 : x % (2 * h) / h = 1 := by
      have : x % (2 * h) = (x % (2 * h) - h) + h * 1 := by omega
      rw [this, Int.add_mul_ediv_left _ _ (by omega), Int.ediv_eq_zero_of_lt (by omega) (by omega)]; omega
    rw [if_neg hb, if_pos]
    rw [e1, h6]; omega
def gA (k x y : Int) : Int :=
  if k = 1 then 2 * sg (x % 256) 128
  else if k = 2 then 2 * sg (x % 2048) 1024
  else if k = 3 then 2 * sg (x / 1024 % 2 * 524288 + y / 2048 % 2 * 262144 + y / 8192 % 2 * 131072 + x % 64 * 2048 + y % 2048) 524288
  else if k = 4 then 2 * sg (x / 1024 % 2 * 8388608 + (1 + y / 8192 % 2 + x / 1024 % 2) % 2 * 4194304 + (1 + y / 2048 % 2 + x / 1024 % 2) % 2 * 2097152 + x % 1024 * 2048 + y % 2048) 8388608
  else if k = 5 then 2 * (x / 512 % 2 * 32 + x / 8 % 32)
  else 0
theorem getTo_1 (x y : Int) (hx0 : 0 ≤ x) (_hy0 : 0 ≤ y) : getTo 1 x y 14 = 0 + (x / 1 % 256) * 2 := by
  have e : getTo 1 x y 14 = putI 0 8 1 (getI x 7 0) := by simp [getTo, getStep, pieceAt, pieceTab]
  rw [e, (get_n x 7 0 1 256 rfl rfl (by decide) (by decide) (by decide) (by decide) hx0 : getI x 7 0 = _)]
  rw [(put_n (0) (x / 1 % 256) 8 1 2 256 rfl rfl (by decide) (by decide) (by decide) (by decide) (by omega) (by omega) (by omega) (by omega) (by omega) : putI (0) 8 1 (x / 1 % 256) = _)]
theorem getTo_2 (x y : Int) (hx0 : 0 ≤ x) (_hy0 : 0 ≤ y) : getTo 2 x y 14 = 0 + (x / 1 % 2048) * 2 := by
  have e : getTo 2 x y 14 = putI 0 11 1 (getI x 10 0) := by simp [getTo, getStep, pieceAt, pieceTab]
  rw [e, (get_n x 10 0 1 2048 rfl rfl (by decide) (by decide) (by decide) (by decide) hx0 : getI x 10 0 = _)]
  rw [(put_n (0) (x / 1 % 2048) 11 1 2 2048 rfl rfl (by decide) (by decide) (by decide) (by decide) (by omega) (by omega) (by omega) (by omega) (by omega) : putI (0) 11 1 (x / 1 % 2048) = _)]
theorem getTo_3 (x y : Int) (hx0 : 0 ≤ x) (hy0 : 0 ≤ y) : getTo 3 x y 14 = 0 + (x / 1024 % 2) * 1048576 + (x / 1 % 64) * 4096 + (y / 8192 % 2) * 262144 + (y / 2048 % 2) * 524288 + (y / 1 % 2048) * 2 := by
  have e : getTo 3 x y 14 = putI (putI (putI (putI (putI 0 20 20 (getI x 10 10)) 17 12 (getI x 5 0)) 18 18 (getI y 13 13)) 19 19 (getI y 11 11)) 11 1 (getI y 10 0) := by simp [getTo, getStep, pieceAt, pieceTab]
  rw [e, (get_n x 10 10 1024 2 rfl rfl (by decide) (by decide) (by decide) (by decide) hx0 : getI x 10 10 = _), (get_n x 5 0 1 64 rfl rfl (by decide) (by decide) (by decide) (by decide) hx0 : getI x 5 0 = _), (get_n y 13 13 8192 2 rfl rfl (by decide) (by decide) (by decide) (by decide) hy0 : getI y 13 13 = _), (get_n y 11 11 2048 2 rfl rfl (by decide) (by decide) (by decide) (by decide) hy0 : getI y 11 11 = _), (get_n y 10 0 1 2048 rfl rfl (by decide) (by decide) (by decide) (by decide) hy0 : getI y 10 0 = _)]
  rw [(put_n (0) (x / 1024 % 2) 20 20 1048576 2 rfl rfl (by decide) (by decide) (by decide) (by decide) (by omega) (by omega) (by omega) (by omega) (by omega) : putI (0) 20 20 (x / 1024 % 2) = _)]
  rw [(put_n (0 + (x / 1024 % 2) * 1048576) (x / 1 % 64) 17 12 4096 64 rfl rfl (by decide) (by decide) (by decide) (by decide) (by omega) (by omega) (by omega) (by omega) (by omega) : putI (0 + (x / 1024 % 2) * 1048576) 17 12 (x / 1 % 64) = _)]
  rw [(put_n (0 + (x / 1024 % 2) * 1048576 + (x / 1 % 64) * 4096) (y / 8192 % 2) 18 18 262144 2 rfl rfl (by decide) (by decide) (by decide) (by decide) (by omega) (by omega) (by omega) (by omega) (by omega) : putI (0 + (x / 1024 % 2) * 1048576 + (x / 1 % 64) * 4096) 18 18 (y / 8192 % 2) = _)]
  rw [(put_n (0 + (x / 1024 % 2) * 1048576 + (x / 1 % 64) * 4096 + (y / 8192 % 2) * 262144) (y / 2048 % 2) 19 19 524288 2 rfl rfl (by decide) (by decide) (by decide) (by decide) (by omega) (by omega) (by omega) (by omega) (by omega) : putI (0 + (x / 1024 % 2) * 1048576 + (x / 1 % 64) * 4096 + (y / 8192 % 2) * 262144) 19 19 (y / 2048 % 2) = _)]
  rw [(put_n (0 + (x / 1024 % 2) * 1048576 + (x / 1 % 64) * 4096 + (y / 8192 % 2) * 262144 + (y / 2048 % 2) * 524288) (y / 1 % 2048) 11 1 2 2048 rfl rfl (by decide) (by decide) (by decide) (by decide) (by omega) (by omega) (by omega) (by omega) (by omega) : putI (0 + (x / 1024 % 2) * 1048576 + (x / 1 % 64) * 4096 + (y / 8192 % 2) * 262144 + (y / 2048 % 2) * 524288) 11 1 (y / 1 % 2048) = _)]
theorem getTo_4 (x y : Int) (hx0 : 0 ≤ x) (hy0 : 0 ≤ y) : getTo 4 x y 14 = 0 + (x / 1024 % 2) * 16777216 + (x / 1 % 1024) * 4096 + (y / 8192 % 2) * 8388608 + (y / 2048 % 2) * 4194304 + (y / 1 % 2048) * 2 := by
  have e : getTo 4 x y 14 = putI (putI (putI (putI (putI 0 24 24 (getI x 10 10)) 21 12 (getI x 9 0)) 23 23 (getI y 13 13)) 22 22 (getI y 11 11)) 11 1 (getI y 10 0) := by simp [getTo, getStep, pieceAt, pieceTab]
  rw [e, (get_n x 10 10 1024 2 rfl rfl (by decide) (by decide) (by decide) (by decide) hx0 : getI x 10 10 = _), (get_n x 9 0 1 1024 rfl rfl (by decide) (by decide) (by decide) (by decide) hx0 : getI x 9 0 = _), (get_n y 13 13 8192 2 rfl rfl (by decide) (by decide) (by decide) (by decide) hy0 : getI y 13 13 = _), (get_n y 11 11 2048 2 rfl rfl (by decide) (by decide) (by decide) (by decide) hy0 : getI y 11 11 = _), (get_n y 10 0 1 2048 rfl rfl (by decide) (by decide) (by decide) (by decide) hy0 : getI y 10 0 = _)]
  rw [(put_n (0) (x / 1024 % 2) 24 24 16777216 2 rfl rfl (by decide) (by decide) (by decide) (by decide) (by omega) (by omega) (by omega) (by omega) (by omega) : putI (0) 24 24 (x / 1024 % 2) = _)]
  rw [(put_n (0 + (x / 1024 % 2) * 16777216) (x / 1 % 1024) 21 12 4096 1024 rfl rfl (by decide) (by decide) (by decide) (by decide) (by omega) (by omega) (by omega) (by omega) (by omega) : putI (0 + (x / 1024 % 2) * 16777216) 21 12 (x / 1 % 1024) = _)]
  rw [(put_n (0 + (x / 1024 % 2) * 16777216 + (x / 1 % 1024) * 4096) (y / 8192 % 2) 23 23 8388608 2 rfl rfl (by decide) (by decide) (by decide) (by decide) (by omega) (by omega) (by omega) (by omega) (by omega) : putI (0 + (x / 1024 % 2) * 16777216 + (x / 1 % 1024) * 4096) 23 23 (y / 8192 % 2) = _)]
  rw [(put_n (0 + (x / 1024 % 2) * 16777216 + (x / 1 % 1024) * 4096 + (y / 8192 % 2) * 8388608) (y / 2048 % 2) 22 22 4194304 2 rfl rfl (by decide) (by decide) (by decide) (by decide) (by omega) (by omega) (by omega) (by omega) (by omega) : putI (0 + (x / 1024 % 2) * 16777216 + (x / 1 % 1024) * 4096 + (y / 8192 % 2) * 8388608) 22 22 (y / 2048 % 2) = _)]
  rw [(put_n (0 + (x / 1024 % 2) * 16777216 + (x / 1 % 1024) * 4096 + (y / 8192 % 2) * 8388608 + (y / 2048 % 2) * 4194304) (y / 1 % 2048) 11 1 2 2048 rfl rfl (by decide) (by decide) (by decide) (by decide) (by omega) (by omega) (by omega) (by omega) (by omega) : putI (0 + (x / 1024 % 2) * 16777216 + (x / 1 % 1024) * 4096 + (y / 8192 % 2) * 8388608 + (y / 2048 % 2) * 4194304) 11 1 (y / 1 % 2048) = _)]
theorem getTo_5 (x y : Int) (hx0 : 0 ≤ x) (_hy0 : 0 ≤ y) : getTo 5 x y 14 = 0 + (x / 512 % 2) * 64 + (x / 8 % 32) * 2 := by
  have e : getTo 5 x y 14 = putI (putI 0 6 6 (getI x 9 9)) 5 1 (getI x 7 3) := by simp [getTo, getStep, pieceAt, pieceTab]
  rw [e, (get_n x 9 9 512 2 rfl rfl (by decide) (by decide) (by decide) (by decide) hx0 : getI x 9 9 = _), (get_n x 7 3 8 32 rfl rfl (by decide) (by decide) (by decide) (by decide) hx0 : getI x 7 3 = _)]
  rw [(put_n (0) (x / 512 % 2) 6 6 64 2 rfl rfl (by decide) (by decide) (by decide) (by decide) (by omega) (by omega) (by omega) (by omega) (by omega) : putI (0) 6 6 (x / 512 % 2) = _)]
  rw [(put_n (0 + (x / 512 % 2) * 64) (x / 8 % 32) 5 1 2 32 rfl rfl (by decide) (by decide) (by decide) (by decide) (by omega) (by omega) (by omega) (by omega) (by omega) : putI (0 + (x / 512 % 2) * 64) 5 1 (x / 8 % 32) = _)]
theorem getV_1 (x y : Int) (hx0 : 0 ≤ x) (hy0 : 0 ≤ y) : getV 1 x y = gA 1 x y := by
  have e : getV 1 x y = signI (crossI 1 (getTo 1 x y 14)) 9 := by kernel_rfl
  have hc : ∀ X, crossI 1 X = X := fun X => by unfold crossI; rw [if_neg (by omega)]
  rw [e, hc, getTo_1 x y hx0 hy0, (sign_n _ 8 256 rfl (by decide) (by decide) : signI _ 9 = _)]
  unfold gA sg
  simp only [if_true]
  split <;> split <;> omega
theorem getV_2 (x y : Int) (hx0 : 0 ≤ x) (hy0 : 0 ≤ y) : getV 2 x y = gA 2 x y := by
  have e : getV 2 x y = signI (crossI 2 (getTo 2 x y 14)) 12 := by kernel_rfl
  have hc : ∀ X, crossI 2 X = X := fun X => by unfold crossI; rw [if_neg (by omega)]
  rw [e, hc, getTo_2 x y hx0 hy0, (sign_n _ 11 2048 rfl (by decide) (by decide) : signI _ 12 = _)]
  unfold gA sg
  simp only [if_true, show ¬ ((2 : Int) = 1) from by decide, if_false]
  split <;> split <;> omega
theorem getV_3 (x y : Int) (hx0 : 0 ≤ x) (hy0 : 0 ≤ y) : getV 3 x y = gA 3 x y := by
  have e : getV 3 x y = signI (crossI 3 (getTo 3 x y 14)) 21 := by kernel_rfl
  have hc : ∀ X, crossI 3 X = X := fun X => by unfold crossI; rw [if_neg (by omega)]
  rw [e, hc, getTo_3 x y hx0 hy0, (sign_n _ 20 1048576 rfl (by decide) (by decide) : signI _ 21 = _)]
  unfold gA sg
  simp only [if_true, show ¬ ((3 : Int) = 1) from by decide, show ¬ ((3 : Int) = 2) from by decide, if_false]
  split <;> split <;> omega
theorem getV_4 (x y : Int) (hx0 : 0 ≤ x) (hy0 : 0 ≤ y) : getV 4 x y = gA 4 x y := by
  have e : getV 4 x y = signI (crossI 4 (getTo 4 x y 14)) 25 := by kernel_rfl
  rw [e, getTo_4 x y hx0 hy0]
  have hg : gA 4 x y = 2 * sg (x / 1024 % 2 * 8388608 + (1 + y / 8192 % 2 + x / 1024 % 2) % 2 * 4194304 + (1 + y / 2048 % 2 + x / 1024 % 2) % 2 * 2097152 + x % 1024 * 2048 + y % 2048) 8388608 := by kernel_rfl
  rw [hg, (sign_n _ 24 16777216 rfl (by decide) (by decide) : signI _ 25 = _)]
  have a1 : 0 ≤ x / 1024 % 2 ∧ x / 1024 % 2 ≤ 1 := by omega
  have a2 : 0 ≤ x / 1 % 1024 ∧ x / 1 % 1024 < 1024 := by omega
  have a3 : 0 ≤ y / 8192 % 2 ∧ y / 8192 % 2 ≤ 1 := by omega
  have a4 : 0 ≤ y / 2048 % 2 ∧ y / 2048 % 2 ≤ 1 := by omega
  have a5 : 0 ≤ y / 1 % 2048 ∧ y / 1 % 2048 < 2048 := by omega
  have a6 : x % 1024 = x / 1 % 1024 := by omega
  have a7 : y % 2048 = y / 1 % 2048 := by omega
  rw [a6, a7]
  clear a6 a7 hg e hx0 hy0
  generalize x / 1024 % 2 = s at *
  generalize x / 1 % 1024 = f at *
  generalize y / 8192 % 2 = j at *
  generalize y / 2048 % 2 = i at *
  generalize y / 1 % 2048 = g at *
  have hX : ∀ X : Int, X = 0 + s * 16777216 + f * 4096 + j * 8388608 + i * 4194304 + g * 2 → sg (crossI 4 X % (2 * 16777216)) 16777216 = 2 * sg (s * 8388608 + (1 + j + s) % 2 * 4194304 + (1 + i + s) % 2 * 2097152 + f * 2048 + g) 8388608 := by
    intro X hX
    unfold crossI
    rw [(get_n X 24 24 16777216 2 rfl rfl (by decide) (by decide) (by decide) (by decide) (by omega) : getI X 24 24 = _), xor_ar X (by omega) (by omega)]
    have h1 : X / 16777216 % 2 = s := by omega
    have h2 : X / 4194304 % 4 = j * 2 + i := by omega
    rw [h1, h2]
    rcases (by omega : s = 0 ∨ s = 1) with rfl | rfl
    · rw [if_pos (⟨rfl, rfl⟩ : (4 : Int) = 4 ∧ (0 : Int) = 0)]
      unfold sg
      split <;> split <;> omega
    · rw [if_neg (show ¬ ((4 : Int) = 4 ∧ (1 : Int) = 0) from fun q => absurd q.2 (by decide))]
      unfold sg
      split <;> split <;> omega
  exact hX _ rfl
theorem getV_5 (x y : Int) (hx0 : 0 ≤ x) (hy0 : 0 ≤ y) : getV 5 x y = gA 5 x y := by
  have e : getV 5 x y = signI (crossI 5 (getTo 5 x y 14)) 8 := by kernel_rfl
  have hc : ∀ X, crossI 5 X = X := fun X => by unfold crossI; rw [if_neg (by omega)]
  rw [e, hc, getTo_5 x y hx0 hy0, (sign_n _ 7 128 rfl (by decide) (by decide) : signI _ 8 = _)]
  show _ = 2 * (x / 512 % 2 * 32 + x / 8 % 32)
  unfold sg
  split <;> omega
theorem getV_ar (k x y : Int) (hk : 1 ≤ k ∧ k ≤ 5) (hx0 : 0 ≤ x) (hy0 : 0 ≤ y) : getV k x y = gA k x y := by
  rcases kinds hk with rfl | rfl | rfl | rfl | rfl
  · exact getV_1 x y hx0 hy0
  · exact getV_2 x y hx0 hy0
  · exact getV_3 x y hx0 hy0
  · exact getV_4 x y hx0 hy0
  · exact getV_5 x y hx0 hy0
def sI (off : Int) : Int := if off < 0 then 1 else 0
def pA (k off : Int) : Int :=
  if k = 1 then off / 2 % 256
  else if k = 2 then off / 2 % 2048
  else if k = 3 then sI off * 1024 + off / 4096 % 64
  else if k = 4 then sI off * 1024 + off / 4096 % 1024
  else off / 64 % 2 * 512 + off / 2 % 32 * 8
def pB (k off : Int) : Int :=
  if k = 3 then off / 262144 % 2 * 8192 + off / 524288 % 2 * 2048 + off / 2 % 2048
  else if k = 4 then (1 + off / 8388608 % 2 + sI off) % 2 * 8192 + (1 + off / 4194304 % 2 + sI off) % 2 * 2048 + off / 2 % 2048
  else 0
theorem fits_spec {k off : Int} (h : fitsB k off = true) : 1 ≤ k ∧ k ≤ 5 ∧ lowI k ≤ off ∧ off ≤ highI k ∧ off % 2 = 0 := by
  unfold fitsB at h; simpa using h
end Om
end Go.Proofs.YtcphhojdfpedkaaDoor

namespace Go.Proofs.YtcphhojdfpedkaaDoor
open Go.ChangeShapes Go.WideShapes Go.ChangeAt Go.RowKit
theorem ret_pair {a b c d : Int} (h1 : a = c) (h2 : b = d) : Ending.returned (.tuple #[.int .i64 a, .int .i64 b]) = .returned (.tuple #[.int .i64 c, .int .i64 d]) := by rw [h1, h2]
theorem i64_mask (n : Int) (k : Nat) (m c : Int) (hm : (BitVec.ofInt 64 m).toNat = 2 ^ k - 1) (hc : c = 2 ^ k) (hk : k ≤ 62) : bits .and .i64 n m = n % c := by
  subst hc
  have key : (BitVec.ofInt 64 n &&& BitVec.ofInt 64 m).toNat = (n % ((2 ^ 64 : Nat) : Int)).toNat % 2 ^ k := by
    rw [BitVec.toNat_and, BitVec.toNat_ofInt, hm, Nat.and_two_pow_sub_one_eq_mod]
  show IntKind.i64.wrap ((BitVec.ofInt 64 n &&& BitVec.ofInt 64 m).toNat : Nat) = n % 2 ^ k
  have hp : 2 ^ k ≤ 2 ^ 62 := Nat.pow_le_pow_right (by omega) hk
  have hpos := Nat.two_pow_pos k
  have hlt := Nat.mod_lt (n % ((2 ^ 64 : Nat) : Int)).toNat hpos
  have hd : ((2 : Int) ^ k) ∣ 2 ^ 64 := ⟨2 ^ (64 - k), by rw [← Int.pow_add]; congr 1; omega⟩
  have e : (((n % ((2 ^ 64 : Nat) : Int)).toNat % 2 ^ k : Nat) : Int) = n % 2 ^ k := by
    have h0 : 0 ≤ n % ((2 ^ 64 : Nat) : Int) := Int.emod_nonneg _ (by decide)
    rw [Int.natCast_emod, Int.toNat_of_nonneg h0]
    have : (((2 ^ 64 : Nat) : Int)) = 2 ^ 64 := by decide
    rw [this, show ((2 ^ k : Nat) : Int) = 2 ^ k by simp, Int.emod_emod_of_dvd _ hd]
  rw [key, IntWalk.i64_in _ (by omega), e]
theorem low_c (k : Int) (w : World) :
    Calls Tryd.prog 76 #[.int .i64 k] w fun e w' => e = .returned (.int .i64 (lowI k)) ∧ ∃ n, w' = w.drewN n := by
  unfold lowI
  by_cases h1 : k = 1
  · subst h1
    go_enter Tryd.func76, Tryd.ntmps76
    go_wp2
    go_ret
    exact ⟨rfl, 0, rfl⟩
  · by_cases h2 : k = 2
    · subst h2
      go_enter Tryd.func76, Tryd.ntmps76
      go_wp2
      go_ret
      exact ⟨rfl, 0, rfl⟩
    · by_cases h3 : k = 3
      · subst h3
        go_enter Tryd.func76, Tryd.ntmps76
        go_wp2
        go_ret
        exact ⟨rfl, 0, rfl⟩
      · by_cases h4 : k = 4
        · subst h4
          go_enter Tryd.func76, Tryd.ntmps76
          go_wp2
          go_ret
          exact ⟨rfl, 0, rfl⟩
        · rw [if_neg h1, if_neg h2, if_neg h3, if_neg h4]
          have b1 : (k == 1) = false := by simp [h1]
          have b2 : (k == 2) = false := by simp [h2]
          have b3 : (k == 3) = false := by simp [h3]
          have b4 : (k == 4) = false := by simp [h4]
          clear h1 h2 h3 h4
          go_enter Tryd.func76, Tryd.ntmps76
          go_wp2
          go_ret
          exact ⟨rfl, 0, rfl⟩
theorem low_bd (k : Int) : -16777216 ≤ lowI k ∧ lowI k ≤ 0 := by
  unfold lowI
  repeat' split
  all_goals omega
theorem high_c (k : Int) (w : World) :
    Calls Tryd.prog 77 #[.int .i64 k] w fun e w' => e = .returned (.int .i64 (highI k)) ∧ ∃ n, w' = w.drewN n := by
  have hl := low_bd k
  by_cases h : k = 5
  · subst h
    clear hl
    go_enter Tryd.func77, Tryd.ntmps77
    go_wp2
    go_ret
    exact ⟨rfl, 0, rfl⟩
  · have e : highI k = -lowI k - 2 := by unfold highI; rw [if_neg h]
    have b : (k == 5) = false := by simp [h]
    rw [e]
    clear h e
    obtain ⟨hl0, hl1⟩ := hl
    go_enter Tryd.func77, Tryd.ntmps77
    go_wp2_with ((go_at_call 76; refine (low_c _ _).mono ?_; rintro e w' ⟨rfl, n, rfl⟩))
    go_ret
    exact ⟨ret_int (by first | rfl | omega | (simp only [RowKit.wrap64]; omega)), n, rfl⟩
theorem bit_c (off i : Int) (w : World) (h0 : 0 ≤ i) (h1 : i < 64) :
    Calls Tryd.prog 75 #[.int .i64 off, .int .i64 i] w fun e w' => e = .returned (.int .i64 (off / 2 ^ i.toNat % 2)) ∧ ∃ n, w' = w.drewN n := by
  go_enter Tryd.func75, Tryd.ntmps75
  go_wp2
  go_ret
  exact ⟨ret_int (i64_mask _ 1 1 2 (by decide) (by decide) (by decide)), 0, rfl⟩
theorem rfits_c (k off : Int) (w : World) :
    Calls Tryd.prog 53 #[.int .i64 k, .int .i64 off] w fun e w' => e = .returned (.bool (fitsB k off)) ∧ ∃ n, w' = w.drewN n := by
  by_cases hk1 : 1 ≤ k
  · by_cases hk2 : k ≤ 5
    · by_cases hp : off % 2 = 0
      · have ht : (off.tmod 2 == 0) = true := by rw [tmod2]; simp [hp]
        by_cases hl : lowI k ≤ off
        · have hR : fitsB k off = decide (off ≤ highI k) := by unfold fitsB; simp [hk1, hk2, hl, hp]
          rw [hR]
          clear hR hp
          go_enter Tryd.func53, Tryd.ntmps53
          go_wp2_with (first | (go_at_call 76; refine (low_c _ _).mono ?_; rintro e w' ⟨rfl, n, rfl⟩) | (go_at_call 77; refine (high_c _ _).mono ?_; rintro e w' ⟨rfl, n2, rfl⟩))
          go_ret
          exact ⟨rfl, n + n2, rfl⟩
        · have hR : fitsB k off = false := by unfold fitsB; simp; omega
          rw [hR]
          clear hR hp
          go_enter Tryd.func53, Tryd.ntmps53
          go_wp2_with (first | (go_at_call 76; refine (low_c _ _).mono ?_; rintro e w' ⟨rfl, n, rfl⟩))
          go_ret
          exact ⟨rfl, n, rfl⟩
      · have ht : (off.tmod 2 == 0) = false := by rw [tmod2]; simp [hp]
        have hR : fitsB k off = false := by unfold fitsB; simp [hp]
        rw [hR]
        clear hR hp
        go_enter Tryd.func53, Tryd.ntmps53
        go_wp2
        go_ret
        exact ⟨rfl, 0, rfl⟩
    · have hR : fitsB k off = false := by unfold fitsB; simp [hk2]
      rw [hR]
      clear hR
      go_enter Tryd.func53, Tryd.ntmps53
      go_wp2
      go_ret
      exact ⟨rfl, 0, rfl⟩
  · have hR : fitsB k off = false := by unfold fitsB; simp [hk1]
    rw [hR]
    clear hR
    go_enter Tryd.func53, Tryd.ntmps53
    go_wp2
    go_ret
    exact ⟨rfl, 0, rfl⟩
end Go.Proofs.YtcphhojdfpedkaaDoor

namespace Go.Proofs.YtcphhojdfpedkaaDoor
open Go.ChangeShapes Go.WideShapes Go.ChangeAt Go.RowKit
theorem rput_no (k off : Int) (w : World) (hf : fitsB k off = false) :
    Calls Tryd.prog 52 #[.int .i64 k, .int .i64 off] w fun e w' => e = .returned (.tuple #[.int .i64 0, .int .i64 0]) ∧ ∃ n, w' = w.drewN n := by
  go_enter Tryd.func52, Tryd.ntmps52
  go_wp2_with ((go_at_call 53; refine (rfits_c _ _ _).mono ?_; rintro e w' ⟨rfl, n, rfl⟩; rw [hf]))
  go_ret2
  exact ⟨rfl, n, rfl⟩
theorem or64 (i : Nat) (c x y : Int) (hc : 2 ^ i = c) (hi : i ≤ 60) (hx0 : 0 ≤ x) (hx : x % c = 0) (hx1 : x < 1152921504606846976) (hy0 : 0 ≤ y) (hy : y < c) : bits .or .i64 x y = x + y := by
  subst hc
  have hp : 2 ^ i ≤ 2 ^ 60 := Nat.pow_le_pow_right (by omega) hi
  have e : ((2 : Int) ^ i) = ((2 ^ i : Nat) : Int) := by simp
  exact bits_join .i64 62 (by decide) (fun n h0 h1 => IntWalk.i64_in n (by omega)) i x y hx0 hx (by omega) hy0 hy (by omega)
theorem or32 (i : Nat) (c x y : Int) (hc : 2 ^ i = c) (hi : i ≤ 32) (hx0 : 0 ≤ x) (hx : x % c = 0) (hx1 : x < 4294967296) (hy0 : 0 ≤ y) (hy : y < c) : bits .or .u32 x y = x + y := by
  subst hc
  have hp : 2 ^ i ≤ 2 ^ 32 := Nat.pow_le_pow_right (by omega) hi
  have e : ((2 : Int) ^ i) = ((2 ^ i : Nat) : Int) := by simp
  exact bits_join .u32 32 (by decide) (fun n h0 h1 => by rw [IntKind.wrap_u32]; omega) i x y hx0 hx (by omega) hy0 hy (by omega)
theorem rput_1y (off : Int) (w : World) (hf : fitsB 1 off = true) (hn : off < 0) :
    Calls Tryd.prog 52 #[.int .i64 1, .int .i64 off] w fun e w' => e = .returned (.tuple #[.int .i64 (Om.pA 1 off), .int .i64 (Om.pB 1 off)]) ∧ ∃ n, w' = w.drewN n := by
  obtain ⟨_, _, h3, h4, h5⟩ := Om.fits_spec hf
  replace h3 : -256 ≤ off := h3
  replace h4 : off ≤ 254 := h4
  clear h5
  go_enter Tryd.func52, Tryd.ntmps52
  go_wp2_with (first
    | (go_at_call 53; refine (rfits_c _ _ _).mono ?_; rintro e w' ⟨rfl, n, rfl⟩; rw [hf])
    | (go_at_call 75; refine (bit_c _ _ _ (by decide) (by decide)).mono ?_; rintro e w' ⟨rfl, n2, rfl⟩))
  go_ret2
  refine ⟨ret_pair ?_ ?_, _, rfl⟩
  · exact i64_mask _ 8 255 256 (by decide) (by decide) (by decide)
  · rfl
theorem rput_1n (off : Int) (w : World) (hf : fitsB 1 off = true) (hn : ¬ off < 0) :
    Calls Tryd.prog 52 #[.int .i64 1, .int .i64 off] w fun e w' => e = .returned (.tuple #[.int .i64 (Om.pA 1 off), .int .i64 (Om.pB 1 off)]) ∧ ∃ n, w' = w.drewN n := by
  obtain ⟨_, _, h3, h4, h5⟩ := Om.fits_spec hf
  replace h3 : -256 ≤ off := h3
  replace h4 : off ≤ 254 := h4
  clear h5
  go_enter Tryd.func52, Tryd.ntmps52
  go_wp2_with (first
    | (go_at_call 53; refine (rfits_c _ _ _).mono ?_; rintro e w' ⟨rfl, n, rfl⟩; rw [hf])
    | (go_at_call 75; refine (bit_c _ _ _ (by decide) (by decide)).mono ?_; rintro e w' ⟨rfl, n2, rfl⟩))
  go_ret2
  refine ⟨ret_pair ?_ ?_, _, rfl⟩
  · exact i64_mask _ 8 255 256 (by decide) (by decide) (by decide)
  · rfl
theorem rput_2y (off : Int) (w : World) (hf : fitsB 2 off = true) (hn : off < 0) :
    Calls Tryd.prog 52 #[.int .i64 2, .int .i64 off] w fun e w' => e = .returned (.tuple #[.int .i64 (Om.pA 2 off), .int .i64 (Om.pB 2 off)]) ∧ ∃ n, w' = w.drewN n := by
  obtain ⟨_, _, h3, h4, h5⟩ := Om.fits_spec hf
  replace h3 : -2048 ≤ off := h3
  replace h4 : off ≤ 2046 := h4
  clear h5
  go_enter Tryd.func52, Tryd.ntmps52
  go_wp2_with (first
    | (go_at_call 53; refine (rfits_c _ _ _).mono ?_; rintro e w' ⟨rfl, n, rfl⟩; rw [hf])
    | (go_at_call 75; refine (bit_c _ _ _ (by decide) (by decide)).mono ?_; rintro e w' ⟨rfl, n2, rfl⟩))
  go_ret2
  refine ⟨ret_pair ?_ ?_, _, rfl⟩
  · exact i64_mask _ 11 2047 2048 (by decide) (by decide) (by decide)
  · rfl
theorem rput_2n (off : Int) (w : World) (hf : fitsB 2 off = true) (hn : ¬ off < 0) :
    Calls Tryd.prog 52 #[.int .i64 2, .int .i64 off] w fun e w' => e = .returned (.tuple #[.int .i64 (Om.pA 2 off), .int .i64 (Om.pB 2 off)]) ∧ ∃ n, w' = w.drewN n := by
  obtain ⟨_, _, h3, h4, h5⟩ := Om.fits_spec hf
  replace h3 : -2048 ≤ off := h3
  replace h4 : off ≤ 2046 := h4
  clear h5
  go_enter Tryd.func52, Tryd.ntmps52
  go_wp2_with (first
    | (go_at_call 53; refine (rfits_c _ _ _).mono ?_; rintro e w' ⟨rfl, n, rfl⟩; rw [hf])
    | (go_at_call 75; refine (bit_c _ _ _ (by decide) (by decide)).mono ?_; rintro e w' ⟨rfl, n2, rfl⟩))
  go_ret2
  refine ⟨ret_pair ?_ ?_, _, rfl⟩
  · exact i64_mask _ 11 2047 2048 (by decide) (by decide) (by decide)
  · rfl
theorem rput_5n (off : Int) (w : World) (hf : fitsB 5 off = true) (_hn : ¬ off < 0) :
    Calls Tryd.prog 52 #[.int .i64 5, .int .i64 off] w fun e w' => e = .returned (.tuple #[.int .i64 (Om.pA 5 off), .int .i64 (Om.pB 5 off)]) ∧ ∃ n, w' = w.drewN n := by
  obtain ⟨_, _, h3, h4, h5⟩ := Om.fits_spec hf
  replace h3 : 0 ≤ off := h3
  replace h4 : off ≤ 126 := h4
  clear h5
  go_enter Tryd.func52, Tryd.ntmps52
  go_wp2_with (first
    | (go_at_call 53; refine (rfits_c _ _ _).mono ?_; rintro e w' ⟨rfl, n, rfl⟩; rw [hf])
    | (go_at_call 75; refine (bit_c _ _ _ (by decide) (by decide)).mono ?_; rintro e w' ⟨rfl, n2, rfl⟩))
  go_ret2
  refine ⟨ret_pair ?_ ?_, _, rfl⟩
  · show bits .or .i64 (off / 64 % 2 * 512) (wrap64 (bits .and .i64 (off / 2) 31 * 8)) = off / 64 % 2 * 512 + off / 2 % 32 * 8
    rw [i64_mask _ 5 31 32 (by decide) (by decide) (by decide), show wrap64 (off / 2 % 32 * 8) = off / 2 % 32 * 8 by unfold wrap64; omega, or64 9 512 _ _ (by decide) (by decide) (by omega) (by omega) (by omega) (by omega) (by omega)]
  · rfl
end Go.Proofs.YtcphhojdfpedkaaDoor

namespace Go.Proofs.YtcphhojdfpedkaaDoor
open Go.ChangeShapes Go.WideShapes Go.ChangeAt Go.RowKit
set_option maxHeartbeats 1000000 in
theorem orget_1 (a b : Int) (w : World) :
    Calls Tryd.prog 49 #[.int .i64 1, .int .i64 a, .int .i64 b] w fun e w' => e = .returned (.int .i64 (Om.gA 1 (a % 4294967296) (b % 4294967296))) ∧ ∃ n, w' = w.drewN n := by
  obtain ⟨x, e0⟩ : ∃ h, a % 4294967296 = h := ⟨_, rfl⟩
  obtain ⟨y, e1⟩ : ∃ h, b % 4294967296 = h := ⟨_, rfl⟩
  have hx0 : 0 ≤ x := by omega
  have hx1 : x < 4294967296 := by omega
  rw [e0, e1]
  have ts := (Om.get_n x 10 10 1024 2 rfl rfl (by decide) (by decide) (by decide) (by decide) hx0 : getI x 10 10 = _)
  obtain ⟨s, es⟩ : ∃ q, getI x 10 10 = q := ⟨_, rfl⟩
  rw [es] at ts
  have hs0 : 0 ≤ s := by omega
  have hs1 : s < 2 := by omega
  have Ts := Lib.hid ts
  clear ts
  have u0 := (Om.sign_n x 7 128 rfl (by decide) (by decide) : signI x 8 = _)
  obtain ⟨U, eU⟩ : ∃ q, signI x 8 = q := ⟨_, rfl⟩
  rw [eU] at u0
  have hU : -128 ≤ U ∧ U < 128 := by rw [u0]; unfold Om.sg; split <;> omega
  obtain ⟨hU0, hU1⟩ := hU
  have HU := Lib.hid u0
  clear u0
  go_enter Tryd.func49, Tryd.ntmps49
  go_wp2_with (first
    | (go_at_call 73; refine (rget_c _ _ _ _ hx0 hx1).mono ?_; rintro e w' ⟨rfl, n, rfl⟩)
    | (go_at_call 74; refine (rsign_c _ _ _ hx0 hx1).mono ?_; rintro e w' ⟨rfl, n2, rfl⟩))
  go_ret
  refine ⟨ret_int ?_, _, rfl⟩
  rw [HU.out]
  rfl
set_option maxHeartbeats 1000000 in
theorem orget_2 (a b : Int) (w : World) :
    Calls Tryd.prog 49 #[.int .i64 2, .int .i64 a, .int .i64 b] w fun e w' => e = .returned (.int .i64 (Om.gA 2 (a % 4294967296) (b % 4294967296))) ∧ ∃ n, w' = w.drewN n := by
  obtain ⟨x, e0⟩ : ∃ h, a % 4294967296 = h := ⟨_, rfl⟩
  obtain ⟨y, e1⟩ : ∃ h, b % 4294967296 = h := ⟨_, rfl⟩
  have hx0 : 0 ≤ x := by omega
  have hx1 : x < 4294967296 := by omega
  rw [e0, e1]
  have ts := (Om.get_n x 10 10 1024 2 rfl rfl (by decide) (by decide) (by decide) (by decide) hx0 : getI x 10 10 = _)
  obtain ⟨s, es⟩ : ∃ q, getI x 10 10 = q := ⟨_, rfl⟩
  rw [es] at ts
  have hs0 : 0 ≤ s := by omega
  have hs1 : s < 2 := by omega
  have Ts := Lib.hid ts
  clear ts
  have u0 := (Om.sign_n x 10 1024 rfl (by decide) (by decide) : signI x 11 = _)
  obtain ⟨U, eU⟩ : ∃ q, signI x 11 = q := ⟨_, rfl⟩
  rw [eU] at u0
  have hU : -1024 ≤ U ∧ U < 1024 := by rw [u0]; unfold Om.sg; split <;> omega
  obtain ⟨hU0, hU1⟩ := hU
  have HU := Lib.hid u0
  clear u0
  go_enter Tryd.func49, Tryd.ntmps49
  go_wp2_with (first
    | (go_at_call 73; refine (rget_c _ _ _ _ hx0 hx1).mono ?_; rintro e w' ⟨rfl, n, rfl⟩)
    | (go_at_call 74; refine (rsign_c _ _ _ hx0 hx1).mono ?_; rintro e w' ⟨rfl, n2, rfl⟩))
  go_ret
  refine ⟨ret_int ?_, _, rfl⟩
  rw [HU.out]
  rfl
set_option maxHeartbeats 1000000 in
theorem orget_5 (a b : Int) (w : World) :
    Calls Tryd.prog 49 #[.int .i64 5, .int .i64 a, .int .i64 b] w fun e w' => e = .returned (.int .i64 (Om.gA 5 (a % 4294967296) (b % 4294967296))) ∧ ∃ n, w' = w.drewN n := by
  obtain ⟨x, e0⟩ : ∃ h, a % 4294967296 = h := ⟨_, rfl⟩
  obtain ⟨y, e1⟩ : ∃ h, b % 4294967296 = h := ⟨_, rfl⟩
  have hx0 : 0 ≤ x := by omega
  have hx1 : x < 4294967296 := by omega
  rw [e0, e1]
  have ts := (Om.get_n x 10 10 1024 2 rfl rfl (by decide) (by decide) (by decide) (by decide) hx0 : getI x 10 10 = _)
  obtain ⟨s, es⟩ : ∃ q, getI x 10 10 = q := ⟨_, rfl⟩
  rw [es] at ts
  have hs0 : 0 ≤ s := by omega
  have hs1 : s < 2 := by omega
  have Ts := Lib.hid ts
  clear ts
  have tt := (Om.get_n x 9 9 512 2 rfl rfl (by decide) (by decide) (by decide) (by decide) hx0 : getI x 9 9 = _)
  obtain ⟨t, et⟩ : ∃ q, getI x 9 9 = q := ⟨_, rfl⟩
  rw [et] at tt
  have ht0 : 0 ≤ t := by omega
  have ht1 : t < 2 := by omega
  have Tt := Lib.hid tt
  clear tt
  have tf := (Om.get_n x 7 3 8 32 rfl rfl (by decide) (by decide) (by decide) (by decide) hx0 : getI x 7 3 = _)
  obtain ⟨f, ef⟩ : ∃ q, getI x 7 3 = q := ⟨_, rfl⟩
  rw [ef] at tf
  have hf0 : 0 ≤ f := by omega
  have hf1 : f < 32 := by omega
  have Tf := Lib.hid tf
  clear tf
  have v0 : bits .or .u32 (t * 32) f = t * 32 + f := by
    rw [or32 5 32 (t * 32) _ (by decide) (by decide) (by omega) (by omega) (by omega) (by omega) (by omega)]
  obtain ⟨V, eV⟩ : ∃ q, bits .or .u32 (t * 32) f = q := ⟨_, rfl⟩
  rw [eV] at v0
  have hV0 : 0 ≤ V := by omega
  have hV1 : V < 64 := by omega
  have HV := Lib.hid v0
  clear v0
  go_enter Tryd.func49, Tryd.ntmps49
  go_wp2_with (first
    | (go_at_call 73; refine (rget_c _ _ _ _ hx0 hx1).mono ?_; rintro e w' ⟨rfl, n, rfl⟩))
  go_ret
  refine ⟨ret_int ?_, _, rfl⟩
  rw [HV.out, Tt.out, Tf.out]
  rfl
end Go.Proofs.YtcphhojdfpedkaaDoor
