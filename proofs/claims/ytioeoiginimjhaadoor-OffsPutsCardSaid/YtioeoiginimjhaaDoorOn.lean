/- Plain facts on offsets in pieces: there and back, whatever other bits stand in the halfwords; numbers of 64 bits with other bits or none. No memory, no calls. -/
import Derived.Test.YtioeoiginimjhaaDoorOm
namespace Go.Proofs.YtioeoiginimjhaaDoor
open Go.ChangeShapes Go.WideShapes Go.ChangeAt Go.RowKit
namespace Om

theorem gA_fits (k x y : Int) (hk : 1 ≤ k ∧ k ≤ 5) : fitsB k (gA k x y) = true := by
  unfold fitsB
  rw [decide_eq_true_eq]
  rcases kinds hk with rfl | rfl | rfl | rfl | rfl
  · have e : gA 1 x y = 2 * sg (x % 256) 128 := rfl
    rw [e]
    show _ ∧ _ ∧ -256 ≤ _ ∧ _ ≤ 254 ∧ _
    unfold sg
    split <;> omega
  · have e : gA 2 x y = 2 * sg (x % 2048) 1024 := rfl
    rw [e]
    show _ ∧ _ ∧ -2048 ≤ _ ∧ _ ≤ 2046 ∧ _
    unfold sg
    split <;> omega
  · have e : gA 3 x y = 2 * sg (x / 1024 % 2 * 524288 + y / 2048 % 2 * 262144 + y / 8192 % 2 * 131072 + x % 64 * 2048 + y % 2048) 524288 := rfl
    rw [e]
    show _ ∧ _ ∧ -1048576 ≤ _ ∧ _ ≤ 1048574 ∧ _
    unfold sg
    split <;> omega
  · have e : gA 4 x y = 2 * sg (x / 1024 % 2 * 8388608 + (1 + y / 8192 % 2 + x / 1024 % 2) % 2 * 4194304 + (1 + y / 2048 % 2 + x / 1024 % 2) % 2 * 2097152 + x % 1024 * 2048 + y % 2048) 8388608 := rfl
    rw [e]
    show _ ∧ _ ∧ -16777216 ≤ _ ∧ _ ≤ 16777214 ∧ _
    unfold sg
    split <;> omega
  · have e : gA 5 x y = 2 * (x / 512 % 2 * 32 + x / 8 % 32) := rfl
    rw [e]
    show _ ∧ _ ∧ 0 ≤ _ ∧ _ ≤ 126 ∧ _
    omega

theorem pA_1 (off : Int) : pA 1 off = off / 2 % 256 := rfl
theorem pA_2 (off : Int) : pA 2 off = off / 2 % 2048 := rfl
theorem pA_3 (off : Int) : pA 3 off = sI off * 1024 + off / 4096 % 64 := rfl
theorem pA_4 (off : Int) : pA 4 off = sI off * 1024 + off / 4096 % 1024 := rfl
theorem pA_5 (off : Int) : pA 5 off = off / 64 % 2 * 512 + off / 2 % 32 * 8 := rfl
theorem pB_1 (off : Int) : pB 1 off = 0 := rfl
theorem pB_2 (off : Int) : pB 2 off = 0 := rfl
theorem pB_3 (off : Int) : pB 3 off = off / 262144 % 2 * 8192 + off / 524288 % 2 * 2048 + off / 2 % 2048 := rfl
theorem pB_4 (off : Int) : pB 4 off = (1 + off / 8388608 % 2 + sI off) % 2 * 8192 + (1 + off / 4194304 % 2 + sI off) % 2 * 2048 + off / 2 % 2048 := rfl
theorem pB_5 (off : Int) : pB 5 off = 0 := rfl

theorem fields3 (q1 q2 q3 : Int) (h1 : 0 ≤ q1 ∧ q1 ≤ 1) (h2 : 0 ≤ q2 ∧ q2 ≤ 1) (h3 : 0 ≤ q3 ∧ q3 < 2048) :
    (q1 * 8192 + q2 * 2048 + q3) / 8192 % 2 = q1 ∧ (q1 * 8192 + q2 * 2048 + q3) / 2048 % 2 = q2 ∧ (q1 * 8192 + q2 * 2048 + q3) % 2048 = q3 := by omega

/-- halfwords with the offset's bits, whatever the other bits, are that offset -/
theorem back_1 (off x y : Int) (h1 : -256 ≤ off) (h2 : off ≤ 254) (h3 : off % 2 = 0) (hx : x % 256 = pA 1 off % 256) : gA 1 x y = off := by
  rw [pA_1] at hx
  have e : gA 1 x y = 2 * sg (x % 256) 128 := rfl
  rw [e, hx]
  unfold sg
  split <;> omega
theorem back_2 (off x y : Int) (h1 : -2048 ≤ off) (h2 : off ≤ 2046) (h3 : off % 2 = 0) (hx : x % 2048 = pA 2 off % 2048) : gA 2 x y = off := by
  rw [pA_2] at hx
  have e : gA 2 x y = 2 * sg (x % 2048) 1024 := rfl
  rw [e, hx]
  unfold sg
  split <;> omega
theorem back_3 (off x y : Int) (h1 : -1048576 ≤ off) (h2 : off ≤ 1048574) (h3 : off % 2 = 0) (hx1 : x / 1024 % 2 = pA 3 off / 1024 % 2) (hx2 : x % 64 = pA 3 off % 64)
    (hy1 : y / 2048 % 2 = pB 3 off / 2048 % 2) (hy2 : y / 8192 % 2 = pB 3 off / 8192 % 2) (hy3 : y % 2048 = pB 3 off % 2048) : gA 3 x y = off := by
  rw [pA_3] at hx1 hx2
  rw [pB_3] at hy1 hy2 hy3
  have e : gA 3 x y = 2 * sg (x / 1024 % 2 * 524288 + y / 2048 % 2 * 262144 + y / 8192 % 2 * 131072 + x % 64 * 2048 + y % 2048) 524288 := rfl
  have hs : 0 ≤ sI off ∧ sI off ≤ 1 := by unfold sI; split <;> omega
  have f1 : x / 1024 % 2 = sI off := by rw [hx1]; omega
  have f2 : x % 64 = off / 4096 % 64 := by rw [hx2]; omega
  obtain ⟨b1, b2, b3⟩ := fields3 (off / 262144 % 2) (off / 524288 % 2) (off / 2 % 2048) (by omega) (by omega) (by omega)
  have f3 : y / 2048 % 2 = off / 524288 % 2 := by rw [hy1, b2]
  have f4 : y / 8192 % 2 = off / 262144 % 2 := by rw [hy2, b1]
  have f5 : y % 2048 = off / 2 % 2048 := by rw [hy3, b3]
  rw [e, f1, f2, f3, f4, f5]
  clear hx1 hx2 hy1 hy2 hy3 f1 f2 f3 f4 f5 e hs b1 b2 b3
  unfold sI
  by_cases hn : off < 0
  · rw [if_pos hn]; unfold sg; split <;> omega
  · rw [if_neg hn]; unfold sg; split <;> omega
theorem back_4 (off x y : Int) (h1 : -16777216 ≤ off) (h2 : off ≤ 16777214) (h3 : off % 2 = 0) (hx : x % 2048 = pA 4 off % 2048)
    (hy1 : y / 2048 % 2 = pB 4 off / 2048 % 2) (hy2 : y / 8192 % 2 = pB 4 off / 8192 % 2) (hy3 : y % 2048 = pB 4 off % 2048) : gA 4 x y = off := by
  rw [pA_4] at hx
  rw [pB_4] at hy1 hy2 hy3
  have e : gA 4 x y = 2 * sg (x / 1024 % 2 * 8388608 + (1 + y / 8192 % 2 + x / 1024 % 2) % 2 * 4194304 + (1 + y / 2048 % 2 + x / 1024 % 2) % 2 * 2097152 + x % 1024 * 2048 + y % 2048) 8388608 := rfl
  have hs : 0 ≤ sI off ∧ sI off ≤ 1 := by unfold sI; split <;> omega
  have f1 : x / 1024 % 2 = sI off := by omega
  have f2 : x % 1024 = off / 4096 % 1024 := by omega
  obtain ⟨b1, b2, b3⟩ := fields3 ((1 + off / 8388608 % 2 + sI off) % 2) ((1 + off / 4194304 % 2 + sI off) % 2) (off / 2 % 2048) (by omega) (by omega) (by omega)
  have f3 : y / 2048 % 2 = (1 + off / 4194304 % 2 + sI off) % 2 := by rw [hy1, b2]
  have f4 : y / 8192 % 2 = (1 + off / 8388608 % 2 + sI off) % 2 := by rw [hy2, b1]
  have f5 : y % 2048 = off / 2 % 2048 := by rw [hy3, b3]
  rw [e, f1, f2, f3, f4, f5]
  clear hx hy1 hy2 hy3 f1 f2 f3 f4 f5 e b1 b2 b3
  have g1 : (1 + (1 + off / 8388608 % 2 + sI off) % 2 + sI off) % 2 = off / 8388608 % 2 := by omega
  have g2 : (1 + (1 + off / 4194304 % 2 + sI off) % 2 + sI off) % 2 = off / 4194304 % 2 := by omega
  rw [g1, g2]
  clear g1 g2 hs
  unfold sI
  by_cases hn : off < 0
  · rw [if_pos hn]; unfold sg; split <;> omega
  · rw [if_neg hn]; unfold sg; split <;> omega
theorem back_5 (off x y : Int) (h1 : 0 ≤ off) (h2 : off ≤ 126) (h3 : off % 2 = 0) (hx1 : x / 512 % 2 = pA 5 off / 512 % 2) (hx2 : x / 8 % 32 = pA 5 off / 8 % 32) : gA 5 x y = off := by
  rw [pA_5] at hx1 hx2
  have e : gA 5 x y = 2 * (x / 512 % 2 * 32 + x / 8 % 32) := rfl
  rw [e, hx1, hx2]
  omega

theorem back (k off : Int) (h : fitsB k off = true) : gA k (pA k off) (pB k off) = off := by
  obtain ⟨h1, h2, h3, h4, h5⟩ := fits_spec h
  rcases kinds ⟨h1, h2⟩ with rfl | rfl | rfl | rfl | rfl
  · exact back_1 off _ _ h3 h4 h5 rfl
  · exact back_2 off _ _ h3 h4 h5 rfl
  · exact back_3 off _ _ h3 h4 h5 rfl rfl rfl rfl rfl
  · exact back_4 off _ _ h3 h4 h5 rfl rfl rfl rfl
  · exact back_5 off _ _ h3 h4 h5 rfl rfl

theorem p_bd (k off : Int) : 0 ≤ pA k off ∧ pA k off < 2048 ∧ 0 ≤ pB k off ∧ pB k off < 16384 := by
  have hs : 0 ≤ sI off ∧ sI off ≤ 1 := by unfold sI; split <;> omega
  unfold pA pB
  refine ⟨?_, ?_, ?_, ?_⟩
  · repeat' split
    all_goals omega
  · repeat' split
    all_goals omega
  · repeat' split
    all_goals omega
  · repeat' split
    all_goals omega

/-! numbers of 64 bits: other bits beside, and none -/
theorem ofInt64_nat (a : Nat) (ha : a < 18446744073709551616) : (BitVec.ofInt 64 (a : Int)).toNat = a := by
  rw [BitVec.ofInt_natCast, BitVec.toNat_ofNat]; exact Nat.mod_eq_of_lt (by omega)
theorem ofInt_wrap (n : Nat) : BitVec.ofInt 64 (IntKind.i64.wrap (n : Int)) = BitVec.ofNat 64 n := by
  apply BitVec.eq_of_toNat_eq
  rw [BitVec.toNat_ofInt, BitVec.toNat_ofNat, IntKind.wrap_i64]
  omega
theorem wrap_mod (n : Nat) : IntKind.i64.wrap (n : Int) % 4294967296 = ((n % 4294967296 : Nat) : Int) := by
  rw [IntKind.wrap_i64]; omega

/-- bits of a with others beside that keep off the mask's: in the mask's field they are a's -/
theorem beside (a m lo w : Nat) (x : Int) (ha : a < 9223372036854775808) (hm : m < 9223372036854775808) (hw : lo + w ≤ 32) (hmask : ∀ i, lo ≤ i → i < lo + w → m.testBit i = true) :
    bits .or .i64 (a : Int) (bits .andNot .i64 x (m : Int)) % 4294967296 / 2 ^ lo % 2 ^ w = ((a / 2 ^ lo % 2 ^ w : Nat) : Int) := by
  have e1 : bits .andNot .i64 x (m : Int) = IntKind.i64.wrap ((BitVec.ofInt 64 x &&& ~~~ BitVec.ofInt 64 (m : Int)).toNat : Int) := rfl
  have e2 : ∀ y, bits .or .i64 (a : Int) y = IntKind.i64.wrap ((BitVec.ofInt 64 (a : Int) ||| BitVec.ofInt 64 y).toNat : Int) := fun _ => rfl
  rw [e2, e1, ofInt_wrap, wrap_mod]
  generalize hR : (BitVec.ofInt 64 (a : Int) ||| BitVec.ofNat 64 (BitVec.ofInt 64 x &&& ~~~ BitVec.ofInt 64 (m : Int)).toNat).toNat = R
  have key : R % 4294967296 / 2 ^ lo % 2 ^ w = a / 2 ^ lo % 2 ^ w := by
    apply Nat.eq_of_testBit_eq
    intro i
    rw [Nat.testBit_mod_two_pow, Nat.testBit_mod_two_pow, Nat.testBit_div_two_pow, Nat.testBit_div_two_pow]
    by_cases hi : i < w
    · have h1 : R.testBit (i + lo) = a.testBit (i + lo) := by
        rw [← hR, BitVec.toNat_or, Nat.testBit_or, ofInt64_nat a (by omega)]
        have hm2 := hmask (i + lo) (by omega) (by omega)
        have : (BitVec.ofNat 64 (BitVec.ofInt 64 x &&& ~~~ BitVec.ofInt 64 (m : Int)).toNat).toNat.testBit (i + lo) = false := by
          rw [BitVec.toNat_ofNat, Nat.mod_eq_of_lt (BitVec.isLt _), BitVec.toNat_and, Nat.testBit_and, BitVec.toNat_not, ofInt64_nat m (by omega)]
          have h3 := Nat.testBit_two_pow_sub_succ (x := m) (n := 64) (by omega) (i + lo)
          rw [show 2 ^ 64 - 1 - m = 2 ^ 64 - (m + 1) by omega, h3, hm2]
          simp
        rw [this, Bool.or_false]
      have h2 : (R % 4294967296).testBit (i + lo) = R.testBit (i + lo) := by
        rw [show (4294967296 : Nat) = 2 ^ 32 by decide, Nat.testBit_mod_two_pow]
        simp [show i + lo < 32 by omega]
      rw [h2, h1]
    · simp [hi]
  rw [← key]
  simp

/-- no bit of a outside the mask -/
theorem inside (a m : Nat) (ha : a < 16384) (hm : m < 16384) (h : ∀ i, i < 14 → m.testBit i = false → a / 2 ^ i % 2 = 0) : bits .andNot .i64 (a : Int) (m : Int) = 0 := by
  have e1 : bits .andNot .i64 (a : Int) (m : Int) = IntKind.i64.wrap ((BitVec.ofInt 64 (a : Int) &&& ~~~ BitVec.ofInt 64 (m : Int)).toNat : Int) := rfl
  have key : (BitVec.ofInt 64 (a : Int) &&& ~~~ BitVec.ofInt 64 (m : Int)).toNat = 0 := by
    apply Nat.eq_of_testBit_eq
    intro i
    rw [BitVec.toNat_and, Nat.testBit_and, BitVec.toNat_not, ofInt64_nat m (by omega), ofInt64_nat a (by omega), Nat.zero_testBit]
    have h3 := Nat.testBit_two_pow_sub_succ (x := m) (n := 64) (by omega) i
    rw [show 2 ^ 64 - 1 - m = 2 ^ 64 - (m + 1) by omega, h3]
    by_cases hi : i < 14
    · cases hmi : m.testBit i with
      | true => simp
      | false =>
        have := h i hi hmi
        rw [Nat.testBit_eq_decide_div_mod_eq, this]; simp
    · have : a.testBit i = false := Nat.testBit_lt_two_pow (Nat.lt_of_lt_of_le ha (by have : 2 ^ 14 ≤ 2 ^ i := Nat.pow_le_pow_right (by omega) (by omega); simpa using this))
      rw [this]; simp
  rw [e1, key]; rfl
end Om
end Go.Proofs.YtioeoiginimjhaaDoor
