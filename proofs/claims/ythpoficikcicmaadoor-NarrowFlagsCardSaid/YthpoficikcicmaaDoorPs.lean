/- What each kind of piece comes to, plainly; the order of a search over the table told by one list. No conditions but those that each fact names. -/
import Derived.Test.YthpoficikcicmaaDoorRows
import Derived.Test.YthpoficikcicmaaDoorNx
import Derived.Test.YthpoficikcicmaaDoorOm
namespace Go.Proofs.YthpoficikcicmaaDoor
open Go.ChangeShapes Go.WideShapes Go.ChangeAt Go.RowKit
namespace Pl

/-- seven fields -/
def fw (a0 a1 a2 a3 a4 a5 a6 : Int) (j : Nat) : Int := if j = 0 then a0 else if j = 1 then a1 else if j = 2 then a2 else if j = 3 then a3 else if j = 4 then a4 else if j = 5 then a5 else if j = 6 then a6 else 0
theorem or_add (x v : Int) (k n : Nat) (m c : Int) (hm : 2 ^ k = m) (hc : 2 ^ n = c) (hkn : k + n ≤ 32) (hx0 : 0 ≤ x) (hx1 : x < 4294967296) (hz : x / m % c = 0) (hv0 : 0 ≤ v) (hv1 : v < c) : bits .or .u32 x (v * m % 4294967296) = x + v * m := by
  subst hm hc
  obtain ⟨X, rfl⟩ := Int.eq_ofNat_of_zero_le hx0
  obtain ⟨V, rfl⟩ := Int.eq_ofNat_of_zero_le hv0
  have hVn : V < 2 ^ n := by exact_mod_cast hv1
  have hXz : X / 2 ^ k % 2 ^ n = 0 := by exact_mod_cast hz
  have hlt : V * 2 ^ k < 2 ^ (k + n) := by rw [Nat.pow_add, Nat.mul_comm]; exact Nat.mul_lt_mul_of_pos_left hVn (Nat.two_pow_pos k)
  have h32 : 2 ^ (k + n) ≤ 2 ^ 32 := Nat.pow_le_pow_right (by omega) hkn
  have h32' : (2 : Nat) ^ 32 = 4294967296 := by decide
  have e1 : ((V : Int) * 2 ^ k) = ((V * 2 ^ k : Nat) : Int) := by simp
  have e2 : ((V * 2 ^ k : Nat) : Int) % 4294967296 = ((V * 2 ^ k : Nat) : Int) := by omega
  rw [e1, e2, u32_or_nat X (V * 2 ^ k) (by omega) (by omega)]
  have hp := Om.putU_add (X := X) (lo := k) (n := n) (V := V) (by omega) hkn hXz hVn
  have hq : Bm.putU X k n V = X ||| V * 2 ^ k := by
    apply Bm.word_ext (Bm.put_lt _ _ _ _ (by omega)) (Nat.or_lt_two_pow (n := 32) (by omega) (by omega))
    intro i hi
    rw [Bm.put_tb hkn hi, Nat.testBit_or, Nat.testBit_mul_two_pow]
    by_cases h1 : k ≤ i ∧ i < k + n
    · have h2 : X.testBit i = false := by
        have h3 := Nat.testBit_mod_two_pow (X / 2 ^ k) n (i - k)
        rw [hXz, Nat.zero_testBit, Nat.testBit_div_two_pow, show i - k + k = i by omega] at h3
        have h4 : i - k < n := by omega
        simpa [h4] using h3.symm
      rw [if_pos h1, h2]
      simp [h1.1]
    · rw [if_neg h1]
      by_cases h2 : k ≤ i
      · have h3 : V.testBit (i - k) = false := Nat.testBit_lt_two_pow (Nat.lt_of_lt_of_le hVn (Nat.pow_le_pow_right (by omega) (by omega)))
        simp [h3]
      · simp [h2]
  rw [← hq, hp]
  simp
theorem or_zero (x : Int) (hx0 : 0 ≤ x) (hx1 : x < 4294967296) : bits .or .u32 x 0 = x := by
  obtain ⟨X, rfl⟩ := Int.eq_ofNat_of_zero_le hx0
  have := u32_or_nat X 0 (by omega) (by decide)
  simpa using this
theorem put0 (x : Int) (hi lo : Nat) (m c : Int) {hi' lo' : Int} (eh : (hi : Int) = hi') (el : (lo : Int) = lo') (hm : 2 ^ lo = m) (hc : 2 ^ (hi + 1 - lo) = c) (h1 : lo ≤ hi) (h2 : hi < 32) (hx0 : 0 ≤ x) (hx1 : x < 4294967296) : putI x hi' lo' 0 = x - x / m % c * m := by
  subst hm hc eh el
  obtain ⟨X, rfl⟩ := Int.eq_ofNat_of_zero_le hx0
  obtain ⟨n, hn⟩ : ∃ n, hi + 1 - lo = n := ⟨_, rfl⟩
  have hN : lo + n ≤ 32 := by omega
  have hn1 : 1 ≤ n := by omega
  have hY := Bm.put_lt X lo n 0 (by omega)
  have hz : Bm.putU X lo n 0 / 2 ^ lo % 2 ^ n = 0 := by
    have := Bm.got_put (X := X) (lo := lo) (n := n) (V := 0) hN hn1
    unfold Bm.getB at this
    rw [show lo + n - 1 + 1 - lo = n by omega] at this
    rw [this]
    simp
  have hg : Bm.getB X (lo + n - 1) lo < 2 ^ n := by
    unfold Bm.getB
    rw [show lo + n - 1 + 1 - lo = n by omega]
    exact Nat.mod_lt _ (Nat.two_pow_pos n)
  have hb := Bm.put_back (X := X) (lo := lo) (n := n) (V := 0) (by omega) hN hn1
  rw [Om.putU_add hY hN hz hg] at hb
  unfold putI
  rw [if_pos (by omega)]
  simp only [Int.toNat_natCast, hn]
  have hge : Bm.getB X (lo + n - 1) lo = X / 2 ^ lo % 2 ^ n := by
    unfold Bm.getB
    rw [show lo + n - 1 + 1 - lo = n by omega]
  rw [hge] at hb
  have hc : ((X / 2 ^ lo % 2 ^ n * 2 ^ lo : Nat) : Int) = (X : Int) / 2 ^ lo % 2 ^ n * 2 ^ lo := by simp
  rw [← hc]
  have h0 : (0 : Int).toNat = 0 := rfl
  rw [h0]
  omega

theorem ps_3_2_0_3 (H a0 a1 a2 a3 a4 a5 a6 : Int) (hH0 : 0 ≤ H) (hH1 : H < 65536) (hz : H / 8 % 8 = 0) (h0 : 0 ≤ a3) (h1 : a3 < 4294967296) : pcStep (H, fw a0 a1 a2 a3 a4 a5 a6) ⟨3, 2, 0, 3⟩ = (H + a3 / 1 % 8 * 8, fw a0 a1 a2 (a3 - a3 / 1 % 8 * 1) a4 a5 a6) := by
  have eg : getI a3 2 0 = a3 / 1 % 8 := Om.get_n a3 2 0 1 8 rfl rfl (by decide) (by decide) (by decide) (by decide) h0
  have ep : putI a3 2 0 0 = a3 - a3 / 1 % 8 * 1 := put0 a3 2 0 1 8 rfl rfl (by decide) (by decide) (by decide) (by decide) h0 h1
  have eo : bits .or .u32 H (a3 / 1 % 8 * 8 % 4294967296) = H + a3 / 1 % 8 * 8 := or_add H (a3 / 1 % 8) 3 3 8 8 (by decide) (by decide) (by decide) hH0 (by omega) hz (by omega) (by omega)
  unfold pcStep
  dsimp only
  have ef : fw a0 a1 a2 a3 a4 a5 a6 (3 : Int).toNat = a3 := rfl
  rw [ef, eg, ep, show (2 : Int) ^ (3 : Int).toNat = 8 by decide, eo]
  refine Prod.ext rfl (funext fun j => ?_)
  dsimp only
  unfold fw
  by_cases hj : j = 3
  · subst hj; rfl
  · rw [if_neg (show ¬ j = (3 : Int).toNat by simpa using hj)]
    simp only [if_neg hj]
theorem ps_1_2_0_0 (H a0 a1 a2 a3 a4 a5 a6 : Int) (hH0 : 0 ≤ H) (hH1 : H < 65536) (hz : H / 1 % 8 = 0) (h0 : 0 ≤ a1) (h1 : a1 < 4294967296) : pcStep (H, fw a0 a1 a2 a3 a4 a5 a6) ⟨1, 2, 0, 0⟩ = (H + a1 / 1 % 8 * 1, fw a0 (a1 - a1 / 1 % 8 * 1) a2 a3 a4 a5 a6) := by
  have eg : getI a1 2 0 = a1 / 1 % 8 := Om.get_n a1 2 0 1 8 rfl rfl (by decide) (by decide) (by decide) (by decide) h0
  have ep : putI a1 2 0 0 = a1 - a1 / 1 % 8 * 1 := put0 a1 2 0 1 8 rfl rfl (by decide) (by decide) (by decide) (by decide) h0 h1
  have eo : bits .or .u32 H (a1 / 1 % 8 * 1 % 4294967296) = H + a1 / 1 % 8 * 1 := or_add H (a1 / 1 % 8) 0 3 1 8 (by decide) (by decide) (by decide) hH0 (by omega) hz (by omega) (by omega)
  unfold pcStep
  dsimp only
  have ef : fw a0 a1 a2 a3 a4 a5 a6 (1 : Int).toNat = a1 := rfl
  rw [ef, eg, ep, show (2 : Int) ^ (0 : Int).toNat = 1 by decide, eo]
  refine Prod.ext rfl (funext fun j => ?_)
  dsimp only
  unfold fw
  by_cases hj : j = 1
  · subst hj; rfl
  · rw [if_neg (show ¬ j = (1 : Int).toNat by simpa using hj)]
    simp only [if_neg hj]
theorem ps_2_2_0_32 (H a0 a1 a2 a3 a4 a5 a6 : Int) (hH0 : 0 ≤ H) (hH1 : H < 65536) (h0 : 0 ≤ a2) (h1 : a2 < 4294967296) : pcStep (H, fw a0 a1 a2 a3 a4 a5 a6) ⟨2, 2, 0, 32⟩ = (H, fw a0 a1 (a2 - a2 / 1 % 8 * 1) a3 a4 a5 a6) := by
  have eg : getI a2 2 0 = a2 / 1 % 8 := Om.get_n a2 2 0 1 8 rfl rfl (by decide) (by decide) (by decide) (by decide) h0
  have ep : putI a2 2 0 0 = a2 - a2 / 1 % 8 * 1 := put0 a2 2 0 1 8 rfl rfl (by decide) (by decide) (by decide) (by decide) h0 h1
  have eo : bits .or .u32 H (a2 / 1 % 8 * 4294967296 % 4294967296) = H := by rw [show a2 / 1 % 8 * 4294967296 % 4294967296 = 0 by omega]; exact or_zero H hH0 (by omega)
  unfold pcStep
  dsimp only
  have ef : fw a0 a1 a2 a3 a4 a5 a6 (2 : Int).toNat = a2 := rfl
  rw [ef, eg, ep, show (2 : Int) ^ (32 : Int).toNat = 4294967296 by decide, eo]
  refine Prod.ext rfl (funext fun j => ?_)
  dsimp only
  unfold fw
  by_cases hj : j = 2
  · subst hj; rfl
  · rw [if_neg (show ¬ j = (2 : Int).toNat by simpa using hj)]
    simp only [if_neg hj]
theorem ps_none (H a1 a2 a3 a4 a5 a6 : Int) (hH0 : 0 ≤ H) (hH1 : H < 65536) : pcStep (H, fw 0 a1 a2 a3 a4 a5 a6) ⟨0, 0, 0, 0⟩ = (H, fw 0 a1 a2 a3 a4 a5 a6) := by
  have eg : getI 0 0 0 = 0 := by decide +kernel
  have ep : putI 0 0 0 0 = 0 := by decide +kernel
  unfold pcStep
  dsimp only
  have ef : fw 0 a1 a2 a3 a4 a5 a6 (0 : Int).toNat = 0 := rfl
  rw [ef, eg, ep, Int.zero_mul, Int.zero_emod, or_zero H hH0 (by omega)]
  refine Prod.ext rfl (funext fun j => ?_)
  dsimp only
  unfold fw
  by_cases hj : j = 0
  · subst hj; rfl
  · rw [if_neg (show ¬ j = (0 : Int).toNat by simpa using hj)]
theorem ps_2_2_0_3 (H a0 a1 a2 a3 a4 a5 a6 : Int) (hH0 : 0 ≤ H) (hH1 : H < 65536) (hz : H / 8 % 8 = 0) (h0 : 0 ≤ a2) (h1 : a2 < 4294967296) : pcStep (H, fw a0 a1 a2 a3 a4 a5 a6) ⟨2, 2, 0, 3⟩ = (H + a2 / 1 % 8 * 8, fw a0 a1 (a2 - a2 / 1 % 8 * 1) a3 a4 a5 a6) := by
  have eg : getI a2 2 0 = a2 / 1 % 8 := Om.get_n a2 2 0 1 8 rfl rfl (by decide) (by decide) (by decide) (by decide) h0
  have ep : putI a2 2 0 0 = a2 - a2 / 1 % 8 * 1 := put0 a2 2 0 1 8 rfl rfl (by decide) (by decide) (by decide) (by decide) h0 h1
  have eo : bits .or .u32 H (a2 / 1 % 8 * 8 % 4294967296) = H + a2 / 1 % 8 * 8 := or_add H (a2 / 1 % 8) 3 3 8 8 (by decide) (by decide) (by decide) hH0 (by omega) hz (by omega) (by omega)
  unfold pcStep
  dsimp only
  have ef : fw a0 a1 a2 a3 a4 a5 a6 (2 : Int).toNat = a2 := rfl
  rw [ef, eg, ep, show (2 : Int) ^ (3 : Int).toNat = 8 by decide, eo]
  refine Prod.ext rfl (funext fun j => ?_)
  dsimp only
  unfold fw
  by_cases hj : j = 2
  · subst hj; rfl
  · rw [if_neg (show ¬ j = (2 : Int).toNat by simpa using hj)]
    simp only [if_neg hj]
theorem ps_3_2_0_32 (H a0 a1 a2 a3 a4 a5 a6 : Int) (hH0 : 0 ≤ H) (hH1 : H < 65536) (h0 : 0 ≤ a3) (h1 : a3 < 4294967296) : pcStep (H, fw a0 a1 a2 a3 a4 a5 a6) ⟨3, 2, 0, 32⟩ = (H, fw a0 a1 a2 (a3 - a3 / 1 % 8 * 1) a4 a5 a6) := by
  have eg : getI a3 2 0 = a3 / 1 % 8 := Om.get_n a3 2 0 1 8 rfl rfl (by decide) (by decide) (by decide) (by decide) h0
  have ep : putI a3 2 0 0 = a3 - a3 / 1 % 8 * 1 := put0 a3 2 0 1 8 rfl rfl (by decide) (by decide) (by decide) (by decide) h0 h1
  have eo : bits .or .u32 H (a3 / 1 % 8 * 4294967296 % 4294967296) = H := by rw [show a3 / 1 % 8 * 4294967296 % 4294967296 = 0 by omega]; exact or_zero H hH0 (by omega)
  unfold pcStep
  dsimp only
  have ef : fw a0 a1 a2 a3 a4 a5 a6 (3 : Int).toNat = a3 := rfl
  rw [ef, eg, ep, show (2 : Int) ^ (32 : Int).toNat = 4294967296 by decide, eo]
  refine Prod.ext rfl (funext fun j => ?_)
  dsimp only
  unfold fw
  by_cases hj : j = 3
  · subst hj; rfl
  · rw [if_neg (show ¬ j = (3 : Int).toNat by simpa using hj)]
    simp only [if_neg hj]
theorem ps_2_2_0_0 (H a0 a1 a2 a3 a4 a5 a6 : Int) (hH0 : 0 ≤ H) (hH1 : H < 65536) (hz : H / 1 % 8 = 0) (h0 : 0 ≤ a2) (h1 : a2 < 4294967296) : pcStep (H, fw a0 a1 a2 a3 a4 a5 a6) ⟨2, 2, 0, 0⟩ = (H + a2 / 1 % 8 * 1, fw a0 a1 (a2 - a2 / 1 % 8 * 1) a3 a4 a5 a6) := by
  have eg : getI a2 2 0 = a2 / 1 % 8 := Om.get_n a2 2 0 1 8 rfl rfl (by decide) (by decide) (by decide) (by decide) h0
  have ep : putI a2 2 0 0 = a2 - a2 / 1 % 8 * 1 := put0 a2 2 0 1 8 rfl rfl (by decide) (by decide) (by decide) (by decide) h0 h1
  have eo : bits .or .u32 H (a2 / 1 % 8 * 1 % 4294967296) = H + a2 / 1 % 8 * 1 := or_add H (a2 / 1 % 8) 0 3 1 8 (by decide) (by decide) (by decide) hH0 (by omega) hz (by omega) (by omega)
  unfold pcStep
  dsimp only
  have ef : fw a0 a1 a2 a3 a4 a5 a6 (2 : Int).toNat = a2 := rfl
  rw [ef, eg, ep, show (2 : Int) ^ (0 : Int).toNat = 1 by decide, eo]
  refine Prod.ext rfl (funext fun j => ?_)
  dsimp only
  unfold fw
  by_cases hj : j = 2
  · subst hj; rfl
  · rw [if_neg (show ¬ j = (2 : Int).toNat by simpa using hj)]
    simp only [if_neg hj]
theorem ps_3_3_0_3 (H a0 a1 a2 a3 a4 a5 a6 : Int) (hH0 : 0 ≤ H) (hH1 : H < 65536) (hz : H / 8 % 16 = 0) (h0 : 0 ≤ a3) (h1 : a3 < 4294967296) : pcStep (H, fw a0 a1 a2 a3 a4 a5 a6) ⟨3, 3, 0, 3⟩ = (H + a3 / 1 % 16 * 8, fw a0 a1 a2 (a3 - a3 / 1 % 16 * 1) a4 a5 a6) := by
  have eg : getI a3 3 0 = a3 / 1 % 16 := Om.get_n a3 3 0 1 16 rfl rfl (by decide) (by decide) (by decide) (by decide) h0
  have ep : putI a3 3 0 0 = a3 - a3 / 1 % 16 * 1 := put0 a3 3 0 1 16 rfl rfl (by decide) (by decide) (by decide) (by decide) h0 h1
  have eo : bits .or .u32 H (a3 / 1 % 16 * 8 % 4294967296) = H + a3 / 1 % 16 * 8 := or_add H (a3 / 1 % 16) 3 4 8 16 (by decide) (by decide) (by decide) hH0 (by omega) hz (by omega) (by omega)
  unfold pcStep
  dsimp only
  have ef : fw a0 a1 a2 a3 a4 a5 a6 (3 : Int).toNat = a3 := rfl
  rw [ef, eg, ep, show (2 : Int) ^ (3 : Int).toNat = 8 by decide, eo]
  refine Prod.ext rfl (funext fun j => ?_)
  dsimp only
  unfold fw
  by_cases hj : j = 3
  · subst hj; rfl
  · rw [if_neg (show ¬ j = (3 : Int).toNat by simpa using hj)]
    simp only [if_neg hj]
theorem ps_2_3_3_7 (H a0 a1 a2 a3 a4 a5 a6 : Int) (hH0 : 0 ≤ H) (hH1 : H < 65536) (hz : H / 128 % 2 = 0) (h0 : 0 ≤ a2) (h1 : a2 < 4294967296) : pcStep (H, fw a0 a1 a2 a3 a4 a5 a6) ⟨2, 3, 3, 7⟩ = (H + a2 / 8 % 2 * 128, fw a0 a1 (a2 - a2 / 8 % 2 * 8) a3 a4 a5 a6) := by
  have eg : getI a2 3 3 = a2 / 8 % 2 := Om.get_n a2 3 3 8 2 rfl rfl (by decide) (by decide) (by decide) (by decide) h0
  have ep : putI a2 3 3 0 = a2 - a2 / 8 % 2 * 8 := put0 a2 3 3 8 2 rfl rfl (by decide) (by decide) (by decide) (by decide) h0 h1
  have eo : bits .or .u32 H (a2 / 8 % 2 * 128 % 4294967296) = H + a2 / 8 % 2 * 128 := or_add H (a2 / 8 % 2) 7 1 128 2 (by decide) (by decide) (by decide) hH0 (by omega) hz (by omega) (by omega)
  unfold pcStep
  dsimp only
  have ef : fw a0 a1 a2 a3 a4 a5 a6 (2 : Int).toNat = a2 := rfl
  rw [ef, eg, ep, show (2 : Int) ^ (7 : Int).toNat = 128 by decide, eo]
  refine Prod.ext rfl (funext fun j => ?_)
  dsimp only
  unfold fw
  by_cases hj : j = 2
  · subst hj; rfl
  · rw [if_neg (show ¬ j = (2 : Int).toNat by simpa using hj)]
    simp only [if_neg hj]
theorem ps_2_2_0_8 (H a0 a1 a2 a3 a4 a5 a6 : Int) (hH0 : 0 ≤ H) (hH1 : H < 65536) (hz : H / 256 % 8 = 0) (h0 : 0 ≤ a2) (h1 : a2 < 4294967296) : pcStep (H, fw a0 a1 a2 a3 a4 a5 a6) ⟨2, 2, 0, 8⟩ = (H + a2 / 1 % 8 * 256, fw a0 a1 (a2 - a2 / 1 % 8 * 1) a3 a4 a5 a6) := by
  have eg : getI a2 2 0 = a2 / 1 % 8 := Om.get_n a2 2 0 1 8 rfl rfl (by decide) (by decide) (by decide) (by decide) h0
  have ep : putI a2 2 0 0 = a2 - a2 / 1 % 8 * 1 := put0 a2 2 0 1 8 rfl rfl (by decide) (by decide) (by decide) (by decide) h0 h1
  have eo : bits .or .u32 H (a2 / 1 % 8 * 256 % 4294967296) = H + a2 / 1 % 8 * 256 := or_add H (a2 / 1 % 8) 8 3 256 8 (by decide) (by decide) (by decide) hH0 (by omega) hz (by omega) (by omega)
  unfold pcStep
  dsimp only
  have ef : fw a0 a1 a2 a3 a4 a5 a6 (2 : Int).toNat = a2 := rfl
  rw [ef, eg, ep, show (2 : Int) ^ (8 : Int).toNat = 256 by decide, eo]
  refine Prod.ext rfl (funext fun j => ?_)
  dsimp only
  unfold fw
  by_cases hj : j = 2
  · subst hj; rfl
  · rw [if_neg (show ¬ j = (2 : Int).toNat by simpa using hj)]
    simp only [if_neg hj]
theorem ps_4_7_0_0 (H a0 a1 a2 a3 a4 a5 a6 : Int) (hH0 : 0 ≤ H) (hH1 : H < 65536) (hz : H / 1 % 256 = 0) (h0 : 0 ≤ a4) (h1 : a4 < 4294967296) : pcStep (H, fw a0 a1 a2 a3 a4 a5 a6) ⟨4, 7, 0, 0⟩ = (H + a4 / 1 % 256 * 1, fw a0 a1 a2 a3 (a4 - a4 / 1 % 256 * 1) a5 a6) := by
  have eg : getI a4 7 0 = a4 / 1 % 256 := Om.get_n a4 7 0 1 256 rfl rfl (by decide) (by decide) (by decide) (by decide) h0
  have ep : putI a4 7 0 0 = a4 - a4 / 1 % 256 * 1 := put0 a4 7 0 1 256 rfl rfl (by decide) (by decide) (by decide) (by decide) h0 h1
  have eo : bits .or .u32 H (a4 / 1 % 256 * 1 % 4294967296) = H + a4 / 1 % 256 * 1 := or_add H (a4 / 1 % 256) 0 8 1 256 (by decide) (by decide) (by decide) hH0 (by omega) hz (by omega) (by omega)
  unfold pcStep
  dsimp only
  have ef : fw a0 a1 a2 a3 a4 a5 a6 (4 : Int).toNat = a4 := rfl
  rw [ef, eg, ep, show (2 : Int) ^ (0 : Int).toNat = 1 by decide, eo]
  refine Prod.ext rfl (funext fun j => ?_)
  dsimp only
  unfold fw
  by_cases hj : j = 4
  · subst hj; rfl
  · rw [if_neg (show ¬ j = (4 : Int).toNat by simpa using hj)]
    simp only [if_neg hj]
theorem ps_1_2_0_8 (H a0 a1 a2 a3 a4 a5 a6 : Int) (hH0 : 0 ≤ H) (hH1 : H < 65536) (hz : H / 256 % 8 = 0) (h0 : 0 ≤ a1) (h1 : a1 < 4294967296) : pcStep (H, fw a0 a1 a2 a3 a4 a5 a6) ⟨1, 2, 0, 8⟩ = (H + a1 / 1 % 8 * 256, fw a0 (a1 - a1 / 1 % 8 * 1) a2 a3 a4 a5 a6) := by
  have eg : getI a1 2 0 = a1 / 1 % 8 := Om.get_n a1 2 0 1 8 rfl rfl (by decide) (by decide) (by decide) (by decide) h0
  have ep : putI a1 2 0 0 = a1 - a1 / 1 % 8 * 1 := put0 a1 2 0 1 8 rfl rfl (by decide) (by decide) (by decide) (by decide) h0 h1
  have eo : bits .or .u32 H (a1 / 1 % 8 * 256 % 4294967296) = H + a1 / 1 % 8 * 256 := or_add H (a1 / 1 % 8) 8 3 256 8 (by decide) (by decide) (by decide) hH0 (by omega) hz (by omega) (by omega)
  unfold pcStep
  dsimp only
  have ef : fw a0 a1 a2 a3 a4 a5 a6 (1 : Int).toNat = a1 := rfl
  rw [ef, eg, ep, show (2 : Int) ^ (8 : Int).toNat = 256 by decide, eo]
  refine Prod.ext rfl (funext fun j => ?_)
  dsimp only
  unfold fw
  by_cases hj : j = 1
  · subst hj; rfl
  · rw [if_neg (show ¬ j = (1 : Int).toNat by simpa using hj)]
    simp only [if_neg hj]
theorem ps_1_3_3_7 (H a0 a1 a2 a3 a4 a5 a6 : Int) (hH0 : 0 ≤ H) (hH1 : H < 65536) (hz : H / 128 % 2 = 0) (h0 : 0 ≤ a1) (h1 : a1 < 4294967296) : pcStep (H, fw a0 a1 a2 a3 a4 a5 a6) ⟨1, 3, 3, 7⟩ = (H + a1 / 8 % 2 * 128, fw a0 (a1 - a1 / 8 % 2 * 8) a2 a3 a4 a5 a6) := by
  have eg : getI a1 3 3 = a1 / 8 % 2 := Om.get_n a1 3 3 8 2 rfl rfl (by decide) (by decide) (by decide) (by decide) h0
  have ep : putI a1 3 3 0 = a1 - a1 / 8 % 2 * 8 := put0 a1 3 3 8 2 rfl rfl (by decide) (by decide) (by decide) (by decide) h0 h1
  have eo : bits .or .u32 H (a1 / 8 % 2 * 128 % 4294967296) = H + a1 / 8 % 2 * 128 := or_add H (a1 / 8 % 2) 7 1 128 2 (by decide) (by decide) (by decide) hH0 (by omega) hz (by omega) (by omega)
  unfold pcStep
  dsimp only
  have ef : fw a0 a1 a2 a3 a4 a5 a6 (1 : Int).toNat = a1 := rfl
  rw [ef, eg, ep, show (2 : Int) ^ (7 : Int).toNat = 128 by decide, eo]
  refine Prod.ext rfl (funext fun j => ?_)
  dsimp only
  unfold fw
  by_cases hj : j = 1
  · subst hj; rfl
  · rw [if_neg (show ¬ j = (1 : Int).toNat by simpa using hj)]
    simp only [if_neg hj]
theorem ps_3_2_0_6 (H a0 a1 a2 a3 a4 a5 a6 : Int) (hH0 : 0 ≤ H) (hH1 : H < 65536) (hz : H / 64 % 8 = 0) (h0 : 0 ≤ a3) (h1 : a3 < 4294967296) : pcStep (H, fw a0 a1 a2 a3 a4 a5 a6) ⟨3, 2, 0, 6⟩ = (H + a3 / 1 % 8 * 64, fw a0 a1 a2 (a3 - a3 / 1 % 8 * 1) a4 a5 a6) := by
  have eg : getI a3 2 0 = a3 / 1 % 8 := Om.get_n a3 2 0 1 8 rfl rfl (by decide) (by decide) (by decide) (by decide) h0
  have ep : putI a3 2 0 0 = a3 - a3 / 1 % 8 * 1 := put0 a3 2 0 1 8 rfl rfl (by decide) (by decide) (by decide) (by decide) h0 h1
  have eo : bits .or .u32 H (a3 / 1 % 8 * 64 % 4294967296) = H + a3 / 1 % 8 * 64 := or_add H (a3 / 1 % 8) 6 3 64 8 (by decide) (by decide) (by decide) hH0 (by omega) hz (by omega) (by omega)
  unfold pcStep
  dsimp only
  have ef : fw a0 a1 a2 a3 a4 a5 a6 (3 : Int).toNat = a3 := rfl
  rw [ef, eg, ep, show (2 : Int) ^ (6 : Int).toNat = 64 by decide, eo]
  refine Prod.ext rfl (funext fun j => ?_)
  dsimp only
  unfold fw
  by_cases hj : j = 3
  · subst hj; rfl
  · rw [if_neg (show ¬ j = (3 : Int).toNat by simpa using hj)]
    simp only [if_neg hj]
theorem ps_2_3_0_32 (H a0 a1 a2 a3 a4 a5 a6 : Int) (hH0 : 0 ≤ H) (hH1 : H < 65536) (h0 : 0 ≤ a2) (h1 : a2 < 4294967296) : pcStep (H, fw a0 a1 a2 a3 a4 a5 a6) ⟨2, 3, 0, 32⟩ = (H, fw a0 a1 (a2 - a2 / 1 % 16 * 1) a3 a4 a5 a6) := by
  have eg : getI a2 3 0 = a2 / 1 % 16 := Om.get_n a2 3 0 1 16 rfl rfl (by decide) (by decide) (by decide) (by decide) h0
  have ep : putI a2 3 0 0 = a2 - a2 / 1 % 16 * 1 := put0 a2 3 0 1 16 rfl rfl (by decide) (by decide) (by decide) (by decide) h0 h1
  have eo : bits .or .u32 H (a2 / 1 % 16 * 4294967296 % 4294967296) = H := by rw [show a2 / 1 % 16 * 4294967296 % 4294967296 = 0 by omega]; exact or_zero H hH0 (by omega)
  unfold pcStep
  dsimp only
  have ef : fw a0 a1 a2 a3 a4 a5 a6 (2 : Int).toNat = a2 := rfl
  rw [ef, eg, ep, show (2 : Int) ^ (32 : Int).toNat = 4294967296 by decide, eo]
  refine Prod.ext rfl (funext fun j => ?_)
  dsimp only
  unfold fw
  by_cases hj : j = 2
  · subst hj; rfl
  · rw [if_neg (show ¬ j = (2 : Int).toNat by simpa using hj)]
    simp only [if_neg hj]
theorem ps_4_2_0_6 (H a0 a1 a2 a3 a4 a5 a6 : Int) (hH0 : 0 ≤ H) (hH1 : H < 65536) (hz : H / 64 % 8 = 0) (h0 : 0 ≤ a4) (h1 : a4 < 4294967296) : pcStep (H, fw a0 a1 a2 a3 a4 a5 a6) ⟨4, 2, 0, 6⟩ = (H + a4 / 1 % 8 * 64, fw a0 a1 a2 a3 (a4 - a4 / 1 % 8 * 1) a5 a6) := by
  have eg : getI a4 2 0 = a4 / 1 % 8 := Om.get_n a4 2 0 1 8 rfl rfl (by decide) (by decide) (by decide) (by decide) h0
  have ep : putI a4 2 0 0 = a4 - a4 / 1 % 8 * 1 := put0 a4 2 0 1 8 rfl rfl (by decide) (by decide) (by decide) (by decide) h0 h1
  have eo : bits .or .u32 H (a4 / 1 % 8 * 64 % 4294967296) = H + a4 / 1 % 8 * 64 := or_add H (a4 / 1 % 8) 6 3 64 8 (by decide) (by decide) (by decide) hH0 (by omega) hz (by omega) (by omega)
  unfold pcStep
  dsimp only
  have ef : fw a0 a1 a2 a3 a4 a5 a6 (4 : Int).toNat = a4 := rfl
  rw [ef, eg, ep, show (2 : Int) ^ (6 : Int).toNat = 64 by decide, eo]
  refine Prod.ext rfl (funext fun j => ?_)
  dsimp only
  unfold fw
  by_cases hj : j = 4
  · subst hj; rfl
  · rw [if_neg (show ¬ j = (4 : Int).toNat by simpa using hj)]
    simp only [if_neg hj]
theorem ps_4_4_0_6 (H a0 a1 a2 a3 a4 a5 a6 : Int) (hH0 : 0 ≤ H) (hH1 : H < 65536) (hz : H / 64 % 32 = 0) (h0 : 0 ≤ a4) (h1 : a4 < 4294967296) : pcStep (H, fw a0 a1 a2 a3 a4 a5 a6) ⟨4, 4, 0, 6⟩ = (H + a4 / 1 % 32 * 64, fw a0 a1 a2 a3 (a4 - a4 / 1 % 32 * 1) a5 a6) := by
  have eg : getI a4 4 0 = a4 / 1 % 32 := Om.get_n a4 4 0 1 32 rfl rfl (by decide) (by decide) (by decide) (by decide) h0
  have ep : putI a4 4 0 0 = a4 - a4 / 1 % 32 * 1 := put0 a4 4 0 1 32 rfl rfl (by decide) (by decide) (by decide) (by decide) h0 h1
  have eo : bits .or .u32 H (a4 / 1 % 32 * 64 % 4294967296) = H + a4 / 1 % 32 * 64 := or_add H (a4 / 1 % 32) 6 5 64 32 (by decide) (by decide) (by decide) hH0 (by omega) hz (by omega) (by omega)
  unfold pcStep
  dsimp only
  have ef : fw a0 a1 a2 a3 a4 a5 a6 (4 : Int).toNat = a4 := rfl
  rw [ef, eg, ep, show (2 : Int) ^ (6 : Int).toNat = 64 by decide, eo]
  refine Prod.ext rfl (funext fun j => ?_)
  dsimp only
  unfold fw
  by_cases hj : j = 4
  · subst hj; rfl
  · rw [if_neg (show ¬ j = (4 : Int).toNat by simpa using hj)]
    simp only [if_neg hj]
theorem ps_4_5_5_32 (H a0 a1 a2 a3 a4 a5 a6 : Int) (hH0 : 0 ≤ H) (hH1 : H < 65536) (h0 : 0 ≤ a4) (h1 : a4 < 4294967296) : pcStep (H, fw a0 a1 a2 a3 a4 a5 a6) ⟨4, 5, 5, 32⟩ = (H, fw a0 a1 a2 a3 (a4 - a4 / 32 % 2 * 32) a5 a6) := by
  have eg : getI a4 5 5 = a4 / 32 % 2 := Om.get_n a4 5 5 32 2 rfl rfl (by decide) (by decide) (by decide) (by decide) h0
  have ep : putI a4 5 5 0 = a4 - a4 / 32 % 2 * 32 := put0 a4 5 5 32 2 rfl rfl (by decide) (by decide) (by decide) (by decide) h0 h1
  have eo : bits .or .u32 H (a4 / 32 % 2 * 4294967296 % 4294967296) = H := by rw [show a4 / 32 % 2 * 4294967296 % 4294967296 = 0 by omega]; exact or_zero H hH0 (by omega)
  unfold pcStep
  dsimp only
  have ef : fw a0 a1 a2 a3 a4 a5 a6 (4 : Int).toNat = a4 := rfl
  rw [ef, eg, ep, show (2 : Int) ^ (32 : Int).toNat = 4294967296 by decide, eo]
  refine Prod.ext rfl (funext fun j => ?_)
  dsimp only
  unfold fw
  by_cases hj : j = 4
  · subst hj; rfl
  · rw [if_neg (show ¬ j = (4 : Int).toNat by simpa using hj)]
    simp only [if_neg hj]
theorem ps_4_6_2_6 (H a0 a1 a2 a3 a4 a5 a6 : Int) (hH0 : 0 ≤ H) (hH1 : H < 65536) (hz : H / 64 % 32 = 0) (h0 : 0 ≤ a4) (h1 : a4 < 4294967296) : pcStep (H, fw a0 a1 a2 a3 a4 a5 a6) ⟨4, 6, 2, 6⟩ = (H + a4 / 4 % 32 * 64, fw a0 a1 a2 a3 (a4 - a4 / 4 % 32 * 4) a5 a6) := by
  have eg : getI a4 6 2 = a4 / 4 % 32 := Om.get_n a4 6 2 4 32 rfl rfl (by decide) (by decide) (by decide) (by decide) h0
  have ep : putI a4 6 2 0 = a4 - a4 / 4 % 32 * 4 := put0 a4 6 2 4 32 rfl rfl (by decide) (by decide) (by decide) (by decide) h0 h1
  have eo : bits .or .u32 H (a4 / 4 % 32 * 64 % 4294967296) = H + a4 / 4 % 32 * 64 := or_add H (a4 / 4 % 32) 6 5 64 32 (by decide) (by decide) (by decide) hH0 (by omega) hz (by omega) (by omega)
  unfold pcStep
  dsimp only
  have ef : fw a0 a1 a2 a3 a4 a5 a6 (4 : Int).toNat = a4 := rfl
  rw [ef, eg, ep, show (2 : Int) ^ (6 : Int).toNat = 64 by decide, eo]
  refine Prod.ext rfl (funext fun j => ?_)
  dsimp only
  unfold fw
  by_cases hj : j = 4
  · subst hj; rfl
  · rw [if_neg (show ¬ j = (4 : Int).toNat by simpa using hj)]
    simp only [if_neg hj]
theorem ps_4_5_1_6 (H a0 a1 a2 a3 a4 a5 a6 : Int) (hH0 : 0 ≤ H) (hH1 : H < 65536) (hz : H / 64 % 32 = 0) (h0 : 0 ≤ a4) (h1 : a4 < 4294967296) : pcStep (H, fw a0 a1 a2 a3 a4 a5 a6) ⟨4, 5, 1, 6⟩ = (H + a4 / 2 % 32 * 64, fw a0 a1 a2 a3 (a4 - a4 / 2 % 32 * 2) a5 a6) := by
  have eg : getI a4 5 1 = a4 / 2 % 32 := Om.get_n a4 5 1 2 32 rfl rfl (by decide) (by decide) (by decide) (by decide) h0
  have ep : putI a4 5 1 0 = a4 - a4 / 2 % 32 * 2 := put0 a4 5 1 2 32 rfl rfl (by decide) (by decide) (by decide) (by decide) h0 h1
  have eo : bits .or .u32 H (a4 / 2 % 32 * 64 % 4294967296) = H + a4 / 2 % 32 * 64 := or_add H (a4 / 2 % 32) 6 5 64 32 (by decide) (by decide) (by decide) hH0 (by omega) hz (by omega) (by omega)
  unfold pcStep
  dsimp only
  have ef : fw a0 a1 a2 a3 a4 a5 a6 (4 : Int).toNat = a4 := rfl
  rw [ef, eg, ep, show (2 : Int) ^ (6 : Int).toNat = 64 by decide, eo]
  refine Prod.ext rfl (funext fun j => ?_)
  dsimp only
  unfold fw
  by_cases hj : j = 4
  · subst hj; rfl
  · rw [if_neg (show ¬ j = (4 : Int).toNat by simpa using hj)]
    simp only [if_neg hj]
theorem ps_4_9_2_0 (H a0 a1 a2 a3 a4 a5 a6 : Int) (hH0 : 0 ≤ H) (hH1 : H < 65536) (hz : H / 1 % 256 = 0) (h0 : 0 ≤ a4) (h1 : a4 < 4294967296) : pcStep (H, fw a0 a1 a2 a3 a4 a5 a6) ⟨4, 9, 2, 0⟩ = (H + a4 / 4 % 256 * 1, fw a0 a1 a2 a3 (a4 - a4 / 4 % 256 * 4) a5 a6) := by
  have eg : getI a4 9 2 = a4 / 4 % 256 := Om.get_n a4 9 2 4 256 rfl rfl (by decide) (by decide) (by decide) (by decide) h0
  have ep : putI a4 9 2 0 = a4 - a4 / 4 % 256 * 4 := put0 a4 9 2 4 256 rfl rfl (by decide) (by decide) (by decide) (by decide) h0 h1
  have eo : bits .or .u32 H (a4 / 4 % 256 * 1 % 4294967296) = H + a4 / 4 % 256 * 1 := or_add H (a4 / 4 % 256) 0 8 1 256 (by decide) (by decide) (by decide) hH0 (by omega) hz (by omega) (by omega)
  unfold pcStep
  dsimp only
  have ef : fw a0 a1 a2 a3 a4 a5 a6 (4 : Int).toNat = a4 := rfl
  rw [ef, eg, ep, show (2 : Int) ^ (0 : Int).toNat = 1 by decide, eo]
  refine Prod.ext rfl (funext fun j => ?_)
  dsimp only
  unfold fw
  by_cases hj : j = 4
  · subst hj; rfl
  · rw [if_neg (show ¬ j = (4 : Int).toNat by simpa using hj)]
    simp only [if_neg hj]
theorem ps_5_7_0_0 (H a0 a1 a2 a3 a4 a5 a6 : Int) (hH0 : 0 ≤ H) (hH1 : H < 65536) (hz : H / 1 % 256 = 0) (h0 : 0 ≤ a5) (h1 : a5 < 4294967296) : pcStep (H, fw a0 a1 a2 a3 a4 a5 a6) ⟨5, 7, 0, 0⟩ = (H + a5 / 1 % 256 * 1, fw a0 a1 a2 a3 a4 (a5 - a5 / 1 % 256 * 1) a6) := by
  have eg : getI a5 7 0 = a5 / 1 % 256 := Om.get_n a5 7 0 1 256 rfl rfl (by decide) (by decide) (by decide) (by decide) h0
  have ep : putI a5 7 0 0 = a5 - a5 / 1 % 256 * 1 := put0 a5 7 0 1 256 rfl rfl (by decide) (by decide) (by decide) (by decide) h0 h1
  have eo : bits .or .u32 H (a5 / 1 % 256 * 1 % 4294967296) = H + a5 / 1 % 256 * 1 := or_add H (a5 / 1 % 256) 0 8 1 256 (by decide) (by decide) (by decide) hH0 (by omega) hz (by omega) (by omega)
  unfold pcStep
  dsimp only
  have ef : fw a0 a1 a2 a3 a4 a5 a6 (5 : Int).toNat = a5 := rfl
  rw [ef, eg, ep, show (2 : Int) ^ (0 : Int).toNat = 1 by decide, eo]
  refine Prod.ext rfl (funext fun j => ?_)
  dsimp only
  unfold fw
  by_cases hj : j = 5
  · subst hj; rfl
  · rw [if_neg (show ¬ j = (5 : Int).toNat by simpa using hj)]
    simp only [if_neg hj]
theorem ps_5_14_14_8 (H a0 a1 a2 a3 a4 a5 a6 : Int) (hH0 : 0 ≤ H) (hH1 : H < 65536) (hz : H / 256 % 2 = 0) (h0 : 0 ≤ a5) (h1 : a5 < 4294967296) : pcStep (H, fw a0 a1 a2 a3 a4 a5 a6) ⟨5, 14, 14, 8⟩ = (H + a5 / 16384 % 2 * 256, fw a0 a1 a2 a3 a4 (a5 - a5 / 16384 % 2 * 16384) a6) := by
  have eg : getI a5 14 14 = a5 / 16384 % 2 := Om.get_n a5 14 14 16384 2 rfl rfl (by decide) (by decide) (by decide) (by decide) h0
  have ep : putI a5 14 14 0 = a5 - a5 / 16384 % 2 * 16384 := put0 a5 14 14 16384 2 rfl rfl (by decide) (by decide) (by decide) (by decide) h0 h1
  have eo : bits .or .u32 H (a5 / 16384 % 2 * 256 % 4294967296) = H + a5 / 16384 % 2 * 256 := or_add H (a5 / 16384 % 2) 8 1 256 2 (by decide) (by decide) (by decide) hH0 (by omega) hz (by omega) (by omega)
  unfold pcStep
  dsimp only
  have ef : fw a0 a1 a2 a3 a4 a5 a6 (5 : Int).toNat = a5 := rfl
  rw [ef, eg, ep, show (2 : Int) ^ (8 : Int).toNat = 256 by decide, eo]
  refine Prod.ext rfl (funext fun j => ?_)
  dsimp only
  unfold fw
  by_cases hj : j = 5
  · subst hj; rfl
  · rw [if_neg (show ¬ j = (5 : Int).toNat by simpa using hj)]
    simp only [if_neg hj]
theorem ps_5_15_15_8 (H a0 a1 a2 a3 a4 a5 a6 : Int) (hH0 : 0 ≤ H) (hH1 : H < 65536) (hz : H / 256 % 2 = 0) (h0 : 0 ≤ a5) (h1 : a5 < 4294967296) : pcStep (H, fw a0 a1 a2 a3 a4 a5 a6) ⟨5, 15, 15, 8⟩ = (H + a5 / 32768 % 2 * 256, fw a0 a1 a2 a3 a4 (a5 - a5 / 32768 % 2 * 32768) a6) := by
  have eg : getI a5 15 15 = a5 / 32768 % 2 := Om.get_n a5 15 15 32768 2 rfl rfl (by decide) (by decide) (by decide) (by decide) h0
  have ep : putI a5 15 15 0 = a5 - a5 / 32768 % 2 * 32768 := put0 a5 15 15 32768 2 rfl rfl (by decide) (by decide) (by decide) (by decide) h0 h1
  have eo : bits .or .u32 H (a5 / 32768 % 2 * 256 % 4294967296) = H + a5 / 32768 % 2 * 256 := or_add H (a5 / 32768 % 2) 8 1 256 2 (by decide) (by decide) (by decide) hH0 (by omega) hz (by omega) (by omega)
  unfold pcStep
  dsimp only
  have ef : fw a0 a1 a2 a3 a4 a5 a6 (5 : Int).toNat = a5 := rfl
  rw [ef, eg, ep, show (2 : Int) ^ (8 : Int).toNat = 256 by decide, eo]
  refine Prod.ext rfl (funext fun j => ?_)
  dsimp only
  unfold fw
  by_cases hj : j = 5
  · subst hj; rfl
  · rw [if_neg (show ¬ j = (5 : Int).toNat by simpa using hj)]
    simp only [if_neg hj]
theorem ps_6_3_0_8 (H a0 a1 a2 a3 a4 a5 a6 : Int) (hH0 : 0 ≤ H) (hH1 : H < 65536) (hz : H / 256 % 16 = 0) (h0 : 0 ≤ a6) (h1 : a6 < 4294967296) : pcStep (H, fw a0 a1 a2 a3 a4 a5 a6) ⟨6, 3, 0, 8⟩ = (H + a6 / 1 % 16 * 256, fw a0 a1 a2 a3 a4 a5 (a6 - a6 / 1 % 16 * 1)) := by
  have eg : getI a6 3 0 = a6 / 1 % 16 := Om.get_n a6 3 0 1 16 rfl rfl (by decide) (by decide) (by decide) (by decide) h0
  have ep : putI a6 3 0 0 = a6 - a6 / 1 % 16 * 1 := put0 a6 3 0 1 16 rfl rfl (by decide) (by decide) (by decide) (by decide) h0 h1
  have eo : bits .or .u32 H (a6 / 1 % 16 * 256 % 4294967296) = H + a6 / 1 % 16 * 256 := or_add H (a6 / 1 % 16) 8 4 256 16 (by decide) (by decide) (by decide) hH0 (by omega) hz (by omega) (by omega)
  unfold pcStep
  dsimp only
  have ef : fw a0 a1 a2 a3 a4 a5 a6 (6 : Int).toNat = a6 := rfl
  rw [ef, eg, ep, show (2 : Int) ^ (8 : Int).toNat = 256 by decide, eo]
  refine Prod.ext rfl (funext fun j => ?_)
  dsimp only
  unfold fw
  by_cases hj : j = 6
  · subst hj; rfl
  · rw [if_neg (show ¬ j = (6 : Int).toNat by simpa using hj)]
    simp only [if_neg hj]
theorem ps_6_3_0_32 (H a0 a1 a2 a3 a4 a5 a6 : Int) (hH0 : 0 ≤ H) (hH1 : H < 65536) (h0 : 0 ≤ a6) (h1 : a6 < 4294967296) : pcStep (H, fw a0 a1 a2 a3 a4 a5 a6) ⟨6, 3, 0, 32⟩ = (H, fw a0 a1 a2 a3 a4 a5 (a6 - a6 / 1 % 16 * 1)) := by
  have eg : getI a6 3 0 = a6 / 1 % 16 := Om.get_n a6 3 0 1 16 rfl rfl (by decide) (by decide) (by decide) (by decide) h0
  have ep : putI a6 3 0 0 = a6 - a6 / 1 % 16 * 1 := put0 a6 3 0 1 16 rfl rfl (by decide) (by decide) (by decide) (by decide) h0 h1
  have eo : bits .or .u32 H (a6 / 1 % 16 * 4294967296 % 4294967296) = H := by rw [show a6 / 1 % 16 * 4294967296 % 4294967296 = 0 by omega]; exact or_zero H hH0 (by omega)
  unfold pcStep
  dsimp only
  have ef : fw a0 a1 a2 a3 a4 a5 a6 (6 : Int).toNat = a6 := rfl
  rw [ef, eg, ep, show (2 : Int) ^ (32 : Int).toNat = 4294967296 by decide, eo]
  refine Prod.ext rfl (funext fun j => ?_)
  dsimp only
  unfold fw
  by_cases hj : j = 6
  · subst hj; rfl
  · rw [if_neg (show ¬ j = (6 : Int).toNat by simpa using hj)]
    simp only [if_neg hj]
theorem ps_6_3_0_4 (H a0 a1 a2 a3 a4 a5 a6 : Int) (hH0 : 0 ≤ H) (hH1 : H < 65536) (hz : H / 16 % 16 = 0) (h0 : 0 ≤ a6) (h1 : a6 < 4294967296) : pcStep (H, fw a0 a1 a2 a3 a4 a5 a6) ⟨6, 3, 0, 4⟩ = (H + a6 / 1 % 16 * 16, fw a0 a1 a2 a3 a4 a5 (a6 - a6 / 1 % 16 * 1)) := by
  have eg : getI a6 3 0 = a6 / 1 % 16 := Om.get_n a6 3 0 1 16 rfl rfl (by decide) (by decide) (by decide) (by decide) h0
  have ep : putI a6 3 0 0 = a6 - a6 / 1 % 16 * 1 := put0 a6 3 0 1 16 rfl rfl (by decide) (by decide) (by decide) (by decide) h0 h1
  have eo : bits .or .u32 H (a6 / 1 % 16 * 16 % 4294967296) = H + a6 / 1 % 16 * 16 := or_add H (a6 / 1 % 16) 4 4 16 16 (by decide) (by decide) (by decide) hH0 (by omega) hz (by omega) (by omega)
  unfold pcStep
  dsimp only
  have ef : fw a0 a1 a2 a3 a4 a5 a6 (6 : Int).toNat = a6 := rfl
  rw [ef, eg, ep, show (2 : Int) ^ (4 : Int).toNat = 16 by decide, eo]
  refine Prod.ext rfl (funext fun j => ?_)
  dsimp only
  unfold fw
  by_cases hj : j = 6
  · subst hj; rfl
  · rw [if_neg (show ¬ j = (6 : Int).toNat by simpa using hj)]
    simp only [if_neg hj]
theorem ps_4_3_0_0 (H a0 a1 a2 a3 a4 a5 a6 : Int) (hH0 : 0 ≤ H) (hH1 : H < 65536) (hz : H / 1 % 16 = 0) (h0 : 0 ≤ a4) (h1 : a4 < 4294967296) : pcStep (H, fw a0 a1 a2 a3 a4 a5 a6) ⟨4, 3, 0, 0⟩ = (H + a4 / 1 % 16 * 1, fw a0 a1 a2 a3 (a4 - a4 / 1 % 16 * 1) a5 a6) := by
  have eg : getI a4 3 0 = a4 / 1 % 16 := Om.get_n a4 3 0 1 16 rfl rfl (by decide) (by decide) (by decide) (by decide) h0
  have ep : putI a4 3 0 0 = a4 - a4 / 1 % 16 * 1 := put0 a4 3 0 1 16 rfl rfl (by decide) (by decide) (by decide) (by decide) h0 h1
  have eo : bits .or .u32 H (a4 / 1 % 16 * 1 % 4294967296) = H + a4 / 1 % 16 * 1 := or_add H (a4 / 1 % 16) 0 4 1 16 (by decide) (by decide) (by decide) hH0 (by omega) hz (by omega) (by omega)
  unfold pcStep
  dsimp only
  have ef : fw a0 a1 a2 a3 a4 a5 a6 (4 : Int).toNat = a4 := rfl
  rw [ef, eg, ep, show (2 : Int) ^ (0 : Int).toNat = 1 by decide, eo]
  refine Prod.ext rfl (funext fun j => ?_)
  dsimp only
  unfold fw
  by_cases hj : j = 4
  · subst hj; rfl
  · rw [if_neg (show ¬ j = (4 : Int).toNat by simpa using hj)]
    simp only [if_neg hj]
end Pl
end Go.Proofs.YthpoficikcicmaaDoor
