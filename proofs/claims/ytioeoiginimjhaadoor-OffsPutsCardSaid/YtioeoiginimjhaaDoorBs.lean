/- Contracts of Sign: the program's and the document's own answers. -/
import Derived.Test.YtioeoiginimjhaaDoorRows
import Derived.Test.YtioeoiginimjhaaDoorBw
namespace Go.Proofs.YtioeoiginimjhaaDoor
open Go.ChangeShapes Go.WideShapes Go.ChangeAt Go.RowKit

/-- the lowest n bits of x as a number with a sign; 0 where n is none of 1 to 32 -/
def signI (x n : Int) : Int := if 1 ≤ n ∧ n ≤ 32 then (if x / 2 ^ (n - 1).toNat % 2 = 1 then x % 2 ^ n.toNat - 2 ^ n.toNat else x % 2 ^ n.toNat) else 0

theorem pow_split (a b : Nat) (h : a + b = 32) : 2 ^ a * 2 ^ b = 4294967296 := by
  rw [← Nat.pow_add, h]

theorem wrap32_cases (y : Int) (h0 : 0 ≤ y) (h : y < 4294967296) : wrap32 y = if y < 2147483648 then y else y - 4294967296 := by
  unfold wrap32; split <;> omega

/-- the way up and the way back down -/
theorem sign_nat (X n : Nat) (h1 : 1 ≤ n) (h2 : n ≤ 32) :
    wrap32 (((X * 2 ^ (32 - n) % 4294967296 : Nat) : Int)) / ((2 ^ (32 - n) : Nat) : Int) = if X / 2 ^ (n - 1) % 2 = 1 then ((X % 2 ^ n : Nat) : Int) - ((2 ^ n : Nat) : Int) else ((X % 2 ^ n : Nat) : Int) := by
  obtain ⟨m, rfl⟩ : ∃ m, n = m + 1 := ⟨n - 1, by omega⟩
  have hps := pow_split (m + 1) (32 - (m + 1)) (by omega)
  have hP := Nat.two_pow_pos (32 - (m + 1))
  have hm := Nat.mod_lt X (Nat.two_pow_pos (m + 1))
  have hq := Nat.two_pow_pos m
  have hsplit : X % 2 ^ (m + 1) = X % 2 ^ m + 2 ^ m * (X / 2 ^ m % 2) := by rw [Nat.pow_succ, Nat.mod_mul]
  have hlow := Nat.mod_lt X hq
  have e1 : X * 2 ^ (32 - (m + 1)) % 4294967296 = X % 2 ^ (m + 1) * 2 ^ (32 - (m + 1)) := by
    rw [← hps, Nat.mul_mod_mul_right]
  rw [e1, Nat.add_sub_cancel]
  have e2 : 2 ^ (m + 1) = 2 * 2 ^ m := by rw [Nat.pow_succ, Nat.mul_comm]
  rw [e2] at hm hsplit hps e1 ⊢
  clear e2
  generalize hb : X / 2 ^ m % 2 = b at *
  have hb2 : b < 2 := by omega
  generalize X % (2 * 2 ^ m) = r at *
  generalize X % 2 ^ m = l at *
  generalize 2 ^ (32 - (m + 1)) = P at *
  generalize 2 ^ m = q at *
  have hy : r * P < 4294967296 := by rw [← hps]; exact Nat.mul_lt_mul_of_pos_right hm hP
  rw [wrap32_cases _ (by omega) (by omega)]
  have hq2 : q * P = 2147483648 := by
    have : 2 * q * P = 2 * (q * P) := Nat.mul_assoc ..
    omega
  by_cases h : b = 1
  · have hr : q ≤ r := by rw [hsplit, h]; omega
    have hge : q * P ≤ r * P := Nat.mul_le_mul_right P hr
    rw [if_pos h, if_neg (by omega)]
    have e3 : ((r * P : Nat) : Int) - 4294967296 = ((r : Int) - ((2 * q : Nat) : Int)) * (P : Int) := by
      rw [Int.sub_mul, ← Int.natCast_mul, ← Int.natCast_mul, hps]; rfl
    rw [e3, Int.mul_ediv_cancel _ (by omega)]
  · have h0 : b = 0 := by omega
    have hr : r < q := by rw [hsplit, h0]; omega
    have hlt : r * P < q * P := Nat.mul_lt_mul_of_pos_right hr hP
    rw [if_neg h, if_pos (by omega), Int.natCast_mul, Int.mul_ediv_cancel _ (by omega)]

theorem sign_eq (x n : Int) (hx0 : 0 ≤ x) (h1 : 1 ≤ n) (h2 : n ≤ 32) :
    wrap32 (x * 2 ^ (32 - n).toNat % 4294967296) / 2 ^ (32 - n).toNat = signI x n := by
  obtain ⟨X, rfl⟩ := Int.eq_ofNat_of_zero_le hx0
  obtain ⟨N, rfl⟩ := Int.eq_ofNat_of_zero_le (show 0 ≤ n by omega)
  have h := sign_nat X N (by omega) (by omega)
  unfold signI
  rw [if_pos ⟨h1, h2⟩, show (32 - (N : Int)).toNat = 32 - N by omega, show ((N : Int) - 1).toNat = N - 1 by omega, Int.toNat_natCast, ofNat_shl, ofNat_div]
  have e : ((2 : Int) ^ (32 - N)) = ((2 ^ (32 - N) : Nat) : Int) := by simp
  have e' : ((2 : Int) ^ N) = ((2 ^ N : Nat) : Int) := by simp
  rw [e, e', h, ← Int.natCast_emod]
  by_cases hb : X / 2 ^ (N - 1) % 2 = 1
  · rw [if_pos hb, if_pos (by omega)]
  · rw [if_neg hb, if_neg (by omega)]

theorem mod_pow_bd (x : Int) (n : Nat) (hn : n ≤ 32) : 0 ≤ x % 2 ^ n ∧ x % 2 ^ n < 2 ^ n ∧ (2 : Int) ^ n ≤ 4294967296 ∧ (1 : Int) ≤ 2 ^ n := by
  have hp : (0 : Int) < 2 ^ n := Int.pow_pos (by decide)
  have e' : ((2 : Int) ^ n) = ((2 ^ n : Nat) : Int) := by simp
  have h2 : 2 ^ n ≤ 2 ^ 32 := Nat.pow_le_pow_right (by omega) hn
  have h3 : (2 : Nat) ^ 32 = 4294967296 := by decide
  exact ⟨Int.emod_nonneg _ (by omega), Int.emod_lt_of_pos _ hp, by omega, by omega⟩

theorem sign_bd (x n : Int) : -4294967296 ≤ signI x n ∧ signI x n ≤ 4294967296 := by
  unfold signI
  split
  · obtain ⟨h1, h2, h3, h4⟩ := mod_pow_bd x n.toNat (by omega)
    split <;> omega
  · omega

theorem sign_c (x n : Int) (w : World) (hx0 : 0 ≤ x) (_hx : x < 4294967296) :
    Calls Tryd.prog 23 #[.int .u32 x, .int .i64 n] w fun e w' => e = .returned (.int .i64 (signI x n)) ∧ ∃ n, w' = w.drewN n := by
  by_cases h1 : n < 1
  · have e : signI x n = 0 := by unfold signI; rw [if_neg (by omega)]
    rw [e]; clear e
    go_enter Tryd.func23, Tryd.ntmps23
    go_wp2
    go_ret
    exact ⟨rfl, 0, rfl⟩
  · by_cases h2 : 32 < n
    · have e : signI x n = 0 := by unfold signI; rw [if_neg (by omega)]
      rw [e]; clear e
      go_enter Tryd.func23, Tryd.ntmps23
      go_wp2
      go_ret
      exact ⟨rfl, 0, rfl⟩
    · go_enter Tryd.func23, Tryd.ntmps23
      go_wp2
      go_ret
      exact ⟨ret_int (by rw [sign_eq x n hx0 (by omega) (by omega)]; have := sign_bd x n; exact IntWalk.wrap64_in _ (by omega)), 0, rfl⟩

/-- what the document's loop holds when it stands at bit i -/
def signTo (x n i : Int) : Int := if i < n then x % 2 ^ i.toNat else signI x n

theorem signTo_bd (x n i : Int) (h : n ≤ 32) : -4294967296 ≤ signTo x n i ∧ signTo x n i ≤ 4294967296 := by
  unfold signTo
  split
  · obtain ⟨h1, h2, h3, h4⟩ := mod_pow_bd x i.toNat (by omega)
    omega
  · exact sign_bd x n

theorem signTo_zero (x n : Int) (h1 : 1 ≤ n) : signTo x n 0 = 0 := by
  unfold signTo
  rw [if_pos (by omega)]
  show x % 2 ^ 0 = 0
  rw [Int.pow_zero]; omega

theorem mod_succ (x : Int) (m : Nat) (hx0 : 0 ≤ x) : x % 2 ^ (m + 1) = x % 2 ^ m + 2 ^ m * (x / 2 ^ m % 2) := by
  obtain ⟨X, rfl⟩ := Int.eq_ofNat_of_zero_le hx0
  have h : X % 2 ^ (m + 1) = X % 2 ^ m + 2 ^ m * (X / 2 ^ m % 2) := by rw [Nat.pow_succ, Nat.mod_mul]
  exact_mod_cast h

/-- one bit more, not set; set below the last; set, the last -/
theorem signTo_step (x n i V : Int) (hx0 : 0 ≤ x) (h0 : 0 ≤ i) (h1 : i < n) (h2 : n ≤ 32) (hV : signTo x n i = V) :
    (¬ x / 2 ^ i.toNat % 2 = 1 → V = signTo x n (i + 1)) ∧
    (x / 2 ^ i.toNat % 2 = 1 → ¬ i = n - 1 → V + 2 ^ i.toNat = signTo x n (i + 1)) ∧
    (x / 2 ^ i.toNat % 2 = 1 → i = n - 1 → V + -2 ^ i.toNat = signTo x n (i + 1)) := by
  subst hV
  have hs := mod_succ x i.toNat hx0
  have hp2 : (2 : Int) ^ (i.toNat + 1) = 2 * 2 ^ i.toNat := by rw [Int.pow_succ, Int.mul_comm]
  have hb : 0 ≤ x / 2 ^ i.toNat % 2 ∧ x / 2 ^ i.toNat % 2 < 2 := by omega
  unfold signTo
  rw [if_pos h1]
  by_cases hl : i + 1 < n
  · rw [if_pos hl, show (i + 1).toNat = i.toNat + 1 by omega, hs]
    refine ⟨fun h => ?_, fun h _ => ?_, fun _ h => ?_⟩
    · rw [show x / 2 ^ i.toNat % 2 = 0 by omega]; omega
    · rw [h]; omega
    · omega
  · have hn : n = i + 1 := by omega
    subst hn
    rw [if_neg hl]
    unfold signI
    rw [if_pos (by omega), show (i + 1 - 1).toNat = i.toNat by omega, show (i + 1).toNat = i.toNat + 1 by omega, hs]
    refine ⟨fun h => ?_, fun _ h => ?_, fun h _ => ?_⟩
    · rw [if_neg h, show x / 2 ^ i.toNat % 2 = 0 by omega]; omega
    · omega
    · rw [if_pos h, h, hp2]; omega

theorem and1_x (x : Int) (m : Nat) (hx0 : 0 ≤ x) (hx : x < 4294967296) : bits .and .u32 (x / 2 ^ m) 1 = x / 2 ^ m % 2 := by
  obtain ⟨X, rfl⟩ := Int.eq_ofNat_of_zero_le hx0
  rw [ofNat_div, u32_and1 _ (Nat.lt_of_le_of_lt (Nat.div_le_self _ _) (by omega))]; rfl

theorem rsign_c (x n : Int) (w : World) (hx0 : 0 ≤ x) (hx : x < 4294967296) :
    Calls Tryd.prog 25 #[.int .u32 x, .int .i64 n] w fun e w' => e = .returned (.int .i64 (signI x n)) ∧ ∃ n, w' = w.drewN n := by
  by_cases h1 : n < 1
  · have e : signI x n = 0 := by unfold signI; rw [if_neg (by omega)]
    rw [e]; clear e
    go_enter Tryd.func25, Tryd.ntmps25
    go_wp2
    go_ret
    exact ⟨rfl, 0, rfl⟩
  · by_cases h2 : 32 < n
    · have e : signI x n = 0 := by unfold signI; rw [if_neg (by omega)]
      rw [e]; clear e
      go_enter Tryd.func25, Tryd.ntmps25
      go_wp2
      go_ret
      exact ⟨rfl, 0, rfl⟩
    · go_enter Tryd.func25, Tryd.ntmps25
      go_wp2
      go_loop [5, 6] (fun v i => ∃ i' V : Int, 0 ≤ i' ∧ i' ≤ n ∧ i = .int .i64 i' ∧ signTo x n i' = V ∧ v = .int .i64 V) (fun _ i => (n - intOf i).toNat)
      case atStart => exact ⟨0, 0, by omega, by omega, rfl, signTo_zero x n (by omega), rfl⟩
      case round =>
        obtain ⟨i', V, hi0, hi1, rfl, hV, rfl⟩ := hrel
        have hb := signTo_bd x n i' (by omega)
        rw [hV] at hb
        obtain ⟨hb0, hb1⟩ := hb
        have HV := Lib.hid hV; clear hV
        by_cases hlt : i' < n
        · obtain ⟨_, _, hp0, hp1⟩ := mod_pow_bd x i'.toNat (by omega)
          have H := Lib.hid (signTo_step x n i' V hx0 hi0 hlt (by omega) HV.out)
          have hA := and1_x x i'.toNat hx0 hx
          by_cases hbit : x / 2 ^ i'.toNat % 2 = 1
          · have hB : (bits .and .u32 (x / 2 ^ i'.toNat) 1 == 1) = true := by rw [hA]; simp [hbit]
            have Hb := Lib.hid hbit; clear hbit hA
            by_cases hlast : i' = n - 1
            · have hL : (i' == n - 1) = true := by simp [hlast]
              have HL := Lib.hid hlast; clear hlast
              go_wp2
              go_round
              case rel => exact ⟨i' + 1, _, by omega, by omega, rfl, (H.out.2.2 Hb.out HL.out).symm, rfl⟩
              case measure => simp [intOf]; omega
            · have hL : (i' == n - 1) = false := by simp [hlast]
              have HL := Lib.hid hlast; clear hlast
              go_wp2
              go_round
              case rel => exact ⟨i' + 1, _, by omega, by omega, rfl, (H.out.2.1 Hb.out HL.out).symm, rfl⟩
              case measure => simp [intOf]; omega
          · have hB : (bits .and .u32 (x / 2 ^ i'.toNat) 1 == 1) = false := by rw [hA]; simp [hbit]
            have Hb := Lib.hid hbit; clear hbit hA
            go_wp2
            go_round
            case rel => exact ⟨i' + 1, _, by omega, by omega, rfl, (H.out.1 Hb.out).symm, rfl⟩
            case measure => simp [intOf]; omega
        · go_wp2
          go_ret
          exact ⟨ret_int (by rw [← HV.out]; unfold signTo; rw [if_neg (by omega)]), 0, rfl⟩
end Go.Proofs.YtioeoiginimjhaaDoor
