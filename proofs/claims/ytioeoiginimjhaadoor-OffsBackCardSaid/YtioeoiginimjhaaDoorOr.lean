/- Contracts of the document's own answers on offsets: low, high, Fits, bit, Put, Get. -/
import Derived.Test.YtioeoiginimjhaaDoorRows
import Derived.Test.YtioeoiginimjhaaDoorOn
import Derived.Lib.EndianBits
namespace Go.Proofs.YtioeoiginimjhaaDoor
open Go.ChangeShapes Go.WideShapes Go.ChangeAt Go.RowKit

theorem i64_mask (n : Int) (k : Nat) (m c : Int) (hm : (BitVec.ofInt 64 m).toNat = 2 ^ k - 1) (hc : c = 2 ^ k) (hk : k ≤ 62) : bits .and .i64 n m = n % c := by
  subst hc
  have key : (BitVec.ofInt 64 n &&& BitVec.ofInt 64 m).toNat = (n % ((2 ^ 64 : Nat) : Int)).toNat % 2 ^ k := by
    rw [BitVec.toNat_and, BitVec.toNat_ofInt, hm, Nat.and_two_pow_sub_one_eq_mod]
  show IntKind.i64.wrap ((BitVec.ofInt 64 n &&& BitVec.ofInt 64 m).toNat : Nat) = n % 2 ^ k
  have hp : 2 ^ k ≤ 2 ^ 62 := Nat.pow_le_pow_right (by omega) hk
  have hpos := Nat.two_pow_pos k
  have hlt := Nat.mod_lt (n % ((2 ^ 64 : Nat) : Int)).toNat hpos
  have hd : ((2 : Int) ^ k) ∣ 2 ^ 64 := ⟨2 ^ (64 - k), by rw [← Int.pow_add]; congr 1; omega⟩
  have e : (((n % ((2 ^ 64 : Nat) : Int)).toNat % 2 ^ k : Nat) : Int) = n % 2 ^ k := by
    have h0 : 0 ≤ n % ((2 ^ 64 : Nat) : Int) := Int.emod_nonneg _ (by decide)
    rw [Int.natCast_emod, Int.toNat_of_nonneg h0]
    have : (((2 ^ 64 : Nat) : Int)) = 2 ^ 64 := by decide
    rw [this, show ((2 ^ k : Nat) : Int) = 2 ^ k by simp, Int.emod_emod_of_dvd _ hd]
  rw [key, IntWalk.i64_in _ (by omega), e]

theorem low_c (k : Int) (w : World) :
    Calls Tryd.prog 21 #[.int .i64 k] w fun e w' => e = .returned (.int .i64 (lowI k)) ∧ ∃ n, w' = w.drewN n := by
  unfold lowI
  by_cases h1 : k = 1
  · subst h1
    go_enter Tryd.func21, Tryd.ntmps21
    go_wp2
    go_ret
    exact ⟨rfl, 0, rfl⟩
  · by_cases h2 : k = 2
    · subst h2
      go_enter Tryd.func21, Tryd.ntmps21
      go_wp2
      go_ret
      exact ⟨rfl, 0, rfl⟩
    · by_cases h3 : k = 3
      · subst h3
        go_enter Tryd.func21, Tryd.ntmps21
        go_wp2
        go_ret
        exact ⟨rfl, 0, rfl⟩
      · by_cases h4 : k = 4
        · subst h4
          go_enter Tryd.func21, Tryd.ntmps21
          go_wp2
          go_ret
          exact ⟨rfl, 0, rfl⟩
        · rw [if_neg h1, if_neg h2, if_neg h3, if_neg h4]
          have b1 : (k == 1) = false := by simp [h1]
          have b2 : (k == 2) = false := by simp [h2]
          have b3 : (k == 3) = false := by simp [h3]
          have b4 : (k == 4) = false := by simp [h4]
          clear h1 h2 h3 h4
          go_enter Tryd.func21, Tryd.ntmps21
          go_wp2
          go_ret
          exact ⟨rfl, 0, rfl⟩

theorem low_bd (k : Int) : -16777216 ≤ lowI k ∧ lowI k ≤ 0 := by
  unfold lowI
  repeat' split
  all_goals omega

theorem high_c (k : Int) (w : World) :
    Calls Tryd.prog 22 #[.int .i64 k] w fun e w' => e = .returned (.int .i64 (highI k)) ∧ ∃ n, w' = w.drewN n := by
  have hl := low_bd k
  by_cases h : k = 5
  · subst h
    clear hl
    go_enter Tryd.func22, Tryd.ntmps22
    go_wp2
    go_ret
    exact ⟨rfl, 0, rfl⟩
  · have e : highI k = -lowI k - 2 := by unfold highI; rw [if_neg h]
    have b : (k == 5) = false := by simp [h]
    rw [e]
    clear h e
    obtain ⟨hl0, hl1⟩ := hl
    go_enter Tryd.func22, Tryd.ntmps22
    go_wp2_with ((go_at_call 21; refine (low_c _ _).mono ?_; rintro e w' ⟨rfl, n, rfl⟩))
    go_ret
    exact ⟨ret_int (by first | rfl | omega | (simp only [RowKit.wrap64]; omega)), n, rfl⟩

theorem bit_c (off i : Int) (w : World) (h0 : 0 ≤ i) (h1 : i < 64) :
    Calls Tryd.prog 19 #[.int .i64 off, .int .i64 i] w fun e w' => e = .returned (.int .i64 (off / 2 ^ i.toNat % 2)) ∧ ∃ n, w' = w.drewN n := by
  go_enter Tryd.func19, Tryd.ntmps19
  go_wp2
  go_ret
  exact ⟨ret_int (i64_mask _ 1 1 2 (by decide) (by decide) (by decide)), 0, rfl⟩

theorem rfits_c (k off : Int) (w : World) :
    Calls Tryd.prog 11 #[.int .i64 k, .int .i64 off] w fun e w' => e = .returned (.bool (fitsB k off)) ∧ ∃ n, w' = w.drewN n := by
  by_cases hk1 : 1 ≤ k
  · by_cases hk2 : k ≤ 5
    · by_cases hp : off % 2 = 0
      · have ht : (off.tmod 2 == 0) = true := by rw [tmod2]; simp [hp]
        by_cases hl : lowI k ≤ off
        · have hR : fitsB k off = decide (off ≤ highI k) := by unfold fitsB; simp [hk1, hk2, hl, hp]
          rw [hR]
          clear hR hp
          go_enter Tryd.func11, Tryd.ntmps11
          go_wp2_with (first | (go_at_call 21; refine (low_c _ _).mono ?_; rintro e w' ⟨rfl, n, rfl⟩) | (go_at_call 22; refine (high_c _ _).mono ?_; rintro e w' ⟨rfl, n2, rfl⟩))
          go_ret
          exact ⟨rfl, n + n2, rfl⟩
        · have hR : fitsB k off = false := by unfold fitsB; simp; omega
          rw [hR]
          clear hR hp
          go_enter Tryd.func11, Tryd.ntmps11
          go_wp2_with (first | (go_at_call 21; refine (low_c _ _).mono ?_; rintro e w' ⟨rfl, n, rfl⟩))
          go_ret
          exact ⟨rfl, n, rfl⟩
      · have ht : (off.tmod 2 == 0) = false := by rw [tmod2]; simp [hp]
        have hR : fitsB k off = false := by unfold fitsB; simp [hp]
        rw [hR]
        clear hR hp
        go_enter Tryd.func11, Tryd.ntmps11
        go_wp2
        go_ret
        exact ⟨rfl, 0, rfl⟩
    · have hR : fitsB k off = false := by unfold fitsB; simp [hk2]
      rw [hR]
      clear hR
      go_enter Tryd.func11, Tryd.ntmps11
      go_wp2
      go_ret
      exact ⟨rfl, 0, rfl⟩
  · have hR : fitsB k off = false := by unfold fitsB; simp [hk1]
    rw [hR]
    clear hR
    go_enter Tryd.func11, Tryd.ntmps11
    go_wp2
    go_ret
    exact ⟨rfl, 0, rfl⟩
end Go.Proofs.YtioeoiginimjhaaDoor
