/- Plain facts on lists of registers taken one by one: what is gone through makes the list's lowest bits. No conditions but those that each fact names. -/
import Derived.Test.YtdnggaomdbdieaaRl
namespace Go.Proofs.Ytdnggaomdbdieaa
namespace Rm
theorem peel (h : Nat → Bool) : ∀ (k r x : Nat) (t : List Nat), k + r = 16 → rest h r (16 - r) = x :: t → r ≤ x ∧ x < 16 ∧ h x = true ∧ t = rest h (x + 1) (16 - (x + 1)) ∧ ∀ i, r ≤ i → i < x → h i = false
  | 0, r, x, t, e, hr => by rw [rest_end h (by omega)] at hr; cases hr
  | k + 1, r, x, t, e, hr => by
    rw [rest_step h (by omega)] at hr
    by_cases hb : h r
    · rw [if_pos hb] at hr
      cases hr
      exact ⟨Nat.le_refl _, by omega, hb, rfl, fun i h1 h2 => by omega⟩
    · rw [if_neg hb] at hr
      obtain ⟨h1, h2, h3, h4, h5⟩ := peel h k (r + 1) x t (by omega) hr
      refine ⟨by omega, h2, h3, h4, fun i g1 g2 => ?_⟩
      by_cases g : i = r
      · rw [g]; simpa using hb
      · exact h5 i (by omega) g2
theorem peel_nil (h : Nat → Bool) : ∀ (k r : Nat), k + r = 16 → rest h r (16 - r) = [] → ∀ i, r ≤ i → i < 16 → h i = false
  | 0, r, e, hr, i, h1, h2 => by omega
  | k + 1, r, e, hr, i, h1, h2 => by
    rw [rest_step h (by omega)] at hr
    by_cases hb : h r
    · rw [if_pos hb] at hr; cases hr
    · rw [if_neg hb] at hr
      by_cases g : i = r
      · rw [g]; simpa using hb
      · exact peel_nil h k (r + 1) (by omega) hr i (by omega) h2
theorem cases16 {r : Nat} (h : r < 16) : r = 0 ∨ r = 1 ∨ r = 2 ∨ r = 3 ∨ r = 4 ∨ r = 5 ∨ r = 6 ∨ r = 7 ∨ r = 8 ∨ r = 9 ∨ r = 10 ∨ r = 11 ∨ r = 12 ∨ r = 13 ∨ r = 14 ∨ r = 15 := by omega
theorem mod_step (m : Int) {r : Nat} (h : r < 16) : m % 2 ^ (r + 1) = m % 2 ^ r + (if bit m r then 2 ^ r else 0) := by
  unfold bit
  rcases cases16 h with rfl | rfl | rfl | rfl | rfl | rfl | rfl | rfl | rfl | rfl | rfl | rfl | rfl | rfl | rfl | rfl <;> simp <;> split <;> omega
theorem mod_none (m : Int) (r : Nat) : ∀ (d : Nat), r + d ≤ 16 → (∀ i, r ≤ i → i < r + d → bit m i = false) → m % 2 ^ (r + d) = m % 2 ^ r
  | 0, _, _ => rfl
  | d + 1, hd, h => by
    have h1 := mod_step m (r := r + d) (by omega)
    rw [h (r + d) (by omega) (by omega), mod_none m r d (by omega) (fun i g1 g2 => h i g1 (by omega))] at h1
    rw [← Nat.add_assoc, h1]; simp
/-- one more is gone through -/
theorem take_one (m : Int) {r x : Nat} {t : List Nat} (hr : r ≤ 16) (h : rest (bit m) r (16 - r) = x :: t) :
    r ≤ x ∧ x ≤ 15 ∧ t = rest (bit m) (x + 1) (16 - (x + 1)) ∧ m % 2 ^ x = m % 2 ^ r ∧ m % 2 ^ (x + 1) = m % 2 ^ r + 2 ^ x := by
  obtain ⟨h1, h2, h3, h4, h5⟩ := peel (bit m) (16 - r) r x t (by omega) h
  have e1 := mod_none m r (x - r) (by omega) (fun i g1 g2 => h5 i g1 (by omega))
  rw [show r + (x - r) = x by omega] at e1
  have e2 := mod_step m h2
  rw [h3, if_pos rfl, e1] at e2
  exact ⟨h1, by omega, h4, e1, e2⟩
theorem take_none (m : Int) {r : Nat} (hr : r ≤ 16) (h : rest (bit m) r (16 - r) = []) : m % 65536 = m % 2 ^ r := by
  have e1 := mod_none m r (16 - r) (by omega) (fun i g1 g2 => peel_nil (bit m) (16 - r) r (by omega) h i g1 (by omega))
  rw [show r + (16 - r) = 16 by omega] at e1
  exact e1
theorem mod_bd (m : Int) (r : Nat) : 0 ≤ m % 2 ^ r ∧ m % 2 ^ r < 2 ^ r := ⟨Int.emod_nonneg _ (by have := Int.pow_pos (n := 2) (m := r) (by decide); omega), Int.emod_lt_of_pos _ (Int.pow_pos (by decide))⟩
theorem pow_bd {x : Nat} (h : x ≤ 15) : (1 : Int) ≤ 2 ^ x ∧ (2 : Int) ^ x ≤ 32768 := by
  rcases cases16 (r := x) (by omega) with rfl | rfl | rfl | rfl | rfl | rfl | rfl | rfl | rfl | rfl | rfl | rfl | rfl | rfl | rfl | rfl <;> decide
theorem i64_or_nat (a b : Nat) (ha : a < 9223372036854775808) (hb : b < 9223372036854775808) : bits .or .i64 (a : Int) (b : Int) = ((a ||| b : Nat) : Int) := by
  have hc : a ||| b < 2 ^ 63 := Nat.or_lt_two_pow (by omega) (by omega)
  have h : bits .or .i64 (a : Int) (b : Int) = IntKind.i64.wrap (((BitVec.ofInt 64 a).toNat ||| (BitVec.ofInt 64 b).toNat : Nat) : Int) := by
    rw [← BitVec.toNat_or]; rfl
  have ea : (BitVec.ofInt 64 (a : Int)).toNat = a := by rw [BitVec.toNat_ofInt]; omega
  have eb : (BitVec.ofInt 64 (b : Int)).toNat = b := by rw [BitVec.toNat_ofInt]; omega
  rw [h, ea, eb, IntKind.wrap_i64]
  omega
theorem or_pow (n : Int) (x : Nat) (hx : x ≤ 15) (h0 : 0 ≤ n) (h1 : n < 2 ^ x) : bits .or .i64 n (2 ^ x) = n + 2 ^ x := by
  obtain ⟨N, rfl⟩ := Int.eq_ofNat_of_zero_le h0
  have h1' : N < 2 ^ x := by exact_mod_cast h1
  have hp : (2 : Nat) ^ x ≤ 2 ^ 15 := Nat.pow_le_pow_right (by omega) hx
  have e : ((2 : Int) ^ x) = ((2 ^ x : Nat) : Int) := by simp
  rw [e, i64_or_nat N (2 ^ x) (by omega) (by omega), Nat.or_comm, nat_join x (2 ^ x) N (Nat.mod_self _) h1']
  omega
end Rm
end Go.Proofs.Ytdnggaomdbdieaa
