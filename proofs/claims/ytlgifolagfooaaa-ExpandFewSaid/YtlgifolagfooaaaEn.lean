/- Plain facts on words of few bits: a word without its lowest zeros; which such words some number of twelve bits tells. -/
import Derived.Test.YtlgifolagfooaaaEm
namespace Go.Proofs.Ytlgifolagfooaaa
namespace Em

/-- y without its lowest zeros, at most f of them -/
def normF : Nat → Nat → Nat
  | 0, y => y
  | f + 1, y => if y ≠ 0 ∧ y % 2 = 0 then normF f (y / 2) else y

theorem normF_zero (f : Nat) : normF f 0 = 0 := by cases f <;> simp [normF]
theorem normF_odd (f y : Nat) (h : y % 2 = 1) : normF f y = y := by
  cases f with
  | zero => rfl
  | succ f => unfold normF; rw [if_neg (by omega)]
theorem normF_even (f y : Nat) (h0 : y ≠ 0) (h : y % 2 = 0) : normF (f + 1) y = normF f (y / 2) := by
  rw [normF, if_pos ⟨h0, h⟩]
theorem normF_pow (f : Nat) : ∀ x, ∃ k, k ≤ f ∧ x = normF f x * 2 ^ k := by
  induction f with
  | zero => exact fun x => ⟨0, by omega, by simp [normF]⟩
  | succ f ih =>
    intro x
    by_cases h : x ≠ 0 ∧ x % 2 = 0
    · obtain ⟨k, hk, he⟩ := ih (x / 2)
      refine ⟨k + 1, by omega, ?_⟩
      rw [normF_even f x h.1 h.2, Nat.pow_succ, ← Nat.mul_assoc, ← he]; omega
    · exact ⟨0, by omega, by rw [normF, if_neg h]; simp⟩

/-- a byte repeated in one of the three ways -/
def same (x : Nat) : Bool := decide (x = x % 256 * 16843009) || decide (x = x % 256 * 65537) || decide (x = x / 256 % 256 * 16777472)
/-- the number that tells a word of at most eight bits from its first to its last -/
def encN (x : Nat) : Nat := if x < 256 then x else (39 - Nat.log2 x) * 128 + x / 2 ^ (Nat.log2 x - 7) % 128

theorem few_all : all 4096 (fun i => !(okN i) || decide (normF 32 (expN i) ≤ 255) || same (expN i)) = true := by decide +kernel
theorem enc_all : all 256 (fun y => all 32 fun k => decide (4294967296 ≤ y * 2 ^ k) || good (y * 2 ^ k) (encN (y * 2 ^ k))) = true := by decide +kernel
theorem same_all : all 256 (fun b => good (b * 16843009) (if b = 0 then 0 else 768 + b) && good (b * 65537) (if b = 0 then 0 else 256 + b) && good (b * 16777472) (if b = 0 then 0 else 512 + b)) = true := by decide +kernel

theorem few_no (i : Nat) (x : Nat) (h : good x i = true) : normF 32 x ≤ 255 ∨ same x = true := by
  unfold good at h
  rw [Bool.and_eq_true, beq_iff_eq] at h
  obtain ⟨h1, h2⟩ := h
  have hi : i < 4096 := by unfold okN at h1; simp at h1; omega
  have := all_of few_all i hi
  rw [h1, h2] at this
  simpa using this

theorem few_yes (x : Nat) (hx : x < 4294967296) (h : normF 32 x ≤ 255 ∨ same x = true) : ∃ i, good x i = true := by
  rcases h with h | h
  · obtain ⟨k, hk, he⟩ := normF_pow 32 x
    have h32 : k < 32 ∨ x = 0 := by
      by_cases hk' : k < 32
      · exact .inl hk'
      · right
        have : k = 32 := by omega
        subst this
        by_cases h0 : normF 32 x = 0
        · rw [h0] at he; simpa using he
        · have : 1 * 2 ^ 32 ≤ normF 32 x * 2 ^ 32 := Nat.mul_le_mul_right _ (by omega)
          omega
    rcases h32 with h32 | h0
    · have h1 := all_of enc_all (normF 32 x) (by omega)
      have h2 := all_of h1 k h32
      rw [← he] at h2
      rw [show decide (4294967296 ≤ x) = false by simp; omega, Bool.false_or] at h2
      exact ⟨_, h2⟩
    · subst h0
      exact ⟨0, by decide⟩
  · unfold same at h
    simp only [Bool.or_eq_true, decide_eq_true_eq] at h
    rcases h with (h | h) | h
    · have h1 := all_of same_all (x % 256) (by omega)
      simp only [Bool.and_eq_true] at h1
      rw [← h] at h1
      exact ⟨_, h1.1.1⟩
    · have h1 := all_of same_all (x % 256) (by omega)
      simp only [Bool.and_eq_true] at h1
      rw [← h] at h1
      exact ⟨_, h1.1.2⟩
    · have h1 := all_of same_all (x / 256 % 256) (by omega)
      simp only [Bool.and_eq_true] at h1
      rw [← h] at h1
      exact ⟨_, h1.2⟩
end Em
end Go.Proofs.Ytlgifolagfooaaa
