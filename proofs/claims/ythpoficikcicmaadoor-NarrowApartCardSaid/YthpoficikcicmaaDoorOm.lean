/- Plain facts on offsets in pieces: what the program's two loops come to, as sums of products; that they are there and back. No memory, no calls; no conditions but those that each fact names. -/
import Derived.Test.YthpoficikcicmaaDoorOq
namespace Go.Proofs.YthpoficikcicmaaDoor
open Go.ChangeShapes Go.WideShapes Go.ChangeAt Go.RowKit
namespace Om

/-! fields as quotients and rests -/
theorem putU_add {X lo n V : Nat} (hX : X < 4294967296) (h : lo + n ≤ 32) (hz : X / 2 ^ lo % 2 ^ n = 0) (hV : V < 2 ^ n) : Bm.putU X lo n V = X + V * 2 ^ lo := by
  have hlt : V * 2 ^ lo < 2 ^ (lo + n) := by rw [Nat.pow_add, Nat.mul_comm]; exact Nat.mul_lt_mul_of_pos_left hV (Nat.two_pow_pos lo)
  have h32 : 2 ^ (lo + n) ≤ 2 ^ 32 := Nat.pow_le_pow_right (by omega) h
  have e : Bm.putU X lo n V = X ||| V * 2 ^ lo := by
    apply Bm.word_ext (Bm.put_lt _ _ _ _ hX) (Nat.or_lt_two_pow (n := 32) hX (Nat.lt_of_lt_of_le hlt h32))
    intro i hi
    rw [Bm.put_tb h hi, Nat.testBit_or, Nat.testBit_mul_two_pow]
    by_cases h1 : lo ≤ i ∧ i < lo + n
    · have h2 : X.testBit i = false := by
        have h3 := Nat.testBit_mod_two_pow (X / 2 ^ lo) n (i - lo)
        rw [hz, Nat.zero_testBit, Nat.testBit_div_two_pow, show i - lo + lo = i by omega] at h3
        have h4 : i - lo < n := by omega
        simpa [h4] using h3.symm
      rw [if_pos h1, h2]
      simp [h1.1]
    · rw [if_neg h1]
      by_cases h2 : lo ≤ i
      · have h3 : V.testBit (i - lo) = false := Nat.testBit_lt_two_pow (Nat.lt_of_lt_of_le hV (Nat.pow_le_pow_right (by omega) (by omega)))
        simp [h3]
      · simp [h2]
  rw [e]
  have hs := Nat.div_add_mod X (2 ^ (lo + n))
  have hl : X % 2 ^ (lo + n) = X % 2 ^ lo := by rw [Nat.pow_add, Nat.mod_mul, hz]; simp
  have hm := Nat.mod_lt X (Nat.two_pow_pos lo)
  rw [hl] at hs
  generalize X % 2 ^ lo = L at *
  have h5 : V * 2 ^ lo ||| L = V * 2 ^ lo + L := nat_join lo _ _ (by simp) hm
  have h6 : 2 ^ (lo + n) * (X / 2 ^ (lo + n)) ||| L = X := by rw [nat_join (lo + n) _ _ (by simp) (Nat.lt_of_lt_of_le hm (Nat.pow_le_pow_right (by omega) (by omega)))]; exact hs
  have h7 : V * 2 ^ lo + L < 2 ^ (lo + n) := by
    have : V * 2 ^ lo + 2 ^ lo ≤ 2 ^ (lo + n) := by
      rw [Nat.pow_add, ← Nat.succ_mul, Nat.mul_comm (2 ^ lo)]; exact Nat.mul_le_mul_right _ hV
    omega
  have h8 : X ||| V * 2 ^ lo = 2 ^ (lo + n) * (X / 2 ^ (lo + n)) ||| (V * 2 ^ lo ||| L) := by
    rw [Nat.or_comm (V * 2 ^ lo) L, ← Nat.or_assoc, h6]
  rw [h8, h5, nat_join (lo + n) _ _ (by simp) h7]
  omega

theorem putI_add (x v : Int) (hi lo : Nat) (h1 : lo ≤ hi) (h2 : hi < 32) (hx0 : 0 ≤ x) (hx1 : x < 4294967296) (hz : x / 2 ^ lo % 2 ^ (hi + 1 - lo) = 0) (hv0 : 0 ≤ v) (hv1 : v < 2 ^ (hi + 1 - lo)) :
    putI x hi lo v = x + v * 2 ^ lo := by
  obtain ⟨X, rfl⟩ := Int.eq_ofNat_of_zero_le hx0
  obtain ⟨V, rfl⟩ := Int.eq_ofNat_of_zero_le hv0
  unfold putI
  rw [if_pos (by omega)]
  simp only [Int.toNat_natCast]
  rw [putU_add (by omega) (by omega) (by exact_mod_cast hz) (by exact_mod_cast hv1)]
  simp

theorem getI_ar (x : Int) (hi lo : Nat) (h1 : lo ≤ hi) (h2 : hi < 32) (hx0 : 0 ≤ x) : getI x hi lo = x / 2 ^ lo % 2 ^ (hi + 1 - lo) := by
  obtain ⟨X, rfl⟩ := Int.eq_ofNat_of_zero_le hx0
  unfold getI
  rw [if_pos (by omega)]
  simp [Bm.getB]

/-! the two bits that are turned over -/
/-! sums -/
theorem put_n (x v : Int) (hi lo : Nat) (m c : Int) {hi' lo' : Int} (eh : (hi : Int) = hi') (el : (lo : Int) = lo') (hm : 2 ^ lo = m) (hc : 2 ^ (hi + 1 - lo) = c) (h1 : lo ≤ hi) (h2 : hi < 32) (hx0 : 0 ≤ x) (hx1 : x < 4294967296) (hz : x / m % c = 0) (hv0 : 0 ≤ v) (hv1 : v < c) :
    putI x hi' lo' v = x + v * m := by
  subst hm hc eh el
  exact putI_add x v hi lo h1 h2 hx0 hx1 hz hv0 hv1
theorem get_n (x : Int) (hi lo : Nat) (m c : Int) {hi' lo' : Int} (eh : (hi : Int) = hi') (el : (lo : Int) = lo') (hm : 2 ^ lo = m) (hc : 2 ^ (hi + 1 - lo) = c) (h1 : lo ≤ hi) (h2 : hi < 32) (hx0 : 0 ≤ x) : getI x hi' lo' = x / m % c := by
  subst hm hc eh el
  exact getI_ar x hi lo h1 h2 hx0

/-- is it below 0? -/
def sI (off : Int) : Int := if off < 0 then 1 else 0
/-- the first and the second halfword of an offset -/
def pA (k off : Int) : Int :=
  if k = 1 then off / 2 % 256
  else if k = 2 then off / 2 % 2048
  else if k = 3 then sI off * 1024 + off / 4096 % 64
  else if k = 4 then sI off * 1024 + off / 4096 % 1024
  else off / 64 % 2 * 512 + off / 2 % 32 * 8
def pB (k off : Int) : Int :=
  if k = 3 then off / 262144 % 2 * 8192 + off / 524288 % 2 * 2048 + off / 2 % 2048
  else if k = 4 then (1 + off / 8388608 % 2 + sI off) % 2 * 8192 + (1 + off / 4194304 % 2 + sI off) % 2 * 2048 + off / 2 % 2048
  else 0

theorem putTo_1 (x : Int) (hx0 : 0 ≤ x) : putTo 1 x 14 = (0 + (x / 2 % 256) * 1, 0) := by
  have e : putTo 1 x 14 = (putI 0 7 0 (getI x 8 1), 0) := by simp [putTo, putStep, pieceAt, pieceTab]
  rw [e, (get_n x 8 1 2 256 rfl rfl (by decide) (by decide) (by decide) (by decide) hx0 : getI x 8 1 = _)]
  rw [(put_n (0) (x / 2 % 256) 7 0 1 256 rfl rfl (by decide) (by decide) (by decide) (by decide) (by omega) (by omega) (by omega) (by omega) (by omega) : putI (0) 7 0 (x / 2 % 256) = _)]

theorem putTo_2 (x : Int) (hx0 : 0 ≤ x) : putTo 2 x 14 = (0 + (x / 2 % 2048) * 1, 0) := by
  have e : putTo 2 x 14 = (putI 0 10 0 (getI x 11 1), 0) := by simp [putTo, putStep, pieceAt, pieceTab]
  rw [e, (get_n x 11 1 2 2048 rfl rfl (by decide) (by decide) (by decide) (by decide) hx0 : getI x 11 1 = _)]
  rw [(put_n (0) (x / 2 % 2048) 10 0 1 2048 rfl rfl (by decide) (by decide) (by decide) (by decide) (by omega) (by omega) (by omega) (by omega) (by omega) : putI (0) 10 0 (x / 2 % 2048) = _)]

theorem putTo_5 (x : Int) (hx0 : 0 ≤ x) : putTo 5 x 14 = (0 + (x / 64 % 2) * 512 + (x / 2 % 32) * 8, 0) := by
  have e : putTo 5 x 14 = (putI (putI 0 9 9 (getI x 6 6)) 7 3 (getI x 5 1), 0) := by simp [putTo, putStep, pieceAt, pieceTab]
  rw [e, (get_n x 6 6 64 2 rfl rfl (by decide) (by decide) (by decide) (by decide) hx0 : getI x 6 6 = _), (get_n x 5 1 2 32 rfl rfl (by decide) (by decide) (by decide) (by decide) hx0 : getI x 5 1 = _)]
  rw [(put_n (0) (x / 64 % 2) 9 9 512 2 rfl rfl (by decide) (by decide) (by decide) (by decide) (by omega) (by omega) (by omega) (by omega) (by omega) : putI (0) 9 9 (x / 64 % 2) = _)]
  rw [(put_n (0 + (x / 64 % 2) * 512) (x / 2 % 32) 7 3 8 32 rfl rfl (by decide) (by decide) (by decide) (by decide) (by omega) (by omega) (by omega) (by omega) (by omega) : putI (0 + (x / 64 % 2) * 512) 7 3 (x / 2 % 32) = _)]

theorem put_1 (off : Int) (_h1 : -256 ≤ off) (_h2 : off ≤ 254) (_h3 : off % 2 = 0) : putA 1 off = pA 1 off ∧ putB 1 off = pB 1 off := by
  have hx0 : 0 ≤ off % 4294967296 := by omega
  have hc : ∀ X, crossI 1 X = X := fun X => by unfold crossI; rw [if_neg (by omega)]
  unfold putA putB
  rw [hc, putTo_1 _ hx0]
  refine ⟨?_, ?_⟩
  · show _ = off / 2 % 256
    dsimp only; omega
  · rfl

theorem put_2 (off : Int) (_h1 : -2048 ≤ off) (_h2 : off ≤ 2046) (_h3 : off % 2 = 0) : putA 2 off = pA 2 off ∧ putB 2 off = pB 2 off := by
  have hx0 : 0 ≤ off % 4294967296 := by omega
  have hc : ∀ X, crossI 2 X = X := fun X => by unfold crossI; rw [if_neg (by omega)]
  unfold putA putB
  rw [hc, putTo_2 _ hx0]
  refine ⟨?_, ?_⟩
  · show _ = off / 2 % 2048
    dsimp only; omega
  · rfl

theorem put_5 (off : Int) (h1 : 0 ≤ off) (h2 : off ≤ 126) (_h3 : off % 2 = 0) : putA 5 off = pA 5 off ∧ putB 5 off = pB 5 off := by
  have hx0 : 0 ≤ off % 4294967296 := by omega
  have hc : ∀ X, crossI 5 X = X := fun X => by unfold crossI; rw [if_neg (by omega)]
  unfold putA putB
  rw [hc, putTo_5 _ hx0]
  refine ⟨?_, ?_⟩
  · show _ = off / 64 % 2 * 512 + off / 2 % 32 * 8
    dsimp only; omega
  · rfl

end Om
end Go.Proofs.YthpoficikcicmaaDoor
