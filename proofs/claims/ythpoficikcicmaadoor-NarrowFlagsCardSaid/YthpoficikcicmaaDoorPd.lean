/- Small laws for the searches. No conditions. -/
import Derived.Test.YthpoficikcicmaaDoorRows
import Derived.Test.YthpoficikcicmaaDoorPt
import Derived.Test.YthpoficikcicmaaDoorPa
import Derived.Test.YthpoficikcicmaaDoorNd
namespace Go.Proofs.YthpoficikcicmaaDoor
open Go.ChangeShapes Go.WideShapes Go.ChangeAt Go.RowKit
namespace Pl

theorem fits1_iff (imm : Int) : (fitsB 1 imm = true) = (-256 ≤ imm ∧ imm ≤ 254 ∧ imm % 2 = 0) := by
  unfold fitsB
  simp only [decide_eq_true_eq]
  rw [show lowI 1 = -256 from rfl, show highI 1 = 254 from rfl]
  apply propext; omega
theorem fits2_iff (imm : Int) : (fitsB 2 imm = true) = (-2048 ≤ imm ∧ imm ≤ 2046 ∧ imm % 2 = 0) := by
  unfold fitsB
  simp only [decide_eq_true_eq]
  rw [show lowI 2 = -2048 from rfl, show highI 2 = 2046 from rfl]
  apply propext; omega
theorem fits5_iff (imm : Int) : (fitsB 5 imm = true) = (0 ≤ imm ∧ imm ≤ 126 ∧ imm % 2 = 0) := by
  unfold fitsB
  simp only [decide_eq_true_eq]
  rw [show lowI 5 = 0 from rfl, show highI 5 = 126 from rfl]
  apply propext; omega
theorem off_1 (H imm : Int) (h : -256 ≤ imm ∧ imm ≤ 254 ∧ imm % 2 = 0) (hH0 : 0 ≤ H) (hH1 : H < 65536) (hz : H % 256 = 0) : bits .or .u32 H (putA 1 imm % 4294967296) = H + imm / 2 % 256 := by
  have e : putA 1 imm = imm / 2 % 256 := (Om.put_1 imm h.1 h.2.1 h.2.2).1
  have := or_add H (imm / 2 % 256) 0 8 1 256 (by decide) (by decide) (by decide) hH0 (by omega) (by omega) (by omega) (by omega)
  rw [e]
  rw [Int.mul_one] at this
  exact this
theorem off_2 (H imm : Int) (h : -2048 ≤ imm ∧ imm ≤ 2046 ∧ imm % 2 = 0) (hH0 : 0 ≤ H) (hH1 : H < 65536) (hz : H % 2048 = 0) : bits .or .u32 H (putA 2 imm % 4294967296) = H + imm / 2 % 2048 := by
  have e : putA 2 imm = imm / 2 % 2048 := (Om.put_2 imm h.1 h.2.1 h.2.2).1
  have := or_add H (imm / 2 % 2048) 0 11 1 2048 (by decide) (by decide) (by decide) hH0 (by omega) (by omega) (by omega) (by omega)
  rw [e]
  rw [Int.mul_one] at this
  exact this
theorem or_assoc32 (a b c : Int) (ha0 : 0 ≤ a) (ha1 : a < 65536) (hb0 : 0 ≤ b) (hb1 : b < 65536) (hc0 : 0 ≤ c) (hc1 : c < 65536) : bits .or .u32 a (bits .or .u32 b c) = bits .or .u32 (bits .or .u32 a b) c := by
  obtain ⟨A, rfl⟩ := Int.eq_ofNat_of_zero_le ha0
  obtain ⟨B, rfl⟩ := Int.eq_ofNat_of_zero_le hb0
  obtain ⟨C, rfl⟩ := Int.eq_ofNat_of_zero_le hc0
  have h1 := Nat.or_lt_two_pow (n := 16) (x := B) (y := C) (by omega) (by omega)
  have h2 := Nat.or_lt_two_pow (n := 16) (x := A) (y := B) (by omega) (by omega)
  rw [u32_or_nat B C (by omega) (by omega), u32_or_nat A (B ||| C) (by omega) (by omega), u32_or_nat A B (by omega) (by omega), u32_or_nat (A ||| B) C (by omega) (by omega), Nat.or_assoc]
theorem off_5 (H imm : Int) (h : 0 ≤ imm ∧ imm ≤ 126 ∧ imm % 2 = 0) (hH0 : 0 ≤ H) (hH1 : H < 60000) (hz : H / 8 % 32 = 0) (hz2 : H / 512 % 2 = 0) : bits .or .u32 H (putA 5 imm % 4294967296) = H + imm / 2 % 32 * 8 + imm / 64 % 2 * 512 := by
  have e : putA 5 imm = imm / 64 % 2 * 512 + imm / 2 % 32 * 8 := (Om.put_5 imm h.1 h.2.1 h.2.2).1
  have h1 := or_add (imm / 2 % 32 * 8) (imm / 64 % 2) 9 1 512 2 (by decide) (by decide) (by decide) (by omega) (by omega) (by omega) (by omega) (by omega)
  have h2 := or_add H (imm / 2 % 32) 3 5 8 32 (by decide) (by decide) (by decide) hH0 (by omega) hz (by omega) (by omega)
  have h3 := or_add (H + imm / 2 % 32 * 8) (imm / 64 % 2) 9 1 512 2 (by decide) (by decide) (by decide) (by omega) (by omega) (by omega) (by omega) (by omega)
  rw [show imm / 64 % 2 * 512 % 4294967296 = imm / 64 % 2 * 512 by omega] at h1 h3
  rw [show imm / 2 % 32 * 8 % 4294967296 = imm / 2 % 32 * 8 by omega] at h2
  rw [e, show (imm / 64 % 2 * 512 + imm / 2 % 32 * 8) % 4294967296 = imm / 2 % 32 * 8 + imm / 64 % 2 * 512 by omega, ← h1, or_assoc32 _ _ _ hH0 (by omega) (by omega) (by omega) (by omega) (by omega), h2, h3]
theorem orI_ite2 (c : Prop) [Decidable c] (a b r : Option Int) : orI (if c then a else b) r = if c then orI a r else orI b r := by split <;> rfl
theorem orI_some (h : Int) (r : Option Int) : orI (some h) r = some h := rfl
theorem orI_nil (r : Option Int) : orI none r = r := rfl
theorem tmod_even {n : Int} (h : Int.tmod n 2 = 0) : n % 2 = 0 := by rw [Int.tmod_eq_emod] at h; split at h <;> omega
theorem fillB_25_0 (cond rd rn rm imm list x : Int) (hx : imm % 4294967296 = x) (hd0 : 0 ≤ rd) (hd1 : rd ≤ 15) (hn0 : 0 ≤ rn) (hn1 : rn ≤ 15) (hm0 : 0 ≤ rm) (hm1 : rm ≤ 15) (hl0 : 0 ≤ list) (hl1 : list ≤ 65535) (hc0 : 0 ≤ cond) (hc1 : cond ≤ 15) :
    fillP row_25 53248 cond rd rn rm imm list = if -256 ≤ imm ∧ imm ≤ 254 ∧ imm % 2 = 0 then (if z7 (0) (rd) (rn) (rm) (0) (list) (cond - cond / 1 % 16 * 1) = true then some (53248 + cond / 1 % 16 * 256 + imm / 2 % 256) else none) else if z7 (0) (rd) (rn) (rm) (x) (list) (cond - cond / 1 % 16 * 1) = true then some (53248 + cond / 1 % 16 * 256) else none := by
  rw [fill_25_0 cond rd rn rm imm list x hx hd0 hd1 hn0 hn1 hm0 hm1 hl0 hl1 hc0 hc1]
  simp only [fits1_iff]
  split
  · rename_i h
    rw [off_1 _ imm h (by omega) (by omega) (by omega)]
  · rfl
theorem fillB_26_0 (cond rd rn rm imm list x : Int) (hx : imm % 4294967296 = x) (hd0 : 0 ≤ rd) (hd1 : rd ≤ 15) (hn0 : 0 ≤ rn) (hn1 : rn ≤ 15) (hm0 : 0 ≤ rm) (hm1 : rm ≤ 15) (hl0 : 0 ≤ list) (hl1 : list ≤ 65535) (hc0 : 0 ≤ cond) (hc1 : cond ≤ 15) :
    fillP row_26 57344 cond rd rn rm imm list = if -2048 ≤ imm ∧ imm ≤ 2046 ∧ imm % 2 = 0 then (if z7 (0) (rd) (rn) (rm) (0) (list) (cond - cond / 1 % 16 * 1) = true then some (57344 + imm / 2 % 2048) else none) else if z7 (0) (rd) (rn) (rm) (x) (list) (cond - cond / 1 % 16 * 1) = true then some (57344) else none := by
  rw [fill_26_0 cond rd rn rm imm list x hx hd0 hd1 hn0 hn1 hm0 hm1 hl0 hl1 hc0 hc1]
  simp only [fits2_iff]
  split
  · rename_i h
    rw [off_2 _ imm h (by omega) (by omega) (by omega)]
  · rfl
theorem fillB_27_0 (cond rd rn rm imm list x : Int) (hx : imm % 4294967296 = x) (hd0 : 0 ≤ rd) (hd1 : rd ≤ 15) (hn0 : 0 ≤ rn) (hn1 : rn ≤ 15) (hm0 : 0 ≤ rm) (hm1 : rm ≤ 15) (hl0 : 0 ≤ list) (hl1 : list ≤ 65535) (hc0 : 0 ≤ cond) (hc1 : cond ≤ 15) :
    fillP row_27 45312 cond rd rn rm imm list = if 0 ≤ imm ∧ imm ≤ 126 ∧ imm % 2 = 0 then (if z7 (0) (rd) (rn - rn / 1 % 8 * 1) (rm) (0) (list) (cond) = true then some (45312 + rn / 1 % 8 * 1 + imm / 2 % 32 * 8 + imm / 64 % 2 * 512) else none) else if z7 (0) (rd) (rn - rn / 1 % 8 * 1) (rm) (x) (list) (cond) = true then some (45312 + rn / 1 % 8 * 1) else none := by
  rw [fill_27_0 cond rd rn rm imm list x hx hd0 hd1 hn0 hn1 hm0 hm1 hl0 hl1 hc0 hc1]
  simp only [fits5_iff]
  split
  · rename_i h
    rw [off_5 _ imm h (by omega) (by omega) (by omega) (by omega)]
  · rfl
theorem fillB_27_1 (cond rd rn rm imm list x : Int) (hx : imm % 4294967296 = x) (hd0 : 0 ≤ rd) (hd1 : rd ≤ 15) (hn0 : 0 ≤ rn) (hn1 : rn ≤ 15) (hm0 : 0 ≤ rm) (hm1 : rm ≤ 15) (hl0 : 0 ≤ list) (hl1 : list ≤ 65535) (hc0 : 0 ≤ cond) (hc1 : cond ≤ 15) :
    fillP row_27 47360 cond rd rn rm imm list = if 0 ≤ imm ∧ imm ≤ 126 ∧ imm % 2 = 0 then (if z7 (0) (rd) (rn - rn / 1 % 8 * 1) (rm) (0) (list) (cond) = true then some (47360 + rn / 1 % 8 * 1 + imm / 2 % 32 * 8 + imm / 64 % 2 * 512) else none) else if z7 (0) (rd) (rn - rn / 1 % 8 * 1) (rm) (x) (list) (cond) = true then some (47360 + rn / 1 % 8 * 1) else none := by
  rw [fill_27_1 cond rd rn rm imm list x hx hd0 hd1 hn0 hn1 hm0 hm1 hl0 hl1 hc0 hc1]
  simp only [fits5_iff]
  split
  · rename_i h
    rw [off_5 _ imm h (by omega) (by omega) (by omega) (by omega)]
  · rfl
end Pl
end Go.Proofs.YthpoficikcicmaaDoor
