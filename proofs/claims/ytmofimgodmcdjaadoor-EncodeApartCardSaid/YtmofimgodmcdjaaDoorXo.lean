/- Words joined bit by bit out of fields that stand apart are sums. No program; no conditions but those that each fact names. -/
import Derived.Test.YtmofimgodmcdjaaDoorXs
import Derived.Test.YtmofimgodmcdjaaDoorWn
import Derived.Test.YtmofimgodmcdjaaDoorGe
namespace Go.Proofs.YtmofimgodmcdjaaDoor
open Go.ChangeShapes Go.WideShapes Go.ChangeAt Go.RowKit
namespace Xw

theorem or_wrap (a b : Int) : bits .or .u32 a b = ((BitVec.ofInt 32 a ||| BitVec.ofInt 32 b).toNat : Int) := by
  have h : bits .or .u32 a b = IntKind.u32.wrap (((BitVec.ofInt 32 a ||| BitVec.ofInt 32 b).toNat : Nat) : Int) := rfl
  have := (BitVec.ofInt 32 a ||| BitVec.ofInt 32 b).isLt
  rw [h, IntKind.wrap_u32]
  omega
theorem of_bv (x : BitVec 32) : BitVec.ofInt 32 (x.toNat : Int) = x := by
  apply BitVec.eq_of_toNat_eq
  have := x.isLt
  rw [BitVec.toNat_ofInt]
  omega
theorem or_as (a b c : Int) : bits .or .u32 a (bits .or .u32 b c) = bits .or .u32 (bits .or .u32 a b) c := by
  rw [or_wrap a, or_wrap b c, or_wrap _ c, or_wrap a b, of_bv, of_bv, BitVec.or_assoc]
theorem or_0 (x : Int) (h0 : 0 ≤ x) (h1 : x < 4294967296) : bits .or .u32 x 0 = x := by
  obtain ⟨X, rfl⟩ := Int.eq_ofNat_of_zero_le h0
  have := u32_or_nat X 0 (by omega) (by decide)
  simpa using this
theorem or_add (x v : Int) (k n : Nat) (m c : Int) (hm : 2 ^ k = m) (hc : 2 ^ n = c) (hkn : k + n ≤ 32) (hx0 : 0 ≤ x) (hx1 : x < 4294967296) (hz : x / m % c = 0) (hv0 : 0 ≤ v) (hv1 : v < c) : bits .or .u32 x (v * m) = x + v * m := by
  subst hm hc
  obtain ⟨X, rfl⟩ := Int.eq_ofNat_of_zero_le hx0
  obtain ⟨V, rfl⟩ := Int.eq_ofNat_of_zero_le hv0
  have hVn : V < 2 ^ n := by exact_mod_cast hv1
  have hXz : X / 2 ^ k % 2 ^ n = 0 := by exact_mod_cast hz
  have hlt : V * 2 ^ k < 2 ^ (k + n) := by rw [Nat.pow_add, Nat.mul_comm]; exact Nat.mul_lt_mul_of_pos_left hVn (Nat.two_pow_pos k)
  have h32 : 2 ^ (k + n) ≤ 2 ^ 32 := Nat.pow_le_pow_right (by omega) hkn
  have h32' : (2 : Nat) ^ 32 = 4294967296 := by decide
  have e1 : ((V : Int) * 2 ^ k) = ((V * 2 ^ k : Nat) : Int) := by simp
  rw [e1, u32_or_nat X (V * 2 ^ k) (by omega) (by omega)]
  have hp := Om.putU_add (X := X) (lo := k) (n := n) (V := V) (by omega) hkn hXz hVn
  have hq : Bm.putU X k n V = X ||| V * 2 ^ k := by
    apply Bm.word_ext (Bm.put_lt _ _ _ _ (by omega)) (Nat.or_lt_two_pow (n := 32) (by omega) (by omega))
    intro i hi
    rw [Bm.put_tb hkn hi, Nat.testBit_or, Nat.testBit_mul_two_pow]
    by_cases h1 : k ≤ i ∧ i < k + n
    · have h2 : X.testBit i = false := by
        have h3 := Nat.testBit_mod_two_pow (X / 2 ^ k) n (i - k)
        rw [hXz, Nat.zero_testBit, Nat.testBit_div_two_pow, show i - k + k = i by omega] at h3
        have h4 : i - k < n := by omega
        simpa [h4] using h3.symm
      rw [if_pos h1, h2]
      simp [h1.1]
    · rw [if_neg h1]
      by_cases h2 : k ≤ i
      · have h3 : V.testBit (i - k) = false := Nat.testBit_lt_two_pow (Nat.lt_of_lt_of_le hVn (Nat.pow_le_pow_right (by omega) (by omega)))
        simp [h3]
      · simp [h2]
  rw [← hq, hp]
  simp
/-- a field joined: it is 0, or its place is -/
theorem or_at (x v : Int) (k n : Nat) (m c : Int) (hm : 2 ^ k = m) (hc : 2 ^ n = c) (hkn : k + n ≤ 32) (hx0 : 0 ≤ x) (hx1 : x < 4294967296) (hz : v = 0 ∨ x / m % c = 0) (hv0 : 0 ≤ v) (hv1 : v < c) : bits .or .u32 x (v * m) = x + v * m := by
  rcases hz with rfl | hz
  · rw [Int.zero_mul, or_0 x hx0 hx1]; omega
  · exact or_add x v k n m c hm hc hkn hx0 hx1 hz hv0 hv1

def sB (s : Bool) : Int := if s = true then 1 else 0
theorem reg_chain (rn rd rm : Int) (s : Bool) (n0 : 0 ≤ rn) (n1 : rn ≤ 15) (d0 : 0 ≤ rd) (d1 : rd ≤ 15) (m0 : 0 ≤ rm) (m1 : rm ≤ 15) :
    regR rn rd rm s = bits .or .u32 (bits .or .u32 (bits .or .u32 (rn * 65536) (rd * 256)) (rm * 1)) (sB s * 1048576) := by
  unfold regR sB
  rw [show rn % 4294967296 * 65536 % 4294967296 = rn * 65536 by omega, show rd % 4294967296 * 256 % 4294967296 = rd * 256 by omega, show rm % 4294967296 = rm * 1 by omega]
  cases s with
  | true => rfl
  | false =>
    rw [if_neg Bool.false_ne_true, if_neg Bool.false_ne_true, Int.zero_mul]
    have h := or_bd (bits .or .u32 (rn * 65536) (rd * 256)) (rm * 1)
    rw [or_0 _ h.1 h.2]
/-- registers and S joined to a word -/
theorem join_reg (W rn rd rm : Int) (s : Bool) (w0 : 0 ≤ W) (w1 : W < 4294967296) (n0 : 0 ≤ rn) (n1 : rn ≤ 15) (d0 : 0 ≤ rd) (d1 : rd ≤ 15) (m0 : 0 ≤ rm) (m1 : rm ≤ 15)
    (hn : rn = 0 ∨ W / 65536 % 16 = 0) (hd : rd = 0 ∨ W / 256 % 16 = 0) (hm : rm = 0 ∨ W % 16 = 0) (hs : s = false ∨ W / 1048576 % 2 = 0) (hb : W < 4294967296 - 1048576 - 983040 - 3840 - 15) :
    bits .or .u32 W (regR rn rd rm s) = W + rn * 65536 + rd * 256 + rm + sB s * 1048576 := by
  rw [reg_chain rn rd rm s n0 n1 d0 d1 m0 m1, or_as, or_as, or_as]
  rw [or_at W rn 16 4 65536 16 (by decide) (by decide) (by decide) w0 w1 (by omega) n0 (by omega)]
  rw [or_at (W + rn * 65536) rd 8 4 256 16 (by decide) (by decide) (by decide) (by omega) (by omega) (by omega) d0 (by omega)]
  rw [or_at (W + rn * 65536 + rd * 256) rm 0 4 1 16 (by decide) (by decide) (by decide) (by omega) (by omega) (by omega) m0 (by omega)]
  have hsv : sB s = 0 ∨ sB s = 1 := by cases s <;> simp [sB]
  have hs' : sB s = 0 ∨ W / 1048576 % 2 = 0 := by
    rcases hs with rfl | h
    · exact .inl rfl
    · exact .inr h
  rw [or_at (W + rn * 65536 + rd * 256 + rm * 1) (sB s) 20 1 1048576 2 (by decide) (by decide) (by decide) (by omega) (by omega) (by omega) (by omega) (by omega)]
  omega
theorem x12_chain (n : Int) (h0 : 0 ≤ n) : x12R n = bits .or .u32 (bits .or .u32 (n / 2048 % 2 * 67108864) (n / 256 % 8 * 4096)) (n % 256 * 1) := by
  unfold x12R
  rw [(Om.get_n n 11 11 2048 2 rfl rfl (by decide) (by decide) (by decide) (by decide) h0 : getI n 11 11 = _), (Om.get_n n 10 8 256 8 rfl rfl (by decide) (by decide) (by decide) (by decide) h0 : getI n 10 8 = _),
    (Om.get_n n 7 0 1 256 rfl rfl (by decide) (by decide) (by decide) (by decide) h0 : getI n 7 0 = _)]
  rw [show n / 2048 % 2 * 67108864 % 4294967296 = n / 2048 % 2 * 67108864 by omega, show n / 256 % 8 * 4096 % 4294967296 = n / 256 % 8 * 4096 by omega, show n / 1 % 256 = n % 256 * 1 by omega]
/-- the pieces of twelve bits joined to a word -/
theorem join_x12 (X n : Int) (w0 : 0 ≤ X) (w1 : X < 4294967296) (h0 : 0 ≤ n) (h1 : X / 67108864 % 2 = 0) (h2 : X / 4096 % 8 = 0) (h3 : X % 256 = 0) (hb : X < 4294967296 - 67108864 - 28672 - 255) :
    bits .or .u32 X (x12R n) = X + Wm.x1 n * 65536 + Wm.x2 n := by
  rw [x12_chain n h0, or_as, or_as]
  unfold Wm.x1 Wm.x2
  have a0 : 0 ≤ n / 2048 % 2 ∧ n / 2048 % 2 < 2 := by omega
  have b0 : 0 ≤ n / 256 % 8 ∧ n / 256 % 8 < 8 := by omega
  have c0 : 0 ≤ n % 256 ∧ n % 256 < 256 := by omega
  generalize n / 2048 % 2 = a at *
  generalize n / 256 % 8 = b at *
  generalize n % 256 = c at *
  rw [or_at X a 26 1 67108864 2 (by decide) (by decide) (by decide) w0 w1 (.inr h1) a0.1 a0.2]
  rw [or_at (X + a * 67108864) b 12 3 4096 8 (by decide) (by decide) (by decide) (by omega) (by omega) (by omega) b0.1 b0.2]
  rw [or_at (X + a * 67108864 + b * 4096) c 0 8 1 256 (by decide) (by decide) (by decide) (by omega) (by omega) (by omega) c0.1 c0.2]
  omega
theorem x_bd (n : Int) : 0 ≤ Wm.x1 n ∧ Wm.x1 n ≤ 1024 ∧ 0 ≤ Wm.x2 n ∧ Wm.x2 n ≤ 28927 := by
  unfold Wm.x1 Wm.x2
  omega
theorem join_expanded (W rn rd rm imm : Int) (s : Bool) (f : Int) (hf : findI (imm % 4294967296) = f) (f0 : 0 ≤ f) (f1 : f < 4096) (w0 : 0 ≤ W) (n0 : 0 ≤ rn) (n1 : rn ≤ 15) (d0 : 0 ≤ rd) (d1 : rd ≤ 15) (m0 : rm = 0)
    (hn : rn = 0 ∨ W / 65536 % 16 = 0) (hd : rd = 0 ∨ W / 256 % 16 = 0) (hs : s = false ∨ W / 1048576 % 2 = 0) (h1 : W / 67108864 % 2 = 0) (h2 : W / 4096 % 8 = 0) (h3 : W % 256 = 0) (hb : W < 4294967296 - 67108864 - 1048576 - 983040 - 65536) :
    bits .or .u32 W (expandedR rn rd rm imm s) = W + rn * 65536 + rd * 256 + sB s * 1048576 + Wm.x1 f * 65536 + Wm.x2 f := by
  unfold expandedR
  subst m0
  rw [hf, show f % 4294967296 = f by omega, or_as, join_reg W rn rd 0 s w0 (by omega) n0 n1 d0 d1 (by omega) (by omega) hn hd (.inl rfl) hs (by omega)]
  have hsv : sB s = 0 ∨ sB s = 1 := by cases s <;> simp [sB]
  have hs' : sB s = 0 ∨ W / 1048576 % 2 = 0 := by
    rcases hs with rfl | h
    · exact .inl rfl
    · exact .inr h
  rw [join_x12 _ f (by omega) (by omega) f0 (by omega) (by omega) (by omega) (by omega)]
  omega
theorem join_amount (W rn rd rm imm d : Int) (s : Bool) (hf : distR imm = d) (f0 : 0 ≤ d) (w0 : 0 ≤ W) (n0 : 0 ≤ rn) (n1 : rn ≤ 15) (d0 : 0 ≤ rd) (d1 : rd ≤ 15) (m0 : rm = 0) (hs : s = false)
    (hn : rn = 0 ∨ W / 65536 % 16 = 0) (hd : rd = 0 ∨ W / 256 % 16 = 0) (h1 : W / 67108864 % 2 = 0) (h2 : W / 4096 % 8 = 0) (h3 : W % 256 = 0) (hb : W < 4294967296 - 67108864 - 1048576 - 983040 - 65536) :
    bits .or .u32 W (amountR rn rd rm imm s) = W + rn * 65536 + rd * 256 + Wm.x1 d * 65536 + Wm.x2 d := by
  unfold amountR
  subst m0 hs
  rw [hf, or_as, join_reg W rn rd 0 false w0 (by omega) n0 n1 d0 d1 (by omega) (by omega) hn hd (.inl rfl) (.inl rfl) (by omega)]
  rw [show sB false = 0 from rfl]
  rw [join_x12 _ d (by omega) (by omega) f0 (by omega) (by omega) (by omega) (by omega)]
  omega
theorem dist_pos (n : Int) (h0 : 0 ≤ n) (h1 : n < 4294967296) : distR n = n := by
  unfold distR
  rw [if_neg (by omega)]
  omega
theorem dist_neg (n : Int) (h0 : n < 0) (h1 : -4294967296 < n) : distR n = -n := by
  unfold distR
  rw [if_pos h0, show wrap64 (-n) = -n by unfold wrap64; omega]
  omega
theorem join_shifted (W rn rd rm imm : Int) (s : Bool) (w0 : 0 ≤ W) (n0 : 0 ≤ rn) (n1 : rn ≤ 15) (d0 : 0 ≤ rd) (d1 : rd ≤ 15) (m0 : rm = 0) (i0 : 0 ≤ imm) (i1 : imm < 4294967296)
    (h1 : W / 1048576 % 2 = 0) (h2 : W / 4096 % 8 = 0) (h4 : W / 256 % 16 = 0) (h5 : W / 64 % 4 = 0) (h3 : W % 16 = 0) (hb : W < 4294967296 - 1048576 - 983040 - 65536) :
    bits .or .u32 W (shiftedR rn rd rm imm s) = W + rd * 256 + sB s * 1048576 + rn + imm / 4 % 8 * 4096 + imm % 4 * 64 := by
  unfold shiftedR
  subst m0
  rw [show imm % 4294967296 = imm by omega, (Om.get_n imm 4 2 4 8 rfl rfl (by decide) (by decide) (by decide) (by decide) i0 : getI imm 4 2 = _), (Om.get_n imm 1 0 1 4 rfl rfl (by decide) (by decide) (by decide) (by decide) i0 : getI imm 1 0 = _)]
  rw [show imm / 4 % 8 * 4096 % 4294967296 = imm / 4 % 8 * 4096 by omega, show imm / 1 % 4 * 64 % 4294967296 = imm % 4 * 64 by omega, show rn % 4294967296 = rn * 1 by omega, or_as, or_as, or_as,
    join_reg W 0 rd 0 s w0 (by omega) (by omega) (by omega) d0 d1 (by omega) (by omega) (.inl rfl) (by omega) (.inl rfl) (.inr h1) (by omega)]
  have hsv : sB s = 0 ∨ sB s = 1 := by cases s <;> simp [sB]
  have a0 : 0 ≤ imm / 4 % 8 ∧ imm / 4 % 8 < 8 := by omega
  have b0 : 0 ≤ imm % 4 ∧ imm % 4 < 4 := by omega
  generalize imm / 4 % 8 = a at *
  generalize imm % 4 = b at *
  generalize sB s = f at *
  have e : W + 0 * 65536 + rd * 256 + 0 + f * 1048576 = W + rd * 256 + f * 1048576 := by omega
  rw [e]
  rw [or_at (W + rd * 256 + f * 1048576) rn 0 4 1 16 (by decide) (by decide) (by decide) (by omega) (by omega) (by omega) n0 (by omega)]
  rw [or_at (W + rd * 256 + f * 1048576 + rn * 1) a 12 3 4096 8 (by decide) (by decide) (by decide) (by omega) (by omega) (by omega) a0.1 a0.2]
  rw [or_at (W + rd * 256 + f * 1048576 + rn * 1 + a * 4096) b 6 2 64 4 (by decide) (by decide) (by decide) (by omega) (by omega) (by omega) b0.1 b0.2]
  omega
theorem join_half (W rn rd rm imm : Int) (s : Bool) (w0 : 0 ≤ W) (hn : rn = 0) (d0 : 0 ≤ rd) (d1 : rd ≤ 15) (m0 : rm = 0) (hs : s = false) (i0 : 0 ≤ imm) (i1 : imm < 65536)
    (h1 : W / 67108864 % 2 = 0) (h2 : W % 65536 = 0) (h3 : W / 65536 % 16 = 0) (hb : W < 4294967296 - 67108864 - 1048576 - 983040 - 65536) :
    bits .or .u32 W (halfR rn rd rm imm s) = W + rd * 256 + imm / 4096 * 65536 + Wm.x1 imm * 65536 + Wm.x2 imm := by
  unfold halfR
  subst m0 hs hn
  rw [show imm % 4294967296 = imm by omega, (Om.get_n imm 15 12 4096 16 rfl rfl (by decide) (by decide) (by decide) (by decide) i0 : getI imm 15 12 = _)]
  rw [show imm / 4096 % 16 * 65536 % 4294967296 = imm / 4096 * 65536 by omega, or_as, or_as,
    join_reg W 0 rd 0 false w0 (by omega) (by omega) (by omega) d0 d1 (by omega) (by omega) (.inl rfl) (by omega) (.inl rfl) (.inl rfl) (by omega)]
  rw [show sB false = 0 from rfl, show W + 0 * 65536 + rd * 256 + 0 + 0 * 1048576 = W + rd * 256 by omega]
  have a0 : 0 ≤ imm / 4096 ∧ imm / 4096 < 16 := by omega
  rw [or_at (W + rd * 256) (imm / 4096) 16 4 65536 16 (by decide) (by decide) (by decide) (by omega) (by omega) (by omega) a0.1 a0.2]
  generalize imm / 4096 = a at *
  rw [join_x12 _ imm (by omega) (by omega) i0 (by omega) (by omega) (by omega) (by omega)]
theorem join_loaded (W rn rd rm imm d : Int) (hf : distR imm = d) (f0 : 0 ≤ d) (f1 : d < 4096) (w0 : 0 ≤ W) (n0 : 0 ≤ rn) (n1 : rn ≤ 15) (d0 : 0 ≤ rd) (d1 : rd ≤ 15) (m0 : 0 ≤ rm) (m1 : rm ≤ 15) (hx : rm = 0 ∨ d = 0)
    (hn : rn = 0 ∨ W / 65536 % 16 = 0) (h1 : W % 65536 = 0) (hb : W < 4294967296 - 983040 - 65536) :
    bits .or .u32 W (loadedR rn rd rm imm) = W + rn * 65536 + rd * 4096 + d + rm := by
  unfold loadedR
  rw [hf, show rn % 4294967296 * 65536 % 4294967296 = rn * 65536 by omega, show rd % 4294967296 * 4096 % 4294967296 = rd * 4096 by omega, show rm % 4294967296 = rm * 1 by omega, or_as, or_as, or_as]
  rw [or_at W rn 16 4 65536 16 (by decide) (by decide) (by decide) w0 (by omega) hn n0 (by omega)]
  rw [or_at (W + rn * 65536) rd 12 4 4096 16 (by decide) (by decide) (by decide) (by omega) (by omega) (by omega) d0 (by omega)]
  rw [show bits .or .u32 (W + rn * 65536 + rd * 4096) d = bits .or .u32 (W + rn * 65536 + rd * 4096) (d * 1) by rw [Int.mul_one],
    or_at (W + rn * 65536 + rd * 4096) d 0 12 1 4096 (by decide) (by decide) (by decide) (by omega) (by omega) (by omega) f0 (by omega)]
  rw [or_at (W + rn * 65536 + rd * 4096 + d * 1) rm 0 4 1 16 (by decide) (by decide) (by decide) (by omega) (by omega) (by omega) m0 (by omega)]
  omega
theorem join_listed (W rn list : Int) (w0 : 0 ≤ W) (n0 : 0 ≤ rn) (n1 : rn ≤ 15) (l0 : 0 ≤ list) (l1 : list < 65536) (hn : rn = 0 ∨ W / 65536 % 16 = 0) (h1 : W % 65536 = 0) (hb : W < 4294967296 - 983040 - 65536) :
    bits .or .u32 W (listedR rn list) = W + rn * 65536 + list := by
  unfold listedR
  rw [show rn % 4294967296 * 65536 % 4294967296 = rn * 65536 by omega, show list % 4294967296 = list * 1 by omega, or_as]
  rw [or_at W rn 16 4 65536 16 (by decide) (by decide) (by decide) w0 (by omega) hn n0 (by omega)]
  rw [or_at (W + rn * 65536) list 0 16 1 65536 (by decide) (by decide) (by decide) (by omega) (by omega) (by omega) l0 (by omega)]
  omega
/-- the pieces of an offset joined to a word: the first halfword's in two, the second one's in three -/
theorem join_off (X s t x y z a b : Int) (ha : a = s * 1024 + t) (hb : b = x * 8192 + y * 2048 + z) (w0 : 0 ≤ X) (s0 : 0 ≤ s) (s1 : s < 2) (t0 : 0 ≤ t) (t1 : t < 1024) (x0 : 0 ≤ x) (x1 : x < 2) (y0 : 0 ≤ y) (y1 : y < 2) (z0 : 0 ≤ z) (z1 : z < 2048)
    (h1 : X / 67108864 % 2 = 0) (h2 : t = 0 ∨ (X / 65536 % 1024 = 0 ∨ (X / 65536 % 64 = 0 ∧ t < 64))) (h3 : X / 8192 % 2 = 0) (h4 : X % 4096 = 0) (hX : X < 4294967296 - 67108864 - 67108864 - 65536) :
    bits .or .u32 X (bits .or .u32 (a % 4294967296 * 65536 % 4294967296) (b % 4294967296)) = X + a * 65536 + b := by
  have ea : a % 4294967296 * 65536 % 4294967296 = bits .or .u32 (t * 65536) (s * 67108864) := by
    rw [or_at (t * 65536) s 26 1 67108864 2 (by decide) (by decide) (by decide) (by omega) (by omega) (by omega) s0 s1]
    omega
  have eb : b % 4294967296 = bits .or .u32 (bits .or .u32 (z * 1) (y * 2048)) (x * 8192) := by
    rw [or_at (z * 1) y 11 1 2048 2 (by decide) (by decide) (by decide) (by omega) (by omega) (by omega) y0 y1,
      or_at (z * 1 + y * 2048) x 13 1 8192 2 (by decide) (by decide) (by decide) (by omega) (by omega) (by omega) x0 x1]
    omega
  rw [ea, eb, or_as, or_as, or_as, or_as]
  have et : bits .or .u32 X (t * 65536) = X + t * 65536 := by
    rcases h2 with h | h | ⟨h, h'⟩
    · exact or_at X t 16 10 65536 1024 (by decide) (by decide) (by decide) w0 (by omega) (.inl h) t0 t1
    · exact or_at X t 16 10 65536 1024 (by decide) (by decide) (by decide) w0 (by omega) (.inr h) t0 t1
    · exact or_at X t 16 6 65536 64 (by decide) (by decide) (by decide) w0 (by omega) (.inr h) t0 h'
  rw [et]
  have h5 : (X + t * 65536) / 67108864 % 2 = 0 := by
    rcases h2 with h | h | ⟨h, h'⟩ <;> omega
  rw [or_at (X + t * 65536) s 26 1 67108864 2 (by decide) (by decide) (by decide) (by omega) (by omega) (.inr h5) s0 s1]
  rw [or_at (X + t * 65536 + s * 67108864) z 0 11 1 2048 (by decide) (by decide) (by decide) (by omega) (by omega) (by omega) z0 z1]
  rw [or_at (X + t * 65536 + s * 67108864 + z * 1) y 11 1 2048 2 (by decide) (by decide) (by decide) (by omega) (by omega) (by omega) y0 y1]
  rw [or_at (X + t * 65536 + s * 67108864 + z * 1 + y * 2048) x 13 1 8192 2 (by decide) (by decide) (by decide) (by omega) (by omega) (by omega) x0 x1]
  subst ha hb
  omega
end Xw
end Go.Proofs.YtmofimgodmcdjaaDoor
