/- Contracts of Ror: the program's and the document's own answer. Contracts of Expand and Valid: the program's and the document's own answers; of Find's place. -/
import Derived.Test.YtdcnkmkaafimlaaDoorRows
import Derived.Test.YtdcnkmkaafimlaaDoorGb
import Derived.Test.YtdcnkmkaafimlaaDoorGc

namespace Go.Proofs.YtdcnkmkaafimlaaDoor
open Go.ChangeShapes Go.WideShapes Go.ChangeAt Go.RowKit


/-- x turned right by n bits, by its least number from 0 to 31 -/
def rorI (x n : Int) : Int := ((Bm.rorB x.toNat (n % 32).toNat : Nat) : Int)

theorem u64_tmod (n : Int) : (IntKind.u64.wrap n).tmod 32 = n % 32 := by
  rw [IntKind.wrap_u64, tmod_of_emod]; omega

theorem ror_eq (x n t : Int) (hx0 : 0 ≤ x) (hx : x < 4294967296) (ht : n % 32 = t) :
    bits .or .u32 (x / 2 ^ t.toNat) (x * 2 ^ (32 - t).toNat % 4294967296) = rorI x n := by
  subst ht
  unfold rorI
  obtain ⟨X, rfl⟩ := Int.eq_ofNat_of_zero_le hx0
  rw [ofNat_div, ofNat_shl, u32_or_nat _ _ (Nat.lt_of_le_of_lt (Nat.div_le_self _ _) (by omega)) (Nat.mod_lt _ (by decide)), show (32 - n % 32).toNat = 32 - (n % 32).toNat by omega]
  rfl

theorem ror_c (x n : Int) (w : World) (hx0 : 0 ≤ x) (hx : x < 4294967296) :
    Calls Tryd.prog 47 #[.int .u32 x, .int .i64 n] w fun e w' => e = .returned (.int .u32 (rorI x n)) ∧ ∃ n, w' = w.drewN n := by
  have e := u64_tmod n
  have h0 : 0 ≤ n % 32 := by omega
  have h1 : n % 32 < 32 := by omega
  generalize ht : n % 32 = t at *
  have HT := Lib.hid ht; clear ht
  go_enter Tryd.func47, Tryd.ntmps47
  go_wp2
  go_ret
  exact ⟨ret_int (ror_eq x n t hx0 hx HT.out), 0, rfl⟩

theorem rror_eq (x n t V : Int) (hx0 : 0 ≤ x) (hx : x < 4294967296) (hV : rorI x (n - t) = V) :
    bits .or .u32 (V / 2) (V * 2147483648 % 4294967296) = rorI x (n - (t - 1)) := by
  subst hV
  unfold rorI
  obtain ⟨X, rfl⟩ := Int.eq_ofNat_of_zero_le hx0
  have hl := Bm.ror_lt X ((n - t) % 32).toNat (by omega)
  have h := Bm.ror_ror (X := X) (a := ((n - t) % 32).toNat) (b := 1) (by omega) (by omega) (by omega)
  rw [Int.toNat_natCast, show ((n - (t - 1)) % 32).toNat = (((n - t) % 32).toNat + 1) % 32 by omega, ← h]
  generalize Bm.rorB X ((n - t) % 32).toNat = R at *
  rw [show ((R : Int) / 2) = ((R / 2 ^ 1 : Nat) : Int) by simp, show ((R : Int) * 2147483648 % 4294967296) = ((R * 2 ^ (32 - 1) % 4294967296 : Nat) : Int) by simp,
    u32_or_nat _ _ (Nat.lt_of_le_of_lt (Nat.div_le_self _ _) hl) (Nat.mod_lt _ (by decide))]
  rfl

theorem rorv_bd (x n : Int) (hx0 : 0 ≤ x) (hx : x < 4294967296) : 0 ≤ rorI x n ∧ rorI x n < 4294967296 := by
  unfold rorI
  have := Bm.ror_lt x.toNat (n % 32).toNat (by omega)
  omega
theorem rorI_mod (x n m : Int) (h : n % 32 = m % 32) : rorI x n = rorI x m := by unfold rorI; rw [h]
theorem rorI_zero (x : Int) (hx0 : 0 ≤ x) (hx : x < 4294967296) : rorI x 0 = x := by
  unfold rorI
  rw [show ((0 : Int) % 32).toNat = 0 by rfl, Bm.ror_zero (by omega)]; omega


end Go.Proofs.YtdcnkmkaafimlaaDoor

namespace Go.Proofs.YtdcnkmkaafimlaaDoor
open Go.ChangeShapes Go.WideShapes Go.ChangeAt Go.RowKit

/-- what imm tells -/
def expI (imm : Int) : Int := ((Em.expN (imm % 4096).toNat : Nat) : Int)
/-- whether imm may be told -/
def okB (imm : Int) : Bool := decide (0 ≤ imm) && Em.okN imm.toNat

theorem getI_low (x : Int) (hx0 : 0 ≤ x) : getI x 7 0 = x % 256 := by
  unfold getI Bm.getB
  rw [if_pos (by omega)]
  obtain ⟨X, rfl⟩ := Int.eq_ofNat_of_zero_le hx0
  simp
theorem getI_way (x : Int) (hx0 : 0 ≤ x) : getI x 11 8 = x / 256 % 16 := by
  unfold getI Bm.getB
  rw [if_pos (by omega)]
  obtain ⟨X, rfl⟩ := Int.eq_ofNat_of_zero_le hx0
  simp
theorem getI_turn (x : Int) (hx0 : 0 ≤ x) : getI x 11 7 = x / 128 % 32 := by
  unfold getI Bm.getB
  rw [if_pos (by omega)]
  obtain ⟨X, rfl⟩ := Int.eq_ofNat_of_zero_le hx0
  simp


/-- Get's contract with its value laid in -/
theorem get_is (x hi lo v : Int) (w : World) (hx0 : 0 ≤ x) (hx : x < 4294967296) (hv : getI x hi lo = v) :
    Calls Tryd.prog 7 #[.int .u32 x, .int .i64 hi, .int .i64 lo] w fun e w' => e = .returned (.int .u32 v) ∧ ∃ n, w' = w.drewN n := by
  subst hv; exact get_c x hi lo w hx0 hx

theorem expI_of (imm b y : Int) (hb : imm % 4294967296 % 256 = b) (hy : imm % 4294967296 / 128 % 32 = y) : expI imm = ((Em.tell b.toNat y.toNat : Nat) : Int) := by
  unfold expI Em.expN
  rw [show (imm % 4096).toNat % 256 = b.toNat by omega, show (imm % 4096).toNat / 128 = y.toNat by omega]

/-- the values that the ways give, as the walk comes to them -/
theorem way0 (b y : Int) (hb0 : 0 ≤ b) (hy : y / 2 = 0) : b = ((Em.tell b.toNat y.toNat : Nat) : Int) := by
  unfold Em.tell; rw [if_pos (by omega)]; omega
theorem way1 (b y : Int) (hb0 : 0 ≤ b) (hb1 : b < 256) (hy0 : 0 ≤ y) (hy : y / 2 = 1) : bits .or .u32 (b * 65536) b = ((Em.tell b.toNat y.toNat : Nat) : Int) := by
  obtain ⟨B, rfl⟩ := Int.eq_ofNat_of_zero_le hb0
  unfold Em.tell; rw [if_neg (by omega), if_pos (by omega)]
  rw [show ((B : Int) * 65536) = ((B * 65536 : Nat) : Int) by simp, u32_or_nat _ _ (by omega) (by omega)]; rfl
theorem way2 (b y : Int) (hb0 : 0 ≤ b) (hb1 : b < 256) (hy0 : 0 ≤ y) (hy : y / 2 = 2) : bits .or .u32 (b * 16777216) (b * 256) = ((Em.tell b.toNat y.toNat : Nat) : Int) := by
  obtain ⟨B, rfl⟩ := Int.eq_ofNat_of_zero_le hb0
  unfold Em.tell; rw [if_neg (by omega), if_neg (by omega), if_pos (by omega)]
  rw [show ((B : Int) * 16777216) = ((B * 16777216 : Nat) : Int) by simp, show ((B : Int) * 256) = ((B * 256 : Nat) : Int) by simp, u32_or_nat _ _ (by omega) (by omega)]; rfl
theorem way3 (b y : Int) (hb0 : 0 ≤ b) (hb1 : b < 256) (hy0 : 0 ≤ y) (hy : y / 2 = 3) :
    bits .or .u32 (bits .or .u32 (bits .or .u32 (b * 16777216) (b * 65536)) (b * 256)) b = ((Em.tell b.toNat y.toNat : Nat) : Int) := by
  obtain ⟨B, rfl⟩ := Int.eq_ofNat_of_zero_le hb0
  unfold Em.tell; rw [if_neg (by omega), if_neg (by omega), if_neg (by omega), if_pos (by omega)]
  have h1 : B * 16777216 ||| B * 65536 < 2 ^ 32 := Nat.or_lt_two_pow (by omega) (by omega)
  have h2 : B * 16777216 ||| B * 65536 ||| B * 256 < 2 ^ 32 := Nat.or_lt_two_pow h1 (by omega)
  rw [show ((B : Int) * 16777216) = ((B * 16777216 : Nat) : Int) by simp, show ((B : Int) * 65536) = ((B * 65536 : Nat) : Int) by simp, show ((B : Int) * 256) = ((B * 256 : Nat) : Int) by simp,
    u32_or_nat _ _ (by omega) (by omega), u32_or_nat _ _ (by omega) (by omega), u32_or_nat _ _ (by omega) (by omega)]; rfl
theorem wayT (b y : Int) (hb0 : 0 ≤ b) (hb1 : b < 256) (hy0 : 0 ≤ y) (hy1 : y < 32) (hy : 4 ≤ y / 2) : rorI (b % 128 + 128) y = ((Em.tell b.toNat y.toNat : Nat) : Int) := by
  obtain ⟨B, rfl⟩ := Int.eq_ofNat_of_zero_le hb0
  unfold Em.tell rorI; rw [if_neg (by omega), if_neg (by omega), if_neg (by omega), if_neg (by omega)]
  rw [show (y % 32).toNat = y.toNat by omega, show ((B : Int) % 128 + 128).toNat = B % 128 + 128 by omega, Int.toNat_natCast]
theorem or128 (b : Int) (hb0 : 0 ≤ b) (hb1 : b < 256) : bits .or .u32 b 128 = b % 128 + 128 := by
  obtain ⟨B, rfl⟩ := Int.eq_ofNat_of_zero_le hb0
  rw [show (128 : Int) = ((128 : Nat) : Int) by rfl, u32_or_nat _ _ (by omega) (by omega), Em.or7 _ (by omega)]; omega

theorem exp_c (imm : Int) (w : World) (_h0 : -9223372036854775808 ≤ imm) (_h1 : imm ≤ 9223372036854775807) :
    Calls Tryd.prog 31 #[.int .i64 imm] w fun e w' => e = .returned (.int .u32 (expI imm)) ∧ ∃ n, w' = w.drewN n := by
  have hn0 : 0 ≤ imm % 4294967296 := by omega
  have hn1 : imm % 4294967296 < 4294967296 := by omega
  have hb := getI_low (imm % 4294967296) hn0
  have hw := getI_way (imm % 4294967296) hn0
  have ht := getI_turn (imm % 4294967296) hn0
  have hE := expI_of imm _ _ rfl rfl
  have hb0 : 0 ≤ imm % 4294967296 % 256 ∧ imm % 4294967296 % 256 < 256 := by omega
  have hy0 : 0 ≤ imm % 4294967296 / 128 % 32 ∧ imm % 4294967296 / 128 % 32 < 32 := by omega
  have hyw : imm % 4294967296 / 256 % 16 = imm % 4294967296 / 128 % 32 / 2 := by omega
  rw [hE]
  rw [hyw] at hw
  clear hE hyw
  generalize imm % 4294967296 % 256 = b at *
  generalize imm % 4294967296 / 128 % 32 = y at *
  obtain ⟨hb0, hb1⟩ := hb0
  obtain ⟨hy0, hy1⟩ := hy0
  have ho := or128 b hb0 hb1
  have HO := Lib.hid ho
  go_enter Tryd.func31, Tryd.ntmps31
  go_wp2_with fail
  refine (get_is _ _ _ _ _ hn0 hn1 hb).mono ?_
  rintro e w' ⟨rfl, n1, rfl⟩
  by_cases c0 : y / 2 = 0
  · rw [c0] at hw
    go_wp2_with fail
    refine (get_is _ _ _ _ _ hn0 hn1 hw).mono ?_
    rintro e w' ⟨rfl, n2, rfl⟩
    go_wp2
    go_ret
    exact ⟨ret_int (way0 b y hb0 c0), _, rfl⟩
  by_cases c1 : y / 2 = 1
  · rw [c1] at hw
    go_wp2_with fail
    refine (get_is _ _ _ _ _ hn0 hn1 hw).mono ?_
    rintro e w' ⟨rfl, n2, rfl⟩
    go_wp2
    go_ret
    exact ⟨ret_int (way1 b y hb0 hb1 hy0 c1), _, rfl⟩
  by_cases c2 : y / 2 = 2
  · rw [c2] at hw
    go_wp2_with fail
    refine (get_is _ _ _ _ _ hn0 hn1 hw).mono ?_
    rintro e w' ⟨rfl, n2, rfl⟩
    go_wp2
    go_ret
    exact ⟨ret_int (way2 b y hb0 hb1 hy0 c2), _, rfl⟩
  by_cases c3 : y / 2 = 3
  · rw [c3] at hw
    go_wp2_with fail
    refine (get_is _ _ _ _ _ hn0 hn1 hw).mono ?_
    rintro e w' ⟨rfl, n2, rfl⟩
    go_wp2
    go_ret
    exact ⟨ret_int (way3 b y hb0 hb1 hy0 c3), _, rfl⟩
  have c4 : 4 ≤ y / 2 := by omega
  go_wp2_with fail
  refine (get_is _ _ _ _ _ hn0 hn1 hw).mono ?_
  rintro e w' ⟨rfl, n2, rfl⟩
  have d0 : (y / 2 == 0) = false := by simpa using c0
  have d1 : (y / 2 == 1) = false := by simpa using c1
  have d2 : (y / 2 == 2) = false := by simpa using c2
  have d3 : (y / 2 == 3) = false := by simpa using c3
  go_wp2_with fail
  refine (get_is _ _ _ _ _ hn0 hn1 ht).mono ?_
  rintro e w' ⟨rfl, n3, rfl⟩
  go_wp2_with fail
  refine (ror_c _ _ _ (by omega) (by omega)).mono ?_
  rintro e w' ⟨rfl, n4, rfl⟩
  go_wp2
  go_ret
  exact ⟨ret_int (wayT b y hb0 hb1 hy0 hy1 c4), _, rfl⟩

theorem okB_neg (imm : Int) (h : imm < 0) : okB imm = false := by unfold okB; simp; omega
theorem okB_big (imm : Int) (h : 4095 < imm) : okB imm = false := by unfold okB Em.okN; simp; omega

theorem okB_in (imm : Int) (b : Bool) (h0 : 0 ≤ imm) (h1 : imm ≤ 4095) (h : b = true ↔ ¬ (imm = 256 ∨ imm = 512 ∨ imm = 768)) : b = okB imm := by
  rw [Bool.eq_iff_iff, h]; unfold okB Em.okN; simp; omega
theorem i64_low8 (n : Int) : bits .and .i64 n 255 = n % 256 := by
  have e : (BitVec.ofInt 64 255).toNat = 2 ^ 8 - 1 := by decide
  have h : bits .and .i64 n 255 = IntKind.i64.wrap (((BitVec.ofInt 64 n).toNat &&& (BitVec.ofInt 64 255).toNat : Nat) : Int) := by
    rw [← BitVec.toNat_and]; rfl
  rw [h, e, Nat.and_two_pow_sub_one_eq_mod, BitVec.toNat_ofInt, IntKind.wrap_i64]
  omega

theorem valid_c (imm : Int) (w : World) :
    Calls Tryd.prog 30 #[.int .i64 imm] w fun e w' => e = .returned (.bool (okB imm)) ∧ ∃ n, w' = w.drewN n := by
  by_cases c0 : imm < 0
  · rw [okB_neg imm c0]
    go_enter Tryd.func30, Tryd.ntmps30
    go_wp2
    go_ret
    exact ⟨rfl, 0, rfl⟩
  by_cases c1 : 4095 < imm
  · rw [okB_big imm c1]
    go_enter Tryd.func30, Tryd.ntmps30
    go_wp2
    go_ret
    exact ⟨rfl, 0, rfl⟩
  have hm := i64_low8 imm
  go_enter Tryd.func30, Tryd.ntmps30
  go_wp2
  all_goals go_ret
  all_goals exact ⟨ret_bool (by first | rw [hm] | skip; exact okB_in imm _ (by omega) (by omega) (by simp; omega)), 0, rfl⟩



/-- by how much a word is turned to have its byte lowest -/
def placeI (u : Int) : Int := if u / 2 = 0 ∨ u / 2 = 1 ∨ u / 2 = 3 then 0 else if u / 2 = 2 then 8 else -u

end Go.Proofs.YtdcnkmkaafimlaaDoor
