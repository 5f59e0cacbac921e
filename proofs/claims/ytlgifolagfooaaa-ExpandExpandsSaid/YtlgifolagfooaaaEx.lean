/- Contracts of Expand and Valid: the program's and the document's own answers; of Find's place. -/
import Derived.Test.YtlgifolagfooaaaRows
import Derived.Test.YtlgifolagfooaaaRr
import Derived.Test.YtlgifolagfooaaaEm
namespace Go.Proofs.Ytlgifolagfooaaa
open Go.ChangeShapes Go.WideShapes Go.ChangeAt Go.RowKit

/-- what imm tells -/
def expI (imm : Int) : Int := ((Em.expN (imm % 4096).toNat : Nat) : Int)
/-- whether imm may be told -/
def okB (imm : Int) : Bool := decide (0 ≤ imm) && Em.okN imm.toNat

theorem getI_low (x : Int) (hx0 : 0 ≤ x) : getI x 7 0 = x % 256 := by
  unfold getI Bm.getB
  rw [if_pos (by omega)]
  obtain ⟨X, rfl⟩ := Int.eq_ofNat_of_zero_le hx0
  simp
theorem getI_way (x : Int) (hx0 : 0 ≤ x) : getI x 11 8 = x / 256 % 16 := by
  unfold getI Bm.getB
  rw [if_pos (by omega)]
  obtain ⟨X, rfl⟩ := Int.eq_ofNat_of_zero_le hx0
  simp
theorem getI_turn (x : Int) (hx0 : 0 ≤ x) : getI x 11 7 = x / 128 % 32 := by
  unfold getI Bm.getB
  rw [if_pos (by omega)]
  obtain ⟨X, rfl⟩ := Int.eq_ofNat_of_zero_le hx0
  simp


/-- Get's contract with its value laid in -/
theorem get_is (x hi lo v : Int) (w : World) (hx0 : 0 ≤ x) (hx : x < 4294967296) (hv : getI x hi lo = v) :
    Calls Try.prog 15 #[.int .u32 x, .int .i64 hi, .int .i64 lo] w fun e w' => e = .returned (.int .u32 v) ∧ ∃ n, w' = w.drewN n := by
  subst hv; exact get_c x hi lo w hx0 hx

theorem expI_of (imm b y : Int) (hb : imm % 4294967296 % 256 = b) (hy : imm % 4294967296 / 128 % 32 = y) : expI imm = ((Em.tell b.toNat y.toNat : Nat) : Int) := by
  unfold expI Em.expN
  rw [show (imm % 4096).toNat % 256 = b.toNat by omega, show (imm % 4096).toNat / 128 = y.toNat by omega]

/-- the values that the ways give, as the walk comes to them -/
theorem way0 (b y : Int) (hb0 : 0 ≤ b) (hy : y / 2 = 0) : b = ((Em.tell b.toNat y.toNat : Nat) : Int) := by
  unfold Em.tell; rw [if_pos (by omega)]; omega
theorem way1 (b y : Int) (hb0 : 0 ≤ b) (hb1 : b < 256) (hy0 : 0 ≤ y) (hy : y / 2 = 1) : bits .or .u32 (b * 65536) b = ((Em.tell b.toNat y.toNat : Nat) : Int) := by
  obtain ⟨B, rfl⟩ := Int.eq_ofNat_of_zero_le hb0
  unfold Em.tell; rw [if_neg (by omega), if_pos (by omega)]
  rw [show ((B : Int) * 65536) = ((B * 65536 : Nat) : Int) by simp, u32_or_nat _ _ (by omega) (by omega)]; rfl
theorem way2 (b y : Int) (hb0 : 0 ≤ b) (hb1 : b < 256) (hy0 : 0 ≤ y) (hy : y / 2 = 2) : bits .or .u32 (b * 16777216) (b * 256) = ((Em.tell b.toNat y.toNat : Nat) : Int) := by
  obtain ⟨B, rfl⟩ := Int.eq_ofNat_of_zero_le hb0
  unfold Em.tell; rw [if_neg (by omega), if_neg (by omega), if_pos (by omega)]
  rw [show ((B : Int) * 16777216) = ((B * 16777216 : Nat) : Int) by simp, show ((B : Int) * 256) = ((B * 256 : Nat) : Int) by simp, u32_or_nat _ _ (by omega) (by omega)]; rfl
theorem way3 (b y : Int) (hb0 : 0 ≤ b) (hb1 : b < 256) (hy0 : 0 ≤ y) (hy : y / 2 = 3) :
    bits .or .u32 (bits .or .u32 (bits .or .u32 (b * 16777216) (b * 65536)) (b * 256)) b = ((Em.tell b.toNat y.toNat : Nat) : Int) := by
  obtain ⟨B, rfl⟩ := Int.eq_ofNat_of_zero_le hb0
  unfold Em.tell; rw [if_neg (by omega), if_neg (by omega), if_neg (by omega), if_pos (by omega)]
  have h1 : B * 16777216 ||| B * 65536 < 2 ^ 32 := Nat.or_lt_two_pow (by omega) (by omega)
  have h2 : B * 16777216 ||| B * 65536 ||| B * 256 < 2 ^ 32 := Nat.or_lt_two_pow h1 (by omega)
  rw [show ((B : Int) * 16777216) = ((B * 16777216 : Nat) : Int) by simp, show ((B : Int) * 65536) = ((B * 65536 : Nat) : Int) by simp, show ((B : Int) * 256) = ((B * 256 : Nat) : Int) by simp,
    u32_or_nat _ _ (by omega) (by omega), u32_or_nat _ _ (by omega) (by omega), u32_or_nat _ _ (by omega) (by omega)]; rfl
theorem wayT (b y : Int) (hb0 : 0 ≤ b) (hb1 : b < 256) (hy0 : 0 ≤ y) (hy1 : y < 32) (hy : 4 ≤ y / 2) : rorI (b % 128 + 128) y = ((Em.tell b.toNat y.toNat : Nat) : Int) := by
  obtain ⟨B, rfl⟩ := Int.eq_ofNat_of_zero_le hb0
  unfold Em.tell rorI; rw [if_neg (by omega), if_neg (by omega), if_neg (by omega), if_neg (by omega)]
  rw [show (y % 32).toNat = y.toNat by omega, show ((B : Int) % 128 + 128).toNat = B % 128 + 128 by omega, Int.toNat_natCast]
theorem or128 (b : Int) (hb0 : 0 ≤ b) (hb1 : b < 256) : bits .or .u32 b 128 = b % 128 + 128 := by
  obtain ⟨B, rfl⟩ := Int.eq_ofNat_of_zero_le hb0
  rw [show (128 : Int) = ((128 : Nat) : Int) by rfl, u32_or_nat _ _ (by omega) (by omega), Em.or7 _ (by omega)]; omega

theorem exp_c (imm : Int) (w : World) (_h0 : -9223372036854775808 ≤ imm) (_h1 : imm ≤ 9223372036854775807) :
    Calls Try.prog 8 #[.int .i64 imm] w fun e w' => e = .returned (.int .u32 (expI imm)) ∧ ∃ n, w' = w.drewN n := by
  have hn0 : 0 ≤ imm % 4294967296 := by omega
  have hn1 : imm % 4294967296 < 4294967296 := by omega
  have hb := getI_low (imm % 4294967296) hn0
  have hw := getI_way (imm % 4294967296) hn0
  have ht := getI_turn (imm % 4294967296) hn0
  have hE := expI_of imm _ _ rfl rfl
  have hb0 : 0 ≤ imm % 4294967296 % 256 ∧ imm % 4294967296 % 256 < 256 := by omega
  have hy0 : 0 ≤ imm % 4294967296 / 128 % 32 ∧ imm % 4294967296 / 128 % 32 < 32 := by omega
  have hyw : imm % 4294967296 / 256 % 16 = imm % 4294967296 / 128 % 32 / 2 := by omega
  rw [hE]
  rw [hyw] at hw
  clear hE hyw
  generalize imm % 4294967296 % 256 = b at *
  generalize imm % 4294967296 / 128 % 32 = y at *
  obtain ⟨hb0, hb1⟩ := hb0
  obtain ⟨hy0, hy1⟩ := hy0
  have ho := or128 b hb0 hb1
  have HO := Lib.hid ho
  go_enter Try.func8, Try.ntmps8
  go_wp2_with fail
  refine (get_is _ _ _ _ _ hn0 hn1 hb).mono ?_
  rintro e w' ⟨rfl, n1, rfl⟩
  by_cases c0 : y / 2 = 0
  · rw [c0] at hw
    go_wp2_with fail
    refine (get_is _ _ _ _ _ hn0 hn1 hw).mono ?_
    rintro e w' ⟨rfl, n2, rfl⟩
    go_wp2
    go_ret
    exact ⟨ret_int (way0 b y hb0 c0), _, rfl⟩
  by_cases c1 : y / 2 = 1
  · rw [c1] at hw
    go_wp2_with fail
    refine (get_is _ _ _ _ _ hn0 hn1 hw).mono ?_
    rintro e w' ⟨rfl, n2, rfl⟩
    go_wp2
    go_ret
    exact ⟨ret_int (way1 b y hb0 hb1 hy0 c1), _, rfl⟩
  by_cases c2 : y / 2 = 2
  · rw [c2] at hw
    go_wp2_with fail
    refine (get_is _ _ _ _ _ hn0 hn1 hw).mono ?_
    rintro e w' ⟨rfl, n2, rfl⟩
    go_wp2
    go_ret
    exact ⟨ret_int (way2 b y hb0 hb1 hy0 c2), _, rfl⟩
  by_cases c3 : y / 2 = 3
  · rw [c3] at hw
    go_wp2_with fail
    refine (get_is _ _ _ _ _ hn0 hn1 hw).mono ?_
    rintro e w' ⟨rfl, n2, rfl⟩
    go_wp2
    go_ret
    exact ⟨ret_int (way3 b y hb0 hb1 hy0 c3), _, rfl⟩
  have c4 : 4 ≤ y / 2 := by omega
  go_wp2_with fail
  refine (get_is _ _ _ _ _ hn0 hn1 hw).mono ?_
  rintro e w' ⟨rfl, n2, rfl⟩
  have d0 : (y / 2 == 0) = false := by simpa using c0
  have d1 : (y / 2 == 1) = false := by simpa using c1
  have d2 : (y / 2 == 2) = false := by simpa using c2
  have d3 : (y / 2 == 3) = false := by simpa using c3
  go_wp2_with fail
  refine (get_is _ _ _ _ _ hn0 hn1 ht).mono ?_
  rintro e w' ⟨rfl, n3, rfl⟩
  go_wp2_with fail
  refine (ror_c _ _ _ (by omega) (by omega)).mono ?_
  rintro e w' ⟨rfl, n4, rfl⟩
  go_wp2
  go_ret
  exact ⟨ret_int (wayT b y hb0 hb1 hy0 hy1 c4), _, rfl⟩

theorem okB_neg (imm : Int) (h : imm < 0) : okB imm = false := by unfold okB; simp; omega
theorem okB_big (imm : Int) (h : 4095 < imm) : okB imm = false := by unfold okB Em.okN; simp; omega

theorem ret_bool {a b : Bool} (h : a = b) : Ending.returned (.bool a) = Ending.returned (.bool b) := by rw [h]
theorem okB_in (imm : Int) (b : Bool) (h0 : 0 ≤ imm) (h1 : imm ≤ 4095) (h : b = true ↔ ¬ (imm = 256 ∨ imm = 512 ∨ imm = 768)) : b = okB imm := by
  rw [Bool.eq_iff_iff, h]; unfold okB Em.okN; simp; omega
theorem i64_low8 (n : Int) : bits .and .i64 n 255 = n % 256 := by
  have e : (BitVec.ofInt 64 255).toNat = 2 ^ 8 - 1 := by decide
  have h : bits .and .i64 n 255 = IntKind.i64.wrap (((BitVec.ofInt 64 n).toNat &&& (BitVec.ofInt 64 255).toNat : Nat) : Int) := by
    rw [← BitVec.toNat_and]; rfl
  rw [h, e, Nat.and_two_pow_sub_one_eq_mod, BitVec.toNat_ofInt, IntKind.wrap_i64]
  omega

theorem valid_c (imm : Int) (w : World) :
    Calls Try.prog 10 #[.int .i64 imm] w fun e w' => e = .returned (.bool (okB imm)) ∧ ∃ n, w' = w.drewN n := by
  by_cases c0 : imm < 0
  · rw [okB_neg imm c0]
    go_enter Try.func10, Try.ntmps10
    go_wp2
    go_ret
    exact ⟨rfl, 0, rfl⟩
  by_cases c1 : 4095 < imm
  · rw [okB_big imm c1]
    go_enter Try.func10, Try.ntmps10
    go_wp2
    go_ret
    exact ⟨rfl, 0, rfl⟩
  have hm := i64_low8 imm
  go_enter Try.func10, Try.ntmps10
  go_wp2
  all_goals go_ret
  all_goals exact ⟨ret_bool (by first | rw [hm] | skip; exact okB_in imm _ (by omega) (by omega) (by simp; omega)), 0, rfl⟩

theorem rvalid_c (imm : Int) (w : World) :
    Calls Try.prog 11 #[.int .i64 imm] w fun e w' => e = .returned (.bool (okB imm)) ∧ ∃ n, w' = w.drewN n := by
  by_cases c0 : imm < 0
  · rw [okB_neg imm c0]
    go_enter Try.func11, Try.ntmps11
    go_wp2
    go_ret
    exact ⟨rfl, 0, rfl⟩
  by_cases c1 : 4095 < imm
  · rw [okB_big imm c1]
    go_enter Try.func11, Try.ntmps11
    go_wp2
    go_ret
    exact ⟨rfl, 0, rfl⟩
  go_enter Try.func11, Try.ntmps11
  go_wp2
  all_goals go_ret
  all_goals exact ⟨ret_bool (okB_in imm _ (by omega) (by omega) (by simp; omega)), 0, rfl⟩

theorem rexp_c (imm : Int) (w : World) (_h0 : -9223372036854775808 ≤ imm) (_h1 : imm ≤ 9223372036854775807) :
    Calls Try.prog 9 #[.int .i64 imm] w fun e w' => e = .returned (.int .u32 (expI imm)) ∧ ∃ n, w' = w.drewN n := by
  have hx : ∃ x, imm % 4294967296 % 4096 = x := ⟨_, rfl⟩
  obtain ⟨x, hx⟩ := hx
  have hE := expI_of imm (x % 256) (x / 128) (by omega) (by omega)
  have hx0 : 0 ≤ x := by omega
  have hx1 : x < 4096 := by omega
  rw [hE]
  clear hE
  have HX := Lib.hid hx
  go_enter Try.func9, Try.ntmps9
  by_cases c0 : x / 256 = 0
  · go_wp2
    go_ret
    exact ⟨ret_int (way0 _ _ (by omega) (by omega)), 0, rfl⟩
  by_cases c1 : x / 256 = 1
  · go_wp2
    go_ret
    exact ⟨ret_int (way1 _ _ (by omega) (by omega) (by omega) (by omega)), 0, rfl⟩
  by_cases c2 : x / 256 = 2
  · go_wp2
    go_ret
    exact ⟨ret_int (way2 _ _ (by omega) (by omega) (by omega) (by omega)), 0, rfl⟩
  by_cases c3 : x / 256 = 3
  · go_wp2
    go_ret
    exact ⟨ret_int (way3 _ _ (by omega) (by omega) (by omega) (by omega)), 0, rfl⟩
  have d0 : (x / 256 == 0) = false := by simpa using c0
  have d1 : (x / 256 == 1) = false := by simpa using c1
  have d2 : (x / 256 == 2) = false := by simpa using c2
  have d3 : (x / 256 == 3) = false := by simpa using c3
  go_wp2_with fail
  refine (rror_c _ _ _ (by omega) (by omega)).mono ?_
  rintro e w' ⟨rfl, n4, rfl⟩
  go_wp2
  go_ret
  exact ⟨ret_int (by rw [show x % 128 = x % 256 % 128 by omega]; exact wayT (x % 256) (x / 128) (by omega) (by omega) (by omega) (by omega) (by omega)), _, rfl⟩

/-- by how much a word is turned to have its byte lowest -/
def placeI (u : Int) : Int := if u / 2 = 0 ∨ u / 2 = 1 ∨ u / 2 = 3 then 0 else if u / 2 = 2 then 8 else -u

theorem place_c (u : Int) (w : World) (h0 : 0 ≤ u) (h1 : u < 32) :
    Calls Try.prog 18 #[.int .i64 u] w fun e w' => e = .returned (.int .i64 (placeI u)) ∧ ∃ n, w' = w.drewN n := by
  by_cases c0 : u / 2 = 0
  · have e : placeI u = 0 := by unfold placeI; rw [if_pos (by omega)]
    rw [e]; clear e
    go_enter Try.func18, Try.ntmps18
    go_wp2
    go_ret
    exact ⟨rfl, 0, rfl⟩
  by_cases c1 : u / 2 = 1
  · have e : placeI u = 0 := by unfold placeI; rw [if_pos (by omega)]
    rw [e]; clear e
    go_enter Try.func18, Try.ntmps18
    go_wp2
    go_ret
    exact ⟨rfl, 0, rfl⟩
  by_cases c3 : u / 2 = 3
  · have e : placeI u = 0 := by unfold placeI; rw [if_pos (by omega)]
    rw [e]; clear e
    go_enter Try.func18, Try.ntmps18
    go_wp2
    go_ret
    exact ⟨rfl, 0, rfl⟩
  by_cases c2 : u / 2 = 2
  · have e : placeI u = 8 := by unfold placeI; rw [if_neg (by omega), if_pos (by omega)]
    rw [e]; clear e
    go_enter Try.func18, Try.ntmps18
    go_wp2
    go_ret
    exact ⟨rfl, 0, rfl⟩
  have d0 : (u / 2 == 0) = false := by simpa using c0
  have d1 : (u / 2 == 1) = false := by simpa using c1
  have d2 : (u / 2 == 2) = false := by simpa using c2
  have d3 : (u / 2 == 3) = false := by simpa using c3
  have e : placeI u = -u := by unfold placeI; rw [if_neg (by omega), if_neg (by omega)]
  rw [e]; clear e
  go_enter Try.func18, Try.ntmps18
  go_wp2
  go_ret
  exact ⟨rfl, 0, rfl⟩
end Go.Proofs.Ytlgifolagfooaaa
