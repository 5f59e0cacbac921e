/- Contracts of Ror: the program's and the document's own answer. Plain facts on numbers of twelve bits, without any program: what each tells, which may be told, the least that tells a word; those that speak of all 4096 numbers are computed. Contracts of Expand and Valid: the program's and the document's own answers; of Find's place. Contracts of Find: the program's and the document's own answer are the least number that tells the word. -/
import Derived.Test.YtmofimgodmcdjaaDoorRows
import Derived.Test.YtmofimgodmcdjaaDoorGb

namespace Go.Proofs.YtmofimgodmcdjaaDoor
open Go.ChangeShapes Go.WideShapes Go.ChangeAt Go.RowKit

theorem ofNat_div (X k : Nat) : ((X : Int) / 2 ^ k) = ((X / 2 ^ k : Nat) : Int) := by simp
theorem u32_and1 (X : Nat) (hX : X < 4294967296) : bits .and .u32 (X : Int) 1 = ((X % 2 : Nat) : Int) := by
  rw [show (1 : Int) = ((1 : Nat) : Int) by rfl, u32_and_nat _ _ hX (by omega), nat_mask1]

/-- x turned right by n bits, by its least number from 0 to 31 -/
def rorI (x n : Int) : Int := ((Bm.rorB x.toNat (n % 32).toNat : Nat) : Int)

theorem u64_tmod (n : Int) : (IntKind.u64.wrap n).tmod 32 = n % 32 := by
  rw [IntKind.wrap_u64, tmod_of_emod]; omega

theorem ror_eq (x n t : Int) (hx0 : 0 ≤ x) (hx : x < 4294967296) (ht : n % 32 = t) :
    bits .or .u32 (x / 2 ^ t.toNat) (x * 2 ^ (32 - t).toNat % 4294967296) = rorI x n := by
  subst ht
  unfold rorI
  obtain ⟨X, rfl⟩ := Int.eq_ofNat_of_zero_le hx0
  rw [ofNat_div, ofNat_shl, u32_or_nat _ _ (Nat.lt_of_le_of_lt (Nat.div_le_self _ _) (by omega)) (Nat.mod_lt _ (by decide)), show (32 - n % 32).toNat = 32 - (n % 32).toNat by omega]
  rfl

theorem ror_c (x n : Int) (w : World) (hx0 : 0 ≤ x) (hx : x < 4294967296) :
    Calls Tryd.prog 71 #[.int .u32 x, .int .i64 n] w fun e w' => e = .returned (.int .u32 (rorI x n)) ∧ ∃ n, w' = w.drewN n := by
  have e := u64_tmod n
  have h0 : 0 ≤ n % 32 := by omega
  have h1 : n % 32 < 32 := by omega
  generalize ht : n % 32 = t at *
  have HT := Lib.hid ht; clear ht
  go_enter Tryd.func71, Tryd.ntmps71
  go_wp2
  go_ret
  exact ⟨ret_int (ror_eq x n t hx0 hx HT.out), 0, rfl⟩

theorem rror_eq (x n t V : Int) (hx0 : 0 ≤ x) (hx : x < 4294967296) (hV : rorI x (n - t) = V) :
    bits .or .u32 (V / 2) (V * 2147483648 % 4294967296) = rorI x (n - (t - 1)) := by
  subst hV
  unfold rorI
  obtain ⟨X, rfl⟩ := Int.eq_ofNat_of_zero_le hx0
  have hl := Bm.ror_lt X ((n - t) % 32).toNat (by omega)
  have h := Bm.ror_ror (X := X) (a := ((n - t) % 32).toNat) (b := 1) (by omega) (by omega) (by omega)
  rw [Int.toNat_natCast, show ((n - (t - 1)) % 32).toNat = (((n - t) % 32).toNat + 1) % 32 by omega, ← h]
  generalize Bm.rorB X ((n - t) % 32).toNat = R at *
  rw [show ((R : Int) / 2) = ((R / 2 ^ 1 : Nat) : Int) by simp, show ((R : Int) * 2147483648 % 4294967296) = ((R * 2 ^ (32 - 1) % 4294967296 : Nat) : Int) by simp,
    u32_or_nat _ _ (Nat.lt_of_le_of_lt (Nat.div_le_self _ _) hl) (Nat.mod_lt _ (by decide))]
  rfl

theorem rorv_bd (x n : Int) (hx0 : 0 ≤ x) (hx : x < 4294967296) : 0 ≤ rorI x n ∧ rorI x n < 4294967296 := by
  unfold rorI
  have := Bm.ror_lt x.toNat (n % 32).toNat (by omega)
  omega
theorem rorI_mod (x n m : Int) (h : n % 32 = m % 32) : rorI x n = rorI x m := by unfold rorI; rw [h]
theorem rorI_zero (x : Int) (hx0 : 0 ≤ x) (hx : x < 4294967296) : rorI x 0 = x := by
  unfold rorI
  rw [show ((0 : Int) % 32).toNat = 0 by rfl, Bm.ror_zero (by omega)]; omega

end Go.Proofs.YtmofimgodmcdjaaDoor

namespace Go.Proofs.YtmofimgodmcdjaaDoor
namespace Em

/-- a byte b spread or turned, by the way y (the upper five bits of the number) -/
def tell (b y : Nat) : Nat :=
  if y / 2 = 0 then b
  else if y / 2 = 1 then (b * 65536) ||| b
  else if y / 2 = 2 then (b * 16777216) ||| (b * 256)
  else if y / 2 = 3 then (((b * 16777216) ||| (b * 65536)) ||| (b * 256)) ||| b
  else Bm.rorB (b % 128 + 128) y
/-- what the number i tells -/
def expN (i : Nat) : Nat := tell (i % 256) (i / 128)
/-- whether it may be told -/
def okN (i : Nat) : Bool := decide (i < 4096) && !(decide (i = 256) || decide (i = 512) || decide (i = 768))
/-- i may be told and tells x -/
def good (x i : Nat) : Bool := okN i && (expN i == x)
/-- by how much x is turned to have its byte lowest -/
def placeN (u : Nat) : Nat := if u / 2 = 0 ∨ u / 2 = 1 ∨ u / 2 = 3 then 0 else if u / 2 = 2 then 8 else 32 - u
/-- the one number with these upper five bits that may tell x -/
def candN (x u : Nat) : Nat := u * 128 + Bm.rorB x (placeN u) % 128
/-- the least that tells x -/
def findN (x : Nat) : Option Nat := (List.range 4096).find? (good x)

theorem find_some {x i : Nat} (h : good x i = true) (hl : ∀ j, j < i → good x j = false) : findN x = some i := by
  have hi : i < 4096 := by unfold good okN at h; simp at h; omega
  unfold findN
  rw [List.find?_eq_some_iff_append]
  refine ⟨h, List.range i, (List.range' (i + 1) (4096 - (i + 1))), ?_, fun a ha => ?_⟩
  · rw [List.range_eq_range', List.range_eq_range', show (4096 : Nat) = i + (1 + (4096 - (i + 1))) by omega]
    rw [← List.range'_append_1, ← List.range'_append_1]
    simp
    omega
  · rw [hl a (by simpa using ha)]; rfl

theorem find_none {x : Nat} (h : ∀ j, j < 4096 → good x j = false) : findN x = none := by
  unfold findN
  rw [List.find?_eq_none]
  intro a ha
  rw [h a (by simpa using ha)]; simp

/-- a check of all numbers below n, as a computation -/
def all (n : Nat) (p : Nat → Bool) : Bool := (List.range n).all p
theorem all_of {n : Nat} {p : Nat → Bool} (h : all n p = true) (i : Nat) (hi : i < n) : p i = true := by
  unfold all at h
  rw [List.all_eq_true] at h
  exact h i (by simpa using hi)

theorem cand_all : all 4096 (fun i => candN (expN i) (i / 128) == i) = true := by decide +kernel
theorem cand_of (i : Nat) (hi : i < 4096) : candN (expN i) (i / 128) = i := by
  have := all_of cand_all i hi
  simpa using this

theorem cand_div (x u : Nat) : candN x u / 128 = u := by unfold candN; omega

theorem or7_all : all 256 (fun b => (b ||| 128) == b % 128 + 128) = true := by decide +kernel
theorem or7 (b : Nat) (h : b < 256) : (b ||| 128) = b % 128 + 128 := by
  have := all_of or7_all b h
  simpa using this
end Em
end Go.Proofs.YtmofimgodmcdjaaDoor

namespace Go.Proofs.YtmofimgodmcdjaaDoor
open Go.ChangeShapes Go.WideShapes Go.ChangeAt Go.RowKit

/-- what imm tells -/
def expI (imm : Int) : Int := ((Em.expN (imm % 4096).toNat : Nat) : Int)
/-- whether imm may be told -/
def okB (imm : Int) : Bool := decide (0 ≤ imm) && Em.okN imm.toNat

theorem getI_low (x : Int) (hx0 : 0 ≤ x) : getI x 7 0 = x % 256 := by
  unfold getI Bm.getB
  rw [if_pos (by omega)]
  obtain ⟨X, rfl⟩ := Int.eq_ofNat_of_zero_le hx0
  simp
theorem getI_way (x : Int) (hx0 : 0 ≤ x) : getI x 11 8 = x / 256 % 16 := by
  unfold getI Bm.getB
  rw [if_pos (by omega)]
  obtain ⟨X, rfl⟩ := Int.eq_ofNat_of_zero_le hx0
  simp
theorem getI_turn (x : Int) (hx0 : 0 ≤ x) : getI x 11 7 = x / 128 % 32 := by
  unfold getI Bm.getB
  rw [if_pos (by omega)]
  obtain ⟨X, rfl⟩ := Int.eq_ofNat_of_zero_le hx0
  simp


/-- Get's contract with its value laid in -/
theorem get_is (x hi lo v : Int) (w : World) (hx0 : 0 ≤ x) (hx : x < 4294967296) (hv : getI x hi lo = v) :
    Calls Tryd.prog 16 #[.int .u32 x, .int .i64 hi, .int .i64 lo] w fun e w' => e = .returned (.int .u32 v) ∧ ∃ n, w' = w.drewN n := by
  subst hv; exact get_c x hi lo w hx0 hx

theorem expI_of (imm b y : Int) (hb : imm % 4294967296 % 256 = b) (hy : imm % 4294967296 / 128 % 32 = y) : expI imm = ((Em.tell b.toNat y.toNat : Nat) : Int) := by
  unfold expI Em.expN
  rw [show (imm % 4096).toNat % 256 = b.toNat by omega, show (imm % 4096).toNat / 128 = y.toNat by omega]

/-- the values that the ways give, as the walk comes to them -/
theorem way0 (b y : Int) (hb0 : 0 ≤ b) (hy : y / 2 = 0) : b = ((Em.tell b.toNat y.toNat : Nat) : Int) := by
  unfold Em.tell; rw [if_pos (by omega)]; omega
theorem way1 (b y : Int) (hb0 : 0 ≤ b) (hb1 : b < 256) (hy0 : 0 ≤ y) (hy : y / 2 = 1) : bits .or .u32 (b * 65536) b = ((Em.tell b.toNat y.toNat : Nat) : Int) := by
  obtain ⟨B, rfl⟩ := Int.eq_ofNat_of_zero_le hb0
  unfold Em.tell; rw [if_neg (by omega), if_pos (by omega)]
  rw [show ((B : Int) * 65536) = ((B * 65536 : Nat) : Int) by simp, u32_or_nat _ _ (by omega) (by omega)]; rfl
theorem way2 (b y : Int) (hb0 : 0 ≤ b) (hb1 : b < 256) (hy0 : 0 ≤ y) (hy : y / 2 = 2) : bits .or .u32 (b * 16777216) (b * 256) = ((Em.tell b.toNat y.toNat : Nat) : Int) := by
  obtain ⟨B, rfl⟩ := Int.eq_ofNat_of_zero_le hb0
  unfold Em.tell; rw [if_neg (by omega), if_neg (by omega), if_pos (by omega)]
  rw [show ((B : Int) * 16777216) = ((B * 16777216 : Nat) : Int) by simp, show ((B : Int) * 256) = ((B * 256 : Nat) : Int) by simp, u32_or_nat _ _ (by omega) (by omega)]; rfl
theorem way3 (b y : Int) (hb0 : 0 ≤ b) (hb1 : b < 256) (hy0 : 0 ≤ y) (hy : y / 2 = 3) :
    bits .or .u32 (bits .or .u32 (bits .or .u32 (b * 16777216) (b * 65536)) (b * 256)) b = ((Em.tell b.toNat y.toNat : Nat) : Int) := by
  obtain ⟨B, rfl⟩ := Int.eq_ofNat_of_zero_le hb0
  unfold Em.tell; rw [if_neg (by omega), if_neg (by omega), if_neg (by omega), if_pos (by omega)]
  have h1 : B * 16777216 ||| B * 65536 < 2 ^ 32 := Nat.or_lt_two_pow (by omega) (by omega)
  have h2 : B * 16777216 ||| B * 65536 ||| B * 256 < 2 ^ 32 := Nat.or_lt_two_pow h1 (by omega)
  rw [show ((B : Int) * 16777216) = ((B * 16777216 : Nat) : Int) by simp, show ((B : Int) * 65536) = ((B * 65536 : Nat) : Int) by simp, show ((B : Int) * 256) = ((B * 256 : Nat) : Int) by simp,
    u32_or_nat _ _ (by omega) (by omega), u32_or_nat _ _ (by omega) (by omega), u32_or_nat _ _ (by omega) (by omega)]; rfl
theorem wayT (b y : Int) (hb0 : 0 ≤ b) (hb1 : b < 256) (hy0 : 0 ≤ y) (hy1 : y < 32) (hy : 4 ≤ y / 2) : rorI (b % 128 + 128) y = ((Em.tell b.toNat y.toNat : Nat) : Int) := by
  obtain ⟨B, rfl⟩ := Int.eq_ofNat_of_zero_le hb0
  unfold Em.tell rorI; rw [if_neg (by omega), if_neg (by omega), if_neg (by omega), if_neg (by omega)]
  rw [show (y % 32).toNat = y.toNat by omega, show ((B : Int) % 128 + 128).toNat = B % 128 + 128 by omega, Int.toNat_natCast]
theorem or128 (b : Int) (hb0 : 0 ≤ b) (hb1 : b < 256) : bits .or .u32 b 128 = b % 128 + 128 := by
  obtain ⟨B, rfl⟩ := Int.eq_ofNat_of_zero_le hb0
  rw [show (128 : Int) = ((128 : Nat) : Int) by rfl, u32_or_nat _ _ (by omega) (by omega), Em.or7 _ (by omega)]; omega

theorem exp_c (imm : Int) (w : World) (_h0 : -9223372036854775808 ≤ imm) (_h1 : imm ≤ 9223372036854775807) :
    Calls Tryd.prog 74 #[.int .i64 imm] w fun e w' => e = .returned (.int .u32 (expI imm)) ∧ ∃ n, w' = w.drewN n := by
  have hn0 : 0 ≤ imm % 4294967296 := by omega
  have hn1 : imm % 4294967296 < 4294967296 := by omega
  have hb := getI_low (imm % 4294967296) hn0
  have hw := getI_way (imm % 4294967296) hn0
  have ht := getI_turn (imm % 4294967296) hn0
  have hE := expI_of imm _ _ rfl rfl
  have hb0 : 0 ≤ imm % 4294967296 % 256 ∧ imm % 4294967296 % 256 < 256 := by omega
  have hy0 : 0 ≤ imm % 4294967296 / 128 % 32 ∧ imm % 4294967296 / 128 % 32 < 32 := by omega
  have hyw : imm % 4294967296 / 256 % 16 = imm % 4294967296 / 128 % 32 / 2 := by omega
  rw [hE]
  rw [hyw] at hw
  clear hE hyw
  generalize imm % 4294967296 % 256 = b at *
  generalize imm % 4294967296 / 128 % 32 = y at *
  obtain ⟨hb0, hb1⟩ := hb0
  obtain ⟨hy0, hy1⟩ := hy0
  have ho := or128 b hb0 hb1
  have HO := Lib.hid ho
  go_enter Tryd.func74, Tryd.ntmps74
  go_wp2_with fail
  refine (get_is _ _ _ _ _ hn0 hn1 hb).mono ?_
  rintro e w' ⟨rfl, n1, rfl⟩
  by_cases c0 : y / 2 = 0
  · rw [c0] at hw
    go_wp2_with fail
    refine (get_is _ _ _ _ _ hn0 hn1 hw).mono ?_
    rintro e w' ⟨rfl, n2, rfl⟩
    go_wp2
    go_ret
    exact ⟨ret_int (way0 b y hb0 c0), _, rfl⟩
  by_cases c1 : y / 2 = 1
  · rw [c1] at hw
    go_wp2_with fail
    refine (get_is _ _ _ _ _ hn0 hn1 hw).mono ?_
    rintro e w' ⟨rfl, n2, rfl⟩
    go_wp2
    go_ret
    exact ⟨ret_int (way1 b y hb0 hb1 hy0 c1), _, rfl⟩
  by_cases c2 : y / 2 = 2
  · rw [c2] at hw
    go_wp2_with fail
    refine (get_is _ _ _ _ _ hn0 hn1 hw).mono ?_
    rintro e w' ⟨rfl, n2, rfl⟩
    go_wp2
    go_ret
    exact ⟨ret_int (way2 b y hb0 hb1 hy0 c2), _, rfl⟩
  by_cases c3 : y / 2 = 3
  · rw [c3] at hw
    go_wp2_with fail
    refine (get_is _ _ _ _ _ hn0 hn1 hw).mono ?_
    rintro e w' ⟨rfl, n2, rfl⟩
    go_wp2
    go_ret
    exact ⟨ret_int (way3 b y hb0 hb1 hy0 c3), _, rfl⟩
  have c4 : 4 ≤ y / 2 := by omega
  go_wp2_with fail
  refine (get_is _ _ _ _ _ hn0 hn1 hw).mono ?_
  rintro e w' ⟨rfl, n2, rfl⟩
  have d0 : (y / 2 == 0) = false := by simpa using c0
  have d1 : (y / 2 == 1) = false := by simpa using c1
  have d2 : (y / 2 == 2) = false := by simpa using c2
  have d3 : (y / 2 == 3) = false := by simpa using c3
  go_wp2_with fail
  refine (get_is _ _ _ _ _ hn0 hn1 ht).mono ?_
  rintro e w' ⟨rfl, n3, rfl⟩
  go_wp2_with fail
  refine (ror_c _ _ _ (by omega) (by omega)).mono ?_
  rintro e w' ⟨rfl, n4, rfl⟩
  go_wp2
  go_ret
  exact ⟨ret_int (wayT b y hb0 hb1 hy0 hy1 c4), _, rfl⟩

theorem okB_neg (imm : Int) (h : imm < 0) : okB imm = false := by unfold okB; simp; omega
theorem okB_big (imm : Int) (h : 4095 < imm) : okB imm = false := by unfold okB Em.okN; simp; omega

theorem okB_in (imm : Int) (b : Bool) (h0 : 0 ≤ imm) (h1 : imm ≤ 4095) (h : b = true ↔ ¬ (imm = 256 ∨ imm = 512 ∨ imm = 768)) : b = okB imm := by
  rw [Bool.eq_iff_iff, h]; unfold okB Em.okN; simp; omega
theorem i64_low8 (n : Int) : bits .and .i64 n 255 = n % 256 := by
  have e : (BitVec.ofInt 64 255).toNat = 2 ^ 8 - 1 := by decide
  have h : bits .and .i64 n 255 = IntKind.i64.wrap (((BitVec.ofInt 64 n).toNat &&& (BitVec.ofInt 64 255).toNat : Nat) : Int) := by
    rw [← BitVec.toNat_and]; rfl
  rw [h, e, Nat.and_two_pow_sub_one_eq_mod, BitVec.toNat_ofInt, IntKind.wrap_i64]
  omega

theorem valid_c (imm : Int) (w : World) :
    Calls Tryd.prog 73 #[.int .i64 imm] w fun e w' => e = .returned (.bool (okB imm)) ∧ ∃ n, w' = w.drewN n := by
  by_cases c0 : imm < 0
  · rw [okB_neg imm c0]
    go_enter Tryd.func73, Tryd.ntmps73
    go_wp2
    go_ret
    exact ⟨rfl, 0, rfl⟩
  by_cases c1 : 4095 < imm
  · rw [okB_big imm c1]
    go_enter Tryd.func73, Tryd.ntmps73
    go_wp2
    go_ret
    exact ⟨rfl, 0, rfl⟩
  have hm := i64_low8 imm
  go_enter Tryd.func73, Tryd.ntmps73
  go_wp2
  all_goals go_ret
  all_goals exact ⟨ret_bool (by first | rw [hm] | skip; exact okB_in imm _ (by omega) (by omega) (by simp; omega)), 0, rfl⟩

/-- by how much a word is turned to have its byte lowest -/
def placeI (u : Int) : Int := if u / 2 = 0 ∨ u / 2 = 1 ∨ u / 2 = 3 then 0 else if u / 2 = 2 then 8 else -u

theorem place_c (u : Int) (w : World) (h0 : 0 ≤ u) (h1 : u < 32) :
    Calls Tryd.prog 72 #[.int .i64 u] w fun e w' => e = .returned (.int .i64 (placeI u)) ∧ ∃ n, w' = w.drewN n := by
  by_cases c0 : u / 2 = 0
  · have e : placeI u = 0 := by unfold placeI; rw [if_pos (by omega)]
    rw [e]; clear e
    go_enter Tryd.func72, Tryd.ntmps72
    go_wp2
    go_ret
    exact ⟨rfl, 0, rfl⟩
  by_cases c1 : u / 2 = 1
  · have e : placeI u = 0 := by unfold placeI; rw [if_pos (by omega)]
    rw [e]; clear e
    go_enter Tryd.func72, Tryd.ntmps72
    go_wp2
    go_ret
    exact ⟨rfl, 0, rfl⟩
  by_cases c3 : u / 2 = 3
  · have e : placeI u = 0 := by unfold placeI; rw [if_pos (by omega)]
    rw [e]; clear e
    go_enter Tryd.func72, Tryd.ntmps72
    go_wp2
    go_ret
    exact ⟨rfl, 0, rfl⟩
  by_cases c2 : u / 2 = 2
  · have e : placeI u = 8 := by unfold placeI; rw [if_neg (by omega), if_pos (by omega)]
    rw [e]; clear e
    go_enter Tryd.func72, Tryd.ntmps72
    go_wp2
    go_ret
    exact ⟨rfl, 0, rfl⟩
  have d0 : (u / 2 == 0) = false := by simpa using c0
  have d1 : (u / 2 == 1) = false := by simpa using c1
  have d2 : (u / 2 == 2) = false := by simpa using c2
  have d3 : (u / 2 == 3) = false := by simpa using c3
  have e : placeI u = -u := by unfold placeI; rw [if_neg (by omega), if_neg (by omega)]
  rw [e]; clear e
  go_enter Tryd.func72, Tryd.ntmps72
  go_wp2
  go_ret
  exact ⟨rfl, 0, rfl⟩
end Go.Proofs.YtmofimgodmcdjaaDoor

namespace Go.Proofs.YtmofimgodmcdjaaDoor
open Go.ChangeShapes Go.WideShapes Go.ChangeAt Go.RowKit

/-- what is found, or 0 -/
def findI (x : Int) : Int := (((Em.findN x.toNat).getD 0 : Nat) : Int)
/-- whether anything is found -/
def findB (x : Int) : Bool := (Em.findN x.toNat).isSome

theorem find_is (x i : Int) (h0 : 0 ≤ i) (h : Em.good x.toNat i.toNat = true) (hl : ∀ j, j < i.toNat → Em.good x.toNat j = false) : findI x = i ∧ findB x = true := by
  unfold findI findB
  rw [Em.find_some h hl]
  exact ⟨by simp; omega, rfl⟩
theorem find_no (x : Int) (hl : ∀ j, j < 4096 → Em.good x.toNat j = false) : findI x = 0 ∧ findB x = false := by
  unfold findI findB
  rw [Em.find_none hl]
  exact ⟨rfl, rfl⟩

theorem i64_or_nat (a b : Nat) (ha : a < 9223372036854775808) (hb : b < 9223372036854775808) : bits .or .i64 (a : Int) (b : Int) = ((a ||| b : Nat) : Int) := by
  have hc : a ||| b < 2 ^ 63 := Nat.or_lt_two_pow (by omega) (by omega)
  have h : bits .or .i64 (a : Int) (b : Int) = IntKind.i64.wrap (((BitVec.ofInt 64 a).toNat ||| (BitVec.ofInt 64 b).toNat : Nat) : Int) := by
    rw [← BitVec.toNat_or]; rfl
  have ea : (BitVec.ofInt 64 (a : Int)).toNat = a := by rw [BitVec.toNat_ofInt]; omega
  have eb : (BitVec.ofInt 64 (b : Int)).toNat = b := by rw [BitVec.toNat_ofInt]; omega
  rw [h, ea, eb, IntKind.wrap_i64]
  omega

/-- the one number with these upper five bits that may tell x -/
def candI (x u : Int) : Int := ((Em.candN x.toNat u.toNat : Nat) : Int)

theorem place_mod (u : Int) (h0 : 0 ≤ u) (h1 : u < 32) : (placeI u % 32).toNat = Em.placeN u.toNat := by
  unfold placeI Em.placeN
  by_cases c : u / 2 = 0 ∨ u / 2 = 1 ∨ u / 2 = 3
  · rw [if_pos c, if_pos (by omega)]; rfl
  · rw [if_neg c]
    by_cases d : u / 2 = 2
    · rw [if_pos d, if_neg (by omega), if_pos (by omega)]; rfl
    · rw [if_neg d, if_neg (by omega), if_neg (by omega)]; omega

theorem low_or (u : Nat) (h : u < 128) (p : Nat) : p * 128 ||| u = p * 128 + u := by
  have := Nat.two_pow_add_eq_or_of_lt (i := 7) (b := u) (by omega) p
  rw [Nat.mul_comm]; exact this.symm

theorem cand_eq (x u : Int) (h0 : 0 ≤ u) (h1 : u < 32) : bits .or .i64 (u * 128) (getI (rorI x (placeI u)) 6 0) = candI x u := by
  unfold candI Em.candN getI rorI
  rw [if_pos (by omega), place_mod u h0 h1]
  obtain ⟨U, rfl⟩ := Int.eq_ofNat_of_zero_le h0
  rw [show ((U : Int) * 128) = ((U * 128 : Nat) : Int) by simp]
  have hl : Bm.getB (Bm.rorB x.toNat (Em.placeN U)) 6 0 = Bm.rorB x.toNat (Em.placeN U) % 128 := by unfold Bm.getB; simp
  simp only [Int.toNat_natCast]
  rw [show (6 : Int).toNat = 6 by rfl, show (0 : Int).toNat = 0 by rfl, hl, i64_or_nat _ _ (by omega) (by omega), low_or _ (by omega)]

theorem cand_bd (x u : Int) (h0 : 0 ≤ u) (h1 : u < 32) : 0 ≤ candI x u ∧ candI x u < 4096 ∧ (candI x u).toNat = Em.candN x.toNat u.toNat := by
  unfold candI Em.candN; omega

theorem getI_7 (x : Int) : 0 ≤ getI x 6 0 ∧ getI x 6 0 < 128 := by
  unfold getI Bm.getB
  rw [if_pos (by omega)]
  have : x.toNat / 2 ^ (0 : Int).toNat % 2 ^ ((6 : Int).toNat + 1 - (0 : Int).toNat) < 128 := Nat.mod_lt _ (by decide)
  omega

theorem exp_small (i : Int) (h0 : 0 ≤ i) (h1 : i < 4096) : expI i = ((Em.expN i.toNat : Nat) : Int) := by
  unfold expI; rw [show i % 4096 = i by omega]

theorem good_of (x i : Int) (hx0 : 0 ≤ x) (h0 : 0 ≤ i) (h1 : i < 4096) : Em.good x.toNat i.toNat = true ↔ (okB i = true ∧ expI i = x) := by
  rw [exp_small i h0 h1]
  unfold Em.good okB
  have e : (((Em.expN i.toNat : Nat) : Int) = x) ↔ Em.expN i.toNat = x.toNat := by omega
  rw [e]
  simp [h0]

/-- below the first that serves none serves -/
theorem none_below (X : Nat) (u j : Nat) (H : ∀ k, k < u → Em.good X (Em.candN X k) = false) (hj : j < Em.candN X u) (hj' : j < 4096) : Em.good X j = false := by
  cases hg : Em.good X j with
  | false => rfl
  | true =>
    have he : Em.expN j = X := by unfold Em.good at hg; simp at hg; exact hg.2
    have hc := Em.cand_of j hj'
    rw [he] at hc
    have hd := Em.cand_div X u
    by_cases hlt : j / 128 < u
    · have := H _ hlt
      rw [hc] at this
      rw [← this, hg]
    · have hu : j / 128 = u := by omega
      rw [hu] at hc
      omega

theorem none_at_all (X j : Nat) (H : ∀ k, k < 32 → Em.good X (Em.candN X k) = false) (hj' : j < 4096) : Em.good X j = false := by
  cases hg : Em.good X j with
  | false => rfl
  | true =>
    have he : Em.expN j = X := by unfold Em.good at hg; simp at hg; exact hg.2
    have hc := Em.cand_of j hj'
    rw [he] at hc
    have := H (j / 128) (by omega)
    rw [hc] at this
    rw [← this, hg]

theorem one_more (x u : Int) (hx0 : 0 ≤ x) (hu0 : 0 ≤ u) (hlt : u < 32) (H : ∀ k, k < u.toNat → Em.good x.toNat (Em.candN x.toNat k) = false) (h : ¬ (okB (candI x u) = true ∧ expI (candI x u) = x)) :
    ∀ k, k < (u + 1).toNat → Em.good x.toNat (Em.candN x.toNat k) = false := by
  intro k hk
  by_cases hk' : k < u.toNat
  · exact H k hk'
  · obtain ⟨hc0, hc1, hc2⟩ := cand_bd x u hu0 hlt
    rw [show k = u.toNat by omega, ← hc2]
    rw [← good_of x _ hx0 hc0 hc1] at h
    simpa using h

theorem found (x u : Int) (hx0 : 0 ≤ x) (hu0 : 0 ≤ u) (hlt : u < 32) (H : ∀ k, k < u.toNat → Em.good x.toNat (Em.candN x.toNat k) = false) (h : okB (candI x u) = true) (h' : expI (candI x u) = x) :
    findI x = candI x u ∧ findB x = true := by
  obtain ⟨hc0, hc1, hc2⟩ := cand_bd x u hu0 hlt
  refine find_is x _ hc0 ((good_of x _ hx0 hc0 hc1).2 ⟨h, h'⟩) fun j hj => ?_
  exact none_below _ u.toNat j H (by omega) (by omega)

theorem ret_found {a a' : Int} {b b' : Bool} (h : a' = a ∧ b' = b) : Ending.returned (.tuple #[.int .i64 a, .bool b]) = Ending.returned (.tuple #[.int .i64 a', .bool b']) := by rw [h.1, h.2]

theorem find_c (x : Int) (w : World) (hx0 : 0 ≤ x) (hx : x < 4294967296) :
    Calls Tryd.prog 59 #[.int .u32 x] w fun e w' => e = .returned (.tuple #[.int .i64 (findI x), .bool (findB x)]) ∧ ∃ n, w' = w.drewN n := by
  go_enter Tryd.func59, Tryd.ntmps59
  go_wp2
  go_loopw [6] (fun i wr => ∃ (u : Int) (n : Nat), 0 ≤ u ∧ u ≤ 32 ∧ i = .int .i64 u ∧ wr = w.drewN n ∧ RowKit.Hid (∀ k, k < u.toNat → Em.good x.toNat (Em.candN x.toNat k) = false)) (fun i _ => (32 - intOf i).toNat)
  case atStart => exact ⟨0, 0, by omega, by omega, rfl, rfl, Lib.hid (fun k hk => by simp at hk)⟩
  case round =>
    obtain ⟨u, n, hu0, hu1, rfl, rfl, H⟩ := hrel
    by_cases hlt : u < 32
    · have hce := cand_eq x u hu0 hlt
      have hr := rorv_bd x (placeI u) hx0 hx
      have hg := getI_7 (rorI x (placeI u))
      obtain ⟨hc0, hc1, hc2⟩ := cand_bd x u hu0 hlt
      have h1 := fun h => Lib.hid (one_more x u hx0 hu0 hlt H.out h)
      have h2 := fun a b => Lib.hid (found x u hx0 hu0 hlt H.out a b)
      go_wp2_with fail
      refine (place_c _ _ hu0 hlt).mono ?_
      rintro e w' ⟨rfl, n1, rfl⟩
      go_wp2_with fail
      refine (ror_c _ _ _ hx0 hx).mono ?_
      rintro e w' ⟨rfl, n2, rfl⟩
      go_wp2_with fail
      refine (get_c _ _ _ _ hr.1 hr.2).mono ?_
      rintro e w' ⟨rfl, n3, rfl⟩
      go_wp2_with fail
      refine (valid_c _ _).mono ?_
      rintro e w' ⟨rfl, n4, rfl⟩
      cases hv : okB (candI x u) with
      | false =>
        have H1 := h1 (by rw [hv]; simp)
        clear h1 h2 hv
        go_wp2
        go_roundw
        case rel => exact ⟨u + 1, _, by omega, by omega, rfl, rfl, H1⟩
        case measure => simp [intOf]; omega
      | true =>
        go_wp2_with fail
        refine (exp_c _ _ (by omega) (by omega)).mono ?_
        rintro e w' ⟨rfl, n5, rfl⟩
        by_cases he : expI (candI x u) = x
        · have H2 := h2 hv he
          have hE : (expI (candI x u) == x) = true := by simpa using he
          clear h1 h2 hv he
          go_wp2
          go_ret2
          exact ⟨ret_found H2.out, _, rfl⟩
        · have H1 := h1 (fun h => he h.2)
          have hE : (expI (candI x u) == x) = false := by simpa using he
          clear h1 h2 hv he
          go_wp2
          go_roundw
          case rel => exact ⟨u + 1, _, by omega, by omega, rfl, rfl, H1⟩
          case measure => simp [intOf]; omega
    · have hu : u = 32 := by omega
      subst hu
      go_wp2
      go_ret2
      exact ⟨ret_found (find_no x fun j hj => none_at_all _ j H.out hj), _, rfl⟩

/-! what Find's answer is worth -/
theorem findB_iff (x : Int) (hx0 : 0 ≤ x) : findB x = true ↔ ∃ i : Int, 0 ≤ i ∧ i < 4096 ∧ okB i = true ∧ expI i = x := by
  constructor
  · intro h
    unfold findB Em.findN at h
    rw [List.find?_isSome] at h
    obtain ⟨i, hi, hg⟩ := h
    have hi' : i < 4096 := by simpa using hi
    exact ⟨i, by omega, by omega, (good_of x i hx0 (by omega) (by omega)).1 (by simpa using hg)⟩
  · rintro ⟨i, h0, h1, h2⟩
    unfold findB Em.findN
    rw [List.find?_isSome]
    exact ⟨i.toNat, by simp; omega, (good_of x i hx0 h0 h1).2 h2⟩

theorem find_least (x i : Int) (hx0 : 0 ≤ x) (h0 : 0 ≤ i) (h1 : i < 4096) (h2 : okB i = true) (h3 : expI i = x) :
    findB x = true ∧ 0 ≤ findI x ∧ findI x ≤ i ∧ findI x < 4096 ∧ okB (findI x) = true ∧ expI (findI x) = x := by
  have hb := (findB_iff x hx0).2 ⟨i, h0, h1, h2, h3⟩
  have hg := (good_of x i hx0 h0 h1).2 ⟨h2, h3⟩
  unfold findB at hb
  obtain ⟨m, hm⟩ := Option.isSome_iff_exists.1 hb
  have hI : findI x = (m : Int) := by unfold findI; rw [hm]; rfl
  have hB : findB x = true := by unfold findB; rw [hm]; rfl
  unfold Em.findN at hm
  obtain ⟨hgm, hmem, hno⟩ := List.find?_range_eq_some.1 hm
  have hm' : m < 4096 := by simpa using hmem
  obtain ⟨g1, g2⟩ := (good_of x m hx0 (by omega) (by omega)).1 (by simpa using hgm)
  have hle : m ≤ i.toNat := by
    cases Nat.lt_or_ge i.toNat m with
    | inr h => exact h
    | inl h =>
      have := hno _ h
      rw [hg] at this
      simp at this
  rw [hI]
  exact ⟨hB, by omega, by omega, by omega, g1, g2⟩
end Go.Proofs.YtmofimgodmcdjaaDoor
