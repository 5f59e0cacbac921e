/- Plain facts on registers' names and lists, without any program. No conditions but those that each fact names. -/
import Derived.Laws.BitsAllLaws
import Derived.WalkKit
namespace Go.Proofs.Ytdnggaomdbdieaa
namespace Rm

/-- the names, by their places -/
def tab : List (List UInt8) := [[114, 48], [114, 49], [114, 50], [114, 51], [114, 52], [114, 53], [114, 54], [114, 55], [114, 56], [114, 57], [114, 49, 48], [114, 49, 49], [114, 49, 50], [115, 112], [108, 114], [112, 99], [114, 49, 51], [114, 49, 52], [114, 49, 53]]
def nm (k : Nat) : List UInt8 := tab.getD k []
/-- the name of a register -/
def nameI (r : Int) : List UInt8 := if 0 ≤ r ∧ r ≤ 15 then nm r.toNat else []
/-- the register of a place -/
def placeI (k : Nat) : Int := if 15 < k then (k : Int) - 3 else k
def findFrom : Nat → Nat → List UInt8 → Int
  | 0, _, _ => -1
  | f + 1, k, s => if nm k = s then placeI k else findFrom f (k + 1) s
/-- the register of a name -/
def findI (s : List UInt8) : Int := findFrom 19 0 s

theorem name_in {k : Nat} (h : k ≤ 15) : nameI (k : Int) = nm k := by unfold nameI; rw [if_pos (by omega)]; rfl
theorem name_no {r : Int} (h : ¬ (0 ≤ r ∧ r ≤ 15)) : nameI r = [] := by unfold nameI; rw [if_neg h]
theorem find_all : ((List.range 19).all fun k => findI (nm k) == placeI k) = true := by decide +kernel
theorem find_nm {k : Nat} (h : k < 19) : findI (nm k) = placeI k := by
  have h' := find_all
  rw [List.all_eq_true] at h'
  simpa using h' k (by simpa using h)
theorem from_none (s : List UInt8) : ∀ f k, (∀ j, k ≤ j → j < k + f → nm j ≠ s) → findFrom f k s = -1
  | 0, _, _ => rfl
  | f + 1, k, h => by
    rw [findFrom, if_neg (h k (by omega) (by omega))]
    exact from_none s f (k + 1) (fun j h1 h2 => h j (by omega) (by omega))
theorem find_none {s : List UInt8} (h : ∀ k, k < 19 → nm k ≠ s) : findI s = -1 := from_none s 19 0 (fun j _ h2 => h j (by omega))
theorem from_step {s : List UInt8} {k : Nat} (h : k < 19) : findFrom (19 - k) k s = if nm k = s then placeI k else findFrom (19 - (k + 1)) (k + 1) s := by
  rw [show 19 - k = (19 - (k + 1)) + 1 by omega, findFrom]
theorem from_end {s : List UInt8} {k : Nat} (h : ¬ k < 19) : findFrom (19 - k) k s = -1 := by rw [show 19 - k = 0 by omega]; rfl
theorem find_name {r : Int} (h : 0 ≤ r ∧ r ≤ 15) : findI (nameI r) = r := by
  obtain ⟨k, rfl⟩ := Int.eq_ofNat_of_zero_le h.1
  rw [name_in (by omega), find_nm (by omega)]
  unfold placeI; rw [if_neg (by omega)]

/-! the text of all names, each with a blank behind it -/
def allB : List UInt8 := [114, 48, 32, 114, 49, 32, 114, 50, 32, 114, 51, 32, 114, 52, 32, 114, 53, 32, 114, 54, 32, 114, 55, 32, 114, 56, 32, 114, 57, 32, 114, 49, 48, 32, 114, 49, 49, 32, 114, 49, 50, 32, 115, 112, 32, 108, 114, 32, 112, 99, 32, 114, 49, 51, 32, 114, 49, 52, 32, 114, 49, 53, 32]
def cntAt (p : Nat) : Nat := (allB.take p).count 32
def startAt (p : Nat) : Nat := p - ((allB.take p).reverse.takeWhile (fun b => b != 32)).length
theorem at_all : ((List.range 63).all fun p => decide (startAt p ≤ p) && decide (cntAt p < 19) && decide ((allB.getD p 0).toNat < 128) &&
    (if allB.getD p 0 = 32 then cntAt (p + 1) == cntAt p + 1 && startAt (p + 1) == p + 1 && (allB.take p).drop (startAt p) == nm (cntAt p) else cntAt (p + 1) == cntAt p && startAt (p + 1) == startAt p)) = true := by decide +kernel
theorem at_bd {p : Nat} (h : p < 63) : startAt p ≤ p ∧ cntAt p < 19 ∧ (allB.getD p 0).toNat < 128 := by
  have h' := at_all
  rw [List.all_eq_true] at h'
  have h2 := h' p (by simpa using h)
  simp only [Bool.and_eq_true, decide_eq_true_eq] at h2
  exact ⟨h2.1.1.1, h2.1.1.2, h2.1.2⟩
theorem at_blank {p : Nat} (h : p < 63) (hb : allB.getD p 0 = 32) : cntAt (p + 1) = cntAt p + 1 ∧ startAt (p + 1) = p + 1 ∧ (allB.take p).drop (startAt p) = nm (cntAt p) := by
  have h' := at_all
  rw [List.all_eq_true] at h'
  have h2 := h' p (by simpa using h)
  rw [if_pos hb] at h2
  simp only [Bool.and_eq_true, beq_iff_eq] at h2
  exact ⟨h2.2.1.1, h2.2.1.2, h2.2.2⟩
theorem at_other {p : Nat} (h : p < 63) (hb : ¬ allB.getD p 0 = 32) : cntAt (p + 1) = cntAt p ∧ startAt (p + 1) = startAt p := by
  have h' := at_all
  rw [List.all_eq_true] at h'
  have h2 := h' p (by simpa using h)
  rw [if_neg hb] at h2
  simp only [Bool.and_eq_true, beq_iff_eq] at h2
  exact ⟨h2.2.1, h2.2.2⟩
theorem at_end : cntAt 63 = 19 := by decide +kernel

/-! lists of registers -/
/-- is register r in list m? -/
def bit (m : Int) (r : Nat) : Bool := m / 2 ^ r % 2 == 1
/-- those of r, r + 1, .. (k of them) that are there, rising -/
def rest (h : Nat → Bool) : Nat → Nat → List Nat
  | _, 0 => []
  | r, k + 1 => if h r then r :: rest h (r + 1) k else rest h (r + 1) k
def allN (m : Int) : List Nat := rest (bit m) 0 16
def countN (m : Int) : Nat := (allN m).length
/-- none of r, r + 1, .. (k of them) is there -/
def noneFrom (h : Nat → Bool) : Nat → Nat → Bool
  | _, 0 => true
  | r, k + 1 => if h r then false else noneFrom h (r + 1) k
def lowB (m : Int) : Bool := noneFrom (bit m) 8 8

theorem rest_congr {h h' : Nat → Bool} : ∀ (k r : Nat), (∀ i, r ≤ i → i < r + k → h i = h' i) → rest h r k = rest h' r k
  | 0, _, _ => rfl
  | k + 1, r, e => by
    rw [rest, rest, e r (by omega) (by omega), rest_congr k (r + 1) (fun i h1 h2 => e i (by omega) (by omega))]
theorem none_congr {h h' : Nat → Bool} : ∀ (k r : Nat), (∀ i, r ≤ i → i < r + k → h i = h' i) → noneFrom h r k = noneFrom h' r k
  | 0, _, _ => rfl
  | k + 1, r, e => by
    rw [noneFrom, noneFrom, e r (by omega) (by omega), none_congr k (r + 1) (fun i h1 h2 => e i (by omega) (by omega))]
theorem rest_shift (h : Nat → Bool) (s : Nat) : ∀ (k r : Nat), (rest h (r + s) k).length = (rest (fun i => h (i + s)) r k).length
  | 0, _ => rfl
  | k + 1, r => by
    have ih := rest_shift h s k (r + 1)
    rw [show r + 1 + s = r + s + 1 by omega] at ih
    rw [rest, rest]
    split <;> simp [ih]
theorem none_shift (h : Nat → Bool) (s : Nat) : ∀ (k r : Nat), noneFrom h (r + s) k = noneFrom (fun i => h (i + s)) r k
  | 0, _ => rfl
  | k + 1, r => by
    have ih := none_shift h s k (r + 1)
    rw [show r + 1 + s = r + s + 1 by omega] at ih
    rw [noneFrom, noneFrom, ih]
theorem rest_split (h : Nat → Bool) : ∀ (a b r : Nat), rest h r (a + b) = rest h r a ++ rest h (r + a) b
  | 0, b, r => by simp [rest]
  | a + 1, b, r => by
    rw [show a + 1 + b = (a + b) + 1 by omega, rest, rest, rest_split h a b (r + 1), show r + 1 + a = r + (a + 1) by omega]
    split <;> simp
theorem rest_len (h : Nat → Bool) : ∀ (k r : Nat), (rest h r k).length ≤ k
  | 0, _ => by simp [rest]
  | k + 1, r => by
    have := rest_len h k (r + 1)
    rw [rest]; split <;> simp <;> omega

theorem below8 {i : Nat} (h : i < 8) : i = 0 ∨ i = 1 ∨ i = 2 ∨ i = 3 ∨ i = 4 ∨ i = 5 ∨ i = 6 ∨ i = 7 := by omega
theorem bit_eq {a b : Int} {i j : Nat} (h : a / 2 ^ i % 2 = b / 2 ^ j % 2) : bit a i = bit b j := by unfold bit; rw [h]
theorem bit_low (m : Int) (i : Nat) (h : i < 8) : bit m i = bit (m % 256) i := by
  apply bit_eq
  rcases below8 h with rfl | rfl | rfl | rfl | rfl | rfl | rfl | rfl <;> simp <;> omega
theorem bit_high (m : Int) (i : Nat) (h : i < 8) : bit m (i + 8) = bit (m / 256 % 256) i := by
  apply bit_eq
  rcases below8 h with rfl | rfl | rfl | rfl | rfl | rfl | rfl | rfl <;> simp <;> omega

/-- how many bits a byte has -/
def pop (b : Int) : Nat := (rest (bit b) 0 8).length
theorem pop_bd (b : Int) : pop b ≤ 8 := rest_len _ 8 0
theorem count_pop (m : Int) : countN m = pop (m % 256) + pop (m / 256 % 256) := by
  unfold countN allN pop
  rw [show (16 : Nat) = 8 + 8 by rfl, rest_split, List.length_append, rest_congr (h' := bit (m % 256)) 8 0 (fun i _ h2 => bit_low m i (by omega))]
  rw [show (0 + 8 : Nat) = 0 + 8 by rfl, rest_shift (bit m) 8 8 0, rest_congr (h' := bit (m / 256 % 256)) 8 0 (fun i _ h2 => bit_high m i (by omega))]
theorem count_bd (m : Int) : countN m ≤ 16 := rest_len _ 16 0
theorem count_mod (m : Int) : countN (m % 65536) = countN m := by
  rw [count_pop, count_pop, show m % 65536 % 256 = m % 256 by omega, show m % 65536 / 256 % 256 = m / 256 % 256 by omega]
theorem low_all : ((List.range 256).all fun q => noneFrom (bit (q : Int)) 0 8 == (q == 0)) = true := by decide +kernel
theorem low_is (m : Int) : lowB m = (m % 65536 / 256 * 256 == 0) := by
  unfold lowB
  rw [show (8 : Nat) = 0 + 8 by rfl, none_shift (bit m) 8 8 0, none_congr (h' := bit (m / 256 % 256)) 8 0 (fun i _ h2 => bit_high m i (by omega))]
  have h' := low_all
  rw [List.all_eq_true] at h'
  have h2 := h' (m / 256 % 256).toNat (by simp; omega)
  rw [show (((m / 256 % 256).toNat : Nat) : Int) = m / 256 % 256 by omega] at h2
  rw [eq_of_beq h2, Bool.eq_iff_iff]
  simp
  omega
theorem none_step (h : Nat → Bool) {r : Nat} (hr : r < 16) : noneFrom h r (16 - r) = if h r then false else noneFrom h (r + 1) (16 - (r + 1)) := by
  rw [show 16 - r = (16 - (r + 1)) + 1 by omega, noneFrom]
theorem none_end (h : Nat → Bool) {r : Nat} (hr : ¬ r < 16) : noneFrom h r (16 - r) = true := by rw [show 16 - r = 0 by omega]; rfl
theorem rest_step (h : Nat → Bool) {r : Nat} (hr : r < 16) : rest h r (16 - r) = if h r then r :: rest h (r + 1) (16 - (r + 1)) else rest h (r + 1) (16 - (r + 1)) := by
  rw [show 16 - r = (16 - (r + 1)) + 1 by omega, rest]
theorem rest_end (h : Nat → Bool) {r : Nat} (hr : ¬ r < 16) : rest h r (16 - r) = [] := by rw [show 16 - r = 0 by omega]; rfl

/-! bits of ints -/
theorem i64_and (x : Int) (m : Nat) (hm : m < 9223372036854775808) : bits .and .i64 x (m : Int) = (((x % 18446744073709551616).toNat &&& m : Nat) : Int) := by
  have hl : (x % 18446744073709551616).toNat &&& m ≤ m := Nat.and_le_right
  have h : bits .and .i64 x (m : Int) = IntKind.i64.wrap (((BitVec.ofInt 64 x).toNat &&& (BitVec.ofInt 64 m).toNat : Nat) : Int) := by
    rw [← BitVec.toNat_and]; rfl
  have em : (BitVec.ofInt 64 (m : Int)).toNat = m := by rw [BitVec.toNat_ofInt]; omega
  have ex : (BitVec.ofInt 64 x).toNat = (x % 18446744073709551616).toNat := by rw [BitVec.toNat_ofInt]; rfl
  rw [h, em, ex, IntKind.wrap_i64]
  omega
theorem and1 (x : Int) : bits .and .i64 x 1 = x % 2 := by rw [show (1 : Int) = ((1 : Nat) : Int) by rfl, i64_and x 1 (by decide), nat_mask1]; omega
theorem nat65280 (y : Nat) : y &&& 65280 = y / 256 % 256 * 256 := by
  have h1 : (y &&& 65280) / 2 ^ 8 = y / 2 ^ 8 &&& 65280 / 2 ^ 8 := Nat.and_div_two_pow
  have h2 : (y &&& 65280) % 2 ^ 8 = y % 2 ^ 8 &&& 65280 % 2 ^ 8 := Nat.and_mod_two_pow
  have h3 : y / 2 ^ 8 &&& 65280 / 2 ^ 8 = y / 256 % 256 := nat_mask8 _
  have h4 : y % 2 ^ 8 &&& 65280 % 2 ^ 8 = 0 := Nat.and_zero _
  omega
theorem and65280 (x : Int) : bits .and .i64 x 65280 = x % 65536 / 256 * 256 := by
  rw [show (65280 : Int) = ((65280 : Nat) : Int) by rfl, i64_and x 65280 (by decide), nat65280]; omega
theorem and65535 (x : Int) : bits .and .i64 x 65535 = x % 65536 := by
  rw [show (65535 : Int) = ((65535 : Nat) : Int) by rfl, i64_and x 65535 (by decide), show (65535 : Nat) = 2 ^ 16 - 1 by rfl, Nat.and_two_pow_sub_one_eq_mod]; omega
theorem u16_and255 (x : Nat) (h : x < 65536) : bits .and .u16 (x : Int) 255 = ((x % 256 : Nat) : Int) := by
  have h0 : bits .and .u16 (x : Int) 255 = IntKind.u16.wrap (((BitVec.ofInt 16 x).toNat &&& (BitVec.ofInt 16 255).toNat : Nat) : Int) := by
    rw [← BitVec.toNat_and]; rfl
  have em : (BitVec.ofInt 16 (255 : Int)).toNat = 255 := by decide
  have ex : (BitVec.ofInt 16 (x : Int)).toNat = x := by rw [BitVec.toNat_ofInt]; omega
  rw [h0, em, ex, nat_mask8, IntKind.wrap_u16]
  omega
end Rm
end Go.Proofs.Ytdnggaomdbdieaa
