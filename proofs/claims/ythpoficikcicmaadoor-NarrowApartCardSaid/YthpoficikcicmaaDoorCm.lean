/- Plain facts on conditions, blocks and IT states, without any program. No conditions but those that each fact names. -/
import Derived.Laws.BitsAllLaws
import Derived.WalkKit
namespace Go.Proofs.YthpoficikcicmaaDoor
namespace Cm

/-- the other one of the two -/
def turnI (c : Int) : Int := if 0 ≤ c ∧ c ≤ 13 then (if c % 2 = 0 then c + 1 else c - 1) else 14
/-- the condition of an IT state -/
def condI (it : Int) : Int := if it % 16 = 0 then 14 else it % 256 / 16
/-- the IT state behind an instruction -/
def nextI (it : Int) : Int := if it % 8 = 0 then 0 else it % 256 / 32 * 32 + it % 16 * 2
/-- is the condition true of the flags? -/
def holdsB (c : Int) (n z k v : Bool) : Bool :=
  if c = 0 then z else if c = 1 then !z else if c = 2 then k else if c = 3 then !k else if c = 4 then n else if c = 5 then !n else if c = 6 then v else if c = 7 then !v
  else if c = 8 then k && !z else if c = 9 then !(k && !z) else if c = 10 then n == v else if c = 11 then !(n == v) else if c = 12 then !z && n == v else if c = 13 then !(!z && n == v) else true

/-- the names, by their number -/
def nameTab : List (List UInt8) := [[101, 113], [110, 101], [99, 115], [99, 99], [109, 105], [112, 108], [118, 115], [118, 99], [104, 105], [108, 115], [103, 101], [108, 116], [103, 116], [108, 101]]
def nameL (c : Int) : List UInt8 := if 0 ≤ c ∧ c ≤ 13 then nameTab.getD c.toNat [] else []
/-- the first place of s, from k on -/
def findFrom : List (List UInt8) → Int → List UInt8 → Int
  | [], _, _ => -1
  | x :: r, k, s => if x = s then k else findFrom r (k + 1) s
def findI (s : List UInt8) : Int := if s = [104, 115] then 2 else if s = [108, 111] then 3 else if s = [97, 108] then 14 else if s = [] then 14 else findFrom nameTab 0 s

/-- a block's mask, behind what is laid already -/
def maskFrom (c : Int) : Int → Int → List Bool → Int
  | m, a, [] => m + a
  | m, a, s :: r => if s then maskFrom c (m + c % 2 * a) (a / 2) r else if c = 14 then 0 else maskFrom c (m + (1 - c % 2) * a) (a / 2) r
def maskI (c : Int) (l : List Bool) : Int := if 0 ≤ c ∧ c ≤ 14 ∧ l.length ≤ 3 then maskFrom c 0 8 l else 0

/-- the conditions of a block, by its states -/
def condsFrom : Nat → Int → List Int → List Int
  | 0, _, acc => acc
  | n + 1, it, acc => if it % 8 = 0 then acc else if condI (nextI it) = 15 then [] else condsFrom n (nextI it) (acc ++ [condI (nextI it)])
def condsI (c mask : Int) : List Int := if 0 ≤ c ∧ c ≤ 14 ∧ 1 ≤ mask ∧ mask ≤ 15 then condsFrom 3 (c * 16 + mask) [c] else []
/-- the same by the mask alone -/
def rcondsFrom (c : Int) : Nat → Int → List Int → List Int
  | 0, _, acc => acc
  | n + 1, m, acc => if m = 8 then acc else if (decide (8 ≤ m)) = (decide (c % 2 = 1)) then rcondsFrom c n (m % 8 * 2) (acc ++ [c]) else if c = 14 then [] else rcondsFrom c n (m % 8 * 2) (acc ++ [turnI c])

theorem cases15 {c : Int} (h : 0 ≤ c ∧ c ≤ 14) : c = 0 ∨ c = 1 ∨ c = 2 ∨ c = 3 ∨ c = 4 ∨ c = 5 ∨ c = 6 ∨ c = 7 ∨ c = 8 ∨ c = 9 ∨ c = 10 ∨ c = 11 ∨ c = 12 ∨ c = 13 ∨ c = 14 := by omega
theorem cases14 {c : Int} (h : 0 ≤ c ∧ c ≤ 13) : c = 0 ∨ c = 1 ∨ c = 2 ∨ c = 3 ∨ c = 4 ∨ c = 5 ∨ c = 6 ∨ c = 7 ∨ c = 8 ∨ c = 9 ∨ c = 10 ∨ c = 11 ∨ c = 12 ∨ c = 13 := by omega

/-- a fact of all pairs of a condition and a mask is reckoned -/
theorem all_pairs {p : Int → Int → Bool} (h : ((List.range 15).all fun a => (List.range 16).all fun b => p a b) = true) (c m : Int) (h1 : 0 ≤ c ∧ c ≤ 14) (h2 : 0 ≤ m ∧ m ≤ 15) : p c m = true := by
  rw [List.all_eq_true] at h
  have h' := h c.toNat (by simp; omega)
  rw [List.all_eq_true] at h'
  have h'' := h' m.toNat (by simp; omega)
  rwa [show ((c.toNat : Nat) : Int) = c by omega, show ((m.toNat : Nat) : Int) = m by omega] at h''
theorem all_conds {p : Int → Bool} (h : ((List.range 15).all fun a => p a) = true) (c : Int) (h1 : 0 ≤ c ∧ c ≤ 14) : p c = true := by
  rw [List.all_eq_true] at h
  have h' := h c.toNat (by simp; omega)
  rwa [show ((c.toNat : Nat) : Int) = c by omega] at h'

theorem conds_same (c m : Int) (h1 : 0 ≤ c ∧ c ≤ 14) (h2 : 1 ≤ m ∧ m ≤ 15) : rcondsFrom c 3 m [c] = condsFrom 3 (c * 16 + m) [c] := by
  have h := all_pairs (p := fun c m => m == 0 || rcondsFrom c 3 m [c] == condsFrom 3 (c * 16 + m) [c]) (by decide +kernel) c m h1 (by omega)
  simp only [Bool.or_eq_true, beq_iff_eq] at h
  rcases h with h | h
  · omega
  · exact h

/-- each list of at most three -/
theorem lists {l : List Bool} (h : l.length ≤ 3) : l ∈ [[], [false], [true], [false, false], [false, true], [true, false], [true, true], [false, false, false], [false, false, true], [false, true, false], [false, true, true], [true, false, false], [true, false, true], [true, true, false], [true, true, true]] := by
  match l, h with
  | [], _ => simp
  | [a], _ => cases a <;> simp
  | [a, b], _ => cases a <;> cases b <;> simp
  | [a, b, c], _ => cases a <;> cases b <;> cases c <;> simp
def listTab : List (List Bool) := [[], [false], [true], [false, false], [false, true], [true, false], [true, true], [false, false, false], [false, false, true], [false, true, false], [false, true, true], [true, false, false], [true, false, true], [true, true, false], [true, true, true]]
theorem all_lists {p : Int → List Bool → Bool} (h : ((List.range 15).all fun a => listTab.all fun l => p a l) = true) (c : Int) (l : List Bool) (h1 : 0 ≤ c ∧ c ≤ 14) (h2 : l.length ≤ 3) : p c l = true := by
  rw [List.all_eq_true] at h
  have h' := h c.toNat (by simp; omega)
  rw [List.all_eq_true] at h'
  have h'' := h' l (lists h2)
  rwa [show ((c.toNat : Nat) : Int) = c by omega] at h''

/-- what a mask of a block tells -/
theorem mask_tells (c : Int) (l : List Bool) (h1 : 0 ≤ c ∧ c ≤ 14) (h2 : l.length ≤ 3) (h : maskI c l ≠ 0) : condsI c (maskI c l) = c :: l.map (fun s => if s then c else turnI c) := by
  have h' := all_lists (p := fun c l => maskI c l == 0 || condsI c (maskI c l) == c :: l.map (fun s => if s then c else turnI c)) (by decide +kernel) c l h1 h2
  simp only [Bool.or_eq_true, beq_iff_eq] at h'
  rcases h' with h' | h'
  · exact absurd h' h
  · exact h'
theorem mask_no {c : Int} {l : List Bool} (h : ¬ (0 ≤ c ∧ c ≤ 14 ∧ l.length ≤ 3)) : maskI c l = 0 := by unfold maskI; rw [if_neg h]
theorem conds_no {c m : Int} (h : ¬ (0 ≤ c ∧ c ≤ 14 ∧ 1 ≤ m ∧ m ≤ 15)) : condsI c m = [] := by unfold condsI; rw [if_neg h]
theorem mask_bd (c : Int) (l : List Bool) : 0 ≤ maskI c l ∧ maskI c l ≤ 15 := by
  by_cases h : 0 ≤ c ∧ c ≤ 14 ∧ l.length ≤ 3
  · have h' := all_lists (p := fun c l => decide (0 ≤ maskI c l ∧ maskI c l ≤ 15)) (by decide +kernel) c l ⟨h.1, h.2.1⟩ h.2.2
    simpa using h'
  · rw [mask_no h]; omega

/-- a state goes through the conditions and ends -/
def walkB : Int → List Int → Bool
  | it, [] => it == 0
  | it, x :: r => condI it == x && !(it % 16 == 0) && walkB (nextI it) r
theorem walks (c m : Int) (h1 : 0 ≤ c ∧ c ≤ 14) (h2 : 1 ≤ m ∧ m ≤ 15) (h : condsI c m ≠ []) : walkB (c * 16 + m) (condsI c m) = true := by
  have h' := all_pairs (p := fun c m => m == 0 || condsI c m == [] || walkB (c * 16 + m) (condsI c m)) (by decide +kernel) c m h1 (by omega)
  simp only [Bool.or_eq_true, beq_iff_eq] at h'
  rcases h' with (h' | h') | h'
  · omega
  · exact absurd h' h
  · exact h'

theorem find_name (c : Int) (h : 0 ≤ c ∧ c ≤ 13) : findI (nameL c) = c := by
  rcases cases14 h with rfl | rfl | rfl | rfl | rfl | rfl | rfl | rfl | rfl | rfl | rfl | rfl | rfl | rfl <;> decide +kernel
theorem turn_twice (c : Int) (h : 0 ≤ c ∧ c ≤ 13) : turnI (turnI c) = c := by unfold turnI; split <;> split <;> first | omega | (split <;> omega)
theorem turn_bd (c : Int) (h : 0 ≤ c ∧ c ≤ 13) : 0 ≤ turnI c ∧ turnI c ≤ 13 := by unfold turnI; rw [if_pos h]; split <;> omega
theorem turn_no (c : Int) (h : ¬ (0 ≤ c ∧ c ≤ 13)) : turnI c = 14 := by unfold turnI; rw [if_neg h]
theorem name_no (c : Int) (h : ¬ (0 ≤ c ∧ c ≤ 13)) : nameL c = [] := by unfold nameL; rw [if_neg h]
theorem holds_no (c : Int) (n z k v : Bool) (h : ¬ (0 ≤ c ∧ c ≤ 13)) : holdsB c n z k v = true := by
  unfold holdsB
  repeat (rw [if_neg (by omega)])
theorem one_holds (c : Int) (h : 0 ≤ c ∧ c ≤ 13) (n z k v : Bool) : holdsB (turnI c) n z k v = !holdsB c n z k v := by
  rcases cases14 h with rfl | rfl | rfl | rfl | rfl | rfl | rfl | rfl | rfl | rfl | rfl | rfl | rfl | rfl <;> simp [holdsB, turnI]

/-! bits of ints -/
theorem i64_and (x : Int) (m : Nat) (hm : m < 9223372036854775808) : bits .and .i64 x (m : Int) = (((x % 18446744073709551616).toNat &&& m : Nat) : Int) := by
  have hl : (x % 18446744073709551616).toNat &&& m ≤ m := Nat.and_le_right
  have h : bits .and .i64 x (m : Int) = IntKind.i64.wrap (((BitVec.ofInt 64 x).toNat &&& (BitVec.ofInt 64 m).toNat : Nat) : Int) := by
    rw [← BitVec.toNat_and]; rfl
  have em : (BitVec.ofInt 64 (m : Int)).toNat = m := by rw [BitVec.toNat_ofInt]; omega
  have ex : (BitVec.ofInt 64 x).toNat = (x % 18446744073709551616).toNat := by rw [BitVec.toNat_ofInt]; rfl
  rw [h, em, ex, IntKind.wrap_i64]
  omega
theorem i64_or_nat (a b : Nat) (ha : a < 9223372036854775808) (hb : b < 9223372036854775808) : bits .or .i64 (a : Int) (b : Int) = ((a ||| b : Nat) : Int) := by
  have hc : a ||| b < 2 ^ 63 := Nat.or_lt_two_pow (by omega) (by omega)
  have h : bits .or .i64 (a : Int) (b : Int) = IntKind.i64.wrap (((BitVec.ofInt 64 a).toNat ||| (BitVec.ofInt 64 b).toNat : Nat) : Int) := by
    rw [← BitVec.toNat_or]; rfl
  have ea : (BitVec.ofInt 64 (a : Int)).toNat = a := by rw [BitVec.toNat_ofInt]; omega
  have eb : (BitVec.ofInt 64 (b : Int)).toNat = b := by rw [BitVec.toNat_ofInt]; omega
  rw [h, ea, eb, IntKind.wrap_i64]
  omega
theorem and1 (x : Int) : bits .and .i64 x 1 = x % 2 := by rw [show (1 : Int) = ((1 : Nat) : Int) by rfl, i64_and x 1 (by decide), nat_mask1]; omega
theorem and7 (x : Int) : bits .and .i64 x 7 = x % 8 := by rw [show (7 : Int) = ((7 : Nat) : Int) by rfl, i64_and x 7 (by decide), nat_mask3]; omega
theorem and15 (x : Int) : bits .and .i64 x 15 = x % 16 := by rw [show (15 : Int) = ((15 : Nat) : Int) by rfl, i64_and x 15 (by decide), nat_mask4]; omega
theorem and31 (x : Int) : bits .and .i64 x 31 = x % 32 := by rw [show (31 : Int) = ((31 : Nat) : Int) by rfl, i64_and x 31 (by decide), nat_mask5]; omega
theorem and255 (x : Int) : bits .and .i64 x 255 = x % 256 := by rw [show (255 : Int) = ((255 : Nat) : Int) by rfl, i64_and x 255 (by decide), nat_mask8]; omega
theorem nat224_all : ((List.range 256).all fun y => (y &&& 224) == y / 32 * 32) = true := by decide +kernel
theorem nat224 (y : Nat) : y &&& 224 = y % 256 / 32 * 32 := by
  have e : y &&& 224 = (y &&& 255) &&& 224 := by rw [Nat.and_assoc]; rfl
  rw [e, nat_mask8]
  have h := nat224_all
  rw [List.all_eq_true] at h
  simpa using h (y % 256) (by simp; omega)
theorem and224 (x : Int) : bits .and .i64 x 224 = x % 256 / 32 * 32 := by rw [show (224 : Int) = ((224 : Nat) : Int) by rfl, i64_and x 224 (by decide), nat224]; omega
theorem or_join (a b : Int) (i : Nat) (hi : i ≤ 32) (h1 : 0 ≤ a) (h2 : a < 4294967296) (h3 : a % 2 ^ i = 0) (h4 : 0 ≤ b) (h5 : b < 2 ^ i) : bits .or .i64 a b = a + b := by
  have hp : (2 : Nat) ^ i ≤ 2 ^ 32 := Nat.pow_le_pow_right (by omega) hi
  obtain ⟨A, rfl⟩ := Int.eq_ofNat_of_zero_le h1
  obtain ⟨B, rfl⟩ := Int.eq_ofNat_of_zero_le h4
  have h3' : A % 2 ^ i = 0 := by exact_mod_cast h3
  have h5' : B < 2 ^ i := by exact_mod_cast h5
  rw [i64_or_nat A B (by omega) (by omega), nat_join i A B h3' h5']
  simp
theorem xor1_all : ((List.range 15).all fun c => bits .xor .i64 (c : Int) 1 == (if (c : Int) % 2 = 0 then (c : Int) + 1 else c - 1)) = true := by decide +kernel
theorem xor1 (c : Int) (h : 0 ≤ c ∧ c ≤ 14) : bits .xor .i64 c 1 = if c % 2 = 0 then c + 1 else c - 1 := by
  have h' := all_conds (p := fun c => bits .xor .i64 c 1 == (if c % 2 = 0 then c + 1 else c - 1)) xor1_all c h
  simpa using h'
end Cm
end Go.Proofs.YthpoficikcicmaaDoor
