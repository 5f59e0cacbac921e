/- Small facts that every walk here wants: draws stand outside of new blocks and stores; a callee that only draws. No conditions. Plain facts on conditions, blocks and IT states, without any program. No conditions but those that each fact names. Plain facts on operations, their names and fields, and on which instructions may be, without any program. No conditions but those that each fact names. The halfword of an instruction, plainly, and the instruction of a halfword; the second one undoes the first. No program; no conditions but those that each fact names. The instruction of an instruction's halfword is that instruction: sums. Words joined bit by bit out of fields that stand apart are sums (ints). No program; no conditions but those that each fact names. A list has at most one register just if nothing is left of it without its lowest one. No program. -/
import Derived.Test.YtdcnkmkaafimlaaDoorRows
import Derived.WalkKit
import Derived.ProofKit
import Derived.OpenShut
import Derived.WalkLawsBesides
import Derived.Lib.Hide
import Derived.Outline
import Derived.Deep.QuietTactic
import Derived.BigQuiet
import Derived.Laws.BitsAllLaws

namespace Go.Proofs.YtdcnkmkaafimlaaDoor
open Go.ChangeShapes Go.WideShapes Go.ChangeAt Go.RowKit

theorem ret_int {k : IntKind} {a b : Int} (h : a = b) : Ending.returned (.int k a) = .returned (.int k b) := by rw [h]
theorem ret_bool {a b : Bool} (h : a = b) : Ending.returned (.bool a) = .returned (.bool b) := by rw [h]
theorem below_drewN {B : Nat} {a w : World} (h : Below B a w) (n : Nat) : Below B a (w.drewN n) := ⟨h.os, h.tape, h.output, h.size, h.block⟩

/-- a callee that only draws, met behind draws already counted: all draws together are a count again -/
theorem drawn_on {P : Program} {g : FuncId} {xs : Array Value} {r : Value} {w : World} {a k : Nat}
    (c : Calls P g xs (w.drewN (a + k)) fun e w' => e = .returned r ∧ ∃ m, w' = (w.drewN (a + k)).drewN m) :
    Calls P g xs (w.drewN (a + k)) fun e w' => e = .returned r ∧ ∃ m, w' = w.drewN (a + m) := by
  refine c.mono ?_
  rintro e w' ⟨he, m, rfl⟩
  exact ⟨he, k + m, by rw [World.drewN_drewN, Nat.add_assoc]⟩

/-- draws stand outside: behind a new block, behind a store -/
@[simp, go_sem] theorem alloc_drewN (w : World) (n : Nat) (o : Obj) : (w.drewN n).alloc o = (w.alloc o).drewN n := rfl
@[simp, go_sem] theorem setCell_drewN (w : World) (n : Nat) (a : Addr) (v : Value) : (w.drewN n).setCell a v = (w.setCell a v).drewN n := rfl

theorem string_of {a b : List UInt8} (h : a = b) : Ending.returned (.string ⟨a.toArray⟩) = .returned (.string ⟨b.toArray⟩) := by rw [h]
end Go.Proofs.YtdcnkmkaafimlaaDoor

namespace Go.Proofs.YtdcnkmkaafimlaaDoor
namespace Cm

/-- the other one of the two -/
def turnI (c : Int) : Int := if 0 ≤ c ∧ c ≤ 13 then (if c % 2 = 0 then c + 1 else c - 1) else 14
/-- the condition of an IT state -/
def condI (it : Int) : Int := if it % 16 = 0 then 14 else it % 256 / 16
/-- the IT state behind an instruction -/
def nextI (it : Int) : Int := if it % 8 = 0 then 0 else it % 256 / 32 * 32 + it % 16 * 2
/-- is the condition true of the flags? -/
def holdsB (c : Int) (n z k v : Bool) : Bool :=
  if c = 0 then z else if c = 1 then !z else if c = 2 then k else if c = 3 then !k else if c = 4 then n else if c = 5 then !n else if c = 6 then v else if c = 7 then !v
  else if c = 8 then k && !z else if c = 9 then !(k && !z) else if c = 10 then n == v else if c = 11 then !(n == v) else if c = 12 then !z && n == v else if c = 13 then !(!z && n == v) else true

/-- the names, by their number -/
def nameTab : List (List UInt8) := [[101, 113], [110, 101], [99, 115], [99, 99], [109, 105], [112, 108], [118, 115], [118, 99], [104, 105], [108, 115], [103, 101], [108, 116], [103, 116], [108, 101]]
def nameL (c : Int) : List UInt8 := if 0 ≤ c ∧ c ≤ 13 then nameTab.getD c.toNat [] else []
/-- the first place of s, from k on -/
def findFrom : List (List UInt8) → Int → List UInt8 → Int
  | [], _, _ => -1
  | x :: r, k, s => if x = s then k else findFrom r (k + 1) s
def findI (s : List UInt8) : Int := if s = [104, 115] then 2 else if s = [108, 111] then 3 else if s = [97, 108] then 14 else if s = [] then 14 else findFrom nameTab 0 s

/-- a block's mask, behind what is laid already -/
def maskFrom (c : Int) : Int → Int → List Bool → Int
  | m, a, [] => m + a
  | m, a, s :: r => if s then maskFrom c (m + c % 2 * a) (a / 2) r else if c = 14 then 0 else maskFrom c (m + (1 - c % 2) * a) (a / 2) r
def maskI (c : Int) (l : List Bool) : Int := if 0 ≤ c ∧ c ≤ 14 ∧ l.length ≤ 3 then maskFrom c 0 8 l else 0

/-- the conditions of a block, by its states -/
def condsFrom : Nat → Int → List Int → List Int
  | 0, _, acc => acc
  | n + 1, it, acc => if it % 8 = 0 then acc else if condI (nextI it) = 15 then [] else condsFrom n (nextI it) (acc ++ [condI (nextI it)])
def condsI (c mask : Int) : List Int := if 0 ≤ c ∧ c ≤ 14 ∧ 1 ≤ mask ∧ mask ≤ 15 then condsFrom 3 (c * 16 + mask) [c] else []
/-- the same by the mask alone -/
def rcondsFrom (c : Int) : Nat → Int → List Int → List Int
  | 0, _, acc => acc
  | n + 1, m, acc => if m = 8 then acc else if (decide (8 ≤ m)) = (decide (c % 2 = 1)) then rcondsFrom c n (m % 8 * 2) (acc ++ [c]) else if c = 14 then [] else rcondsFrom c n (m % 8 * 2) (acc ++ [turnI c])

theorem cases15 {c : Int} (h : 0 ≤ c ∧ c ≤ 14) : c = 0 ∨ c = 1 ∨ c = 2 ∨ c = 3 ∨ c = 4 ∨ c = 5 ∨ c = 6 ∨ c = 7 ∨ c = 8 ∨ c = 9 ∨ c = 10 ∨ c = 11 ∨ c = 12 ∨ c = 13 ∨ c = 14 := by omega
theorem cases14 {c : Int} (h : 0 ≤ c ∧ c ≤ 13) : c = 0 ∨ c = 1 ∨ c = 2 ∨ c = 3 ∨ c = 4 ∨ c = 5 ∨ c = 6 ∨ c = 7 ∨ c = 8 ∨ c = 9 ∨ c = 10 ∨ c = 11 ∨ c = 12 ∨ c = 13 := by omega

/-- a fact of all pairs of a condition and a mask is reckoned -/
theorem all_pairs {p : Int → Int → Bool} (h : ((List.range 15).all fun a => (List.range 16).all fun b => p a b) = true) (c m : Int) (h1 : 0 ≤ c ∧ c ≤ 14) (h2 : 0 ≤ m ∧ m ≤ 15) : p c m = true := by
  rw [List.all_eq_true] at h
  have h' := h c.toNat (by simp; omega)
  rw [List.all_eq_true] at h'
  have h'' := h' m.toNat (by simp; omega)
  rwa [show ((c.toNat : Nat) : Int) = c by omega, show ((m.toNat : Nat) : Int) = m by omega] at h''
theorem all_conds {p : Int → Bool} (h : ((List.range 15).all fun a => p a) = true) (c : Int) (h1 : 0 ≤ c ∧ c ≤ 14) : p c = true := by
  rw [List.all_eq_true] at h
  have h' := h c.toNat (by simp; omega)
  rwa [show ((c.toNat : Nat) : Int) = c by omega] at h'

theorem conds_same (c m : Int) (h1 : 0 ≤ c ∧ c ≤ 14) (h2 : 1 ≤ m ∧ m ≤ 15) : rcondsFrom c 3 m [c] = condsFrom 3 (c * 16 + m) [c] := by
  have h := all_pairs (p := fun c m => m == 0 || rcondsFrom c 3 m [c] == condsFrom 3 (c * 16 + m) [c]) (by decide +kernel) c m h1 (by omega)
  simp only [Bool.or_eq_true, beq_iff_eq] at h
  rcases h with h | h
  · omega
  · exact h

/-- each list of at most three -/
theorem lists {l : List Bool} (h : l.length ≤ 3) : l ∈ [[], [false], [true], [false, false], [false, true], [true, false], [true, true], [false, false, false], [false, false, true], [false, true, false], [false, true, true], [true, false, false], [true, false, true], [true, true, false], [true, true, true]] := by
  match l, h with
  | [], _ => simp
  | [a], _ => cases a <;> simp
  | [a, b], _ => cases a <;> cases b <;> simp
  | [a, b, c], _ => cases a <;> cases b <;> cases c <;> simp
def listTab : List (List Bool) := [[], [false], [true], [false, false], [false, true], [true, false], [true, true], [false, false, false], [false, false, true], [false, true, false], [false, true, true], [true, false, false], [true, false, true], [true, true, false], [true, true, true]]
theorem all_lists {p : Int → List Bool → Bool} (h : ((List.range 15).all fun a => listTab.all fun l => p a l) = true) (c : Int) (l : List Bool) (h1 : 0 ≤ c ∧ c ≤ 14) (h2 : l.length ≤ 3) : p c l = true := by
  rw [List.all_eq_true] at h
  have h' := h c.toNat (by simp; omega)
  rw [List.all_eq_true] at h'
  have h'' := h' l (lists h2)
  rwa [show ((c.toNat : Nat) : Int) = c by omega] at h''

/-- what a mask of a block tells -/
theorem mask_tells (c : Int) (l : List Bool) (h1 : 0 ≤ c ∧ c ≤ 14) (h2 : l.length ≤ 3) (h : maskI c l ≠ 0) : condsI c (maskI c l) = c :: l.map (fun s => if s then c else turnI c) := by
  have h' := all_lists (p := fun c l => maskI c l == 0 || condsI c (maskI c l) == c :: l.map (fun s => if s then c else turnI c)) (by decide +kernel) c l h1 h2
  simp only [Bool.or_eq_true, beq_iff_eq] at h'
  rcases h' with h' | h'
  · exact absurd h' h
  · exact h'
theorem mask_no {c : Int} {l : List Bool} (h : ¬ (0 ≤ c ∧ c ≤ 14 ∧ l.length ≤ 3)) : maskI c l = 0 := by unfold maskI; rw [if_neg h]
theorem conds_no {c m : Int} (h : ¬ (0 ≤ c ∧ c ≤ 14 ∧ 1 ≤ m ∧ m ≤ 15)) : condsI c m = [] := by unfold condsI; rw [if_neg h]
theorem mask_bd (c : Int) (l : List Bool) : 0 ≤ maskI c l ∧ maskI c l ≤ 15 := by
  by_cases h : 0 ≤ c ∧ c ≤ 14 ∧ l.length ≤ 3
  · have h' := all_lists (p := fun c l => decide (0 ≤ maskI c l ∧ maskI c l ≤ 15)) (by decide +kernel) c l ⟨h.1, h.2.1⟩ h.2.2
    simpa using h'
  · rw [mask_no h]; omega

/-- a state goes through the conditions and ends -/
def walkB : Int → List Int → Bool
  | it, [] => it == 0
  | it, x :: r => condI it == x && !(it % 16 == 0) && walkB (nextI it) r
theorem walks (c m : Int) (h1 : 0 ≤ c ∧ c ≤ 14) (h2 : 1 ≤ m ∧ m ≤ 15) (h : condsI c m ≠ []) : walkB (c * 16 + m) (condsI c m) = true := by
  have h' := all_pairs (p := fun c m => m == 0 || condsI c m == [] || walkB (c * 16 + m) (condsI c m)) (by decide +kernel) c m h1 (by omega)
  simp only [Bool.or_eq_true, beq_iff_eq] at h'
  rcases h' with (h' | h') | h'
  · omega
  · exact absurd h' h
  · exact h'

theorem find_name (c : Int) (h : 0 ≤ c ∧ c ≤ 13) : findI (nameL c) = c := by
  rcases cases14 h with rfl | rfl | rfl | rfl | rfl | rfl | rfl | rfl | rfl | rfl | rfl | rfl | rfl | rfl <;> decide +kernel
theorem turn_twice (c : Int) (h : 0 ≤ c ∧ c ≤ 13) : turnI (turnI c) = c := by unfold turnI; split <;> split <;> first | omega | (split <;> omega)
theorem turn_bd (c : Int) (h : 0 ≤ c ∧ c ≤ 13) : 0 ≤ turnI c ∧ turnI c ≤ 13 := by unfold turnI; rw [if_pos h]; split <;> omega
theorem turn_no (c : Int) (h : ¬ (0 ≤ c ∧ c ≤ 13)) : turnI c = 14 := by unfold turnI; rw [if_neg h]
theorem name_no (c : Int) (h : ¬ (0 ≤ c ∧ c ≤ 13)) : nameL c = [] := by unfold nameL; rw [if_neg h]
theorem holds_no (c : Int) (n z k v : Bool) (h : ¬ (0 ≤ c ∧ c ≤ 13)) : holdsB c n z k v = true := by
  unfold holdsB
  repeat (rw [if_neg (by omega)])
theorem one_holds (c : Int) (h : 0 ≤ c ∧ c ≤ 13) (n z k v : Bool) : holdsB (turnI c) n z k v = !holdsB c n z k v := by
  rcases cases14 h with rfl | rfl | rfl | rfl | rfl | rfl | rfl | rfl | rfl | rfl | rfl | rfl | rfl | rfl <;> simp [holdsB, turnI]

/-! bits of ints -/
theorem i64_and (x : Int) (m : Nat) (hm : m < 9223372036854775808) : bits .and .i64 x (m : Int) = (((x % 18446744073709551616).toNat &&& m : Nat) : Int) := by
  have hl : (x % 18446744073709551616).toNat &&& m ≤ m := Nat.and_le_right
  have h : bits .and .i64 x (m : Int) = IntKind.i64.wrap (((BitVec.ofInt 64 x).toNat &&& (BitVec.ofInt 64 m).toNat : Nat) : Int) := by
    rw [← BitVec.toNat_and]; rfl
  have em : (BitVec.ofInt 64 (m : Int)).toNat = m := by rw [BitVec.toNat_ofInt]; omega
  have ex : (BitVec.ofInt 64 x).toNat = (x % 18446744073709551616).toNat := by rw [BitVec.toNat_ofInt]; rfl
  rw [h, em, ex, IntKind.wrap_i64]
  omega
theorem i64_or_nat (a b : Nat) (ha : a < 9223372036854775808) (hb : b < 9223372036854775808) : bits .or .i64 (a : Int) (b : Int) = ((a ||| b : Nat) : Int) := by
  have hc : a ||| b < 2 ^ 63 := Nat.or_lt_two_pow (by omega) (by omega)
  have h : bits .or .i64 (a : Int) (b : Int) = IntKind.i64.wrap (((BitVec.ofInt 64 a).toNat ||| (BitVec.ofInt 64 b).toNat : Nat) : Int) := by
    rw [← BitVec.toNat_or]; rfl
  have ea : (BitVec.ofInt 64 (a : Int)).toNat = a := by rw [BitVec.toNat_ofInt]; omega
  have eb : (BitVec.ofInt 64 (b : Int)).toNat = b := by rw [BitVec.toNat_ofInt]; omega
  rw [h, ea, eb, IntKind.wrap_i64]
  omega
theorem and1 (x : Int) : bits .and .i64 x 1 = x % 2 := by rw [show (1 : Int) = ((1 : Nat) : Int) by rfl, i64_and x 1 (by decide), nat_mask1]; omega
theorem and7 (x : Int) : bits .and .i64 x 7 = x % 8 := by rw [show (7 : Int) = ((7 : Nat) : Int) by rfl, i64_and x 7 (by decide), nat_mask3]; omega
theorem and15 (x : Int) : bits .and .i64 x 15 = x % 16 := by rw [show (15 : Int) = ((15 : Nat) : Int) by rfl, i64_and x 15 (by decide), nat_mask4]; omega
theorem and31 (x : Int) : bits .and .i64 x 31 = x % 32 := by rw [show (31 : Int) = ((31 : Nat) : Int) by rfl, i64_and x 31 (by decide), nat_mask5]; omega
theorem and255 (x : Int) : bits .and .i64 x 255 = x % 256 := by rw [show (255 : Int) = ((255 : Nat) : Int) by rfl, i64_and x 255 (by decide), nat_mask8]; omega
theorem nat224_all : ((List.range 256).all fun y => (y &&& 224) == y / 32 * 32) = true := by decide +kernel
theorem nat224 (y : Nat) : y &&& 224 = y % 256 / 32 * 32 := by
  have e : y &&& 224 = (y &&& 255) &&& 224 := by rw [Nat.and_assoc]; rfl
  rw [e, nat_mask8]
  have h := nat224_all
  rw [List.all_eq_true] at h
  simpa using h (y % 256) (by simp; omega)
theorem and224 (x : Int) : bits .and .i64 x 224 = x % 256 / 32 * 32 := by rw [show (224 : Int) = ((224 : Nat) : Int) by rfl, i64_and x 224 (by decide), nat224]; omega
theorem or_join (a b : Int) (i : Nat) (hi : i ≤ 32) (h1 : 0 ≤ a) (h2 : a < 4294967296) (h3 : a % 2 ^ i = 0) (h4 : 0 ≤ b) (h5 : b < 2 ^ i) : bits .or .i64 a b = a + b := by
  have hp : (2 : Nat) ^ i ≤ 2 ^ 32 := Nat.pow_le_pow_right (by omega) hi
  obtain ⟨A, rfl⟩ := Int.eq_ofNat_of_zero_le h1
  obtain ⟨B, rfl⟩ := Int.eq_ofNat_of_zero_le h4
  have h3' : A % 2 ^ i = 0 := by exact_mod_cast h3
  have h5' : B < 2 ^ i := by exact_mod_cast h5
  rw [i64_or_nat A B (by omega) (by omega), nat_join i A B h3' h5']
  simp
theorem xor1_all : ((List.range 15).all fun c => bits .xor .i64 (c : Int) 1 == (if (c : Int) % 2 = 0 then (c : Int) + 1 else c - 1)) = true := by decide +kernel
theorem xor1 (c : Int) (h : 0 ≤ c ∧ c ≤ 14) : bits .xor .i64 c 1 = if c % 2 = 0 then c + 1 else c - 1 := by
  have h' := all_conds (p := fun c => bits .xor .i64 c 1 == (if c % 2 = 0 then c + 1 else c - 1)) xor1_all c h
  simpa using h'
end Cm
end Go.Proofs.YtdcnkmkaafimlaaDoor

namespace Go.Proofs.YtdcnkmkaafimlaaDoor
namespace Im

/-- the names, by their number; none has the first place -/
def tab : List (List UInt8) := [[], [97, 110, 100], [101, 111, 114], [111, 114, 114], [98, 105, 99], [97, 100, 100], [97, 100, 99], [115, 117, 98], [115, 98, 99], [114, 115, 98], [109, 111, 118], [109, 118, 110], [99, 109, 112], [99, 109, 110], [116, 115, 116], [116, 101, 113], [108, 115, 108], [108, 115, 114], [97, 115, 114], [114, 111, 114], [109, 117, 108], [117, 100, 105, 118], [115, 100, 105, 118], [109, 111, 118, 119], [109, 111, 118, 116], [108, 100, 114], [108, 100, 114, 98], [108, 100, 114, 104], [115, 116, 114], [115, 116, 114, 98], [115, 116, 114, 104], [108, 100, 109], [115, 116, 109], [112, 117, 115, 104], [112, 111, 112], [98], [98, 108], [99, 98, 122], [99, 98, 110, 122], [98, 120], [108, 100, 114], [97, 100, 114], [105, 116], [110, 111, 112], [98, 107, 112, 116], [116, 98, 98]]
def nm (k : Nat) : List UInt8 := tab.getD k []
def opB (op : Int) : Bool := decide (1 ≤ op) && decide (op ≤ 45)
def nameI (op : Int) : List UInt8 := if 1 ≤ op ∧ op ≤ 45 then nm op.toNat else []
/-- the first operation of the name s, from k on; 0 where there is none -/
def findFrom : Nat → Nat → List UInt8 → Int
  | 0, _, _ => 0
  | n + 1, k, s => if k ≠ 0 ∧ nm k = s then (k : Int) else findFrom n (k + 1) s
def findI (s : List UInt8) : Int := findFrom 46 0 s
def setsB (op : Int) : Bool := decide (1 ≤ op ∧ op ≤ 11) || decide (16 ≤ op ∧ op ≤ 19)

theorem name_in {op : Int} (h : 1 ≤ op ∧ op ≤ 45) : nameI op = nm op.toNat := by unfold nameI; rw [if_pos h]
theorem name_no {op : Int} (h : ¬ (1 ≤ op ∧ op ≤ 45)) : nameI op = [] := by unfold nameI; rw [if_neg h]
theorem from_step {k : Nat} {s : List UInt8} (h : k < 46) : findFrom (46 - k) k s = if k ≠ 0 ∧ nm k = s then (k : Int) else findFrom (46 - (k + 1)) (k + 1) s := by
  rw [show 46 - k = (46 - (k + 1)) + 1 by omega, findFrom]
theorem from_end {k : Nat} {s : List UInt8} (h : ¬ k < 46) : findFrom (46 - k) k s = 0 := by
  rw [show 46 - k = 0 by omega, findFrom]
/-- what is found is that name's, or an earlier one's of the same name -/
theorem find_all : ((List.range 46).all fun k => k == 0 || findI (nm k) == (k : Int) || (k == 40 && findI (nm k) == 25)) = true := by decide +kernel
theorem find_name (op : Int) (h : 1 ≤ op ∧ op ≤ 45) : findI (nameI op) = op ∨ (op = 40 ∧ findI (nameI op) = 25) := by
  have h' := find_all
  rw [List.all_eq_true] at h'
  have h2 := h' op.toNat (by simp; omega)
  rw [name_in h]
  simp only [Bool.or_eq_true, Bool.and_eq_true, beq_iff_eq] at h2
  rcases h2 with (h2 | h2) | ⟨h2, h3⟩
  · omega
  · left; rw [h2]; omega
  · right; exact ⟨by omega, h3⟩
theorem find_none : findI [] = 0 := by decide +kernel

/-! which instructions may be -/
/-- what an operation may have told: sets of registers, numbers from least to most by step, the list's registers and how many at least -/
structure F where
  rd : Int
  rn : Int
  rm : Int
  least : Int
  most : Int
  step : Int
  list : Int
  count : Int
def fieldsI (op mode : Int) (s : Bool) : F :=
  if op ≤ 9 then ⟨24575, 24575, 24575, 0, 4294967295, 1, 0, 0⟩
  else if op ≤ 11 then (if op = 10 ∧ mode = 2 ∧ s = false then ⟨32767, 0, 32767, 0, 0, 0, 0, 0⟩ else ⟨24575, 0, 24575, 0, 4294967295, 1, 0, 0⟩)
  else if op ≤ 15 then ⟨0, 24575, 24575, 0, 4294967295, 1, 0, 0⟩
  else if op = 16 ∨ op = 19 then ⟨24575, 24575, 24575, 1, 31, 1, 0, 0⟩
  else if op ≤ 18 then ⟨24575, 24575, 24575, 1, 32, 1, 0, 0⟩
  else if op ≤ 22 then ⟨24575, 24575, 24575, 0, 0, 0, 0, 0⟩
  else if op ≤ 24 then ⟨24575, 0, 0, 0, 65535, 1, 0, 0⟩
  else if op ≤ 30 then ⟨24575, 32767, 24575, 0, 4095, 1, 0, 0⟩
  else if op ≤ 32 then ⟨0, 24575, 0, 0, 0, 0, 24575, 2⟩
  else if op = 33 then ⟨0, 0, 0, 0, 0, 0, 24575, 1⟩
  else if op = 34 then ⟨0, 0, 0, 0, 0, 0, 57343, 1⟩
  else if op ≤ 36 then ⟨0, 0, 0, -16777216, 16777214, 2, 0, 0⟩
  else if op ≤ 38 then ⟨0, 255, 0, 0, 126, 2, 0, 0⟩
  else if op = 39 then ⟨0, 0, 32767, 0, 0, 0, 0, 0⟩
  else if op ≤ 41 then ⟨24575, 0, 0, -4095, 4095, 1, 0, 0⟩
  else if op = 42 then ⟨0, 0, 0, 1, 15, 1, 0, 0⟩
  else if op = 43 then ⟨0, 0, 0, 0, 0, 0, 0, 0⟩
  else if op = 44 then ⟨0, 0, 0, 0, 255, 1, 0, 0⟩
  else ⟨0, 24575, 24575, 0, 0, 0, 0, 0⟩

def bit (m : Int) (r : Nat) : Bool := m / 2 ^ r % 2 == 1
/-- a register of the set; of none, zero -/
def oneB (set r : Int) : Bool := if set = 0 then decide (r = 0) else decide (0 ≤ r ∧ r ≤ 15) && bit set r.toNat
def hasB (least most step n : Int) : Bool := !(step == 0) && decide (least ≤ n) && decide (n ≤ most) && (Int.tmod n step == 0)
def lastB (f : F) (mode imm rm : Int) : Bool :=
  if mode = 0 then f.step == 0 && f.rm == 0 && imm == 0 && rm == 0
  else if mode = 1 then hasB f.least f.most f.step imm && rm == 0
  else if mode = 2 then !(f.rm == 0) && oneB f.rm rm && imm == 0
  else false
/-- how many bits are there among the lowest 16 -/
def pop (m : Nat) : Nat := m % 2 + m / 2 % 2 + m / 4 % 2 + m / 8 % 2 + m / 16 % 2 + m / 32 % 2 + m / 64 % 2 + m / 128 % 2 + m / 256 % 2 + m / 512 % 2 + m / 1024 % 2 + m / 2048 % 2 + m / 4096 % 2 + m / 8192 % 2 + m / 16384 % 2 + m / 32768 % 2
def listB (f : F) (rn list : Int) : Bool :=
  !(!(f.rn == 0) && bit list rn.toNat) && (bits .andNot .i64 list f.list == 0) && !(bits .and .i64 list 49152 == 49152) && decide (f.count ≤ (pop (list % 18446744073709551616).toNat : Int))
def condB (op cond imm : Int) : Bool :=
  if op = 35 then decide (0 ≤ cond ∧ cond ≤ 14) else if op = 42 then !(Cm.condsI cond imm).isEmpty else cond == 0
def checkB (op cond rd rn rm imm mode list : Int) (s : Bool) : Bool :=
  decide (1 ≤ op ∧ op ≤ 45) && (oneB (fieldsI op mode s).rd rd && oneB (fieldsI op mode s).rn rn) && lastB (fieldsI op mode s) mode imm rm && listB (fieldsI op mode s) rn list && condB op cond imm && !(s && !setsB op)
def errI (b : Bool) : Int := if b then 0 else 6

/-! bits of ints -/
/-- what has no bit outside of m is at most m -/
theorem andNot_le (x : Int) (m : Nat) (hm : m < 9223372036854775808) (h : bits .andNot .i64 x (m : Int) = 0) : x % 18446744073709551616 ≤ m := by
  have e1 : bits .andNot .i64 x (m : Int) = IntKind.i64.wrap ((BitVec.ofInt 64 x &&& ~~~ BitVec.ofInt 64 (m : Int)).toNat : Int) := rfl
  have hb := (BitVec.ofInt 64 x &&& ~~~ BitVec.ofInt 64 (m : Int)).isLt
  rw [e1, IntKind.wrap_i64] at h
  have hz : (BitVec.ofInt 64 x &&& ~~~ BitVec.ofInt 64 (m : Int)).toNat = 0 := by omega
  have hz' : BitVec.ofInt 64 x &&& ~~~ BitVec.ofInt 64 (m : Int) = 0#64 := BitVec.eq_of_toNat_eq (by rw [hz]; rfl)
  have hx : BitVec.ofInt 64 x = BitVec.ofInt 64 x &&& BitVec.ofInt 64 (m : Int) := by
    apply BitVec.eq_of_getLsbD_eq
    intro i hi
    have := congrArg (fun b => b.getLsbD i) hz'
    simp only [BitVec.getLsbD_and, BitVec.getLsbD_not, hi, decide_true, Bool.true_and, BitVec.getLsbD_zero] at this ⊢
    revert this
    cases (BitVec.ofInt 64 x).getLsbD i <;> cases (BitVec.ofInt 64 (m : Int)).getLsbD i <;> simp
  have em : (BitVec.ofInt 64 (m : Int)).toNat = m := by rw [BitVec.toNat_ofInt]; omega
  have ex : ((BitVec.ofInt 64 x).toNat : Int) = x % 18446744073709551616 := by rw [BitVec.toNat_ofInt]; omega
  have hl : (BitVec.ofInt 64 x).toNat ≤ m := by
    rw [hx, BitVec.toNat_and, em]; exact Nat.and_le_right
  omega
/-- bit 20 changed is bit 20 there, where no bit is above 15 -/
theorem xor_20 (x : Int) (h0 : 0 ≤ x) (h1 : x < 65536) : bits .xor .i64 x 1048576 = x + 1048576 := by
  obtain ⟨X, rfl⟩ := Int.eq_ofNat_of_zero_le h0
  have h : bits .xor .i64 (X : Int) 1048576 = IntKind.i64.wrap (((BitVec.ofInt 64 (X : Int)).toNat ^^^ (BitVec.ofInt 64 1048576).toNat : Nat) : Int) := by
    rw [← BitVec.toNat_xor]; rfl
  have ea : (BitVec.ofInt 64 (X : Int)).toNat = X := by rw [BitVec.toNat_ofInt]; omega
  have eb : (BitVec.ofInt 64 1048576).toNat = 1048576 := by rfl
  have ec : X ^^^ 1048576 = X + 1048576 := by
    have e1 : X ^^^ 1048576 = 1048576 ||| X := by
      apply Nat.eq_of_testBit_eq
      intro i
      rw [Nat.testBit_xor, Nat.testBit_or, show 1048576 = 2 ^ 20 by rfl, Nat.testBit_two_pow]
      by_cases hi : 20 = i
      · subst hi
        have : X.testBit 20 = false := Nat.testBit_lt_two_pow (by omega)
        rw [this]; simp
      · simp [hi]
    have e2 := Nat.two_pow_add_eq_or_of_lt (i := 20) (b := X) (by omega) 1
    rw [e1, show 1048576 = 2 ^ 20 * 1 by rfl, ← e2]; omega
  rw [h, ea, eb, ec, IntKind.wrap_i64]
  omega
end Im
end Go.Proofs.YtdcnkmkaafimlaaDoor

namespace Go.Proofs.YtdcnkmkaafimlaaDoor
namespace Nm

/-- an instruction -/
structure I where
  op : Int
  cond : Int
  rd : Int
  rn : Int
  rm : Int
  imm : Int
  mode : Int
  list : Int
  s : Bool

def low (r : Int) : Bool := decide (0 ≤ r ∧ r ≤ 7)
/-- bit 3 at bit 7, and the lowest three bits -/
def up (r : Int) : Int := r / 8 * 128 + r % 8
def opt (b : Bool) (h : Int) : Option Int := if b then some h else none

/-- operations of two low registers -/
def twoI (i : I) (f it : Bool) : Option Int :=
  if i.op = 20 then opt (it && (i.rd == i.rm && (low i.rd && low i.rn))) (17216 + i.rn * 8 + i.rd)
  else if i.op = 9 then opt (i.mode == 1 && (i.imm == 0 && (f && (low i.rd && low i.rn)))) (16960 + i.rn * 8 + i.rd)
  else if i.mode ≠ 2 then none
  else if i.op = 1 then opt (i.rd == i.rn && (f && (low i.rd && low i.rm))) (16384 + i.rm * 8 + i.rd)
  else if i.op = 2 then opt (i.rd == i.rn && (f && (low i.rd && low i.rm))) (16448 + i.rm * 8 + i.rd)
  else if i.op = 6 then opt (i.rd == i.rn && (f && (low i.rd && low i.rm))) (16704 + i.rm * 8 + i.rd)
  else if i.op = 8 then opt (i.rd == i.rn && (f && (low i.rd && low i.rm))) (16768 + i.rm * 8 + i.rd)
  else if i.op = 3 then opt (i.rd == i.rn && (f && (low i.rd && low i.rm))) (17152 + i.rm * 8 + i.rd)
  else if i.op = 4 then opt (i.rd == i.rn && (f && (low i.rd && low i.rm))) (17280 + i.rm * 8 + i.rd)
  else if i.op = 11 then opt (f && (low i.rd && low i.rm)) (17344 + i.rm * 8 + i.rd)
  else if i.op = 14 then opt (low i.rn && low i.rm) (16896 + i.rm * 8 + i.rn)
  else if i.op = 13 then opt (low i.rn && low i.rm) (17088 + i.rm * 8 + i.rn)
  else none
/-- Cmp and Mov -/
def moveI (i : I) (f it : Bool) : Option Int :=
  if i.op = 12 then
    if i.mode = 1 then opt (low i.rn && decide (i.imm ≤ 255)) (10240 + i.rn * 256 + i.imm)
    else if (low i.rn && low i.rm) = true then some (17024 + i.rm * 8 + i.rn) else some (17664 + i.rm * 8 + up i.rn)
  else if i.mode = 1 then opt (low i.rd && (decide (i.imm ≤ 255) && f)) (8192 + i.rd * 256 + i.imm)
  else if i.s = true then opt (!it && (low i.rd && low i.rm)) (i.rm * 8 + i.rd)
  else some (17920 + i.rm * 8 + up i.rd)
/-- Add and Sub -/
def subI (i : I) : Int := if i.op = 7 then 1 else 0
def sumI (i : I) (f : Bool) : Option Int :=
  if i.mode = 2 then
    if (f && (low i.rd && (low i.rn && low i.rm))) = true then some (6144 + subI i * 512 + i.rm * 64 + i.rn * 8 + i.rd)
    else opt (i.op == 5 && (i.rd == i.rn && !i.s)) (17408 + i.rm * 8 + up i.rd)
  else if (f && (low i.rd && (low i.rn && decide (i.imm ≤ 7)))) = true then some (7168 + subI i * 512 + i.imm * 64 + i.rn * 8 + i.rd)
  else opt (f && (i.rd == i.rn && (low i.rd && decide (i.imm ≤ 255)))) (12288 + subI i * 2048 + i.rd * 256 + i.imm)
/-- Lsl to Ror -/
def shiftI (i : I) (f : Bool) : Option Int :=
  if i.mode = 1 then opt (!(i.op == 19) && (f && (low i.rd && low i.rn))) ((i.op - 16) * 2048 + i.imm % 32 * 64 + i.rn * 8 + i.rd)
  else opt (f && (i.rd == i.rn && (low i.rd && low i.rm))) ((if i.op = 16 then 16512 else if i.op = 17 then 16576 else if i.op = 18 then 16640 else 16832) + i.rm * 8 + i.rd)
/-- Ldr to Strh -/
def regB (op : Int) : Int := if op = 25 then 22528 else if op = 26 then 23552 else if op = 27 then 23040 else if op = 28 then 20480 else if op = 29 then 21504 else 20992
def immB (op : Int) : Int := if op = 25 then 26624 else if op = 26 then 30720 else if op = 27 then 34816 else if op = 28 then 24576 else if op = 29 then 28672 else 32768
def byB (op : Int) : Int := if op = 25 ∨ op = 28 then 4 else if op = 26 ∨ op = 29 then 1 else 2
def loadI (i : I) : Option Int :=
  if i.mode = 2 then opt (low i.rd && (low i.rn && low i.rm)) (regB i.op + i.rm * 64 + i.rn * 8 + i.rd)
  else if i.rn = 13 then opt ((i.op == 25 || i.op == 28) && (low i.rd && (i.imm % 4 == 0 && decide (i.imm ≤ 1020)))) ((if i.op = 28 then 36864 else 38912) + i.rd * 256 + i.imm / 4)
  else opt (low i.rd && (low i.rn && (i.imm % byB i.op == 0 && decide (i.imm / byB i.op ≤ 31)))) (immB i.op + i.imm / byB i.op * 64 + i.rn * 8 + i.rd)
/-- B, Cbz, Cbnz -/
def fits1 (n : Int) : Bool := decide (-256 ≤ n) && (decide (n ≤ 254) && n % 2 == 0)
def fits2 (n : Int) : Bool := decide (-2048 ≤ n) && (decide (n ≤ 2046) && n % 2 == 0)
def branchI (i : I) (it : Bool) : Option Int :=
  if i.op = 35 then
    if i.cond = 14 then opt (fits2 i.imm) (57344 + i.imm / 2 % 2048)
    else opt (!it && fits1 i.imm) (53248 + i.cond * 256 + i.imm / 2 % 256)
  else opt (!it) ((if i.op = 38 then 47360 else 45312) + i.imm / 64 % 2 * 512 + i.imm / 2 % 32 * 8 + i.rn)
/-- all others -/
def restI (i : I) (it : Bool) : Option Int :=
  if i.op = 32 then opt (low i.rn && decide (i.list ≤ 255)) (49152 + i.rn * 256 + i.list)
  else if i.op = 31 then opt (low i.rn && decide (i.list ≤ 255)) (51200 + i.rn * 256 + i.list)
  else if i.op = 33 then opt (i.list / 256 % 64 == 0) (46080 + i.list / 16384 % 2 * 256 + i.list % 256)
  else if i.op = 34 then opt (i.list / 256 % 128 == 0) (48128 + i.list / 32768 % 2 * 256 + i.list % 256)
  else if i.op = 39 then some (18176 + i.rm * 8)
  else if i.op = 40 then opt (low i.rd && (decide (0 ≤ i.imm) && (decide (i.imm ≤ 1020) && i.imm % 4 == 0))) (18432 + i.rd * 256 + i.imm / 4)
  else if i.op = 41 then opt (low i.rd && (decide (0 ≤ i.imm) && (decide (i.imm ≤ 1020) && i.imm % 4 == 0))) (40960 + i.rd * 256 + i.imm / 4)
  else if i.op = 42 then opt (!it) (48896 + i.cond * 16 + i.imm)
  else if i.op = 43 then some 48896
  else if i.op = 44 then some (48640 + i.imm)
  else none
def okB (i : I) : Bool := Im.checkB i.op i.cond i.rd i.rn i.rm i.imm i.mode i.list i.s
def rowI (i : I) (it : Bool) : Option Int :=
  if i.op = 5 ∨ i.op = 7 then sumI i (i.s != it)
  else if i.op = 10 ∨ i.op = 12 then moveI i (i.s != it) it
  else if i.op ≤ 14 ∨ i.op = 20 then twoI i (i.s != it) it
  else if 16 ≤ i.op ∧ i.op ≤ 19 then shiftI i (i.s != it)
  else if 25 ≤ i.op ∧ i.op ≤ 30 then loadI i
  else if i.op = 35 ∨ i.op = 37 ∨ i.op = 38 then branchI i it
  else restI i it
/-- the halfword, if there is one -/
def encI (i : I) (it : Bool) : Option Int := if okB i = true then rowI i it else none

/-! back -/
def hi4 (h : Int) : Int := h / 128 % 2 * 8 + h % 8
/-- below 0x4000 -/
def dec0 (h : Int) (it : Bool) : I :=
  if h < 64 then ⟨10, 0, h % 8, 0, h / 8 % 8, 0, 2, 0, true⟩
  else if h < 2048 then ⟨16, 0, h % 8, h / 8 % 8, 0, h / 64 % 32, 1, 0, !it⟩
  else if h < 4096 then ⟨17, 0, h % 8, h / 8 % 8, 0, if h / 64 % 32 = 0 then 32 else h / 64 % 32, 1, 0, !it⟩
  else if h < 6144 then ⟨18, 0, h % 8, h / 8 % 8, 0, if h / 64 % 32 = 0 then 32 else h / 64 % 32, 1, 0, !it⟩
  else if h < 6656 then ⟨5, 0, h % 8, h / 8 % 8, h / 64 % 8, 0, 2, 0, !it⟩
  else if h < 7168 then ⟨7, 0, h % 8, h / 8 % 8, h / 64 % 8, 0, 2, 0, !it⟩
  else if h < 7680 then ⟨5, 0, h % 8, h / 8 % 8, 0, h / 64 % 8, 1, 0, !it⟩
  else if h < 8192 then ⟨7, 0, h % 8, h / 8 % 8, 0, h / 64 % 8, 1, 0, !it⟩
  else if h < 10240 then ⟨10, 0, h / 256 % 8, 0, 0, h % 256, 1, 0, !it⟩
  else if h < 12288 then ⟨12, 0, 0, h / 256 % 8, 0, h % 256, 1, 0, false⟩
  else if h < 14336 then ⟨5, 0, h / 256 % 8, h / 256 % 8, 0, h % 256, 1, 0, !it⟩
  else ⟨7, 0, h / 256 % 8, h / 256 % 8, 0, h % 256, 1, 0, !it⟩
/-- from 0x4000 to 0x43FF -/
def dec1 (h : Int) (it : Bool) : I :=
  if h < 16448 then ⟨1, 0, h % 8, h % 8, h / 8 % 8, 0, 2, 0, !it⟩
  else if h < 16512 then ⟨2, 0, h % 8, h % 8, h / 8 % 8, 0, 2, 0, !it⟩
  else if h < 16576 then ⟨16, 0, h % 8, h % 8, h / 8 % 8, 0, 2, 0, !it⟩
  else if h < 16640 then ⟨17, 0, h % 8, h % 8, h / 8 % 8, 0, 2, 0, !it⟩
  else if h < 16704 then ⟨18, 0, h % 8, h % 8, h / 8 % 8, 0, 2, 0, !it⟩
  else if h < 16768 then ⟨6, 0, h % 8, h % 8, h / 8 % 8, 0, 2, 0, !it⟩
  else if h < 16832 then ⟨8, 0, h % 8, h % 8, h / 8 % 8, 0, 2, 0, !it⟩
  else if h < 16896 then ⟨19, 0, h % 8, h % 8, h / 8 % 8, 0, 2, 0, !it⟩
  else if h < 16960 then ⟨14, 0, 0, h % 8, h / 8 % 8, 0, 2, 0, false⟩
  else if h < 17024 then ⟨9, 0, h % 8, h / 8 % 8, 0, 0, 1, 0, !it⟩
  else if h < 17088 then ⟨12, 0, 0, h % 8, h / 8 % 8, 0, 2, 0, false⟩
  else if h < 17152 then ⟨13, 0, 0, h % 8, h / 8 % 8, 0, 2, 0, false⟩
  else if h < 17216 then ⟨3, 0, h % 8, h % 8, h / 8 % 8, 0, 2, 0, !it⟩
  else if h < 17280 then ⟨20, 0, h % 8, h / 8 % 8, h % 8, 0, 2, 0, false⟩
  else if h < 17344 then ⟨4, 0, h % 8, h % 8, h / 8 % 8, 0, 2, 0, !it⟩
  else ⟨11, 0, h % 8, 0, h / 8 % 8, 0, 2, 0, !it⟩
/-- from 0x4400 to 0x47FF -/
def dec2 (h : Int) : I :=
  if h < 17664 then ⟨5, 0, hi4 h, hi4 h, h / 8 % 16, 0, 2, 0, false⟩
  else if h < 17920 then ⟨12, 0, 0, hi4 h, h / 8 % 16, 0, 2, 0, false⟩
  else if h < 18176 then ⟨10, 0, hi4 h, 0, h / 8 % 16, 0, 2, 0, false⟩
  else ⟨39, 0, 0, 0, h / 8 % 16, 0, 2, 0, false⟩
/-- from 0x5000 to 0x9FFF -/
def dec3 (h : Int) : I :=
  if h < 20992 then ⟨28, 0, h % 8, h / 8 % 8, h / 64 % 8, 0, 2, 0, false⟩
  else if h < 21504 then ⟨30, 0, h % 8, h / 8 % 8, h / 64 % 8, 0, 2, 0, false⟩
  else if h < 22016 then ⟨29, 0, h % 8, h / 8 % 8, h / 64 % 8, 0, 2, 0, false⟩
  else if h < 23040 then ⟨25, 0, h % 8, h / 8 % 8, h / 64 % 8, 0, 2, 0, false⟩
  else if h < 23552 then ⟨27, 0, h % 8, h / 8 % 8, h / 64 % 8, 0, 2, 0, false⟩
  else if h < 24576 then ⟨26, 0, h % 8, h / 8 % 8, h / 64 % 8, 0, 2, 0, false⟩
  else if h < 26624 then ⟨28, 0, h % 8, h / 8 % 8, 0, h / 64 % 32 * 4, 1, 0, false⟩
  else if h < 28672 then ⟨25, 0, h % 8, h / 8 % 8, 0, h / 64 % 32 * 4, 1, 0, false⟩
  else if h < 30720 then ⟨29, 0, h % 8, h / 8 % 8, 0, h / 64 % 32, 1, 0, false⟩
  else if h < 32768 then ⟨26, 0, h % 8, h / 8 % 8, 0, h / 64 % 32, 1, 0, false⟩
  else if h < 34816 then ⟨30, 0, h % 8, h / 8 % 8, 0, h / 64 % 32 * 2, 1, 0, false⟩
  else if h < 36864 then ⟨27, 0, h % 8, h / 8 % 8, 0, h / 64 % 32 * 2, 1, 0, false⟩
  else if h < 38912 then ⟨28, 0, h / 256 % 8, 13, 0, h % 256 * 4, 1, 0, false⟩
  else ⟨25, 0, h / 256 % 8, 13, 0, h % 256 * 4, 1, 0, false⟩
/-- from 0xB000 to 0xBFFF -/
def dec4 (h : Int) : I :=
  if h < 46080 then ⟨37, 0, 0, h % 8, 0, h / 512 % 2 * 64 + h / 8 % 32 * 2, 1, 0, false⟩
  else if h < 46592 then ⟨33, 0, 0, 0, 0, 0, 0, h % 256 + h / 256 % 2 * 16384, false⟩
  else if h < 48128 then ⟨38, 0, 0, h % 8, 0, h / 512 % 2 * 64 + h / 8 % 32 * 2, 1, 0, false⟩
  else if h < 48640 then ⟨34, 0, 0, 0, 0, 0, 0, h % 256 + h / 256 % 2 * 32768, false⟩
  else if h < 48896 then ⟨44, 0, 0, 0, 0, h % 256, 1, 0, false⟩
  else if h = 48896 then ⟨43, 0, 0, 0, 0, 0, 0, 0, false⟩
  else ⟨42, h / 16 % 16, 0, 0, 0, h % 16, 1, 0, false⟩
/-- the instruction that has the halfword -/
def decI (h : Int) (it : Bool) : I :=
  if h < 16384 then dec0 h it
  else if h < 17408 then dec1 h it
  else if h < 18432 then dec2 h
  else if h < 20480 then ⟨40, 0, h / 256 % 8, 0, 0, h % 256 * 4, 1, 0, false⟩
  else if h < 40960 then dec3 h
  else if h < 45056 then ⟨41, 0, h / 256 % 8, 0, 0, h % 256 * 4, 1, 0, false⟩
  else if h < 49152 then dec4 h
  else if h < 51200 then ⟨32, 0, 0, h / 256 % 8, 0, 0, 0, h % 256, false⟩
  else if h < 53248 then ⟨31, 0, 0, h / 256 % 8, 0, 0, 0, h % 256, false⟩
  else if h < 57344 then ⟨35, h / 256 % 16, 0, 0, 0, if h % 256 < 128 then h % 256 * 2 else h % 256 * 2 - 512, 1, 0, false⟩
  else ⟨35, 14, 0, 0, 0, if h % 2048 < 1024 then h % 2048 * 2 else h % 2048 * 2 - 4096, 1, 0, false⟩
end Nm
end Go.Proofs.YtdcnkmkaafimlaaDoor

namespace Go.Proofs.YtdcnkmkaafimlaaDoor
namespace Nm

theorem low_is {r : Int} (h : low r = true) : 0 ≤ r ∧ r ≤ 7 := by simpa [low] using h
theorem opt_is {b : Bool} {h k : Int} (e : opt b h = some k) : b = true ∧ k = h := by
  unfold opt at e
  split at e
  · exact ⟨by assumption, by simpa using e.symm⟩
  · cases e

/-- what Check tells of each field -/
theorem one_none {r : Int} (h : Im.oneB 0 r = true) : r = 0 := by simpa [Im.oneB] using h
theorem one_in {set r : Int} (h : Im.oneB set r = true) (hs : set ≠ 0) : 0 ≤ r ∧ r ≤ 15 := by
  unfold Im.oneB at h
  rw [if_neg hs] at h
  simp only [Bool.and_eq_true, decide_eq_true_eq] at h
  exact h.1
theorem ok_parts {i : I} (h : okB i = true) :
    (1 ≤ i.op ∧ i.op ≤ 45) ∧ Im.oneB (Im.fieldsI i.op i.mode i.s).rd i.rd = true ∧ Im.oneB (Im.fieldsI i.op i.mode i.s).rn i.rn = true ∧ Im.lastB (Im.fieldsI i.op i.mode i.s) i.mode i.imm i.rm = true ∧
      Im.listB (Im.fieldsI i.op i.mode i.s) i.rn i.list = true ∧ Im.condB i.op i.cond i.imm = true ∧ (i.s && !Im.setsB i.op) = false := by
  unfold okB Im.checkB at h
  simp only [Bool.and_eq_true, decide_eq_true_eq, Bool.not_eq_true'] at h
  obtain ⟨⟨⟨⟨⟨h1, h2, h3⟩, h4⟩, h5⟩, h6⟩, h7⟩ := h
  exact ⟨h1, h2, h3, h4, h5, h6, h7⟩

/-- what the last operand may be -/
theorem last_cases {f : Im.F} {mode imm rm : Int} (h : Im.lastB f mode imm rm = true) :
    (mode = 0 ∧ f.step = 0 ∧ f.rm = 0 ∧ imm = 0 ∧ rm = 0) ∨ (mode = 1 ∧ f.step ≠ 0 ∧ f.least ≤ imm ∧ imm ≤ f.most ∧ Int.tmod imm f.step = 0 ∧ rm = 0) ∨ (mode = 2 ∧ f.rm ≠ 0 ∧ Im.oneB f.rm rm = true ∧ imm = 0) := by
  unfold Im.lastB at h
  split at h
  · simp only [Bool.and_eq_true, beq_iff_eq] at h
    exact .inl ⟨by assumption, h.1.1.1, h.1.1.2, h.1.2, h.2⟩
  · split at h
    · unfold Im.hasB at h
      simp only [Bool.and_eq_true, Bool.not_eq_true', beq_eq_false_iff_ne, decide_eq_true_eq, beq_iff_eq] at h
      exact .inr (.inl ⟨by assumption, h.1.1.1.1, h.1.1.1.2, h.1.1.2, h.1.2, h.2⟩)
    · split at h
      · simp only [Bool.and_eq_true, Bool.not_eq_true', beq_eq_false_iff_ne, beq_iff_eq] at h
        exact .inr (.inr ⟨by assumption, h.1.1, h.1.2, h.2⟩)
      · cases h
/-- a list that is a number of 64 bits -/
def Wide (n : Int) : Prop := -9223372036854775808 ≤ n ∧ n ≤ 9223372036854775807
theorem list_most {f : Im.F} {rn list : Int} (h : Im.listB f rn list = true) (m : Nat) (hm : m < 9223372036854775808) (hf : f.list = (m : Int)) (hw : Wide list) : 0 ≤ list ∧ list ≤ m := by
  unfold Im.listB at h
  simp only [Bool.and_eq_true, beq_iff_eq] at h
  have h' := h.1.1.2
  rw [hf] at h'
  have := Im.andNot_le list m hm h'
  unfold Wide at hw
  omega
theorem mk_eq {a a' b b' c c' d d' e e' f f' g g' k k' : Int} {s s' : Bool} (h1 : a = a') (h2 : b = b') (h3 : c = c') (h4 : d = d') (h5 : e = e') (h6 : f = f') (h7 : g = g') (h8 : k = k') (h9 : s = s') :
    I.mk a b c d e f g k s = I.mk a' b' c' d' e' f' g' k' s' := by rw [h1, h2, h3, h4, h5, h6, h7, h8, h9]
theorem flag_is {s it : Bool} (h : (s != it) = true) : s = !it := by cases s <;> cases it <;> simp_all
theorem flag_no {s : Bool} (h : (s && !false) = false) : s = false := by simpa using h

theorem flag_off {s : Bool} {k : Int} (h : (s && !Im.setsB k) = false) (hk : Im.setsB k = false) : false = s := by
  rw [hk] at h
  simpa using h.symm
/-- a low register, as the set of them has it -/
theorem low_of {r : Int} (h : Im.oneB 255 r = true) : 0 ≤ r ∧ r ≤ 7 := by
  have h15 := one_in h (by decide)
  have hc : ¬ (r = 8 ∨ r = 9 ∨ r = 10 ∨ r = 11 ∨ r = 12 ∨ r = 13 ∨ r = 14 ∨ r = 15) := by
    rintro (rfl | rfl | rfl | rfl | rfl | rfl | rfl | rfl) <;> exact absurd h (by decide +kernel)
  omega
/-- what a block that may be tells -/
theorem conds_is {c m : Int} (h : Cm.condsI c m ≠ []) : 0 ≤ c ∧ c ≤ 14 ∧ 1 ≤ m ∧ m ≤ 15 := by
  refine Decidable.byContradiction fun hn => h (Cm.conds_no hn)
end Nm
end Go.Proofs.YtdcnkmkaafimlaaDoor

namespace Go.Proofs.YtdcnkmkaafimlaaDoor
namespace Ow

theorem nat_or_add {X V k n : Nat} (hz : X / 2 ^ k % 2 ^ n = 0) (hV : V < 2 ^ n) : X ||| V * 2 ^ k = X + V * 2 ^ k := by
  have hp := Nat.two_pow_pos k
  have hL : X % 2 ^ k < 2 ^ k := Nat.mod_lt _ hp
  have e1 : X = 2 ^ (k + n) * (X / 2 ^ k / 2 ^ n) + X % 2 ^ k := by
    have a1 := Nat.div_add_mod X (2 ^ k)
    have a2 := Nat.div_add_mod (X / 2 ^ k) (2 ^ n)
    rw [hz, Nat.add_zero] at a2
    rw [Nat.pow_add, Nat.mul_assoc, a2]
    exact a1.symm
  have hVk : 2 ^ k * V + X % 2 ^ k < 2 ^ (k + n) := by
    have : 2 ^ k * (V + 1) ≤ 2 ^ k * 2 ^ n := Nat.mul_le_mul_left _ hV
    rw [Nat.pow_add]
    rw [Nat.mul_add, Nat.mul_one] at this
    omega
  have hL2 : X % 2 ^ k < 2 ^ (k + n) := by omega
  have e2 := Nat.two_pow_add_eq_or_of_lt hL2 (X / 2 ^ k / 2 ^ n)
  have e3 := Nat.two_pow_add_eq_or_of_lt hL V
  have e4 := Nat.two_pow_add_eq_or_of_lt hVk (X / 2 ^ k / 2 ^ n)
  rw [← e1] at e2
  have key : X ||| V * 2 ^ k = X + V * 2 ^ k := by
    calc X ||| V * 2 ^ k = (2 ^ (k + n) * (X / 2 ^ k / 2 ^ n) ||| X % 2 ^ k) ||| V * 2 ^ k := by rw [← e2]
      _ = 2 ^ (k + n) * (X / 2 ^ k / 2 ^ n) ||| (2 ^ k * V ||| X % 2 ^ k) := by rw [Nat.or_assoc, Nat.or_comm (X % 2 ^ k), Nat.mul_comm V]
      _ = 2 ^ (k + n) * (X / 2 ^ k / 2 ^ n) + (2 ^ k * V + X % 2 ^ k) := by rw [← e3, ← e4]
      _ = X + V * 2 ^ k := by rw [Nat.mul_comm V]; omega
  exact key
theorem or_add (x v : Int) (k n : Nat) (m c : Int) (hm : 2 ^ k = m) (hc : 2 ^ n = c) (hkn : k + n ≤ 40) (hx0 : 0 ≤ x) (hx1 : x < 4294967296) (hz : x / m % c = 0) (hv0 : 0 ≤ v) (hv1 : v < c) : bits .or .i64 x (v * m) = x + v * m := by
  subst hm hc
  obtain ⟨X, rfl⟩ := Int.eq_ofNat_of_zero_le hx0
  obtain ⟨V, rfl⟩ := Int.eq_ofNat_of_zero_le hv0
  have hVn : V < 2 ^ n := by exact_mod_cast hv1
  have hXz : X / 2 ^ k % 2 ^ n = 0 := by exact_mod_cast hz
  have hlt : V * 2 ^ k < 2 ^ (k + n) := by rw [Nat.pow_add, Nat.mul_comm]; exact Nat.mul_lt_mul_of_pos_left hVn (Nat.two_pow_pos k)
  have h40 : 2 ^ (k + n) ≤ 2 ^ 40 := Nat.pow_le_pow_right (by omega) hkn
  have h40' : (2 : Nat) ^ 40 = 1099511627776 := by decide
  have e1 : ((V : Int) * 2 ^ k) = ((V * 2 ^ k : Nat) : Int) := by simp
  rw [e1, Cm.i64_or_nat X (V * 2 ^ k) (by omega) (by omega), nat_or_add hXz hVn]
  simp
theorem or_0 (x : Int) (h0 : 0 ≤ x) (h1 : x < 4294967296) : bits .or .i64 x 0 = x := by
  obtain ⟨X, rfl⟩ := Int.eq_ofNat_of_zero_le h0
  have := Cm.i64_or_nat X 0 (by omega) (by decide)
  simpa using this
/-- a field joined: it is 0, or its place is -/
theorem or_at (x v : Int) (k n : Nat) (m c : Int) (hm : 2 ^ k = m) (hc : 2 ^ n = c) (hkn : k + n ≤ 40) (hx0 : 0 ≤ x) (hx1 : x < 4294967296) (hz : v = 0 ∨ x / m % c = 0) (hv0 : 0 ≤ v) (hv1 : v < c) : bits .or .i64 x (v * m) = x + v * m := by
  rcases hz with rfl | hz
  · rw [Int.zero_mul, or_0 x hx0 hx1]; omega
  · exact or_add x v k n m c hm hc hkn hx0 hx1 hz hv0 hv1
/-- the lowest field -/
theorem or_low (x v : Int) (n : Nat) (c : Int) (hc : 2 ^ n = c) (hn : n ≤ 40) (hx0 : 0 ≤ x) (hx1 : x < 4294967296) (hz : x % c = 0) (hv0 : 0 ≤ v) (hv1 : v < c) : bits .or .i64 x v = x + v := by
  have h := or_add x v 0 n 1 c rfl hc (by omega) hx0 hx1 (by rw [Int.ediv_one]; exact hz) hv0 hv1
  rwa [Int.mul_one] at h
/-- the second halfword's pieces of a number of twelve bits beside a register at its place -/
theorem or_x2 (d k l : Int) (hd : 0 ≤ d ∧ d ≤ 15) (hk : 0 ≤ k ∧ k ≤ 7) (hl : 0 ≤ l ∧ l ≤ 255) : bits .or .i64 (d * 256) (k * 4096 + l) = d * 256 + (k * 4096 + l) := by
  obtain ⟨D, rfl⟩ := Int.eq_ofNat_of_zero_le hd.1
  obtain ⟨K, rfl⟩ := Int.eq_ofNat_of_zero_le hk.1
  obtain ⟨L, rfl⟩ := Int.eq_ofNat_of_zero_le hl.1
  rw [show ((D : Int) * 256) = ((D * 256 : Nat) : Int) by simp, show ((K : Int) * 4096 + (L : Int)) = ((K * 4096 + L : Nat) : Int) by simp, Cm.i64_or_nat _ _ (by omega) (by omega)]
  have e1 := Nat.two_pow_add_eq_or_of_lt (i := 12) (b := L) (by omega) K
  have e2 := Nat.two_pow_add_eq_or_of_lt (i := 12) (b := D * 256 + L) (by omega) K
  have e3 := Nat.two_pow_add_eq_or_of_lt (i := 8) (b := L) (by omega) D
  rw [show (2 : Nat) ^ 12 = 4096 by rfl] at e1 e2
  rw [show (2 : Nat) ^ 8 = 256 by rfl] at e3
  have key : D * 256 ||| (K * 4096 + L) = D * 256 + (K * 4096 + L) := by
    calc D * 256 ||| (K * 4096 + L) = D * 256 ||| (4096 * K ||| L) := by rw [← e1, Nat.mul_comm K]
      _ = 4096 * K ||| (256 * D ||| L) := by rw [← Nat.or_assoc, Nat.or_comm (D * 256), Nat.or_assoc, Nat.mul_comm D]
      _ = 4096 * K ||| (D * 256 + L) := by rw [← e3, Nat.mul_comm D]
      _ = 4096 * K + (D * 256 + L) := by rw [← e2]
      _ = D * 256 + (K * 4096 + L) := by omega
  rw [key]
  omega
end Ow
end Go.Proofs.YtdcnkmkaafimlaaDoor

namespace Go.Proofs.YtdcnkmkaafimlaaDoor
namespace Tp

def p8 (m : Nat) : Nat := m % 2 + m / 2 % 2 + m / 4 % 2 + m / 8 % 2 + m / 16 % 2 + m / 32 % 2 + m / 64 % 2 + m / 128 % 2
theorem pop_two (m : Nat) : Im.pop m = p8 (m % 256) + p8 (m / 256) := by unfold Im.pop p8; omega
theorem few_all : ((List.range 256).all fun l => (l &&& (l - 1) == 0) == decide (p8 l < 2)) = true := by decide +kernel
theorem few (l : Nat) (h : l < 256) : l &&& (l - 1) = 0 ↔ p8 l < 2 := by
  have := List.all_eq_true.1 few_all l (List.mem_range.2 h)
  simp only [beq_iff_eq] at this
  rw [← decide_eq_true_iff (p := p8 l < 2), ← this, beq_iff_eq]
theorem none_all : ((List.range 256).all fun l => (l == 0) == (p8 l == 0)) = true := by decide +kernel
theorem none8 (l : Nat) (h : l < 256) : l = 0 ↔ p8 l = 0 := by
  have := List.all_eq_true.1 none_all l (List.mem_range.2 h)
  simp only [beq_iff_eq] at this
  rw [← beq_iff_eq, this, beq_iff_eq]
theorem one_all : ((List.range 256).all fun l => l == 0 || (l &&& 255 == l)) = true := by decide +kernel
theorem and255 (l : Nat) (h : l < 256) : l &&& 255 = l := by rw [show (255 : Nat) = 2 ^ 8 - 1 by rfl, Nat.and_two_pow_sub_one_eq_mod]; omega
theorem few16 (X : Nat) (h : X < 65536) (h1 : 1 ≤ X) : X &&& (X - 1) = 0 ↔ Im.pop X < 2 := by
  have d1 : (X &&& (X - 1)) / 2 ^ 8 = X / 2 ^ 8 &&& (X - 1) / 2 ^ 8 := Nat.and_div_two_pow ..
  have d2 : (X &&& (X - 1)) % 2 ^ 8 = X % 2 ^ 8 &&& (X - 1) % 2 ^ 8 := Nat.and_mod_two_pow ..
  have h0 : X &&& (X - 1) = 0 ↔ (X &&& (X - 1)) / 2 ^ 8 = 0 ∧ (X &&& (X - 1)) % 2 ^ 8 = 0 := by omega
  rw [h0, d1, d2, pop_two]
  obtain ⟨H, L, e, hL, hH⟩ : ∃ H L, X = H * 256 + L ∧ L < 256 ∧ H < 256 := ⟨X / 256, X % 256, by omega, by omega, by omega⟩
  rw [show X / 2 ^ 8 = H by omega, show X % 2 ^ 8 = L by omega]
  by_cases hz : L = 0
  · subst hz
    rw [show (X - 1) / 2 ^ 8 = H - 1 by omega, Nat.zero_and]
    have := few H hH
    constructor
    · intro hh; rw [this] at hh; simpa [p8] using hh.1
    · intro hh; exact ⟨this.2 (by simpa [p8] using hh), rfl⟩
  · rw [show (X - 1) / 2 ^ 8 = H by omega, show (X - 1) % 2 ^ 8 = L - 1 by omega, Nat.and_self]
    have a1 := few L hL
    have a2 := none8 H hH
    have a3 := none8 L hL
    constructor
    · rintro ⟨hh, hl⟩
      have := a1.1 hl
      have := a2.1 hh
      omega
    · intro hh
      have : p8 L ≠ 0 := fun q => hz (a3.2 q)
      exact ⟨a2.2 (by omega), a1.2 (by omega)⟩
theorem list_few (n : Int) (h0 : 0 ≤ n) (h1 : n < 65536) : bits .and .i64 n (n - 1) = 0 ↔ Im.pop n.toNat < 2 := by
  by_cases hz : n = 0
  · subst hz
    constructor
    · intro _; decide
    · intro _; decide
  · obtain ⟨X, rfl⟩ := Int.eq_ofNat_of_zero_le h0
    rw [show (X : Int) - 1 = ((X - 1 : Nat) : Int) by omega, Cm.i64_and (X : Int) (X - 1) (by omega), show ((X : Int)).toNat = X by omega, ← few16 X (by omega) (by omega), show ((X : Int) % 18446744073709551616).toNat = X by omega]
    omega
end Tp
end Go.Proofs.YtdcnkmkaafimlaaDoor
