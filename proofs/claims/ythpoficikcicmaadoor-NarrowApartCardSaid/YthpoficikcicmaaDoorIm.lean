/- Plain facts on operations, their names and fields, and on which instructions may be, without any program. No conditions but those that each fact names. -/
import Derived.Test.YthpoficikcicmaaDoorCm
namespace Go.Proofs.YthpoficikcicmaaDoor
namespace Im

/-- the names, by their number; none has the first place -/
def tab : List (List UInt8) := [[], [97, 110, 100], [101, 111, 114], [111, 114, 114], [98, 105, 99], [97, 100, 100], [97, 100, 99], [115, 117, 98], [115, 98, 99], [114, 115, 98], [109, 111, 118], [109, 118, 110], [99, 109, 112], [99, 109, 110], [116, 115, 116], [116, 101, 113], [108, 115, 108], [108, 115, 114], [97, 115, 114], [114, 111, 114], [109, 117, 108], [117, 100, 105, 118], [115, 100, 105, 118], [109, 111, 118, 119], [109, 111, 118, 116], [108, 100, 114], [108, 100, 114, 98], [108, 100, 114, 104], [115, 116, 114], [115, 116, 114, 98], [115, 116, 114, 104], [108, 100, 109], [115, 116, 109], [112, 117, 115, 104], [112, 111, 112], [98], [98, 108], [99, 98, 122], [99, 98, 110, 122], [98, 120], [108, 100, 114], [97, 100, 114], [105, 116], [110, 111, 112], [98, 107, 112, 116], [116, 98, 98]]
def nm (k : Nat) : List UInt8 := tab.getD k []
def opB (op : Int) : Bool := decide (1 ≤ op) && decide (op ≤ 45)
def nameI (op : Int) : List UInt8 := if 1 ≤ op ∧ op ≤ 45 then nm op.toNat else []
/-- the first operation of the name s, from k on; 0 where there is none -/
def findFrom : Nat → Nat → List UInt8 → Int
  | 0, _, _ => 0
  | n + 1, k, s => if k ≠ 0 ∧ nm k = s then (k : Int) else findFrom n (k + 1) s
def findI (s : List UInt8) : Int := findFrom 46 0 s
def setsB (op : Int) : Bool := decide (1 ≤ op ∧ op ≤ 11) || decide (16 ≤ op ∧ op ≤ 19)

theorem name_in {op : Int} (h : 1 ≤ op ∧ op ≤ 45) : nameI op = nm op.toNat := by unfold nameI; rw [if_pos h]
theorem name_no {op : Int} (h : ¬ (1 ≤ op ∧ op ≤ 45)) : nameI op = [] := by unfold nameI; rw [if_neg h]
theorem from_step {k : Nat} {s : List UInt8} (h : k < 46) : findFrom (46 - k) k s = if k ≠ 0 ∧ nm k = s then (k : Int) else findFrom (46 - (k + 1)) (k + 1) s := by
  rw [show 46 - k = (46 - (k + 1)) + 1 by omega, findFrom]
theorem from_end {k : Nat} {s : List UInt8} (h : ¬ k < 46) : findFrom (46 - k) k s = 0 := by
  rw [show 46 - k = 0 by omega, findFrom]
/-- what is found is that name's, or an earlier one's of the same name -/
theorem find_all : ((List.range 46).all fun k => k == 0 || findI (nm k) == (k : Int) || (k == 40 && findI (nm k) == 25)) = true := by decide +kernel
theorem find_name (op : Int) (h : 1 ≤ op ∧ op ≤ 45) : findI (nameI op) = op ∨ (op = 40 ∧ findI (nameI op) = 25) := by
  have h' := find_all
  rw [List.all_eq_true] at h'
  have h2 := h' op.toNat (by simp; omega)
  rw [name_in h]
  simp only [Bool.or_eq_true, Bool.and_eq_true, beq_iff_eq] at h2
  rcases h2 with (h2 | h2) | ⟨h2, h3⟩
  · omega
  · left; rw [h2]; omega
  · right; exact ⟨by omega, h3⟩
theorem find_none : findI [] = 0 := by decide +kernel

/-! which instructions may be -/
/-- what an operation may have told: sets of registers, numbers from least to most by step, the list's registers and how many at least -/
structure F where
  rd : Int
  rn : Int
  rm : Int
  least : Int
  most : Int
  step : Int
  list : Int
  count : Int
def fieldsI (op mode : Int) (s : Bool) : F :=
  if op ≤ 9 then ⟨24575, 24575, 24575, 0, 4294967295, 1, 0, 0⟩
  else if op ≤ 11 then (if op = 10 ∧ mode = 2 ∧ s = false then ⟨32767, 0, 32767, 0, 0, 0, 0, 0⟩ else ⟨24575, 0, 24575, 0, 4294967295, 1, 0, 0⟩)
  else if op ≤ 15 then ⟨0, 24575, 24575, 0, 4294967295, 1, 0, 0⟩
  else if op = 16 ∨ op = 19 then ⟨24575, 24575, 24575, 1, 31, 1, 0, 0⟩
  else if op ≤ 18 then ⟨24575, 24575, 24575, 1, 32, 1, 0, 0⟩
  else if op ≤ 22 then ⟨24575, 24575, 24575, 0, 0, 0, 0, 0⟩
  else if op ≤ 24 then ⟨24575, 0, 0, 0, 65535, 1, 0, 0⟩
  else if op ≤ 30 then ⟨24575, 32767, 24575, 0, 4095, 1, 0, 0⟩
  else if op ≤ 32 then ⟨0, 24575, 0, 0, 0, 0, 24575, 2⟩
  else if op = 33 then ⟨0, 0, 0, 0, 0, 0, 24575, 1⟩
  else if op = 34 then ⟨0, 0, 0, 0, 0, 0, 57343, 1⟩
  else if op ≤ 36 then ⟨0, 0, 0, -16777216, 16777214, 2, 0, 0⟩
  else if op ≤ 38 then ⟨0, 255, 0, 0, 126, 2, 0, 0⟩
  else if op = 39 then ⟨0, 0, 32767, 0, 0, 0, 0, 0⟩
  else if op ≤ 41 then ⟨24575, 0, 0, -4095, 4095, 1, 0, 0⟩
  else if op = 42 then ⟨0, 0, 0, 1, 15, 1, 0, 0⟩
  else if op = 43 then ⟨0, 0, 0, 0, 0, 0, 0, 0⟩
  else if op = 44 then ⟨0, 0, 0, 0, 255, 1, 0, 0⟩
  else ⟨0, 24575, 24575, 0, 0, 0, 0, 0⟩

def bit (m : Int) (r : Nat) : Bool := m / 2 ^ r % 2 == 1
/-- a register of the set; of none, zero -/
def oneB (set r : Int) : Bool := if set = 0 then decide (r = 0) else decide (0 ≤ r ∧ r ≤ 15) && bit set r.toNat
def hasB (least most step n : Int) : Bool := !(step == 0) && decide (least ≤ n) && decide (n ≤ most) && (Int.tmod n step == 0)
def lastB (f : F) (mode imm rm : Int) : Bool :=
  if mode = 0 then f.step == 0 && f.rm == 0 && imm == 0 && rm == 0
  else if mode = 1 then hasB f.least f.most f.step imm && rm == 0
  else if mode = 2 then !(f.rm == 0) && oneB f.rm rm && imm == 0
  else false
/-- how many bits are there among the lowest 16 -/
def pop (m : Nat) : Nat := m % 2 + m / 2 % 2 + m / 4 % 2 + m / 8 % 2 + m / 16 % 2 + m / 32 % 2 + m / 64 % 2 + m / 128 % 2 + m / 256 % 2 + m / 512 % 2 + m / 1024 % 2 + m / 2048 % 2 + m / 4096 % 2 + m / 8192 % 2 + m / 16384 % 2 + m / 32768 % 2
def listB (f : F) (rn list : Int) : Bool :=
  !(!(f.rn == 0) && bit list rn.toNat) && (bits .andNot .i64 list f.list == 0) && !(bits .and .i64 list 49152 == 49152) && decide (f.count ≤ (pop (list % 18446744073709551616).toNat : Int))
def condB (op cond imm : Int) : Bool :=
  if op = 35 then decide (0 ≤ cond ∧ cond ≤ 14) else if op = 42 then !(Cm.condsI cond imm).isEmpty else cond == 0
def checkB (op cond rd rn rm imm mode list : Int) (s : Bool) : Bool :=
  decide (1 ≤ op ∧ op ≤ 45) && (oneB (fieldsI op mode s).rd rd && oneB (fieldsI op mode s).rn rn) && lastB (fieldsI op mode s) mode imm rm && listB (fieldsI op mode s) rn list && condB op cond imm && !(s && !setsB op)
def errI (b : Bool) : Int := if b then 0 else 6

/-! bits of ints -/
/-- what has no bit outside of m is at most m -/
theorem andNot_le (x : Int) (m : Nat) (hm : m < 9223372036854775808) (h : bits .andNot .i64 x (m : Int) = 0) : x % 18446744073709551616 ≤ m := by
  have e1 : bits .andNot .i64 x (m : Int) = IntKind.i64.wrap ((BitVec.ofInt 64 x &&& ~~~ BitVec.ofInt 64 (m : Int)).toNat : Int) := rfl
  have hb := (BitVec.ofInt 64 x &&& ~~~ BitVec.ofInt 64 (m : Int)).isLt
  rw [e1, IntKind.wrap_i64] at h
  have hz : (BitVec.ofInt 64 x &&& ~~~ BitVec.ofInt 64 (m : Int)).toNat = 0 := by omega
  have hz' : BitVec.ofInt 64 x &&& ~~~ BitVec.ofInt 64 (m : Int) = 0#64 := BitVec.eq_of_toNat_eq (by rw [hz]; rfl)
  have hx : BitVec.ofInt 64 x = BitVec.ofInt 64 x &&& BitVec.ofInt 64 (m : Int) := by
    apply BitVec.eq_of_getLsbD_eq
    intro i hi
    have := congrArg (fun b => b.getLsbD i) hz'
    simp only [BitVec.getLsbD_and, BitVec.getLsbD_not, hi, decide_true, Bool.true_and, BitVec.getLsbD_zero] at this ⊢
    revert this
    cases (BitVec.ofInt 64 x).getLsbD i <;> cases (BitVec.ofInt 64 (m : Int)).getLsbD i <;> simp
  have em : (BitVec.ofInt 64 (m : Int)).toNat = m := by rw [BitVec.toNat_ofInt]; omega
  have ex : ((BitVec.ofInt 64 x).toNat : Int) = x % 18446744073709551616 := by rw [BitVec.toNat_ofInt]; omega
  have hl : (BitVec.ofInt 64 x).toNat ≤ m := by
    rw [hx, BitVec.toNat_and, em]; exact Nat.and_le_right
  omega
/-- bit 20 changed is bit 20 there, where no bit is above 15 -/
theorem xor_20 (x : Int) (h0 : 0 ≤ x) (h1 : x < 65536) : bits .xor .i64 x 1048576 = x + 1048576 := by
  obtain ⟨X, rfl⟩ := Int.eq_ofNat_of_zero_le h0
  have h : bits .xor .i64 (X : Int) 1048576 = IntKind.i64.wrap (((BitVec.ofInt 64 (X : Int)).toNat ^^^ (BitVec.ofInt 64 1048576).toNat : Nat) : Int) := by
    rw [← BitVec.toNat_xor]; rfl
  have ea : (BitVec.ofInt 64 (X : Int)).toNat = X := by rw [BitVec.toNat_ofInt]; omega
  have eb : (BitVec.ofInt 64 1048576).toNat = 1048576 := by rfl
  have ec : X ^^^ 1048576 = X + 1048576 := by
    have e1 : X ^^^ 1048576 = 1048576 ||| X := by
      apply Nat.eq_of_testBit_eq
      intro i
      rw [Nat.testBit_xor, Nat.testBit_or, show 1048576 = 2 ^ 20 by rfl, Nat.testBit_two_pow]
      by_cases hi : 20 = i
      · subst hi
        have : X.testBit 20 = false := Nat.testBit_lt_two_pow (by omega)
        rw [this]; simp
      · simp [hi]
    have e2 := Nat.two_pow_add_eq_or_of_lt (i := 20) (b := X) (by omega) 1
    rw [e1, show 1048576 = 2 ^ 20 * 1 by rfl, ← e2]; omega
  rw [h, ea, eb, ec, IntKind.wrap_i64]
  omega
end Im
end Go.Proofs.YthpoficikcicmaaDoor
