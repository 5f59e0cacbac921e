/- Small facts that every walk here wants: draws stand outside of new blocks and stores; a callee that only draws. No conditions. Plain facts on conditions, blocks and IT states, without any program. No conditions but those that each fact names. Plain facts on operations, their names and fields, and on which instructions may be, without any program. No conditions but those that each fact names. The halfword of an instruction, plainly, and the instruction of a halfword; the second one undoes the first. No program; no conditions but those that each fact names. The instruction of an instruction's halfword is that instruction: sums. Words joined bit by bit out of fields that stand apart are sums (ints). No program; no conditions but those that each fact names. Whether an instruction may be, as the document's own answer reckons it, plainly; it is what the table of fields tells. No program; no conditions but those that each fact names. -/
import Derived.Test.YtcphhojdfpedkaaDoorRows
import Derived.WalkKit
import Derived.ProofKit
import Derived.OpenShut
import Derived.WalkLawsBesides
import Derived.Lib.Hide
import Derived.Outline
import Derived.Deep.QuietTactic
import Derived.BigQuiet
import Derived.Laws.BitsAllLaws

namespace Go.Proofs.YtcphhojdfpedkaaDoor
open Go.ChangeShapes Go.WideShapes Go.ChangeAt Go.RowKit
theorem ret_int {k : IntKind} {a b : Int} (h : a = b) : Ending.returned (.int k a) = .returned (.int k b) := by rw [h]
theorem ret_bool {a b : Bool} (h : a = b) : Ending.returned (.bool a) = .returned (.bool b) := by rw [h]
theorem below_drewN {B : Nat} {a w : World} (h : Below B a w) (n : Nat) : Below B a (w.drewN n) := ⟨h.os, h.tape, h.output, h.size, h.block⟩
theorem drawn_on {P : Program} {g : FuncId} {xs : Array Value} {r : Value} {w : World} {a k : Nat}
    (c : Calls P g xs (w.drewN (a + k)) fun e w' => e = .returned r ∧ ∃ m, w' = (w.drewN (a + k)).drewN m) :
    Calls P g xs (w.drewN (a + k)) fun e w' => e = .returned r ∧ ∃ m, w' = w.drewN (a + m) := by
  refine c.mono ?_
  rintro e w' ⟨he, m, rfl⟩
  exact ⟨he, k + m, by rw [World.drewN_drewN, Nat.add_assoc]⟩
@[simp, go_sem] theorem alloc_drewN (w : World) (n : Nat) (o : Obj) : (w.drewN n).alloc o = (w.alloc o).drewN n := rfl
@[simp, go_sem] theorem setCell_drewN (w : World) (n : Nat) (a : Addr) (v : Value) : (w.drewN n).setCell a v = (w.setCell a v).drewN n := rfl
end Go.Proofs.YtcphhojdfpedkaaDoor

namespace Go.Proofs.YtcphhojdfpedkaaDoor
namespace Cm
def turnI (c : Int) : Int := if 0 ≤ c ∧ c ≤ 13 then (if c % 2 = 0 then c + 1 else c - 1) else 14
def condI (it : Int) : Int := if it % 16 = 0 then 14 else it % 256 / 16
def nextI (it : Int) : Int := if it % 8 = 0 then 0 else it % 256 / 32 * 32 + it % 16 * 2
def condsFrom : Nat → Int → List Int → List Int
  | 0, _, acc => acc
  | n + 1, it, acc => if it % 8 = 0 then acc else if condI (nextI it) = 15 then [] else condsFrom n (nextI it) (acc ++ [condI (nextI it)])
def condsI (c mask : Int) : List Int := if 0 ≤ c ∧ c ≤ 14 ∧ 1 ≤ mask ∧ mask ≤ 15 then condsFrom 3 (c * 16 + mask) [c] else []
def rcondsFrom (c : Int) : Nat → Int → List Int → List Int
  | 0, _, acc => acc
  | n + 1, m, acc => if m = 8 then acc else if (decide (8 ≤ m)) = (decide (c % 2 = 1)) then rcondsFrom c n (m % 8 * 2) (acc ++ [c]) else if c = 14 then [] else rcondsFrom c n (m % 8 * 2) (acc ++ [turnI c])
theorem all_pairs {p : Int → Int → Bool} (h : ((List.range 15).all fun a => (List.range 16).all fun b => p a b) = true) (c m : Int) (h1 : 0 ≤ c ∧ c ≤ 14) (h2 : 0 ≤ m ∧ m ≤ 15) : p c m = true := by
  rw [List.all_eq_true] at h
  have h' := h c.toNat (by simp; omega)
  rw [List.all_eq_true] at h'
  have h'' := h' m.toNat (by simp; omega)
  rwa [show ((c.toNat : Nat) : Int) = c by omega, show ((m.toNat : Nat) : Int) = m by omega] at h''
theorem conds_same (c m : Int) (h1 : 0 ≤ c ∧ c ≤ 14) (h2 : 1 ≤ m ∧ m ≤ 15) : rcondsFrom c 3 m [c] = condsFrom 3 (c * 16 + m) [c] := by
  have h := all_pairs (p := fun c m => m == 0 || rcondsFrom c 3 m [c] == condsFrom 3 (c * 16 + m) [c]) (by decide +kernel) c m h1 (by omega)
  simp only [Bool.or_eq_true, beq_iff_eq] at h
  rcases h with h | h
  · omega
  · exact h
theorem conds_no {c m : Int} (h : ¬ (0 ≤ c ∧ c ≤ 14 ∧ 1 ≤ m ∧ m ≤ 15)) : condsI c m = [] := by unfold condsI; rw [if_neg h]
theorem turn_no (c : Int) (h : ¬ (0 ≤ c ∧ c ≤ 13)) : turnI c = 14 := by unfold turnI; rw [if_neg h]
/-! bits of ints -/
theorem i64_and (x : Int) (m : Nat) (hm : m < 9223372036854775808) : bits .and .i64 x (m : Int) = (((x % 18446744073709551616).toNat &&& m : Nat) : Int) := by
  have hl : (x % 18446744073709551616).toNat &&& m ≤ m := Nat.and_le_right
  have h : bits .and .i64 x (m : Int) = IntKind.i64.wrap (((BitVec.ofInt 64 x).toNat &&& (BitVec.ofInt 64 m).toNat : Nat) : Int) := by
    rw [← BitVec.toNat_and]; rfl
  have em : (BitVec.ofInt 64 (m : Int)).toNat = m := by rw [BitVec.toNat_ofInt]; omega
  have ex : (BitVec.ofInt 64 x).toNat = (x % 18446744073709551616).toNat := by rw [BitVec.toNat_ofInt]; rfl
  rw [h, em, ex, IntKind.wrap_i64]
  omega
theorem i64_or_nat (a b : Nat) (ha : a < 9223372036854775808) (hb : b < 9223372036854775808) : bits .or .i64 (a : Int) (b : Int) = ((a ||| b : Nat) : Int) := by
  have hc : a ||| b < 2 ^ 63 := Nat.or_lt_two_pow (by omega) (by omega)
  have h : bits .or .i64 (a : Int) (b : Int) = IntKind.i64.wrap (((BitVec.ofInt 64 a).toNat ||| (BitVec.ofInt 64 b).toNat : Nat) : Int) := by
    rw [← BitVec.toNat_or]; rfl
  have ea : (BitVec.ofInt 64 (a : Int)).toNat = a := by rw [BitVec.toNat_ofInt]; omega
  have eb : (BitVec.ofInt 64 (b : Int)).toNat = b := by rw [BitVec.toNat_ofInt]; omega
  rw [h, ea, eb, IntKind.wrap_i64]
  omega
theorem and1 (x : Int) : bits .and .i64 x 1 = x % 2 := by rw [show (1 : Int) = ((1 : Nat) : Int) by rfl, i64_and x 1 (by decide), nat_mask1]; omega
theorem and7 (x : Int) : bits .and .i64 x 7 = x % 8 := by rw [show (7 : Int) = ((7 : Nat) : Int) by rfl, i64_and x 7 (by decide), nat_mask3]; omega
theorem and15 (x : Int) : bits .and .i64 x 15 = x % 16 := by rw [show (15 : Int) = ((15 : Nat) : Int) by rfl, i64_and x 15 (by decide), nat_mask4]; omega
theorem and31 (x : Int) : bits .and .i64 x 31 = x % 32 := by rw [show (31 : Int) = ((31 : Nat) : Int) by rfl, i64_and x 31 (by decide), nat_mask5]; omega
theorem and255 (x : Int) : bits .and .i64 x 255 = x % 256 := by rw [show (255 : Int) = ((255 : Nat) : Int) by rfl, i64_and x 255 (by decide), nat_mask8]; omega
theorem nat224_all : ((List.range 256).all fun y => (y &&& 224) == y / 32 * 32) = true := by decide +kernel
theorem nat224 (y : Nat) : y &&& 224 = y % 256 / 32 * 32 := by
  have e : y &&& 224 = (y &&& 255) &&& 224 := by rw [Nat.and_assoc]; rfl
  rw [e, nat_mask8]
  have h := nat224_all
  rw [List.all_eq_true] at h
  simpa using h (y % 256) (by simp; omega)
theorem and224 (x : Int) : bits .and .i64 x 224 = x % 256 / 32 * 32 := by rw [show (224 : Int) = ((224 : Nat) : Int) by rfl, i64_and x 224 (by decide), nat224]; omega
theorem or_join (a b : Int) (i : Nat) (hi : i ≤ 32) (h1 : 0 ≤ a) (h2 : a < 4294967296) (h3 : a % 2 ^ i = 0) (h4 : 0 ≤ b) (h5 : b < 2 ^ i) : bits .or .i64 a b = a + b := by
  have hp : (2 : Nat) ^ i ≤ 2 ^ 32 := Nat.pow_le_pow_right (by omega) hi
  obtain ⟨A, rfl⟩ := Int.eq_ofNat_of_zero_le h1
  obtain ⟨B, rfl⟩ := Int.eq_ofNat_of_zero_le h4
  have h3' : A % 2 ^ i = 0 := by exact_mod_cast h3
  have h5' : B < 2 ^ i := by exact_mod_cast h5
  rw [i64_or_nat A B (by omega) (by omega), nat_join i A B h3' h5']
  simp
end Cm
end Go.Proofs.YtcphhojdfpedkaaDoor

namespace Go.Proofs.YtcphhojdfpedkaaDoor
namespace Im
def setsB (op : Int) : Bool := decide (1 ≤ op ∧ op ≤ 11) || decide (16 ≤ op ∧ op ≤ 19)
/-! which instructions may be -/
structure F where
  rd : Int
  rn : Int
  rm : Int
  least : Int
  most : Int
  step : Int
  list : Int
  count : Int
def fieldsI (op mode : Int) (s : Bool) : F :=
  if op ≤ 9 then ⟨24575, 24575, 24575, 0, 4294967295, 1, 0, 0⟩
  else if op ≤ 11 then (if op = 10 ∧ mode = 2 ∧ s = false then ⟨32767, 0, 32767, 0, 0, 0, 0, 0⟩ else ⟨24575, 0, 24575, 0, 4294967295, 1, 0, 0⟩)
  else if op ≤ 15 then ⟨0, 24575, 24575, 0, 4294967295, 1, 0, 0⟩
  else if op = 16 ∨ op = 19 then ⟨24575, 24575, 24575, 1, 31, 1, 0, 0⟩
  else if op ≤ 18 then ⟨24575, 24575, 24575, 1, 32, 1, 0, 0⟩
  else if op ≤ 22 then ⟨24575, 24575, 24575, 0, 0, 0, 0, 0⟩
  else if op ≤ 24 then ⟨24575, 0, 0, 0, 65535, 1, 0, 0⟩
  else if op ≤ 30 then ⟨24575, 32767, 24575, 0, 4095, 1, 0, 0⟩
  else if op ≤ 32 then ⟨0, 24575, 0, 0, 0, 0, 24575, 2⟩
  else if op = 33 then ⟨0, 0, 0, 0, 0, 0, 24575, 1⟩
  else if op = 34 then ⟨0, 0, 0, 0, 0, 0, 57343, 1⟩
  else if op ≤ 36 then ⟨0, 0, 0, -16777216, 16777214, 2, 0, 0⟩
  else if op ≤ 38 then ⟨0, 255, 0, 0, 126, 2, 0, 0⟩
  else if op = 39 then ⟨0, 0, 32767, 0, 0, 0, 0, 0⟩
  else if op ≤ 41 then ⟨24575, 0, 0, -4095, 4095, 1, 0, 0⟩
  else if op = 42 then ⟨0, 0, 0, 1, 15, 1, 0, 0⟩
  else if op = 43 then ⟨0, 0, 0, 0, 0, 0, 0, 0⟩
  else if op = 44 then ⟨0, 0, 0, 0, 255, 1, 0, 0⟩
  else ⟨0, 24575, 24575, 0, 0, 0, 0, 0⟩
def bit (m : Int) (r : Nat) : Bool := m / 2 ^ r % 2 == 1
def oneB (set r : Int) : Bool := if set = 0 then decide (r = 0) else decide (0 ≤ r ∧ r ≤ 15) && bit set r.toNat
def hasB (least most step n : Int) : Bool := !(step == 0) && decide (least ≤ n) && decide (n ≤ most) && (Int.tmod n step == 0)
def lastB (f : F) (mode imm rm : Int) : Bool :=
  if mode = 0 then f.step == 0 && f.rm == 0 && imm == 0 && rm == 0
  else if mode = 1 then hasB f.least f.most f.step imm && rm == 0
  else if mode = 2 then !(f.rm == 0) && oneB f.rm rm && imm == 0
  else false
def pop (m : Nat) : Nat := m % 2 + m / 2 % 2 + m / 4 % 2 + m / 8 % 2 + m / 16 % 2 + m / 32 % 2 + m / 64 % 2 + m / 128 % 2 + m / 256 % 2 + m / 512 % 2 + m / 1024 % 2 + m / 2048 % 2 + m / 4096 % 2 + m / 8192 % 2 + m / 16384 % 2 + m / 32768 % 2
def listB (f : F) (rn list : Int) : Bool :=
  !(!(f.rn == 0) && bit list rn.toNat) && (bits .andNot .i64 list f.list == 0) && !(bits .and .i64 list 49152 == 49152) && decide (f.count ≤ (pop (list % 18446744073709551616).toNat : Int))
def condB (op cond imm : Int) : Bool :=
  if op = 35 then decide (0 ≤ cond ∧ cond ≤ 14) else if op = 42 then !(Cm.condsI cond imm).isEmpty else cond == 0
def checkB (op cond rd rn rm imm mode list : Int) (s : Bool) : Bool :=
  decide (1 ≤ op ∧ op ≤ 45) && (oneB (fieldsI op mode s).rd rd && oneB (fieldsI op mode s).rn rn) && lastB (fieldsI op mode s) mode imm rm && listB (fieldsI op mode s) rn list && condB op cond imm && !(s && !setsB op)
def errI (b : Bool) : Int := if b then 0 else 6
/-! bits of ints -/
theorem andNot_le (x : Int) (m : Nat) (hm : m < 9223372036854775808) (h : bits .andNot .i64 x (m : Int) = 0) : x % 18446744073709551616 ≤ m := by
  have e1 : bits .andNot .i64 x (m : Int) = IntKind.i64.wrap ((BitVec.ofInt 64 x &&& ~~~ BitVec.ofInt 64 (m : Int)).toNat : Int) := rfl
  have hb := (BitVec.ofInt 64 x &&& ~~~ BitVec.ofInt 64 (m : Int)).isLt
  rw [e1, IntKind.wrap_i64] at h
  have hz : (BitVec.ofInt 64 x &&& ~~~ BitVec.ofInt 64 (m : Int)).toNat = 0 := by omega
  have hz' : BitVec.ofInt 64 x &&& ~~~ BitVec.ofInt 64 (m : Int) = 0#64 := BitVec.eq_of_toNat_eq (by rw [hz]; rfl)
  have hx : BitVec.ofInt 64 x = BitVec.ofInt 64 x &&& BitVec.ofInt 64 (m : Int) := by
    apply BitVec.eq_of_getLsbD_eq
    intro i hi
    have := congrArg (fun b => b.getLsbD i) hz'
    simp only [BitVec.getLsbD_and, BitVec.getLsbD_not, hi, decide_true, Bool.true_and, BitVec.getLsbD_zero] at this ⊢
    revert this
    cases (BitVec.ofInt 64 x).getLsbD i <;> cases (BitVec.ofInt 64 (m : Int)).getLsbD i <;> simp
  have em : (BitVec.ofInt 64 (m : Int)).toNat = m := by rw [BitVec.toNat_ofInt]; omega
  have ex : ((BitVec.ofInt 64 x).toNat : Int) = x % 18446744073709551616 := by rw [BitVec.toNat_ofInt]; omega
  have hl : (BitVec.ofInt 64 x).toNat ≤ m := by
    rw [hx, BitVec.toNat_and, em]; exact Nat.and_le_right
  omega
end Im
end Go.Proofs.YtcphhojdfpedkaaDoor

namespace Go.Proofs.YtcphhojdfpedkaaDoor
namespace Nm
structure I where
  op : Int
  cond : Int
  rd : Int
  rn : Int
  rm : Int
  imm : Int
  mode : Int
  list : Int
  s : Bool
def low (r : Int) : Bool := decide (0 ≤ r ∧ r ≤ 7)
def up (r : Int) : Int := r / 8 * 128 + r % 8
def opt (b : Bool) (h : Int) : Option Int := if b then some h else none
def twoI (i : I) (f it : Bool) : Option Int :=
  if i.op = 20 then opt (it && (i.rd == i.rm && (low i.rd && low i.rn))) (17216 + i.rn * 8 + i.rd)
  else if i.op = 9 then opt (i.mode == 1 && (i.imm == 0 && (f && (low i.rd && low i.rn)))) (16960 + i.rn * 8 + i.rd)
  else if i.mode ≠ 2 then none
  else if i.op = 1 then opt (i.rd == i.rn && (f && (low i.rd && low i.rm))) (16384 + i.rm * 8 + i.rd)
  else if i.op = 2 then opt (i.rd == i.rn && (f && (low i.rd && low i.rm))) (16448 + i.rm * 8 + i.rd)
  else if i.op = 6 then opt (i.rd == i.rn && (f && (low i.rd && low i.rm))) (16704 + i.rm * 8 + i.rd)
  else if i.op = 8 then opt (i.rd == i.rn && (f && (low i.rd && low i.rm))) (16768 + i.rm * 8 + i.rd)
  else if i.op = 3 then opt (i.rd == i.rn && (f && (low i.rd && low i.rm))) (17152 + i.rm * 8 + i.rd)
  else if i.op = 4 then opt (i.rd == i.rn && (f && (low i.rd && low i.rm))) (17280 + i.rm * 8 + i.rd)
  else if i.op = 11 then opt (f && (low i.rd && low i.rm)) (17344 + i.rm * 8 + i.rd)
  else if i.op = 14 then opt (low i.rn && low i.rm) (16896 + i.rm * 8 + i.rn)
  else if i.op = 13 then opt (low i.rn && low i.rm) (17088 + i.rm * 8 + i.rn)
  else none
def moveI (i : I) (f it : Bool) : Option Int :=
  if i.op = 12 then
    if i.mode = 1 then opt (low i.rn && decide (i.imm ≤ 255)) (10240 + i.rn * 256 + i.imm)
    else if (low i.rn && low i.rm) = true then some (17024 + i.rm * 8 + i.rn) else some (17664 + i.rm * 8 + up i.rn)
  else if i.mode = 1 then opt (low i.rd && (decide (i.imm ≤ 255) && f)) (8192 + i.rd * 256 + i.imm)
  else if i.s = true then opt (!it && (low i.rd && low i.rm)) (i.rm * 8 + i.rd)
  else some (17920 + i.rm * 8 + up i.rd)
def subI (i : I) : Int := if i.op = 7 then 1 else 0
def sumI (i : I) (f : Bool) : Option Int :=
  if i.mode = 2 then
    if (f && (low i.rd && (low i.rn && low i.rm))) = true then some (6144 + subI i * 512 + i.rm * 64 + i.rn * 8 + i.rd)
    else opt (i.op == 5 && (i.rd == i.rn && !i.s)) (17408 + i.rm * 8 + up i.rd)
  else if (f && (low i.rd && (low i.rn && decide (i.imm ≤ 7)))) = true then some (7168 + subI i * 512 + i.imm * 64 + i.rn * 8 + i.rd)
  else opt (f && (i.rd == i.rn && (low i.rd && decide (i.imm ≤ 255)))) (12288 + subI i * 2048 + i.rd * 256 + i.imm)
def shiftI (i : I) (f : Bool) : Option Int :=
  if i.mode = 1 then opt (!(i.op == 19) && (f && (low i.rd && low i.rn))) ((i.op - 16) * 2048 + i.imm % 32 * 64 + i.rn * 8 + i.rd)
  else opt (f && (i.rd == i.rn && (low i.rd && low i.rm))) ((if i.op = 16 then 16512 else if i.op = 17 then 16576 else if i.op = 18 then 16640 else 16832) + i.rm * 8 + i.rd)
def regB (op : Int) : Int := if op = 25 then 22528 else if op = 26 then 23552 else if op = 27 then 23040 else if op = 28 then 20480 else if op = 29 then 21504 else 20992
def immB (op : Int) : Int := if op = 25 then 26624 else if op = 26 then 30720 else if op = 27 then 34816 else if op = 28 then 24576 else if op = 29 then 28672 else 32768
def byB (op : Int) : Int := if op = 25 ∨ op = 28 then 4 else if op = 26 ∨ op = 29 then 1 else 2
def loadI (i : I) : Option Int :=
  if i.mode = 2 then opt (low i.rd && (low i.rn && low i.rm)) (regB i.op + i.rm * 64 + i.rn * 8 + i.rd)
  else if i.rn = 13 then opt ((i.op == 25 || i.op == 28) && (low i.rd && (i.imm % 4 == 0 && decide (i.imm ≤ 1020)))) ((if i.op = 28 then 36864 else 38912) + i.rd * 256 + i.imm / 4)
  else opt (low i.rd && (low i.rn && (i.imm % byB i.op == 0 && decide (i.imm / byB i.op ≤ 31)))) (immB i.op + i.imm / byB i.op * 64 + i.rn * 8 + i.rd)
def fits1 (n : Int) : Bool := decide (-256 ≤ n) && (decide (n ≤ 254) && n % 2 == 0)
def fits2 (n : Int) : Bool := decide (-2048 ≤ n) && (decide (n ≤ 2046) && n % 2 == 0)
def branchI (i : I) (it : Bool) : Option Int :=
  if i.op = 35 then
    if i.cond = 14 then opt (fits2 i.imm) (57344 + i.imm / 2 % 2048)
    else opt (!it && fits1 i.imm) (53248 + i.cond * 256 + i.imm / 2 % 256)
  else opt (!it) ((if i.op = 38 then 47360 else 45312) + i.imm / 64 % 2 * 512 + i.imm / 2 % 32 * 8 + i.rn)
def restI (i : I) (it : Bool) : Option Int :=
  if i.op = 32 then opt (low i.rn && decide (i.list ≤ 255)) (49152 + i.rn * 256 + i.list)
  else if i.op = 31 then opt (low i.rn && decide (i.list ≤ 255)) (51200 + i.rn * 256 + i.list)
  else if i.op = 33 then opt (i.list / 256 % 64 == 0) (46080 + i.list / 16384 % 2 * 256 + i.list % 256)
  else if i.op = 34 then opt (i.list / 256 % 128 == 0) (48128 + i.list / 32768 % 2 * 256 + i.list % 256)
  else if i.op = 39 then some (18176 + i.rm * 8)
  else if i.op = 40 then opt (low i.rd && (decide (0 ≤ i.imm) && (decide (i.imm ≤ 1020) && i.imm % 4 == 0))) (18432 + i.rd * 256 + i.imm / 4)
  else if i.op = 41 then opt (low i.rd && (decide (0 ≤ i.imm) && (decide (i.imm ≤ 1020) && i.imm % 4 == 0))) (40960 + i.rd * 256 + i.imm / 4)
  else if i.op = 42 then opt (!it) (48896 + i.cond * 16 + i.imm)
  else if i.op = 43 then some 48896
  else if i.op = 44 then some (48640 + i.imm)
  else none
def okB (i : I) : Bool := Im.checkB i.op i.cond i.rd i.rn i.rm i.imm i.mode i.list i.s
def rowI (i : I) (it : Bool) : Option Int :=
  if i.op = 5 ∨ i.op = 7 then sumI i (i.s != it)
  else if i.op = 10 ∨ i.op = 12 then moveI i (i.s != it) it
  else if i.op ≤ 14 ∨ i.op = 20 then twoI i (i.s != it) it
  else if 16 ≤ i.op ∧ i.op ≤ 19 then shiftI i (i.s != it)
  else if 25 ≤ i.op ∧ i.op ≤ 30 then loadI i
  else if i.op = 35 ∨ i.op = 37 ∨ i.op = 38 then branchI i it
  else restI i it
def encI (i : I) (it : Bool) : Option Int := if okB i = true then rowI i it else none
/-! back -/
def hi4 (h : Int) : Int := h / 128 % 2 * 8 + h % 8
def dec0 (h : Int) (it : Bool) : I :=
  if h < 64 then ⟨10, 0, h % 8, 0, h / 8 % 8, 0, 2, 0, true⟩
  else if h < 2048 then ⟨16, 0, h % 8, h / 8 % 8, 0, h / 64 % 32, 1, 0, !it⟩
  else if h < 4096 then ⟨17, 0, h % 8, h / 8 % 8, 0, if h / 64 % 32 = 0 then 32 else h / 64 % 32, 1, 0, !it⟩
  else if h < 6144 then ⟨18, 0, h % 8, h / 8 % 8, 0, if h / 64 % 32 = 0 then 32 else h / 64 % 32, 1, 0, !it⟩
  else if h < 6656 then ⟨5, 0, h % 8, h / 8 % 8, h / 64 % 8, 0, 2, 0, !it⟩
  else if h < 7168 then ⟨7, 0, h % 8, h / 8 % 8, h / 64 % 8, 0, 2, 0, !it⟩
  else if h < 7680 then ⟨5, 0, h % 8, h / 8 % 8, 0, h / 64 % 8, 1, 0, !it⟩
  else if h < 8192 then ⟨7, 0, h % 8, h / 8 % 8, 0, h / 64 % 8, 1, 0, !it⟩
  else if h < 10240 then ⟨10, 0, h / 256 % 8, 0, 0, h % 256, 1, 0, !it⟩
  else if h < 12288 then ⟨12, 0, 0, h / 256 % 8, 0, h % 256, 1, 0, false⟩
  else if h < 14336 then ⟨5, 0, h / 256 % 8, h / 256 % 8, 0, h % 256, 1, 0, !it⟩
  else ⟨7, 0, h / 256 % 8, h / 256 % 8, 0, h % 256, 1, 0, !it⟩
def dec1 (h : Int) (it : Bool) : I :=
  if h < 16448 then ⟨1, 0, h % 8, h % 8, h / 8 % 8, 0, 2, 0, !it⟩
  else if h < 16512 then ⟨2, 0, h % 8, h % 8, h / 8 % 8, 0, 2, 0, !it⟩
  else if h < 16576 then ⟨16, 0, h % 8, h % 8, h / 8 % 8, 0, 2, 0, !it⟩
  else if h < 16640 then ⟨17, 0, h % 8, h % 8, h / 8 % 8, 0, 2, 0, !it⟩
  else if h < 16704 then ⟨18, 0, h % 8, h % 8, h / 8 % 8, 0, 2, 0, !it⟩
  else if h < 16768 then ⟨6, 0, h % 8, h % 8, h / 8 % 8, 0, 2, 0, !it⟩
  else if h < 16832 then ⟨8, 0, h % 8, h % 8, h / 8 % 8, 0, 2, 0, !it⟩
  else if h < 16896 then ⟨19, 0, h % 8, h % 8, h / 8 % 8, 0, 2, 0, !it⟩
  else if h < 16960 then ⟨14, 0, 0, h % 8, h / 8 % 8, 0, 2, 0, false⟩
  else if h < 17024 then ⟨9, 0, h % 8, h / 8 % 8, 0, 0, 1, 0, !it⟩
  else if h < 17088 then ⟨12, 0, 0, h % 8, h / 8 % 8, 0, 2, 0, false⟩
  else if h < 17152 then ⟨13, 0, 0, h % 8, h / 8 % 8, 0, 2, 0, false⟩
  else if h < 17216 then ⟨3, 0, h % 8, h % 8, h / 8 % 8, 0, 2, 0, !it⟩
  else if h < 17280 then ⟨20, 0, h % 8, h / 8 % 8, h % 8, 0, 2, 0, false⟩
  else if h < 17344 then ⟨4, 0, h % 8, h % 8, h / 8 % 8, 0, 2, 0, !it⟩
  else ⟨11, 0, h % 8, 0, h / 8 % 8, 0, 2, 0, !it⟩
def dec2 (h : Int) : I :=
  if h < 17664 then ⟨5, 0, hi4 h, hi4 h, h / 8 % 16, 0, 2, 0, false⟩
  else if h < 17920 then ⟨12, 0, 0, hi4 h, h / 8 % 16, 0, 2, 0, false⟩
  else if h < 18176 then ⟨10, 0, hi4 h, 0, h / 8 % 16, 0, 2, 0, false⟩
  else ⟨39, 0, 0, 0, h / 8 % 16, 0, 2, 0, false⟩
def dec3 (h : Int) : I :=
  if h < 20992 then ⟨28, 0, h % 8, h / 8 % 8, h / 64 % 8, 0, 2, 0, false⟩
  else if h < 21504 then ⟨30, 0, h % 8, h / 8 % 8, h / 64 % 8, 0, 2, 0, false⟩
  else if h < 22016 then ⟨29, 0, h % 8, h / 8 % 8, h / 64 % 8, 0, 2, 0, false⟩
  else if h < 23040 then ⟨25, 0, h % 8, h / 8 % 8, h / 64 % 8, 0, 2, 0, false⟩
  else if h < 23552 then ⟨27, 0, h % 8, h / 8 % 8, h / 64 % 8, 0, 2, 0, false⟩
  else if h < 24576 then ⟨26, 0, h % 8, h / 8 % 8, h / 64 % 8, 0, 2, 0, false⟩
  else if h < 26624 then ⟨28, 0, h % 8, h / 8 % 8, 0, h / 64 % 32 * 4, 1, 0, false⟩
  else if h < 28672 then ⟨25, 0, h % 8, h / 8 % 8, 0, h / 64 % 32 * 4, 1, 0, false⟩
  else if h < 30720 then ⟨29, 0, h % 8, h / 8 % 8, 0, h / 64 % 32, 1, 0, false⟩
  else if h < 32768 then ⟨26, 0, h % 8, h / 8 % 8, 0, h / 64 % 32, 1, 0, false⟩
  else if h < 34816 then ⟨30, 0, h % 8, h / 8 % 8, 0, h / 64 % 32 * 2, 1, 0, false⟩
  else if h < 36864 then ⟨27, 0, h % 8, h / 8 % 8, 0, h / 64 % 32 * 2, 1, 0, false⟩
  else if h < 38912 then ⟨28, 0, h / 256 % 8, 13, 0, h % 256 * 4, 1, 0, false⟩
  else ⟨25, 0, h / 256 % 8, 13, 0, h % 256 * 4, 1, 0, false⟩
def dec4 (h : Int) : I :=
  if h < 46080 then ⟨37, 0, 0, h % 8, 0, h / 512 % 2 * 64 + h / 8 % 32 * 2, 1, 0, false⟩
  else if h < 46592 then ⟨33, 0, 0, 0, 0, 0, 0, h % 256 + h / 256 % 2 * 16384, false⟩
  else if h < 48128 then ⟨38, 0, 0, h % 8, 0, h / 512 % 2 * 64 + h / 8 % 32 * 2, 1, 0, false⟩
  else if h < 48640 then ⟨34, 0, 0, 0, 0, 0, 0, h % 256 + h / 256 % 2 * 32768, false⟩
  else if h < 48896 then ⟨44, 0, 0, 0, 0, h % 256, 1, 0, false⟩
  else if h = 48896 then ⟨43, 0, 0, 0, 0, 0, 0, 0, false⟩
  else ⟨42, h / 16 % 16, 0, 0, 0, h % 16, 1, 0, false⟩
def decI (h : Int) (it : Bool) : I :=
  if h < 16384 then dec0 h it
  else if h < 17408 then dec1 h it
  else if h < 18432 then dec2 h
  else if h < 20480 then ⟨40, 0, h / 256 % 8, 0, 0, h % 256 * 4, 1, 0, false⟩
  else if h < 40960 then dec3 h
  else if h < 45056 then ⟨41, 0, h / 256 % 8, 0, 0, h % 256 * 4, 1, 0, false⟩
  else if h < 49152 then dec4 h
  else if h < 51200 then ⟨32, 0, 0, h / 256 % 8, 0, 0, 0, h % 256, false⟩
  else if h < 53248 then ⟨31, 0, 0, h / 256 % 8, 0, 0, 0, h % 256, false⟩
  else if h < 57344 then ⟨35, h / 256 % 16, 0, 0, 0, if h % 256 < 128 then h % 256 * 2 else h % 256 * 2 - 512, 1, 0, false⟩
  else ⟨35, 14, 0, 0, 0, if h % 2048 < 1024 then h % 2048 * 2 else h % 2048 * 2 - 4096, 1, 0, false⟩
end Nm
end Go.Proofs.YtcphhojdfpedkaaDoor

namespace Go.Proofs.YtcphhojdfpedkaaDoor
namespace Nm
theorem low_is {r : Int} (h : low r = true) : 0 ≤ r ∧ r ≤ 7 := by simpa [low] using h
theorem opt_is {b : Bool} {h k : Int} (e : opt b h = some k) : b = true ∧ k = h := by
  unfold opt at e
  split at e
  · exact ⟨by assumption, by simpa using e.symm⟩
  · cases e
theorem one_none {r : Int} (h : Im.oneB 0 r = true) : r = 0 := by simpa [Im.oneB] using h
theorem one_in {set r : Int} (h : Im.oneB set r = true) (hs : set ≠ 0) : 0 ≤ r ∧ r ≤ 15 := by
  unfold Im.oneB at h
  rw [if_neg hs] at h
  simp only [Bool.and_eq_true, decide_eq_true_eq] at h
  exact h.1
theorem ok_parts {i : I} (h : okB i = true) :
    (1 ≤ i.op ∧ i.op ≤ 45) ∧ Im.oneB (Im.fieldsI i.op i.mode i.s).rd i.rd = true ∧ Im.oneB (Im.fieldsI i.op i.mode i.s).rn i.rn = true ∧ Im.lastB (Im.fieldsI i.op i.mode i.s) i.mode i.imm i.rm = true ∧
      Im.listB (Im.fieldsI i.op i.mode i.s) i.rn i.list = true ∧ Im.condB i.op i.cond i.imm = true ∧ (i.s && !Im.setsB i.op) = false := by
  unfold okB Im.checkB at h
  simp only [Bool.and_eq_true, decide_eq_true_eq, Bool.not_eq_true'] at h
  obtain ⟨⟨⟨⟨⟨h1, h2, h3⟩, h4⟩, h5⟩, h6⟩, h7⟩ := h
  exact ⟨h1, h2, h3, h4, h5, h6, h7⟩
theorem last_cases {f : Im.F} {mode imm rm : Int} (h : Im.lastB f mode imm rm = true) :
    (mode = 0 ∧ f.step = 0 ∧ f.rm = 0 ∧ imm = 0 ∧ rm = 0) ∨ (mode = 1 ∧ f.step ≠ 0 ∧ f.least ≤ imm ∧ imm ≤ f.most ∧ Int.tmod imm f.step = 0 ∧ rm = 0) ∨ (mode = 2 ∧ f.rm ≠ 0 ∧ Im.oneB f.rm rm = true ∧ imm = 0) := by
  unfold Im.lastB at h
  split at h
  · simp only [Bool.and_eq_true, beq_iff_eq] at h
    exact .inl ⟨by assumption, h.1.1.1, h.1.1.2, h.1.2, h.2⟩
  · split at h
    · unfold Im.hasB at h
      simp only [Bool.and_eq_true, Bool.not_eq_true', beq_eq_false_iff_ne, decide_eq_true_eq, beq_iff_eq] at h
      exact .inr (.inl ⟨by assumption, h.1.1.1.1, h.1.1.1.2, h.1.1.2, h.1.2, h.2⟩)
    · split at h
      · simp only [Bool.and_eq_true, Bool.not_eq_true', beq_eq_false_iff_ne, beq_iff_eq] at h
        exact .inr (.inr ⟨by assumption, h.1.1, h.1.2, h.2⟩)
      · cases h
def Wide (n : Int) : Prop := -9223372036854775808 ≤ n ∧ n ≤ 9223372036854775807
theorem list_most {f : Im.F} {rn list : Int} (h : Im.listB f rn list = true) (m : Nat) (hm : m < 9223372036854775808) (hf : f.list = (m : Int)) (hw : Wide list) : 0 ≤ list ∧ list ≤ m := by
  unfold Im.listB at h
  simp only [Bool.and_eq_true, beq_iff_eq] at h
  have h' := h.1.1.2
  rw [hf] at h'
  have := Im.andNot_le list m hm h'
  unfold Wide at hw
  omega
theorem mk_eq {a a' b b' c c' d d' e e' f f' g g' k k' : Int} {s s' : Bool} (h1 : a = a') (h2 : b = b') (h3 : c = c') (h4 : d = d') (h5 : e = e') (h6 : f = f') (h7 : g = g') (h8 : k = k') (h9 : s = s') :
    I.mk a b c d e f g k s = I.mk a' b' c' d' e' f' g' k' s' := by rw [h1, h2, h3, h4, h5, h6, h7, h8, h9]
theorem flag_is {s it : Bool} (h : (s != it) = true) : s = !it := by cases s <;> cases it <;> simp_all
theorem flag_off {s : Bool} {k : Int} (h : (s && !Im.setsB k) = false) (hk : Im.setsB k = false) : false = s := by
  rw [hk] at h
  simpa using h.symm
theorem low_of {r : Int} (h : Im.oneB 255 r = true) : 0 ≤ r ∧ r ≤ 7 := by
  have h15 := one_in h (by decide)
  have hc : ¬ (r = 8 ∨ r = 9 ∨ r = 10 ∨ r = 11 ∨ r = 12 ∨ r = 13 ∨ r = 14 ∨ r = 15) := by
    rintro (rfl | rfl | rfl | rfl | rfl | rfl | rfl | rfl) <;> exact absurd h (by decide +kernel)
  omega
theorem conds_is {c m : Int} (h : Cm.condsI c m ≠ []) : 0 ≤ c ∧ c ≤ 14 ∧ 1 ≤ m ∧ m ≤ 15 := by
  refine Decidable.byContradiction fun hn => h (Cm.conds_no hn)
end Nm
end Go.Proofs.YtcphhojdfpedkaaDoor

namespace Go.Proofs.YtcphhojdfpedkaaDoor
namespace Ow
theorem nat_or_add {X V k n : Nat} (hz : X / 2 ^ k % 2 ^ n = 0) (hV : V < 2 ^ n) : X ||| V * 2 ^ k = X + V * 2 ^ k := by
  have hp := Nat.two_pow_pos k
  have hL : X % 2 ^ k < 2 ^ k := Nat.mod_lt _ hp
  have e1 : X = 2 ^ (k + n) * (X / 2 ^ k / 2 ^ n) + X % 2 ^ k := by
    have a1 := Nat.div_add_mod X (2 ^ k)
    have a2 := Nat.div_add_mod (X / 2 ^ k) (2 ^ n)
    rw [hz, Nat.add_zero] at a2
    rw [Nat.pow_add, Nat.mul_assoc, a2]
    exact a1.symm
  have hVk : 2 ^ k * V + X % 2 ^ k < 2 ^ (k + n) := by
    have : 2 ^ k * (V + 1) ≤ 2 ^ k * 2 ^ n := Nat.mul_le_mul_left _ hV
    rw [Nat.pow_add]
    rw [Nat.mul_add, Nat.mul_one] at this
    omega
  have hL2 : X % 2 ^ k < 2 ^ (k + n) := by omega
  have e2 := Nat.two_pow_add_eq_or_of_lt hL2 (X / 2 ^ k / 2 ^ n)
  have e3 := Nat.two_pow_add_eq_or_of_lt hL V
  have e4 := Nat.two_pow_add_eq_or_of_lt hVk (X / 2 ^ k / 2 ^ n)
  rw [← e1] at e2
  have key : X ||| V * 2 ^ k = X + V * 2 ^ k := by
    calc X ||| V * 2 ^ k = (2 ^ (k + n) * (X / 2 ^ k / 2 ^ n) ||| X % 2 ^ k) ||| V * 2 ^ k := by rw [← e2]
      _ = 2 ^ (k + n) * (X / 2 ^ k / 2 ^ n) ||| (2 ^ k * V ||| X % 2 ^ k) := by rw [Nat.or_assoc, Nat.or_comm (X % 2 ^ k), Nat.mul_comm V]
      _ = 2 ^ (k + n) * (X / 2 ^ k / 2 ^ n) + (2 ^ k * V + X % 2 ^ k) := by rw [← e3, ← e4]
      _ = X + V * 2 ^ k := by rw [Nat.mul_comm V]; omega
  exact key
theorem or_add (x v : Int) (k n : Nat) (m c : Int) (hm : 2 ^ k = m) (hc : 2 ^ n = c) (hkn : k + n ≤ 40) (hx0 : 0 ≤ x) (hx1 : x < 4294967296) (hz : x / m % c = 0) (hv0 : 0 ≤ v) (hv1 : v < c) : bits .or .i64 x (v * m) = x + v * m := by
  subst hm hc
  obtain ⟨X, rfl⟩ := Int.eq_ofNat_of_zero_le hx0
  obtain ⟨V, rfl⟩ := Int.eq_ofNat_of_zero_le hv0
  have hVn : V < 2 ^ n := by exact_mod_cast hv1
  have hXz : X / 2 ^ k % 2 ^ n = 0 := by exact_mod_cast hz
  have hlt : V * 2 ^ k < 2 ^ (k + n) := by rw [Nat.pow_add, Nat.mul_comm]; exact Nat.mul_lt_mul_of_pos_left hVn (Nat.two_pow_pos k)
  have h40 : 2 ^ (k + n) ≤ 2 ^ 40 := Nat.pow_le_pow_right (by omega) hkn
  have h40' : (2 : Nat) ^ 40 = 1099511627776 := by decide
  have e1 : ((V : Int) * 2 ^ k) = ((V * 2 ^ k : Nat) : Int) := by simp
  rw [e1, Cm.i64_or_nat X (V * 2 ^ k) (by omega) (by omega), nat_or_add hXz hVn]
  simp
theorem or_0 (x : Int) (h0 : 0 ≤ x) (h1 : x < 4294967296) : bits .or .i64 x 0 = x := by
  obtain ⟨X, rfl⟩ := Int.eq_ofNat_of_zero_le h0
  have := Cm.i64_or_nat X 0 (by omega) (by decide)
  simpa using this
theorem or_at (x v : Int) (k n : Nat) (m c : Int) (hm : 2 ^ k = m) (hc : 2 ^ n = c) (hkn : k + n ≤ 40) (hx0 : 0 ≤ x) (hx1 : x < 4294967296) (hz : v = 0 ∨ x / m % c = 0) (hv0 : 0 ≤ v) (hv1 : v < c) : bits .or .i64 x (v * m) = x + v * m := by
  rcases hz with rfl | hz
  · rw [Int.zero_mul, or_0 x hx0 hx1]; omega
  · exact or_add x v k n m c hm hc hkn hx0 hx1 hz hv0 hv1
end Ow
end Go.Proofs.YtcphhojdfpedkaaDoor

namespace Go.Proofs.YtcphhojdfpedkaaDoor
namespace Rb
open Nm
def plainB (r : Int) : Bool := (decide (0 ≤ r) && decide (r ≤ 12)) || r == 14
def inB (n lo hi : Int) : Bool := decide (lo ≤ n) && decide (n ≤ hi)
def lastR (i : I) (lo hi : Int) : Bool := if i.mode = 1 then inB i.imm lo hi else i.mode == 2 && plainB i.rm
def regsOk (l more : Int) : Nat → Nat → Bool
  | _, 0 => true
  | r, k + 1 => !(Im.bit l r && (!plainB r && !((r : Int) == more))) && regsOk l more (r + 1) k
def listR (l more : Int) : Bool := regsOk l more 0 16 && (decide (0 < l) && decide (l < 65536))
def popF : Nat → Nat → Nat
  | 0, _ => 0
  | k + 1, m => m % 2 + popF k (m / 2)
def branchR (n : Int) : Bool := Int.tmod n 2 == 0 && inB n (-16777216) 16777214
def dataR (i : I) : Bool :=
  if i.op ≤ 9 then plainB i.rd && (plainB i.rn && lastR i 0 4294967295)
  else if i.op = 10 ∧ i.mode = 2 ∧ i.s = false then inB i.rd 0 14 && inB i.rm 0 14
  else if i.op ≤ 11 then plainB i.rd && lastR i 0 4294967295
  else if i.op ≤ 15 then plainB i.rn && lastR i 0 4294967295
  else if i.op ≤ 19 then plainB i.rd && (plainB i.rn && lastR i 1 (if i.op = 17 ∨ i.op = 18 then 32 else 31))
  else if i.op ≤ 22 then plainB i.rd && (plainB i.rn && (i.mode == 2 && plainB i.rm))
  else plainB i.rd && (i.mode == 1 && inB i.imm 0 65535)
def restR (i : I) : Bool :=
  if i.op = 31 ∨ i.op = 32 then plainB i.rn && (listR i.list (-1) && (decide ((2 : Int) ≤ (popF 16 i.list.toNat : Int)) && !Im.bit i.list i.rn.toNat))
  else if i.op = 33 then listR i.list (-1)
  else if i.op = 34 then listR i.list 15 && !(i.list / 16384 == 3)
  else if i.op = 35 then inB i.cond 0 14 && (i.mode == 1 && branchR i.imm)
  else if i.op = 36 then i.mode == 1 && branchR i.imm
  else if i.op = 37 ∨ i.op = 38 then inB i.rn 0 7 && (i.mode == 1 && (Int.tmod i.imm 2 == 0 && inB i.imm 0 126))
  else if i.op = 39 then i.mode == 2 && inB i.rm 0 14
  else if i.op = 40 ∨ i.op = 41 then plainB i.rd && (i.mode == 1 && inB i.imm (-4095) 4095)
  else if i.op = 42 then i.mode == 1 && !(Cm.condsI i.cond i.imm).isEmpty
  else if i.op = 43 then true
  else if i.op = 44 then i.mode == 1 && inB i.imm 0 255
  else if i.op = 45 then plainB i.rn && (i.mode == 2 && plainB i.rm)
  else plainB i.rd && ((plainB i.rn || i.rn == 13) && lastR i 0 4095)
def fieldsS (op : Int) : List UInt8 :=
  if (1 ≤ op ∧ op ≤ 9) ∨ (16 ≤ op ∧ op ≤ 19) then [100, 110, 109, 115]
  else if op = 10 ∨ op = 11 then [100, 109, 115]
  else if 12 ≤ op ∧ op ≤ 15 then [110, 109]
  else if (20 ≤ op ∧ op ≤ 22) ∨ (25 ≤ op ∧ op ≤ 30) then [100, 110, 109]
  else if op = 23 ∨ op = 24 ∨ op = 40 ∨ op = 41 then [100, 109]
  else if op = 31 ∨ op = 32 then [110, 108]
  else if op = 33 ∨ op = 34 then [108]
  else if op = 35 ∨ op = 42 then [99, 109]
  else if op = 36 ∨ op = 39 ∨ op = 44 then [109]
  else if op = 37 ∨ op = 38 ∨ op = 45 then [110, 109]
  else []
def take (i x : I) (f : UInt8) : I :=
  if f = 99 then ⟨x.op, i.cond, x.rd, x.rn, x.rm, x.imm, x.mode, x.list, x.s⟩
  else if f = 100 then ⟨x.op, x.cond, i.rd, x.rn, x.rm, x.imm, x.mode, x.list, x.s⟩
  else if f = 110 then ⟨x.op, x.cond, x.rd, i.rn, x.rm, x.imm, x.mode, x.list, x.s⟩
  else if f = 109 then (if i.mode = 2 then ⟨x.op, x.cond, x.rd, x.rn, i.rm, x.imm, i.mode, x.list, x.s⟩ else ⟨x.op, x.cond, x.rd, x.rn, x.rm, i.imm, i.mode, x.list, x.s⟩)
  else if f = 108 then ⟨x.op, x.cond, x.rd, x.rn, x.rm, x.imm, x.mode, i.list, x.s⟩
  else if f = 115 then ⟨x.op, x.cond, x.rd, x.rn, x.rm, x.imm, x.mode, x.list, i.s⟩
  else x
def bareI (i : I) (l : List UInt8) : I := l.foldl (take i) ⟨i.op, 0, 0, 0, 0, 0, 0, 0, false⟩
def sameB (i x : I) : Bool := i.op == x.op && (i.cond == x.cond && (i.rd == x.rd && (i.rn == x.rn && (i.rm == x.rm && (i.imm == x.imm && (i.mode == x.mode && (i.list == x.list && i.s == x.s)))))))
def mayR (i : I) : Bool := (decide (1 ≤ i.op) && decide (i.op ≤ 45)) && (sameB i (bareI i (fieldsS i.op)) && (if i.op ≤ 24 then dataR i else restR i))
/-! registers -/
theorem one_plain (r : Int) : Im.oneB 24575 r = plainB r := by
  by_cases h : 0 ≤ r ∧ r ≤ 15
  · rcases (by omega : r = 0 ∨ r = 1 ∨ r = 2 ∨ r = 3 ∨ r = 4 ∨ r = 5 ∨ r = 6 ∨ r = 7 ∨ r = 8 ∨ r = 9 ∨ r = 10 ∨ r = 11 ∨ r = 12 ∨ r = 13 ∨ r = 14 ∨ r = 15) with rfl | rfl | rfl | rfl | rfl | rfl | rfl | rfl | rfl | rfl | rfl | rfl | rfl | rfl | rfl | rfl <;> decide +kernel
  · have h1 : Im.oneB 24575 r = false := by unfold Im.oneB; rw [if_neg (by decide), decide_eq_false h]; rfl
    rw [h1]
    unfold plainB
    by_cases h0 : 0 ≤ r
    · rw [decide_eq_false (by omega : ¬ r ≤ 12), show (r == 14) = false by simp; omega]; simp
    · rw [decide_eq_false h0, show (r == 14) = false by simp; omega]; simp
theorem one_low (r : Int) : Im.oneB 255 r = inB r 0 7 := by
  by_cases h : 0 ≤ r ∧ r ≤ 15
  · rcases (by omega : r = 0 ∨ r = 1 ∨ r = 2 ∨ r = 3 ∨ r = 4 ∨ r = 5 ∨ r = 6 ∨ r = 7 ∨ r = 8 ∨ r = 9 ∨ r = 10 ∨ r = 11 ∨ r = 12 ∨ r = 13 ∨ r = 14 ∨ r = 15) with rfl | rfl | rfl | rfl | rfl | rfl | rfl | rfl | rfl | rfl | rfl | rfl | rfl | rfl | rfl | rfl <;> decide +kernel
  · have h1 : Im.oneB 255 r = false := by unfold Im.oneB; rw [if_neg (by decide), decide_eq_false h]; rfl
    rw [h1]
    unfold inB
    by_cases h0 : 0 ≤ r
    · rw [decide_eq_false (by omega : ¬ r ≤ 7)]; simp
    · rw [decide_eq_false h0]; simp
theorem one_sp (r : Int) : Im.oneB 32767 r = inB r 0 14 := by
  by_cases h : 0 ≤ r ∧ r ≤ 15
  · rcases (by omega : r = 0 ∨ r = 1 ∨ r = 2 ∨ r = 3 ∨ r = 4 ∨ r = 5 ∨ r = 6 ∨ r = 7 ∨ r = 8 ∨ r = 9 ∨ r = 10 ∨ r = 11 ∨ r = 12 ∨ r = 13 ∨ r = 14 ∨ r = 15) with rfl | rfl | rfl | rfl | rfl | rfl | rfl | rfl | rfl | rfl | rfl | rfl | rfl | rfl | rfl | rfl <;> decide +kernel
  · have h1 : Im.oneB 32767 r = false := by unfold Im.oneB; rw [if_neg (by decide), decide_eq_false h]; rfl
    rw [h1]
    unfold inB
    by_cases h0 : 0 ≤ r
    · rw [decide_eq_false (by omega : ¬ r ≤ 14)]; simp
    · rw [decide_eq_false h0]; simp
theorem sp_or (r : Int) : (plainB r || r == 13) = inB r 0 14 := by
  unfold plainB inB
  rw [Bool.eq_iff_iff]
  simp
  omega
theorem one_zero (r : Int) : Im.oneB 0 r = (r == 0) := by simp [Im.oneB]; rfl
/-! lists -/
theorem pop_is (m : Nat) : popF 16 m = Im.pop m := by
  have e : popF 16 m = m % 2 + (m / 2 % 2 + (m / 2 / 2 % 2 + (m / 2 / 2 / 2 % 2 + (m / 2 / 2 / 2 / 2 % 2 + (m / 2 / 2 / 2 / 2 / 2 % 2 + (m / 2 / 2 / 2 / 2 / 2 / 2 % 2 + (m / 2 / 2 / 2 / 2 / 2 / 2 / 2 % 2 + (m / 2 / 2 / 2 / 2 / 2 / 2 / 2 / 2 % 2 + (m / 2 / 2 / 2 / 2 / 2 / 2 / 2 / 2 / 2 % 2 + (m / 2 / 2 / 2 / 2 / 2 / 2 / 2 / 2 / 2 / 2 % 2 + (m / 2 / 2 / 2 / 2 / 2 / 2 / 2 / 2 / 2 / 2 / 2 % 2 + (m / 2 / 2 / 2 / 2 / 2 / 2 / 2 / 2 / 2 / 2 / 2 / 2 % 2 + (m / 2 / 2 / 2 / 2 / 2 / 2 / 2 / 2 / 2 / 2 / 2 / 2 / 2 % 2 + (m / 2 / 2 / 2 / 2 / 2 / 2 / 2 / 2 / 2 / 2 / 2 / 2 / 2 / 2 % 2 + (m / 2 / 2 / 2 / 2 / 2 / 2 / 2 / 2 / 2 / 2 / 2 / 2 / 2 / 2 / 2 % 2 + (0)))))))))))))))) := rfl
  rw [e, Im.pop]
  simp only [Nat.div_div_eq_div_mul, Nat.reduceMul, Nat.add_assoc, Nat.add_zero]
theorem pop_zero : ∀ (k m : Nat), m < 2 ^ k → popF k m = 0 → m = 0
  | 0, m, h, _ => by simp at h; omega
  | k + 1, m, h, e => by
    have h1 := pop_zero k (m / 2) (by rw [Nat.pow_succ] at h; omega) (by unfold popF at e; omega)
    unfold popF at e
    omega
theorem pop_of_zero : ∀ k, popF k 0 = 0
  | 0 => rfl
  | k + 1 => by unfold popF; simp [pop_of_zero k]
theorem andNot_iff (X m : Nat) (hX : X < 65536) (_hm : m < 65536) : bits .andNot .i64 (X : Int) (m : Int) = 0 ↔ ∀ i, i < 16 → X.testBit i = true → m.testBit i = true := by
  have e1 : bits .andNot .i64 (X : Int) (m : Int) = IntKind.i64.wrap ((BitVec.ofInt 64 (X : Int) &&& ~~~ BitVec.ofInt 64 (m : Int)).toNat : Int) := rfl
  have ex : BitVec.ofInt 64 (X : Int) = BitVec.ofNat 64 X := by apply BitVec.eq_of_toNat_eq; rw [BitVec.toNat_ofInt, BitVec.toNat_ofNat]; omega
  have em : BitVec.ofInt 64 (m : Int) = BitVec.ofNat 64 m := by apply BitVec.eq_of_toNat_eq; rw [BitVec.toNat_ofInt, BitVec.toNat_ofNat]; omega
  have hb := (BitVec.ofInt 64 (X : Int) &&& ~~~ BitVec.ofInt 64 (m : Int)).isLt
  have key : bits .andNot .i64 (X : Int) (m : Int) = 0 ↔ BitVec.ofNat 64 X &&& ~~~ BitVec.ofNat 64 m = 0#64 := by
    rw [e1, IntKind.wrap_i64, ← ex, ← em]
    constructor
    · intro h
      exact BitVec.eq_of_toNat_eq (by show _ = 0; omega)
    · intro h
      have hz : (BitVec.ofInt 64 (X : Int) &&& ~~~ BitVec.ofInt 64 (m : Int)).toNat = 0 := by rw [h]; simp
      omega
  rw [key]
  constructor
  · intro h i hi hx
    have := congrArg (fun b => b.getLsbD i) h
    simp only [BitVec.getLsbD_and, BitVec.getLsbD_not, BitVec.getLsbD_ofNat, hx, show i < 64 by omega, decide_true, Bool.true_and] at this
    simpa using this
  · intro h
    apply BitVec.eq_of_getLsbD_eq
    intro i hi
    simp only [BitVec.getLsbD_and, BitVec.getLsbD_not, BitVec.getLsbD_ofNat, hi, decide_true, Bool.true_and]
    by_cases h16 : i < 16
    · have := h i h16
      revert this
      cases X.testBit i <;> cases m.testBit i <;> simp
    · have hp : 2 ^ 16 ≤ 2 ^ i := Nat.pow_le_pow_right (by decide) (by omega)
      have : X.testBit i = false := Nat.testBit_lt_two_pow (Nat.lt_of_lt_of_le hX hp)
      simp [this]
theorem regs_iff (l more : Int) : ∀ (k r : Nat), regsOk l more r k = true ↔ ∀ j : Nat, r ≤ j → j < r + k → Im.bit l j = true → plainB j = true ∨ (j : Int) = more
  | 0, r => by
    unfold regsOk
    exact ⟨fun _ j h1 h2 => by omega, fun _ => rfl⟩
  | k + 1, r => by
    unfold regsOk
    rw [Bool.and_eq_true, regs_iff l more k (r + 1)]
    constructor
    · rintro ⟨h1, h2⟩ j hj1 hj2 hb
      by_cases e : j = r
      · subst e
        rw [hb] at h1
        by_cases hp : plainB (j : Int) = true
        · exact .inl hp
        · right
          simpa [hp] using h1
      · exact h2 j (by omega) (by omega) hb
    · intro h
      refine ⟨?_, fun j h1 h2 hb => h j (by omega) (by omega) hb⟩
      cases hb : Im.bit l r with
      | false => rfl
      | true =>
        rcases h r (Nat.le_refl _) (by omega) hb with h | h
        · simp [h]
        · simp [h]
theorem bit_nat (X i : Nat) : Im.bit (X : Int) i = X.testBit i := by
  unfold Im.bit
  rw [Nat.testBit_eq_decide_div_mod_eq, show ((X : Int) / 2 ^ i) = ((X / 2 ^ i : Nat) : Int) by simp]
  generalize X / 2 ^ i = q
  rw [Bool.eq_iff_iff, beq_iff_eq, decide_eq_true_eq]
  omega
theorem plain_set : ∀ i : Nat, i < 16 → (Nat.testBit 24575 i = true ↔ plainB (i : Int) = true) := by decide +kernel
theorem pc_set : ∀ i : Nat, i < 16 → (Nat.testBit 57343 i = true ↔ plainB (i : Int) = true ∨ (i : Int) = 15) := by decide +kernel
theorem list_plain (X : Nat) (h : X < 65536) : (bits .andNot .i64 (X : Int) 24575 == 0) = regsOk (X : Int) (-1) 0 16 := by
  rw [Bool.eq_iff_iff, beq_iff_eq, regs_iff]
  have := andNot_iff X 24575 h (by decide)
  rw [show ((24575 : Nat) : Int) = 24575 by rfl] at this
  rw [this]
  constructor
  · intro g j _ hj hb
    rw [bit_nat] at hb
    exact .inl ((plain_set j (by omega)).1 (g j (by omega) hb))
  · intro g j hj hb
    rcases g j (by omega) (by omega) (by rw [bit_nat]; exact hb) with h | h
    · exact (plain_set j hj).2 h
    · omega
theorem list_pc (X : Nat) (h : X < 65536) : (bits .andNot .i64 (X : Int) 57343 == 0) = regsOk (X : Int) 15 0 16 := by
  rw [Bool.eq_iff_iff, beq_iff_eq, regs_iff]
  have := andNot_iff X 57343 h (by decide)
  rw [show ((57343 : Nat) : Int) = 57343 by rfl] at this
  rw [this]
  constructor
  · intro g j _ hj hb
    rw [bit_nat] at hb
    exact (pc_set j (by omega)).1 (g j (by omega) hb)
  · intro g j hj hb
    exact (pc_set j hj).2 (g j (by omega) (by omega) (by rw [bit_nat]; exact hb))
theorem and_top (X : Nat) (h : X < 65536) : (bits .and .i64 (X : Int) 49152 == 49152) = ((X : Int) / 16384 == 3) := by
  have h1 : (X &&& 49152) / 2 ^ 14 = X / 2 ^ 14 &&& 49152 / 2 ^ 14 := Nat.and_div_two_pow
  have h2 : (X &&& 49152) % 2 ^ 14 = X % 2 ^ 14 &&& 49152 % 2 ^ 14 := Nat.and_mod_two_pow
  have h3 : X / 2 ^ 14 &&& 49152 / 2 ^ 14 = X / 2 ^ 14 % 4 := by
    rw [show (49152 / 2 ^ 14 : Nat) = 2 ^ 2 - 1 by rfl, Nat.and_two_pow_sub_one_eq_mod]
  have h4 : X % 2 ^ 14 &&& 49152 % 2 ^ 14 = 0 := Nat.and_zero _
  rw [h3] at h1
  rw [h4] at h2
  rw [Bool.eq_iff_iff, beq_iff_eq, beq_iff_eq, show (49152 : Int) = ((49152 : Nat) : Int) by rfl, Cm.i64_and _ _ (by decide), show ((X : Int) % 18446744073709551616).toNat = X by omega]
  omega
theorem list_zero (f : Im.F) (rn list : Int) (hl : f.list = 0) (hc : f.count = 0) (hw : Wide list) : Im.listB f rn list = (list == 0) := by
  by_cases h : list = 0
  · subst h
    have hb : Im.bit 0 rn.toNat = false := by unfold Im.bit; simp
    unfold Im.listB
    rw [hb, hl, hc]
    simp
    decide +kernel
  · rw [show (list == 0) = false by simp [h]]
    cases hx : Im.listB f rn list with
    | false => rfl
    | true =>
      have := list_most hx 0 (by decide) (by rw [hl]; rfl) hw
      omega
theorem list_some (f : Im.F) (rn list : Int) (hl : f.list = 24575) (hw : Wide list) :
    (Im.listB f rn list && decide (0 < list)) = (listR list (-1) && (decide (f.count ≤ (popF 16 list.toNat : Int)) && !(!(f.rn == 0) && Im.bit list rn.toNat))) := by
  by_cases h : 0 ≤ list ∧ list ≤ 65535
  · obtain ⟨X, rfl⟩ := Int.eq_ofNat_of_zero_le h.1
    have hX : X < 65536 := by omega
    unfold Im.listB listR
    rw [hl, list_plain X hX, and_top X hX, show ((X : Int) % 18446744073709551616).toNat = X by omega, show ((X : Int)).toNat = X by omega, pop_is]
    have hd : decide ((X : Int) < 65536) = true := by simp; omega
    rw [hd]
    have ht : regsOk (X : Int) (-1) 0 16 = true → ((X : Int) / 16384 == 3) = false := by
      intro g
      rw [← list_plain X hX] at g
      have := Im.andNot_le (X : Int) 24575 (by decide) (eq_of_beq g)
      simp
      omega
    revert ht
    generalize regsOk (X : Int) (-1) 0 16 = a
    generalize ((X : Int) / 16384 == 3) = b
    generalize decide (f.count ≤ (Im.pop X : Int)) = c
    generalize (!(f.rn == 0) && Im.bit (X : Int) rn.toNat) = d
    generalize decide (0 < (X : Int)) = e
    revert a b c d e
    decide
  · have h1 : Im.listB f rn list = false := by
      cases hx : Im.listB f rn list with
      | false => rfl
      | true =>
        have := list_most hx 24575 (by decide) (by rw [hl]; rfl) hw
        omega
    have h2 : listR list (-1) = false := by
      unfold listR
      by_cases h0 : 0 < list
      · rw [decide_eq_false (by omega : ¬ list < 65536)]; simp
      · rw [decide_eq_false h0]; simp
    rw [h1, h2]; rfl
theorem list_many (f : Im.F) (rn list : Int) (hl : f.list = 57343) (hw : Wide list) :
    (Im.listB f rn list && decide (0 < list)) = (listR list 15 && (decide (f.count ≤ (popF 16 list.toNat : Int)) && (!(!(f.rn == 0) && Im.bit list rn.toNat) && !(list / 16384 == 3)))) := by
  by_cases h : 0 ≤ list ∧ list ≤ 65535
  · obtain ⟨X, rfl⟩ := Int.eq_ofNat_of_zero_le h.1
    have hX : X < 65536 := by omega
    unfold Im.listB listR
    rw [hl, list_pc X hX, and_top X hX, show ((X : Int) % 18446744073709551616).toNat = X by omega, show ((X : Int)).toNat = X by omega, pop_is]
    have hd : decide ((X : Int) < 65536) = true := by simp; omega
    rw [hd]
    generalize regsOk (X : Int) 15 0 16 = a
    generalize ((X : Int) / 16384 == 3) = b
    generalize decide (f.count ≤ (Im.pop X : Int)) = c
    generalize (!(f.rn == 0) && Im.bit (X : Int) rn.toNat) = d
    generalize decide (0 < (X : Int)) = e
    revert a b c d e
    decide
  · have h1 : Im.listB f rn list = false := by
      cases hx : Im.listB f rn list with
      | false => rfl
      | true =>
        have := list_most hx 57343 (by decide) (by rw [hl]; rfl) hw
        omega
    have h2 : listR list 15 = false := by
      unfold listR
      by_cases h0 : 0 < list
      · rw [decide_eq_false (by omega : ¬ list < 65536)]; simp
      · rw [decide_eq_false h0]; simp
    rw [h1, h2]; rfl
theorem pop_pos (list : Int) (n : Nat) (hn : 1 ≤ n) (h : 0 ≤ list) (hp : n ≤ popF 16 list.toNat) : 0 < list := by
  refine Decidable.byContradiction fun h0 => ?_
  have : list = 0 := by omega
  subst this
  rw [show (0 : Int).toNat = 0 by rfl, pop_of_zero] at hp
  omega
theorem list_pos {l more : Int} (h : listR l more = true) : 1 ≤ popF 16 l.toNat := by
  unfold listR at h
  simp only [Bool.and_eq_true, decide_eq_true_eq] at h
  have h0 := pop_zero 16 l.toNat (by have : (2 : Nat) ^ 16 = 65536 := rfl; omega)
  have : popF 16 l.toNat ≠ 0 := fun e => by have := h0 e; omega
  generalize popF 16 l.toNat = p at *
  omega
theorem list_gt {f : Im.F} {rn list : Int} {m : Nat} (hm : m < 9223372036854775808) (hl : f.list = (m : Int)) (hc : 1 ≤ f.count) (hw : Wide list) : Im.listB f rn list = (Im.listB f rn list && decide (0 < list)) := by
  cases hx : Im.listB f rn list with
  | false => rfl
  | true =>
    have h0 := list_most hx m hm hl hw
    unfold Im.listB at hx
    simp only [Bool.and_eq_true, decide_eq_true_eq] at hx
    have hp := hx.2
    unfold Wide at hw
    rw [show list % 18446744073709551616 = list by omega, ← pop_is] at hp
    have hq : 1 ≤ popF 16 list.toNat := by
      clear hx
      generalize popF 16 list.toNat = p at hp
      omega
    rw [decide_eq_true (pop_pos list 1 (Nat.le_refl 1) h0.1 hq)]; rfl
theorem list_31 (rn list : Int) (hw : Wide list) : Im.listB ⟨0, 24575, 0, 0, 0, 0, 24575, 2⟩ rn list = (listR list (-1) && (decide ((2 : Int) ≤ (popF 16 list.toNat : Int)) && !Im.bit list rn.toNat)) := by
  rw [list_gt (m := 24575) (by decide) rfl (by decide) hw, list_some _ _ _ rfl hw]
  generalize popF 16 list.toNat = p
  rfl
theorem list_33 (rn list : Int) (hw : Wide list) : Im.listB ⟨0, 0, 0, 0, 0, 0, 24575, 1⟩ rn list = listR list (-1) := by
  rw [list_gt (m := 24575) (by decide) rfl (by decide) hw, list_some _ _ _ rfl hw]
  cases h : listR list (-1) with
  | false => rfl
  | true =>
    have := list_pos h
    dsimp only
    generalize popF 16 list.toNat = p at *
    rw [decide_eq_true (by omega)]
    rfl
theorem list_34 (rn list : Int) (hw : Wide list) : Im.listB ⟨0, 0, 0, 0, 0, 0, 57343, 1⟩ rn list = (listR list 15 && !(list / 16384 == 3)) := by
  rw [list_gt (m := 57343) (by decide) rfl (by decide) hw, list_many _ _ _ rfl hw]
  cases h : listR list 15 with
  | false => rw [Bool.false_and, Bool.false_and]
  | true =>
    have := list_pos h
    dsimp only
    generalize popF 16 list.toNat = p at *
    rw [decide_eq_true (by omega)]
    simp
end Rb
end Go.Proofs.YtcphhojdfpedkaaDoor
