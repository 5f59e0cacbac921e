/- Plain facts on numbers of twelve bits, without any program: what each tells, which may be told, the least that tells a word; those that speak of all 4096 numbers are computed. What a number of twelve bits tells, as a number. No program. The instruction of any two halfwords, plainly: exactly as the document reads them. E tells the number of twelve bits, V whether it is Valid. No program; no conditions. A read instruction, or none, as it is answered. No program; no conditions. Which rows two halfwords may be of; what is read in a block and out of it. No program; no conditions but those that each fact names. -/
import Derived.Test.YtdcnkmkaafimlaaDoorRows
import Derived.Test.YtdcnkmkaafimlaaDoorGb
import Derived.Test.YtdcnkmkaafimlaaDoorGa

namespace Go.Proofs.YtdcnkmkaafimlaaDoor
namespace Em

/-- a byte b spread or turned, by the way y (the upper five bits of the number) -/
def tell (b y : Nat) : Nat :=
  if y / 2 = 0 then b
  else if y / 2 = 1 then (b * 65536) ||| b
  else if y / 2 = 2 then (b * 16777216) ||| (b * 256)
  else if y / 2 = 3 then (((b * 16777216) ||| (b * 65536)) ||| (b * 256)) ||| b
  else Bm.rorB (b % 128 + 128) y
/-- what the number i tells -/
def expN (i : Nat) : Nat := tell (i % 256) (i / 128)
/-- whether it may be told -/
def okN (i : Nat) : Bool := decide (i < 4096) && !(decide (i = 256) || decide (i = 512) || decide (i = 768))
/-- i may be told and tells x -/
def good (x i : Nat) : Bool := okN i && (expN i == x)
/-- by how much x is turned to have its byte lowest -/
def placeN (u : Nat) : Nat := if u / 2 = 0 ∨ u / 2 = 1 ∨ u / 2 = 3 then 0 else if u / 2 = 2 then 8 else 32 - u
/-- the one number with these upper five bits that may tell x -/
def candN (x u : Nat) : Nat := u * 128 + Bm.rorB x (placeN u) % 128
/-- the least that tells x -/
def findN (x : Nat) : Option Nat := (List.range 4096).find? (good x)

theorem find_some {x i : Nat} (h : good x i = true) (hl : ∀ j, j < i → good x j = false) : findN x = some i := by
  have hi : i < 4096 := by unfold good okN at h; simp at h; omega
  unfold findN
  rw [List.find?_eq_some_iff_append]
  refine ⟨h, List.range i, (List.range' (i + 1) (4096 - (i + 1))), ?_, fun a ha => ?_⟩
  · rw [List.range_eq_range', List.range_eq_range', show (4096 : Nat) = i + (1 + (4096 - (i + 1))) by omega]
    rw [← List.range'_append_1, ← List.range'_append_1]
    simp
    omega
  · rw [hl a (by simpa using ha)]; rfl

theorem find_none {x : Nat} (h : ∀ j, j < 4096 → good x j = false) : findN x = none := by
  unfold findN
  rw [List.find?_eq_none]
  intro a ha
  rw [h a (by simpa using ha)]; simp

/-- a check of all numbers below n, as a computation -/
def all (n : Nat) (p : Nat → Bool) : Bool := (List.range n).all p
theorem all_of {n : Nat} {p : Nat → Bool} (h : all n p = true) (i : Nat) (hi : i < n) : p i = true := by
  unfold all at h
  rw [List.all_eq_true] at h
  exact h i (by simpa using hi)

theorem cand_all : all 4096 (fun i => candN (expN i) (i / 128) == i) = true := by decide +kernel
theorem cand_of (i : Nat) (hi : i < 4096) : candN (expN i) (i / 128) = i := by
  have := all_of cand_all i hi
  simpa using this

theorem cand_div (x u : Nat) : candN x u / 128 = u := by unfold candN; omega

theorem or7_all : all 256 (fun b => (b ||| 128) == b % 128 + 128) = true := by decide +kernel
theorem or7 (b : Nat) (h : b < 256) : (b ||| 128) = b % 128 + 128 := by
  have := all_of or7_all b h
  simpa using this
end Em
end Go.Proofs.YtdcnkmkaafimlaaDoor

namespace Go.Proofs.YtdcnkmkaafimlaaDoor
namespace Wm
/-- what a number of twelve bits tells -/
def tellF (n : Int) : Int := (Em.expN n.toNat : Int)
end Wm
end Go.Proofs.YtdcnkmkaafimlaaDoor

namespace Go.Proofs.YtdcnkmkaafimlaaDoor
namespace Tm
open Nm (I)

def Z : I := ⟨0, 0, 0, 0, 0, 0, 0, 0, false⟩
def num (a b : Int) : Int := a / 1024 % 2 * 2048 + b / 4096 % 8 * 256 + b % 256
def opD (o : Int) : Int := if o = 0 then 1 else if o = 1 then 4 else if o = 2 then 3 else if o = 4 then 2 else if o = 8 then 5 else if o = 10 then 6 else if o = 11 then 8 else if o = 13 then 7 else if o = 14 then 9 else 0
def opT (o : Int) : Int := if o = 0 then 14 else if o = 4 then 15 else if o = 8 then 13 else if o = 13 then 12 else 0
def opM (o : Int) : Int := if o = 2 then 10 else if o = 3 then 11 else 0
/-- an operation on data -/
def dataT (o : Int) (s : Bool) (r d m : Int) (imm mode : Int) : I :=
  if d = 15 then (if s = true then (if opT o = 0 then Z else ⟨opT o, 0, 0, r, m, imm, mode, 0, false⟩) else Z)
  else if r = 15 then ⟨opM o, 0, d, 0, m, imm, mode, 0, s⟩
  else ⟨opD o, 0, d, r, m, imm, mode, 0, s⟩
/-- from F000 to F7FF, the second below 8000 -/
def immsT (E : Int → Int) (V : Int → Bool) (a b : Int) : I :=
  if a / 512 % 2 = 0 then (if V (num a b) = true then dataT (a / 32 % 16) (a / 16 % 2 == 1) (a % 16) (b / 256 % 16) 0 (E (num a b)) 1 else Z)
  else if a / 16 % 32 = 0 then (if a % 16 = 15 then ⟨41, 0, b / 256 % 16, 0, 0, num a b, 1, 0, false⟩ else ⟨5, 0, b / 256 % 16, a % 16, 0, num a b, 1, 0, false⟩)
  else if a / 16 % 32 = 10 then (if a % 16 = 15 then (if num a b = 0 then Z else ⟨41, 0, b / 256 % 16, 0, 0, -num a b, 1, 0, false⟩) else ⟨7, 0, b / 256 % 16, a % 16, 0, num a b, 1, 0, false⟩)
  else if a / 16 % 32 = 4 then ⟨23, 0, b / 256 % 16, 0, 0, a % 16 * 4096 + num a b, 1, 0, false⟩
  else if a / 16 % 32 = 12 then ⟨24, 0, b / 256 % 16, 0, 0, a % 16 * 4096 + num a b, 1, 0, false⟩
  else Z
/-- the same, the second from 8000 on -/
def branchT (a b : Int) (it : Bool) : I :=
  if a = 62383 ∧ b = 32768 then ⟨43, 0, 0, 0, 0, 0, 0, 0, false⟩
  else if b / 16384 % 2 = 0 ∧ b / 4096 % 2 = 0 then (if a / 64 % 16 < 14 ∧ it = false then ⟨35, a / 64 % 16, 0, 0, 0, a % 64 * 4096 + b / 8192 % 2 * 262144 + b / 2048 % 2 * 524288 + b % 2048 * 2 - a / 1024 % 2 * 1048576, 1, 0, false⟩ else Z)
  else if b / 4096 % 2 = 1 then ⟨if b / 16384 % 2 = 0 then 35 else 36, if b / 16384 % 2 = 0 then 14 else 0, 0, 0, 0, a % 1024 * 4096 + (1 + b / 8192 % 2 + a / 1024 % 2) % 2 * 8388608 + (1 + b / 2048 % 2 + a / 1024 % 2) % 2 * 4194304 + b % 2048 * 2 - a / 1024 % 2 * 16777216, 1, 0, false⟩
  else Z
/-- from EA00 to EBFF -/
def shN (b : Int) : Int := b / 4096 % 8 * 4 + b / 64 % 4
def regsT (a b : Int) : I :=
  if 32768 ≤ b then Z
  else if a / 32 % 16 = 2 ∧ a % 16 = 15 ∧ b / 256 % 16 ≠ 15 ∧ ¬ (shN b = 0 ∧ b / 16 % 4 = 0) then
    ⟨16 + b / 16 % 4, 0, b / 256 % 16, b % 16, 0, if shN b = 0 ∧ b / 16 % 4 ≠ 3 then 32 else shN b, 1, 0, a / 16 % 2 == 1⟩
  else if ¬ (shN b = 0 ∧ b / 16 % 4 = 0) then Z
  else if (dataT (a / 32 % 16) (a / 16 % 2 == 1) (a % 16) (b / 256 % 16) (b % 16) 0 2).op = 10 ∧ (b / 256 % 16 = 13 ∨ b % 16 = 13) then Z
  else dataT (a / 32 % 16) (a / 16 % 2 == 1) (a % 16) (b / 256 % 16) (b % 16) 0 2
def opL (k : Int) : Int := if k = 0 then 29 else if k = 1 then 26 else if k = 2 then 30 else if k = 3 then 27 else if k = 4 then 28 else if k = 5 then 25 else 0
/-- from F800 to F8FF -/
def loadsT (a b : Int) : I :=
  if a % 16 = 15 then (if a = 63711 then ⟨40, 0, b / 4096, 0, 0, b % 4096, 1, 0, false⟩ else if a = 63583 ∧ b % 4096 ≠ 0 then ⟨40, 0, b / 4096, 0, 0, -(b % 4096), 1, 0, false⟩ else Z)
  else if a / 128 % 2 = 1 then ⟨opL (a / 16 % 8), 0, b / 4096, a % 16, 0, b % 4096, 1, 0, false⟩
  else if b / 16 % 256 = 0 then ⟨opL (a / 16 % 8), 0, b / 4096, a % 16, b % 16, 0, 2, 0, false⟩
  else Z
/-- from FA00 to FBFF -/
def othersT (a b : Int) : I :=
  if b / 4096 ≠ 15 then Z
  else if a / 128 = 500 ∧ b / 16 % 16 = 0 then ⟨16 + a / 32 % 4, 0, b / 256 % 16, a % 16, b % 16, 0, 2, 0, a / 16 % 2 == 1⟩
  else if a / 16 = 4016 ∧ b / 16 % 16 = 0 then ⟨20, 0, b / 256 % 16, a % 16, b % 16, 0, 2, 0, false⟩
  else if a / 16 = 4025 ∧ b / 16 % 16 = 15 then ⟨22, 0, b / 256 % 16, a % 16, b % 16, 0, 2, 0, false⟩
  else if a / 16 = 4027 ∧ b / 16 % 16 = 15 then ⟨21, 0, b / 256 % 16, a % 16, b % 16, 0, 2, 0, false⟩
  else Z
/-- from E800 to E9FF -/
def manyT (a b : Int) : I :=
  if a = 59693 then (if 2 ≤ Im.pop b.toNat then ⟨33, 0, 0, 0, 0, 0, 0, b, false⟩ else Z)
  else if a = 59581 ∧ 2 ≤ Im.pop b.toNat then ⟨34, 0, 0, 0, 0, 0, 0, b, false⟩
  else if a / 16 = 3722 then ⟨32, 0, 0, a % 16, 0, 0, 0, b, false⟩
  else if a / 16 = 3723 then ⟨31, 0, 0, a % 16, 0, 0, 0, b, false⟩
  else if a / 16 = 3725 ∧ b / 16 = 3840 then ⟨45, 0, 0, a % 16, b % 16, 0, 2, 0, false⟩
  else Z
/-- what both might be -/
def tallS (E : Int → Int) (V : Int → Bool) (a b : Int) (it : Bool) : I :=
  if a < 59392 then Z
  else if a < 59904 then manyT a b
  else if a < 60416 then regsT a b
  else if a < 61440 then Z
  else if a < 63488 then (if b < 32768 then immsT E V a b else branchT a b it)
  else if a < 63744 then loadsT a b
  else if a < 64000 then Z
  else if a < 64512 then othersT a b
  else Z
/-- what is read of both -/
def tallP (E : Int → Int) (V : Int → Bool) (a b : Int) (it : Bool) : Option I := if Nm.okB (tallS E V a b it) = true then some (tallS E V a b it) else none
def validI (n : Int) : Bool := Em.okN n.toNat
end Tm
end Go.Proofs.YtdcnkmkaafimlaaDoor

namespace Go.Proofs.YtdcnkmkaafimlaaDoor
namespace Tl
def IV (i : Nm.I) : Value := .agg #[.int .i64 i.op, .int .i64 i.cond, .int .i64 i.rd, .int .i64 i.rn, .int .i64 i.rm, .int .i64 i.imm, .int .i64 i.mode, .int .i64 i.list, .bool i.s]
/-- what Decode answers of what is read -/
def decV : Option Nm.I → Value
  | some i => .tuple #[IV i, .bool true]
  | none => .tuple #[IV Tm.Z, .bool false]
end Tl
end Go.Proofs.YtdcnkmkaafimlaaDoor

namespace Go.Proofs.YtdcnkmkaafimlaaDoor
namespace Tm
open Nm (I)
theorem z_no : Nm.okB Z = false := by decide +kernel
section
variable (E : Int → Int) (V : Int → Bool)
theorem at_many {a b : Int} {it : Bool} (h0 : 59392 ≤ a) (h1 : a < 59904) : tallS E V a b it = manyT a b := by
  unfold tallS
  rw [if_neg (by omega), if_pos h1]
theorem at_regs {a b : Int} {it : Bool} (h0 : 59904 ≤ a) (h1 : a < 60416) : tallS E V a b it = regsT a b := by
  unfold tallS
  rw [if_neg (by omega), if_neg (by omega), if_pos h1]
theorem at_imms {a b : Int} {it : Bool} (h0 : 61440 ≤ a) (h1 : a < 63488) (h2 : b < 32768) : tallS E V a b it = immsT E V a b := by
  unfold tallS
  rw [if_neg (by omega), if_neg (by omega), if_neg (by omega), if_neg (by omega), if_pos h1, if_pos h2]
theorem at_branch {a b : Int} {it : Bool} (h0 : 61440 ≤ a) (h1 : a < 63488) (h2 : 32768 ≤ b) : tallS E V a b it = branchT a b it := by
  unfold tallS
  rw [if_neg (by omega), if_neg (by omega), if_neg (by omega), if_neg (by omega), if_pos h1, if_neg (by omega)]
theorem at_loads {a b : Int} {it : Bool} (h0 : 63488 ≤ a) (h1 : a < 63744) : tallS E V a b it = loadsT a b := by
  unfold tallS
  rw [if_neg (by omega), if_neg (by omega), if_neg (by omega), if_neg (by omega), if_neg (by omega), if_pos h1]
theorem at_others {a b : Int} {it : Bool} (h0 : 64000 ≤ a) (h1 : a < 64512) : tallS E V a b it = othersT a b := by
  unfold tallS
  rw [if_neg (by omega), if_neg (by omega), if_neg (by omega), if_neg (by omega), if_neg (by omega), if_neg (by omega), if_neg (by omega), if_pos h1]
end
theorem opT_le (o : Int) : opT o ≤ 15 := by unfold opT; repeat' split <;> omega
theorem opD_le (o : Int) : opD o ≤ 9 := by unfold opD; repeat' split <;> omega
theorem opM_le (o : Int) : opM o ≤ 11 := by unfold opM; repeat' split <;> omega
theorem opL_le (o : Int) : opL o ≤ 30 := by unfold opL; repeat' split <;> omega
theorem data_op (o : Int) (s : Bool) (r d m imm mode : Int) : (dataT o s r d m imm mode).op ≠ 35 := by
  have h1 := opT_le o
  have h2 := opD_le o
  have h3 := opM_le o
  unfold dataT
  repeat' split
  all_goals (intro h; first | cases h | (dsimp only at h; omega))
theorem many_op (a b : Int) : (manyT a b).op ≠ 35 := by
  unfold manyT
  repeat' split
  all_goals (intro h; cases h)
theorem regs_op (a b : Int) : (regsT a b).op ≠ 35 := by
  unfold regsT
  split
  · intro h; cases h
  split
  · intro h; dsimp only at h; omega
  split
  · intro h; cases h
  split
  · intro h; cases h
  · exact data_op _ _ _ _ _ _ _
theorem imms_op (E : Int → Int) (V : Int → Bool) (a b : Int) : (immsT E V a b).op ≠ 35 := by
  unfold immsT
  split
  · split
    · exact data_op _ _ _ _ _ _ _
    · intro h; cases h
  repeat' split
  all_goals (intro h; cases h)
theorem loads_op (a b : Int) : (loadsT a b).op ≠ 35 := by
  have h1 := opL_le (a / 16 % 8)
  unfold loadsT
  repeat' split
  all_goals (intro h; first | cases h | (dsimp only at h; omega))
theorem others_op (a b : Int) : (othersT a b).op ≠ 35 := by
  unfold othersT
  repeat' split
  all_goals (intro h; first | cases h | (dsimp only at h; omega))
theorem no_near (E : Int → Int) (V : Int → Bool) (a b : Int) (x : I) (hn : ¬ (61440 ≤ a ∧ a < 63488 ∧ 32768 ≤ b ∧ ¬ (a = 62383 ∧ b = 32768) ∧ (b / 16384 % 2 = 0 ∧ b / 4096 % 2 = 0))) (hx : tallS E V a b false = x) : ¬ (x.op = 35 ∧ x.cond ≠ 14) := by
  rintro ⟨h1, h2⟩
  subst hx
  by_cases hb : 61440 ≤ a ∧ a < 63488 ∧ 32768 ≤ b
  · rw [at_branch E V hb.1 hb.2.1 hb.2.2] at h1 h2
    unfold branchT at h1 h2
    by_cases hnop : a = 62383 ∧ b = 32768
    · rw [if_pos hnop] at h1
      cases h1
    · have h4 : ¬ (b / 16384 % 2 = 0 ∧ b / 4096 % 2 = 0) := fun h4 => hn ⟨hb.1, hb.2.1, hb.2.2, hnop, h4⟩
      rw [if_neg hnop, if_neg h4] at h1 h2
      by_cases h5 : b / 4096 % 2 = 1
      · rw [if_pos h5] at h1 h2
        dsimp only at h1 h2
        by_cases h6 : b / 16384 % 2 = 0
        · rw [if_pos h6] at h2; exact h2 rfl
        · rw [if_neg h6] at h1; cases h1
      · rw [if_neg h5] at h1
        cases h1
  · revert h1
    unfold tallS
    split
    · intro h; cases h
    split
    · exact many_op a b
    split
    · exact regs_op a b
    split
    · intro h; cases h
    split
    · rw [if_pos (show b < 32768 by omega)]
      exact imms_op E V a b
    split
    · exact loads_op a b
    split
    · intro h; cases h
    split
    · exact others_op a b
    · intro h; cases h
/-- but for branches by a condition two halfwords are read the same in a block -/
theorem blocks (E : Int → Int) (V : Int → Bool) (a b : Int) :
    (∃ x, tallS E V a b false = x ∧ x.op = 35 ∧ x.cond ≠ 14 ∧ tallP E V a b true = none) ∨ (tallP E V a b true = tallP E V a b false ∧ ∀ x, tallP E V a b false = some x → ¬ (x.op = 35 ∧ x.cond ≠ 14)) := by
  by_cases hn : 61440 ≤ a ∧ a < 63488 ∧ 32768 ≤ b ∧ ¬ (a = 62383 ∧ b = 32768) ∧ (b / 16384 % 2 = 0 ∧ b / 4096 % 2 = 0)
  · obtain ⟨h0, h1, h2, h3, h4⟩ := hn
    by_cases hc : a / 64 % 16 < 14
    · refine .inl ⟨_, rfl, ?_⟩
      have hS : tallS E V a b true = Z := by
        rw [at_branch E V h0 h1 h2]
        unfold branchT
        rw [if_neg h3, if_pos h4, if_neg (fun h => by cases h.2)]
      have hz : tallP E V a b true = none := by
        unfold tallP
        rw [hS, z_no, if_neg Bool.false_ne_true]
      rw [at_branch E V h0 h1 h2]
      unfold branchT
      rw [if_neg h3, if_pos h4, if_pos ⟨hc, rfl⟩]
      refine ⟨rfl, ?_, hz⟩
      dsimp only
      omega
    · have hS : ∀ it, tallS E V a b it = Z := fun it => by
        rw [at_branch E V h0 h1 h2]
        unfold branchT
        rw [if_neg h3, if_pos h4, if_neg (fun h => hc h.1)]
      have hz : ∀ it, tallP E V a b it = none := fun it => by
        unfold tallP
        rw [hS, z_no, if_neg Bool.false_ne_true]
      refine .inr ⟨by rw [hz, hz], fun x h => ?_⟩
      rw [hz] at h
      cases h
  · have hs : tallS E V a b true = tallS E V a b false := by
      by_cases hb : 61440 ≤ a ∧ a < 63488 ∧ 32768 ≤ b
      · rw [at_branch E V hb.1 hb.2.1 hb.2.2, at_branch E V hb.1 hb.2.1 hb.2.2]
        unfold branchT
        by_cases hnop : a = 62383 ∧ b = 32768
        · rw [if_pos hnop, if_pos hnop]
        · have h4 : ¬ (b / 16384 % 2 = 0 ∧ b / 4096 % 2 = 0) := fun h4 => hn ⟨hb.1, hb.2.1, hb.2.2, hnop, h4⟩
          rw [if_neg hnop, if_neg hnop, if_neg h4, if_neg h4]
      · unfold tallS
        by_cases h1 : a < 61440
        · simp only [h1, if_true]
        · by_cases h2 : a < 63488
          · have h3 : b < 32768 := Classical.byContradiction fun q => hb ⟨by omega, h2, by omega⟩
            simp only [h3, if_true]
          · simp only [h2, if_false]
    refine .inr ⟨by unfold tallP; rw [hs], fun x h hx => ?_⟩
    have hx' : tallS E V a b false = x := by
      unfold tallP at h
      split at h
      · exact Option.some.inj h
      · cases h
    exact no_near E V a b x hn hx' hx
end Tm
end Go.Proofs.YtdcnkmkaafimlaaDoor
