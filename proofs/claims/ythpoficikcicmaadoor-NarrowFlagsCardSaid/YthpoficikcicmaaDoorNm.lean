/- The halfword of an instruction, plainly, and the instruction of a halfword; the second one undoes the first. No program; no conditions but those that each fact names. -/
import Derived.Test.YthpoficikcicmaaDoorIm
namespace Go.Proofs.YthpoficikcicmaaDoor
namespace Nm

/-- an instruction -/
structure I where
  op : Int
  cond : Int
  rd : Int
  rn : Int
  rm : Int
  imm : Int
  mode : Int
  list : Int
  s : Bool

def low (r : Int) : Bool := decide (0 ≤ r ∧ r ≤ 7)
/-- bit 3 at bit 7, and the lowest three bits -/
def up (r : Int) : Int := r / 8 * 128 + r % 8
def opt (b : Bool) (h : Int) : Option Int := if b then some h else none

/-- operations of two low registers -/
def twoI (i : I) (f it : Bool) : Option Int :=
  if i.op = 20 then opt (it && (i.rd == i.rm && (low i.rd && low i.rn))) (17216 + i.rn * 8 + i.rd)
  else if i.op = 9 then opt (i.mode == 1 && (i.imm == 0 && (f && (low i.rd && low i.rn)))) (16960 + i.rn * 8 + i.rd)
  else if i.mode ≠ 2 then none
  else if i.op = 1 then opt (i.rd == i.rn && (f && (low i.rd && low i.rm))) (16384 + i.rm * 8 + i.rd)
  else if i.op = 2 then opt (i.rd == i.rn && (f && (low i.rd && low i.rm))) (16448 + i.rm * 8 + i.rd)
  else if i.op = 6 then opt (i.rd == i.rn && (f && (low i.rd && low i.rm))) (16704 + i.rm * 8 + i.rd)
  else if i.op = 8 then opt (i.rd == i.rn && (f && (low i.rd && low i.rm))) (16768 + i.rm * 8 + i.rd)
  else if i.op = 3 then opt (i.rd == i.rn && (f && (low i.rd && low i.rm))) (17152 + i.rm * 8 + i.rd)
  else if i.op = 4 then opt (i.rd == i.rn && (f && (low i.rd && low i.rm))) (17280 + i.rm * 8 + i.rd)
  else if i.op = 11 then opt (f && (low i.rd && low i.rm)) (17344 + i.rm * 8 + i.rd)
  else if i.op = 14 then opt (low i.rn && low i.rm) (16896 + i.rm * 8 + i.rn)
  else if i.op = 13 then opt (low i.rn && low i.rm) (17088 + i.rm * 8 + i.rn)
  else none
/-- Cmp and Mov -/
def moveI (i : I) (f it : Bool) : Option Int :=
  if i.op = 12 then
    if i.mode = 1 then opt (low i.rn && decide (i.imm ≤ 255)) (10240 + i.rn * 256 + i.imm)
    else if (low i.rn && low i.rm) = true then some (17024 + i.rm * 8 + i.rn) else some (17664 + i.rm * 8 + up i.rn)
  else if i.mode = 1 then opt (low i.rd && (decide (i.imm ≤ 255) && f)) (8192 + i.rd * 256 + i.imm)
  else if i.s = true then opt (!it && (low i.rd && low i.rm)) (i.rm * 8 + i.rd)
  else some (17920 + i.rm * 8 + up i.rd)
/-- Add and Sub -/
def subI (i : I) : Int := if i.op = 7 then 1 else 0
def sumI (i : I) (f : Bool) : Option Int :=
  if i.mode = 2 then
    if (f && (low i.rd && (low i.rn && low i.rm))) = true then some (6144 + subI i * 512 + i.rm * 64 + i.rn * 8 + i.rd)
    else opt (i.op == 5 && (i.rd == i.rn && !i.s)) (17408 + i.rm * 8 + up i.rd)
  else if (f && (low i.rd && (low i.rn && decide (i.imm ≤ 7)))) = true then some (7168 + subI i * 512 + i.imm * 64 + i.rn * 8 + i.rd)
  else opt (f && (i.rd == i.rn && (low i.rd && decide (i.imm ≤ 255)))) (12288 + subI i * 2048 + i.rd * 256 + i.imm)
/-- Lsl to Ror -/
def shiftI (i : I) (f : Bool) : Option Int :=
  if i.mode = 1 then opt (!(i.op == 19) && (f && (low i.rd && low i.rn))) ((i.op - 16) * 2048 + i.imm % 32 * 64 + i.rn * 8 + i.rd)
  else opt (f && (i.rd == i.rn && (low i.rd && low i.rm))) ((if i.op = 16 then 16512 else if i.op = 17 then 16576 else if i.op = 18 then 16640 else 16832) + i.rm * 8 + i.rd)
/-- Ldr to Strh -/
def regB (op : Int) : Int := if op = 25 then 22528 else if op = 26 then 23552 else if op = 27 then 23040 else if op = 28 then 20480 else if op = 29 then 21504 else 20992
def immB (op : Int) : Int := if op = 25 then 26624 else if op = 26 then 30720 else if op = 27 then 34816 else if op = 28 then 24576 else if op = 29 then 28672 else 32768
def byB (op : Int) : Int := if op = 25 ∨ op = 28 then 4 else if op = 26 ∨ op = 29 then 1 else 2
def loadI (i : I) : Option Int :=
  if i.mode = 2 then opt (low i.rd && (low i.rn && low i.rm)) (regB i.op + i.rm * 64 + i.rn * 8 + i.rd)
  else if i.rn = 13 then opt ((i.op == 25 || i.op == 28) && (low i.rd && (i.imm % 4 == 0 && decide (i.imm ≤ 1020)))) ((if i.op = 28 then 36864 else 38912) + i.rd * 256 + i.imm / 4)
  else opt (low i.rd && (low i.rn && (i.imm % byB i.op == 0 && decide (i.imm / byB i.op ≤ 31)))) (immB i.op + i.imm / byB i.op * 64 + i.rn * 8 + i.rd)
/-- B, Cbz, Cbnz -/
def fits1 (n : Int) : Bool := decide (-256 ≤ n) && (decide (n ≤ 254) && n % 2 == 0)
def fits2 (n : Int) : Bool := decide (-2048 ≤ n) && (decide (n ≤ 2046) && n % 2 == 0)
def branchI (i : I) (it : Bool) : Option Int :=
  if i.op = 35 then
    if i.cond = 14 then opt (fits2 i.imm) (57344 + i.imm / 2 % 2048)
    else opt (!it && fits1 i.imm) (53248 + i.cond * 256 + i.imm / 2 % 256)
  else opt (!it) ((if i.op = 38 then 47360 else 45312) + i.imm / 64 % 2 * 512 + i.imm / 2 % 32 * 8 + i.rn)
/-- all others -/
def restI (i : I) (it : Bool) : Option Int :=
  if i.op = 32 then opt (low i.rn && decide (i.list ≤ 255)) (49152 + i.rn * 256 + i.list)
  else if i.op = 31 then opt (low i.rn && decide (i.list ≤ 255)) (51200 + i.rn * 256 + i.list)
  else if i.op = 33 then opt (i.list / 256 % 64 == 0) (46080 + i.list / 16384 % 2 * 256 + i.list % 256)
  else if i.op = 34 then opt (i.list / 256 % 128 == 0) (48128 + i.list / 32768 % 2 * 256 + i.list % 256)
  else if i.op = 39 then some (18176 + i.rm * 8)
  else if i.op = 40 then opt (low i.rd && (decide (0 ≤ i.imm) && (decide (i.imm ≤ 1020) && i.imm % 4 == 0))) (18432 + i.rd * 256 + i.imm / 4)
  else if i.op = 41 then opt (low i.rd && (decide (0 ≤ i.imm) && (decide (i.imm ≤ 1020) && i.imm % 4 == 0))) (40960 + i.rd * 256 + i.imm / 4)
  else if i.op = 42 then opt (!it) (48896 + i.cond * 16 + i.imm)
  else if i.op = 43 then some 48896
  else if i.op = 44 then some (48640 + i.imm)
  else none
def okB (i : I) : Bool := Im.checkB i.op i.cond i.rd i.rn i.rm i.imm i.mode i.list i.s
def rowI (i : I) (it : Bool) : Option Int :=
  if i.op = 5 ∨ i.op = 7 then sumI i (i.s != it)
  else if i.op = 10 ∨ i.op = 12 then moveI i (i.s != it) it
  else if i.op ≤ 14 ∨ i.op = 20 then twoI i (i.s != it) it
  else if 16 ≤ i.op ∧ i.op ≤ 19 then shiftI i (i.s != it)
  else if 25 ≤ i.op ∧ i.op ≤ 30 then loadI i
  else if i.op = 35 ∨ i.op = 37 ∨ i.op = 38 then branchI i it
  else restI i it
/-- the halfword, if there is one -/
def encI (i : I) (it : Bool) : Option Int := if okB i = true then rowI i it else none

/-! back -/
def hi4 (h : Int) : Int := h / 128 % 2 * 8 + h % 8
/-- below 0x4000 -/
def dec0 (h : Int) (it : Bool) : I :=
  if h < 64 then ⟨10, 0, h % 8, 0, h / 8 % 8, 0, 2, 0, true⟩
  else if h < 2048 then ⟨16, 0, h % 8, h / 8 % 8, 0, h / 64 % 32, 1, 0, !it⟩
  else if h < 4096 then ⟨17, 0, h % 8, h / 8 % 8, 0, if h / 64 % 32 = 0 then 32 else h / 64 % 32, 1, 0, !it⟩
  else if h < 6144 then ⟨18, 0, h % 8, h / 8 % 8, 0, if h / 64 % 32 = 0 then 32 else h / 64 % 32, 1, 0, !it⟩
  else if h < 6656 then ⟨5, 0, h % 8, h / 8 % 8, h / 64 % 8, 0, 2, 0, !it⟩
  else if h < 7168 then ⟨7, 0, h % 8, h / 8 % 8, h / 64 % 8, 0, 2, 0, !it⟩
  else if h < 7680 then ⟨5, 0, h % 8, h / 8 % 8, 0, h / 64 % 8, 1, 0, !it⟩
  else if h < 8192 then ⟨7, 0, h % 8, h / 8 % 8, 0, h / 64 % 8, 1, 0, !it⟩
  else if h < 10240 then ⟨10, 0, h / 256 % 8, 0, 0, h % 256, 1, 0, !it⟩
  else if h < 12288 then ⟨12, 0, 0, h / 256 % 8, 0, h % 256, 1, 0, false⟩
  else if h < 14336 then ⟨5, 0, h / 256 % 8, h / 256 % 8, 0, h % 256, 1, 0, !it⟩
  else ⟨7, 0, h / 256 % 8, h / 256 % 8, 0, h % 256, 1, 0, !it⟩
/-- from 0x4000 to 0x43FF -/
def dec1 (h : Int) (it : Bool) : I :=
  if h < 16448 then ⟨1, 0, h % 8, h % 8, h / 8 % 8, 0, 2, 0, !it⟩
  else if h < 16512 then ⟨2, 0, h % 8, h % 8, h / 8 % 8, 0, 2, 0, !it⟩
  else if h < 16576 then ⟨16, 0, h % 8, h % 8, h / 8 % 8, 0, 2, 0, !it⟩
  else if h < 16640 then ⟨17, 0, h % 8, h % 8, h / 8 % 8, 0, 2, 0, !it⟩
  else if h < 16704 then ⟨18, 0, h % 8, h % 8, h / 8 % 8, 0, 2, 0, !it⟩
  else if h < 16768 then ⟨6, 0, h % 8, h % 8, h / 8 % 8, 0, 2, 0, !it⟩
  else if h < 16832 then ⟨8, 0, h % 8, h % 8, h / 8 % 8, 0, 2, 0, !it⟩
  else if h < 16896 then ⟨19, 0, h % 8, h % 8, h / 8 % 8, 0, 2, 0, !it⟩
  else if h < 16960 then ⟨14, 0, 0, h % 8, h / 8 % 8, 0, 2, 0, false⟩
  else if h < 17024 then ⟨9, 0, h % 8, h / 8 % 8, 0, 0, 1, 0, !it⟩
  else if h < 17088 then ⟨12, 0, 0, h % 8, h / 8 % 8, 0, 2, 0, false⟩
  else if h < 17152 then ⟨13, 0, 0, h % 8, h / 8 % 8, 0, 2, 0, false⟩
  else if h < 17216 then ⟨3, 0, h % 8, h % 8, h / 8 % 8, 0, 2, 0, !it⟩
  else if h < 17280 then ⟨20, 0, h % 8, h / 8 % 8, h % 8, 0, 2, 0, false⟩
  else if h < 17344 then ⟨4, 0, h % 8, h % 8, h / 8 % 8, 0, 2, 0, !it⟩
  else ⟨11, 0, h % 8, 0, h / 8 % 8, 0, 2, 0, !it⟩
/-- from 0x4400 to 0x47FF -/
def dec2 (h : Int) : I :=
  if h < 17664 then ⟨5, 0, hi4 h, hi4 h, h / 8 % 16, 0, 2, 0, false⟩
  else if h < 17920 then ⟨12, 0, 0, hi4 h, h / 8 % 16, 0, 2, 0, false⟩
  else if h < 18176 then ⟨10, 0, hi4 h, 0, h / 8 % 16, 0, 2, 0, false⟩
  else ⟨39, 0, 0, 0, h / 8 % 16, 0, 2, 0, false⟩
/-- from 0x5000 to 0x9FFF -/
def dec3 (h : Int) : I :=
  if h < 20992 then ⟨28, 0, h % 8, h / 8 % 8, h / 64 % 8, 0, 2, 0, false⟩
  else if h < 21504 then ⟨30, 0, h % 8, h / 8 % 8, h / 64 % 8, 0, 2, 0, false⟩
  else if h < 22016 then ⟨29, 0, h % 8, h / 8 % 8, h / 64 % 8, 0, 2, 0, false⟩
  else if h < 23040 then ⟨25, 0, h % 8, h / 8 % 8, h / 64 % 8, 0, 2, 0, false⟩
  else if h < 23552 then ⟨27, 0, h % 8, h / 8 % 8, h / 64 % 8, 0, 2, 0, false⟩
  else if h < 24576 then ⟨26, 0, h % 8, h / 8 % 8, h / 64 % 8, 0, 2, 0, false⟩
  else if h < 26624 then ⟨28, 0, h % 8, h / 8 % 8, 0, h / 64 % 32 * 4, 1, 0, false⟩
  else if h < 28672 then ⟨25, 0, h % 8, h / 8 % 8, 0, h / 64 % 32 * 4, 1, 0, false⟩
  else if h < 30720 then ⟨29, 0, h % 8, h / 8 % 8, 0, h / 64 % 32, 1, 0, false⟩
  else if h < 32768 then ⟨26, 0, h % 8, h / 8 % 8, 0, h / 64 % 32, 1, 0, false⟩
  else if h < 34816 then ⟨30, 0, h % 8, h / 8 % 8, 0, h / 64 % 32 * 2, 1, 0, false⟩
  else if h < 36864 then ⟨27, 0, h % 8, h / 8 % 8, 0, h / 64 % 32 * 2, 1, 0, false⟩
  else if h < 38912 then ⟨28, 0, h / 256 % 8, 13, 0, h % 256 * 4, 1, 0, false⟩
  else ⟨25, 0, h / 256 % 8, 13, 0, h % 256 * 4, 1, 0, false⟩
/-- from 0xB000 to 0xBFFF -/
def dec4 (h : Int) : I :=
  if h < 46080 then ⟨37, 0, 0, h % 8, 0, h / 512 % 2 * 64 + h / 8 % 32 * 2, 1, 0, false⟩
  else if h < 46592 then ⟨33, 0, 0, 0, 0, 0, 0, h % 256 + h / 256 % 2 * 16384, false⟩
  else if h < 48128 then ⟨38, 0, 0, h % 8, 0, h / 512 % 2 * 64 + h / 8 % 32 * 2, 1, 0, false⟩
  else if h < 48640 then ⟨34, 0, 0, 0, 0, 0, 0, h % 256 + h / 256 % 2 * 32768, false⟩
  else if h < 48896 then ⟨44, 0, 0, 0, 0, h % 256, 1, 0, false⟩
  else if h = 48896 then ⟨43, 0, 0, 0, 0, 0, 0, 0, false⟩
  else ⟨42, h / 16 % 16, 0, 0, 0, h % 16, 1, 0, false⟩
/-- the instruction that has the halfword -/
def decI (h : Int) (it : Bool) : I :=
  if h < 16384 then dec0 h it
  else if h < 17408 then dec1 h it
  else if h < 18432 then dec2 h
  else if h < 20480 then ⟨40, 0, h / 256 % 8, 0, 0, h % 256 * 4, 1, 0, false⟩
  else if h < 40960 then dec3 h
  else if h < 45056 then ⟨41, 0, h / 256 % 8, 0, 0, h % 256 * 4, 1, 0, false⟩
  else if h < 49152 then dec4 h
  else if h < 51200 then ⟨32, 0, 0, h / 256 % 8, 0, 0, 0, h % 256, false⟩
  else if h < 53248 then ⟨31, 0, 0, h / 256 % 8, 0, 0, 0, h % 256, false⟩
  else if h < 57344 then ⟨35, h / 256 % 16, 0, 0, 0, if h % 256 < 128 then h % 256 * 2 else h % 256 * 2 - 512, 1, 0, false⟩
  else ⟨35, 14, 0, 0, 0, if h % 2048 < 1024 then h % 2048 * 2 else h % 2048 * 2 - 4096, 1, 0, false⟩
end Nm
end Go.Proofs.YthpoficikcicmaaDoor
