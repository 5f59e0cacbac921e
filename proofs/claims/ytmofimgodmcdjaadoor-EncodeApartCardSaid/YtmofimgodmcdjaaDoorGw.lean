/- The two halfwords of an instruction, plainly, and the instruction of two halfwords. F finds the number of twelve bits that tells a number, E tells it. No program; no conditions but those that each fact names. The instruction of two halfwords, plainly. No conditions. The instruction of an instruction's two halfwords is that instruction: operation by operation (text by gen_wd.py). F's answer is of twelve bits and tells its number by E. The same of the other operations but those on data (text by gen_wd.py). -/
import Derived.Test.YtmofimgodmcdjaaDoorGa

namespace Go.Proofs.YtmofimgodmcdjaaDoor
namespace Wm
open Nm (I)

/-- a number of twelve bits in both halfwords -/
def x1 (n : Int) : Int := n / 2048 % 2 * 1024
def x2 (n : Int) : Int := n / 256 % 8 * 4096 + n % 256
def opN (op : Int) : Int :=
  if op = 1 then 0 else if op = 2 then 4 else if op = 3 then 2 else if op = 4 then 1 else if op = 5 then 8 else if op = 6 then 10 else if op = 7 then 13 else if op = 8 then 11
  else if op = 9 then 14 else if op = 10 then 2 else if op = 11 then 3 else if op = 12 then 13 else if op = 13 then 8 else if op = 14 then 0 else 4
def fl (i : I) : Int := if i.s = true ∨ (12 ≤ i.op ∧ i.op ≤ 15) then 16 else 0
def rN (i : I) : Int := if i.op = 10 ∨ i.op = 11 then 15 else i.rn
def dN (i : I) : Int := if 12 ≤ i.op then 15 else i.rd
def dataW (F : Int → Option Int) (i : I) : Option (Int × Int) :=
  if i.mode = 2 then (if dN i ≠ 13 ∧ i.rm ≠ 13 then some (59904 + opN i.op * 32 + fl i + rN i, dN i * 256 + i.rm) else none)
  else match F i.imm with
    | some n => some (61440 + opN i.op * 32 + fl i + rN i + x1 n, dN i * 256 + x2 n)
    | none => if (i.op = 5 ∨ i.op = 7) ∧ i.s = false ∧ i.imm ≤ 4095 then some ((if i.op = 7 then 62112 else 61952) + rN i + x1 i.imm, dN i * 256 + x2 i.imm) else none
def shiftW (i : I) : Option (Int × Int) :=
  if i.mode = 2 then some (64000 + (i.op - 16) * 32 + fl i + i.rn, 61440 + i.rd * 256 + i.rm)
  else some (59983 + fl i, i.imm % 32 / 4 * 4096 + i.rd * 256 + i.imm % 4 * 64 + (i.op - 16) * 16 + i.rn)
def loadK (op : Int) : Int := if op = 25 then 80 else if op = 26 then 16 else if op = 27 then 48 else if op = 28 then 64 else if op = 29 then 0 else 32
def loadW (i : I) : Option (Int × Int) :=
  if i.mode = 2 then some (63488 + loadK i.op + i.rn, i.rd * 4096 + i.rm) else some (63616 + loadK i.op + i.rn, i.rd * 4096 + i.imm)
def placeW (i : I) : Option (Int × Int) :=
  if i.op = 40 then (if i.imm < 0 then some (63583, i.rd * 4096 + -i.imm) else some (63711, i.rd * 4096 + i.imm))
  else (if i.imm < 0 then some (62127 + x1 (-i.imm), i.rd * 256 + x2 (-i.imm)) else some (61967 + x1 i.imm, i.rd * 256 + x2 i.imm))
def sg (off : Int) : Int := if off < 0 then 1 else 0
/-- the pieces of offsets of the kinds 3 and 4 -/
def p3a (off : Int) : Int := sg off * 1024 + off / 4096 % 64
def p3b (off : Int) : Int := off / 262144 % 2 * 8192 + off / 524288 % 2 * 2048 + off / 2 % 2048
def p4a (off : Int) : Int := sg off * 1024 + off / 4096 % 1024
def p4b (off : Int) : Int := (1 + off / 8388608 % 2 + sg off) % 2 * 8192 + (1 + off / 4194304 % 2 + sg off) % 2 * 2048 + off / 2 % 2048
def branchW (i : I) (it : Bool) : Option (Int × Int) :=
  if i.op = 35 ∧ i.cond ≠ 14 then (if it = false ∧ -1048576 ≤ i.imm ∧ i.imm ≤ 1048574 ∧ i.imm % 2 = 0 then some (61440 + i.cond * 64 + p3a i.imm, 32768 + p3b i.imm) else none)
  else some (61440 + p4a i.imm, (if i.op = 36 then 53248 else 36864) + p4b i.imm)
def restW (i : I) : Option (Int × Int) :=
  if i.op = 20 then some (64256 + i.rn, 61440 + i.rd * 256 + i.rm)
  else if i.op = 22 then some (64400 + i.rn, 61680 + i.rd * 256 + i.rm)
  else if i.op = 21 then some (64432 + i.rn, 61680 + i.rd * 256 + i.rm)
  else if i.op = 23 ∨ i.op = 24 then some ((if i.op = 24 then 62144 else 62016) + i.imm / 4096 + x1 (i.imm % 4096), i.rd * 256 + x2 (i.imm % 4096))
  else if i.op = 32 then some (59552 + i.rn, i.list)
  else if i.op = 31 then some (59568 + i.rn, i.list)
  else if i.op = 33 then (if 2 ≤ Im.pop i.list.toNat then some (59693, i.list) else none)
  else if i.op = 34 then (if 2 ≤ Im.pop i.list.toNat then some (59581, i.list) else none)
  else if i.op = 43 then some (62383, 32768)
  else if i.op = 45 then some (59600 + i.rn, 61440 + i.rm)
  else none
def rowW (F : Int → Option Int) (i : I) (it : Bool) : Option (Int × Int) :=
  if i.op ≤ 15 then dataW F i
  else if i.op ≤ 19 then shiftW i
  else if 25 ≤ i.op ∧ i.op ≤ 30 then loadW i
  else if i.op = 40 ∨ i.op = 41 then placeW i
  else if i.op = 35 ∨ i.op = 36 then branchW i it
  else restW i
/-- both halfwords, if there are some -/
def encW (F : Int → Option Int) (i : I) (it : Bool) : Option (Int × Int) := if Nm.okB i = true then rowW F i it else none
end Wm
end Go.Proofs.YtmofimgodmcdjaaDoor

namespace Go.Proofs.YtmofimgodmcdjaaDoor
namespace Wm
open Nm (I)

/-- an operation on data, by its number, its registers -/
def dataD (o r d m : Int) (imm mode : Int) (f : Bool) : I :=
  if d = 15 then ⟨if o = 13 then 12 else if o = 8 then 13 else if o = 0 then 14 else 15, 0, 0, r, m, imm, mode, 0, false⟩
  else if o = 2 ∧ r = 15 then ⟨10, 0, d, 0, m, imm, mode, 0, f⟩
  else if o = 3 then ⟨11, 0, d, 0, m, imm, mode, 0, f⟩
  else ⟨if o = 0 then 1 else if o = 4 then 2 else if o = 2 then 3 else if o = 1 then 4 else if o = 8 then 5 else if o = 10 then 6 else if o = 13 then 7 else if o = 11 then 8 else 9, 0, d, r, m, imm, mode, 0, f⟩
def bitD (a k : Int) : Int := a / k % 2
def num (a b : Int) : Int := a / 1024 % 2 * 2048 + b / 4096 % 8 * 256 + b % 256
/-- from EA00 on -/
def decA (a b : Int) : I :=
  if (a = 59983 ∨ a = 59999) ∧ ¬ (b < 4096 ∧ b % 256 < 16) then
    ⟨16 + b / 16 % 4, 0, b / 256 % 16, b % 16, 0, if b / 4096 * 4 + b / 64 % 4 = 0 then 32 else b / 4096 * 4 + b / 64 % 4, 1, 0, a == 59999⟩
  else dataD ((a - 59904) / 32) (a % 16) (b / 256) (b % 256) 0 2 (a / 16 % 2 == 1)
/-- from F000 on, the second from 8000 on -/
def decB (a b : Int) : I :=
  if a = 62383 ∧ b = 32768 then ⟨43, 0, 0, 0, 0, 0, 0, 0, false⟩
  else if b / 4096 = 8 ∨ b / 4096 = 10 then ⟨35, (a - 61440) / 64 % 16, 0, 0, 0, a % 64 * 4096 + b / 8192 % 2 * 262144 + b / 2048 % 2 * 524288 + b % 2048 * 2 - a / 1024 % 2 * 1048576, 1, 0, false⟩
  else ⟨if b / 4096 = 9 ∨ b / 4096 = 11 then 35 else 36, if b / 4096 = 9 ∨ b / 4096 = 11 then 14 else 0, 0, 0, 0, a % 1024 * 4096 + (1 + b / 8192 % 2 + a / 1024 % 2) % 2 * 8388608 + (1 + b / 2048 % 2 + a / 1024 % 2) % 2 * 4194304 + b % 2048 * 2 - a / 1024 % 2 * 16777216, 1, 0, false⟩
/-- from F000 on, the second below 8000 -/
def decC (E : Int → Int) (a b : Int) : I :=
  if a / 512 % 2 = 0 then dataD (a / 32 % 16) (a % 16) (b / 256 % 16) 0 (E (num a b)) 1 (a / 16 % 2 == 1)
  else if a / 16 % 32 = 4 then ⟨23, 0, b / 256 % 16, 0, 0, a % 16 * 4096 + num a b, 1, 0, false⟩
  else if a / 16 % 32 = 12 then ⟨24, 0, b / 256 % 16, 0, 0, a % 16 * 4096 + num a b, 1, 0, false⟩
  else if a / 16 % 32 = 0 then (if a % 16 = 15 then ⟨41, 0, b / 256 % 16, 0, 0, num a b, 1, 0, false⟩ else ⟨5, 0, b / 256 % 16, a % 16, 0, num a b, 1, 0, false⟩)
  else if a % 16 = 15 then ⟨41, 0, b / 256 % 16, 0, 0, -num a b, 1, 0, false⟩ else ⟨7, 0, b / 256 % 16, a % 16, 0, num a b, 1, 0, false⟩
def opK (k : Int) : Int := if k = 5 then 25 else if k = 1 then 26 else if k = 3 then 27 else if k = 4 then 28 else if k = 0 then 29 else 30
/-- from F800 on -/
def decD (a b : Int) : I :=
  if a = 63583 then ⟨40, 0, b / 4096, 0, 0, -(b % 4096), 1, 0, false⟩
  else if a = 63711 then ⟨40, 0, b / 4096, 0, 0, b % 4096, 1, 0, false⟩
  else if a < 63616 then ⟨opK ((a - 63488) / 16), 0, b / 4096, a % 16, b % 4096, 0, 2, 0, false⟩
  else if a < 63744 then ⟨opK ((a - 63616) / 16), 0, b / 4096, a % 16, 0, b % 4096, 1, 0, false⟩
  else if a < 64256 then ⟨16 + (a - 64000) / 32, 0, b / 256 % 16, a % 16, b % 16, 0, 2, 0, a / 16 % 2 == 1⟩
  else if a < 64400 then ⟨20, 0, b / 256 % 16, a % 16, b % 16, 0, 2, 0, false⟩
  else if a < 64432 then ⟨22, 0, b / 256 % 16, a % 16, b % 16, 0, 2, 0, false⟩
  else ⟨21, 0, b / 256 % 16, a % 16, b % 16, 0, 2, 0, false⟩
/-- the instruction that has the halfwords -/
def decW (E : Int → Int) (a b : Int) : I :=
  if a < 59568 then ⟨32, 0, 0, a - 59552, 0, 0, 0, b, false⟩
  else if a = 59581 then ⟨34, 0, 0, 0, 0, 0, 0, b, false⟩
  else if a < 59584 then ⟨31, 0, 0, a - 59568, 0, 0, 0, b, false⟩
  else if a < 59616 then ⟨45, 0, 0, a - 59600, b % 16, 0, 2, 0, false⟩
  else if a < 59904 then ⟨33, 0, 0, 0, 0, 0, 0, b, false⟩
  else if a < 61440 then decA a b
  else if a < 63488 then (if 32768 ≤ b then decB a b else decC E a b)
  else decD a b
end Wm
end Go.Proofs.YtmofimgodmcdjaaDoor

namespace Go.Proofs.YtmofimgodmcdjaaDoor
namespace Wm
open Nm (I)

/-- what is found is of twelve bits, and tells the number -/
def Finds (F : Int → Option Int) (E : Int → Int) : Prop := ∀ x n, F x = some n → 0 ≤ n ∧ n < 4096 ∧ E n = x
theorem num_x (q n d : Int) (h0 : 0 ≤ n) (h1 : n < 4096) (hq : q % 2048 < 1024) (hd : d % 256 = 0) (hd1 : d / 4096 % 8 = 0) : num (q + x1 n) (d + x2 n) = n := by
  unfold num x1 x2
  omega
theorem even_of {n : Int} (h : Int.tmod n 2 = 0) : n % 2 = 0 := by rw [Int.tmod_eq_emod] at h; split at h <;> omega
theorem fl_t (op c d n m x o l : Int) : fl ⟨op, c, d, n, m, x, o, l, true⟩ = 16 := if_pos (.inl rfl)
theorem fl_f (op c d n m x o l : Int) (h : op < 12 ∨ 15 < op) : fl ⟨op, c, d, n, m, x, o, l, false⟩ = 0 := by
  unfold fl
  refine if_neg ?_
  rintro (h' | h')
  · cases h'
  · dsimp only at h'
    omega
theorem wdec_16t (E : Int → Int) (F : Int → Option Int) (cond rd rn rm imm mode list : Int) (it : Bool) (a b : Int) (hok : Nm.okB ⟨16, cond, rd, rn, rm, imm, mode, list, true⟩ = true) (hw : Nm.Wide list) (he : rowW F ⟨16, cond, rd, rn, rm, imm, mode, list, true⟩ it = some (a, b)) :
    59392 ≤ a ∧ a < 65536 ∧ 0 ≤ b ∧ b < 65536 ∧ decW E a b = ⟨16, cond, rd, rn, rm, imm, mode, list, true⟩ := by
  obtain ⟨_, h1, h2, h3, h4, h5, h6⟩ := Nm.ok_parts hok
  clear hok
  have h3' := Nm.last_cases h3
  clear h3
  unfold rowW shiftW at he
  dsimp only at he h1 h2 h3' h4 h5 h6
  have hl := Nm.list_most h4 0 (by decide) rfl hw
  have hc : cond = 0 := by simpa [Im.condB] using h5
  clear h4 h5 h6
  rcases h3' with ⟨rfl, q1, q2, rfl, rfl⟩ | ⟨rfl, q1, q2, q3, q4, rfl⟩ | ⟨rfl, q1, q2, rfl⟩
  · cases (show (1 : Int) = 0 from q1)
  · replace q2 : 1 ≤ imm := q2
    replace q3 : imm ≤ 31 := q3
    clear q1 q4
    have hd := Nm.one_in h1 (by decide)
    have hn := Nm.one_in h2 (by decide)
    clear h1 h2
    repeat (first | rw [if_neg (by omega)] at he | rw [if_pos (by omega)] at he)
    rw [fl_t] at he
    simp only [Option.some.injEq, Prod.mk.injEq] at he
    obtain ⟨rfl, rfl⟩ := he
    refine ⟨by omega, by omega, by omega, by omega, ?_⟩
    unfold decW decA
    repeat (first | rw [if_neg (by omega)] | rw [if_pos (by omega)])
    exact Nm.mk_eq (by omega) (by omega) (by omega) (by omega) (by omega) (by omega) (by omega) (by omega) (by decide)
  · have hm := Nm.one_in q2 (by decide)
    clear q1 q2
    have hd := Nm.one_in h1 (by decide)
    have hn := Nm.one_in h2 (by decide)
    clear h1 h2
    repeat (first | rw [if_neg (by omega)] at he | rw [if_pos (by omega)] at he)
    rw [fl_t] at he
    simp only [Option.some.injEq, Prod.mk.injEq] at he
    obtain ⟨rfl, rfl⟩ := he
    refine ⟨by omega, by omega, by omega, by omega, ?_⟩
    unfold decW decD
    repeat (first | rw [if_neg (by omega)] | rw [if_pos (by omega)])
    exact Nm.mk_eq (by omega) (by omega) (by omega) (by omega) (by omega) (by omega) (by omega) (by omega) (beq_iff_eq.mpr (by omega))
theorem wdec_16f (E : Int → Int) (F : Int → Option Int) (cond rd rn rm imm mode list : Int) (it : Bool) (a b : Int) (hok : Nm.okB ⟨16, cond, rd, rn, rm, imm, mode, list, false⟩ = true) (hw : Nm.Wide list) (he : rowW F ⟨16, cond, rd, rn, rm, imm, mode, list, false⟩ it = some (a, b)) :
    59392 ≤ a ∧ a < 65536 ∧ 0 ≤ b ∧ b < 65536 ∧ decW E a b = ⟨16, cond, rd, rn, rm, imm, mode, list, false⟩ := by
  obtain ⟨_, h1, h2, h3, h4, h5, h6⟩ := Nm.ok_parts hok
  clear hok
  have h3' := Nm.last_cases h3
  clear h3
  unfold rowW shiftW at he
  dsimp only at he h1 h2 h3' h4 h5 h6
  have hl := Nm.list_most h4 0 (by decide) rfl hw
  have hc : cond = 0 := by simpa [Im.condB] using h5
  clear h4 h5 h6
  rcases h3' with ⟨rfl, q1, q2, rfl, rfl⟩ | ⟨rfl, q1, q2, q3, q4, rfl⟩ | ⟨rfl, q1, q2, rfl⟩
  · cases (show (1 : Int) = 0 from q1)
  · replace q2 : 1 ≤ imm := q2
    replace q3 : imm ≤ 31 := q3
    clear q1 q4
    have hd := Nm.one_in h1 (by decide)
    have hn := Nm.one_in h2 (by decide)
    clear h1 h2
    repeat (first | rw [if_neg (by omega)] at he | rw [if_pos (by omega)] at he)
    rw [fl_f _ _ _ _ _ _ _ _ (by decide)] at he
    simp only [Option.some.injEq, Prod.mk.injEq] at he
    obtain ⟨rfl, rfl⟩ := he
    refine ⟨by omega, by omega, by omega, by omega, ?_⟩
    unfold decW decA
    repeat (first | rw [if_neg (by omega)] | rw [if_pos (by omega)])
    exact Nm.mk_eq (by omega) (by omega) (by omega) (by omega) (by omega) (by omega) (by omega) (by omega) (by decide)
  · have hm := Nm.one_in q2 (by decide)
    clear q1 q2
    have hd := Nm.one_in h1 (by decide)
    have hn := Nm.one_in h2 (by decide)
    clear h1 h2
    repeat (first | rw [if_neg (by omega)] at he | rw [if_pos (by omega)] at he)
    rw [fl_f _ _ _ _ _ _ _ _ (by decide)] at he
    simp only [Option.some.injEq, Prod.mk.injEq] at he
    obtain ⟨rfl, rfl⟩ := he
    refine ⟨by omega, by omega, by omega, by omega, ?_⟩
    unfold decW decD
    repeat (first | rw [if_neg (by omega)] | rw [if_pos (by omega)])
    exact Nm.mk_eq (by omega) (by omega) (by omega) (by omega) (by omega) (by omega) (by omega) (by omega) (beq_eq_false_iff_ne.mpr (by omega))
theorem wdec_16 (E : Int → Int) (F : Int → Option Int) (cond rd rn rm imm mode list : Int) (s it : Bool) (a b : Int) (hok : Nm.okB ⟨16, cond, rd, rn, rm, imm, mode, list, s⟩ = true) (hw : Nm.Wide list) (he : rowW F ⟨16, cond, rd, rn, rm, imm, mode, list, s⟩ it = some (a, b)) :
    59392 ≤ a ∧ a < 65536 ∧ 0 ≤ b ∧ b < 65536 ∧ decW E a b = ⟨16, cond, rd, rn, rm, imm, mode, list, s⟩ := by
  cases s
  · exact wdec_16f E F cond rd rn rm imm mode list it a b hok hw he
  · exact wdec_16t E F cond rd rn rm imm mode list it a b hok hw he
theorem wdec_17t (E : Int → Int) (F : Int → Option Int) (cond rd rn rm imm mode list : Int) (it : Bool) (a b : Int) (hok : Nm.okB ⟨17, cond, rd, rn, rm, imm, mode, list, true⟩ = true) (hw : Nm.Wide list) (he : rowW F ⟨17, cond, rd, rn, rm, imm, mode, list, true⟩ it = some (a, b)) :
    59392 ≤ a ∧ a < 65536 ∧ 0 ≤ b ∧ b < 65536 ∧ decW E a b = ⟨17, cond, rd, rn, rm, imm, mode, list, true⟩ := by
  obtain ⟨_, h1, h2, h3, h4, h5, h6⟩ := Nm.ok_parts hok
  clear hok
  have h3' := Nm.last_cases h3
  clear h3
  unfold rowW shiftW at he
  dsimp only at he h1 h2 h3' h4 h5 h6
  have hl := Nm.list_most h4 0 (by decide) rfl hw
  have hc : cond = 0 := by simpa [Im.condB] using h5
  clear h4 h5 h6
  rcases h3' with ⟨rfl, q1, q2, rfl, rfl⟩ | ⟨rfl, q1, q2, q3, q4, rfl⟩ | ⟨rfl, q1, q2, rfl⟩
  · cases (show (1 : Int) = 0 from q1)
  · replace q2 : 1 ≤ imm := q2
    replace q3 : imm ≤ 32 := q3
    clear q1 q4
    have hd := Nm.one_in h1 (by decide)
    have hn := Nm.one_in h2 (by decide)
    clear h1 h2
    repeat (first | rw [if_neg (by omega)] at he | rw [if_pos (by omega)] at he)
    rw [fl_t] at he
    simp only [Option.some.injEq, Prod.mk.injEq] at he
    obtain ⟨rfl, rfl⟩ := he
    refine ⟨by omega, by omega, by omega, by omega, ?_⟩
    unfold decW decA
    repeat (first | rw [if_neg (by omega)] | rw [if_pos (by omega)])
    exact Nm.mk_eq (by omega) (by omega) (by omega) (by omega) (by omega) (by split <;> omega) (by omega) (by omega) (by decide)
  · have hm := Nm.one_in q2 (by decide)
    clear q1 q2
    have hd := Nm.one_in h1 (by decide)
    have hn := Nm.one_in h2 (by decide)
    clear h1 h2
    repeat (first | rw [if_neg (by omega)] at he | rw [if_pos (by omega)] at he)
    rw [fl_t] at he
    simp only [Option.some.injEq, Prod.mk.injEq] at he
    obtain ⟨rfl, rfl⟩ := he
    refine ⟨by omega, by omega, by omega, by omega, ?_⟩
    unfold decW decD
    repeat (first | rw [if_neg (by omega)] | rw [if_pos (by omega)])
    exact Nm.mk_eq (by omega) (by omega) (by omega) (by omega) (by omega) (by omega) (by omega) (by omega) (beq_iff_eq.mpr (by omega))
theorem wdec_17f (E : Int → Int) (F : Int → Option Int) (cond rd rn rm imm mode list : Int) (it : Bool) (a b : Int) (hok : Nm.okB ⟨17, cond, rd, rn, rm, imm, mode, list, false⟩ = true) (hw : Nm.Wide list) (he : rowW F ⟨17, cond, rd, rn, rm, imm, mode, list, false⟩ it = some (a, b)) :
    59392 ≤ a ∧ a < 65536 ∧ 0 ≤ b ∧ b < 65536 ∧ decW E a b = ⟨17, cond, rd, rn, rm, imm, mode, list, false⟩ := by
  obtain ⟨_, h1, h2, h3, h4, h5, h6⟩ := Nm.ok_parts hok
  clear hok
  have h3' := Nm.last_cases h3
  clear h3
  unfold rowW shiftW at he
  dsimp only at he h1 h2 h3' h4 h5 h6
  have hl := Nm.list_most h4 0 (by decide) rfl hw
  have hc : cond = 0 := by simpa [Im.condB] using h5
  clear h4 h5 h6
  rcases h3' with ⟨rfl, q1, q2, rfl, rfl⟩ | ⟨rfl, q1, q2, q3, q4, rfl⟩ | ⟨rfl, q1, q2, rfl⟩
  · cases (show (1 : Int) = 0 from q1)
  · replace q2 : 1 ≤ imm := q2
    replace q3 : imm ≤ 32 := q3
    clear q1 q4
    have hd := Nm.one_in h1 (by decide)
    have hn := Nm.one_in h2 (by decide)
    clear h1 h2
    repeat (first | rw [if_neg (by omega)] at he | rw [if_pos (by omega)] at he)
    rw [fl_f _ _ _ _ _ _ _ _ (by decide)] at he
    simp only [Option.some.injEq, Prod.mk.injEq] at he
    obtain ⟨rfl, rfl⟩ := he
    refine ⟨by omega, by omega, by omega, by omega, ?_⟩
    unfold decW decA
    repeat (first | rw [if_neg (by omega)] | rw [if_pos (by omega)])
    exact Nm.mk_eq (by omega) (by omega) (by omega) (by omega) (by omega) (by split <;> omega) (by omega) (by omega) (by decide)
  · have hm := Nm.one_in q2 (by decide)
    clear q1 q2
    have hd := Nm.one_in h1 (by decide)
    have hn := Nm.one_in h2 (by decide)
    clear h1 h2
    repeat (first | rw [if_neg (by omega)] at he | rw [if_pos (by omega)] at he)
    rw [fl_f _ _ _ _ _ _ _ _ (by decide)] at he
    simp only [Option.some.injEq, Prod.mk.injEq] at he
    obtain ⟨rfl, rfl⟩ := he
    refine ⟨by omega, by omega, by omega, by omega, ?_⟩
    unfold decW decD
    repeat (first | rw [if_neg (by omega)] | rw [if_pos (by omega)])
    exact Nm.mk_eq (by omega) (by omega) (by omega) (by omega) (by omega) (by omega) (by omega) (by omega) (beq_eq_false_iff_ne.mpr (by omega))
theorem wdec_17 (E : Int → Int) (F : Int → Option Int) (cond rd rn rm imm mode list : Int) (s it : Bool) (a b : Int) (hok : Nm.okB ⟨17, cond, rd, rn, rm, imm, mode, list, s⟩ = true) (hw : Nm.Wide list) (he : rowW F ⟨17, cond, rd, rn, rm, imm, mode, list, s⟩ it = some (a, b)) :
    59392 ≤ a ∧ a < 65536 ∧ 0 ≤ b ∧ b < 65536 ∧ decW E a b = ⟨17, cond, rd, rn, rm, imm, mode, list, s⟩ := by
  cases s
  · exact wdec_17f E F cond rd rn rm imm mode list it a b hok hw he
  · exact wdec_17t E F cond rd rn rm imm mode list it a b hok hw he
theorem wdec_18t (E : Int → Int) (F : Int → Option Int) (cond rd rn rm imm mode list : Int) (it : Bool) (a b : Int) (hok : Nm.okB ⟨18, cond, rd, rn, rm, imm, mode, list, true⟩ = true) (hw : Nm.Wide list) (he : rowW F ⟨18, cond, rd, rn, rm, imm, mode, list, true⟩ it = some (a, b)) :
    59392 ≤ a ∧ a < 65536 ∧ 0 ≤ b ∧ b < 65536 ∧ decW E a b = ⟨18, cond, rd, rn, rm, imm, mode, list, true⟩ := by
  obtain ⟨_, h1, h2, h3, h4, h5, h6⟩ := Nm.ok_parts hok
  clear hok
  have h3' := Nm.last_cases h3
  clear h3
  unfold rowW shiftW at he
  dsimp only at he h1 h2 h3' h4 h5 h6
  have hl := Nm.list_most h4 0 (by decide) rfl hw
  have hc : cond = 0 := by simpa [Im.condB] using h5
  clear h4 h5 h6
  rcases h3' with ⟨rfl, q1, q2, rfl, rfl⟩ | ⟨rfl, q1, q2, q3, q4, rfl⟩ | ⟨rfl, q1, q2, rfl⟩
  · cases (show (1 : Int) = 0 from q1)
  · replace q2 : 1 ≤ imm := q2
    replace q3 : imm ≤ 32 := q3
    clear q1 q4
    have hd := Nm.one_in h1 (by decide)
    have hn := Nm.one_in h2 (by decide)
    clear h1 h2
    repeat (first | rw [if_neg (by omega)] at he | rw [if_pos (by omega)] at he)
    rw [fl_t] at he
    simp only [Option.some.injEq, Prod.mk.injEq] at he
    obtain ⟨rfl, rfl⟩ := he
    refine ⟨by omega, by omega, by omega, by omega, ?_⟩
    unfold decW decA
    repeat (first | rw [if_neg (by omega)] | rw [if_pos (by omega)])
    exact Nm.mk_eq (by omega) (by omega) (by omega) (by omega) (by omega) (by split <;> omega) (by omega) (by omega) (by decide)
  · have hm := Nm.one_in q2 (by decide)
    clear q1 q2
    have hd := Nm.one_in h1 (by decide)
    have hn := Nm.one_in h2 (by decide)
    clear h1 h2
    repeat (first | rw [if_neg (by omega)] at he | rw [if_pos (by omega)] at he)
    rw [fl_t] at he
    simp only [Option.some.injEq, Prod.mk.injEq] at he
    obtain ⟨rfl, rfl⟩ := he
    refine ⟨by omega, by omega, by omega, by omega, ?_⟩
    unfold decW decD
    repeat (first | rw [if_neg (by omega)] | rw [if_pos (by omega)])
    exact Nm.mk_eq (by omega) (by omega) (by omega) (by omega) (by omega) (by omega) (by omega) (by omega) (beq_iff_eq.mpr (by omega))
theorem wdec_18f (E : Int → Int) (F : Int → Option Int) (cond rd rn rm imm mode list : Int) (it : Bool) (a b : Int) (hok : Nm.okB ⟨18, cond, rd, rn, rm, imm, mode, list, false⟩ = true) (hw : Nm.Wide list) (he : rowW F ⟨18, cond, rd, rn, rm, imm, mode, list, false⟩ it = some (a, b)) :
    59392 ≤ a ∧ a < 65536 ∧ 0 ≤ b ∧ b < 65536 ∧ decW E a b = ⟨18, cond, rd, rn, rm, imm, mode, list, false⟩ := by
  obtain ⟨_, h1, h2, h3, h4, h5, h6⟩ := Nm.ok_parts hok
  clear hok
  have h3' := Nm.last_cases h3
  clear h3
  unfold rowW shiftW at he
  dsimp only at he h1 h2 h3' h4 h5 h6
  have hl := Nm.list_most h4 0 (by decide) rfl hw
  have hc : cond = 0 := by simpa [Im.condB] using h5
  clear h4 h5 h6
  rcases h3' with ⟨rfl, q1, q2, rfl, rfl⟩ | ⟨rfl, q1, q2, q3, q4, rfl⟩ | ⟨rfl, q1, q2, rfl⟩
  · cases (show (1 : Int) = 0 from q1)
  · replace q2 : 1 ≤ imm := q2
    replace q3 : imm ≤ 32 := q3
    clear q1 q4
    have hd := Nm.one_in h1 (by decide)
    have hn := Nm.one_in h2 (by decide)
    clear h1 h2
    repeat (first | rw [if_neg (by omega)] at he | rw [if_pos (by omega)] at he)
    rw [fl_f _ _ _ _ _ _ _ _ (by decide)] at he
    simp only [Option.some.injEq, Prod.mk.injEq] at he
    obtain ⟨rfl, rfl⟩ := he
    refine ⟨by omega, by omega, by omega, by omega, ?_⟩
    unfold decW decA
    repeat (first | rw [if_neg (by omega)] | rw [if_pos (by omega)])
    exact Nm.mk_eq (by omega) (by omega) (by omega) (by omega) (by omega) (by split <;> omega) (by omega) (by omega) (by decide)
  · have hm := Nm.one_in q2 (by decide)
    clear q1 q2
    have hd := Nm.one_in h1 (by decide)
    have hn := Nm.one_in h2 (by decide)
    clear h1 h2
    repeat (first | rw [if_neg (by omega)] at he | rw [if_pos (by omega)] at he)
    rw [fl_f _ _ _ _ _ _ _ _ (by decide)] at he
    simp only [Option.some.injEq, Prod.mk.injEq] at he
    obtain ⟨rfl, rfl⟩ := he
    refine ⟨by omega, by omega, by omega, by omega, ?_⟩
    unfold decW decD
    repeat (first | rw [if_neg (by omega)] | rw [if_pos (by omega)])
    exact Nm.mk_eq (by omega) (by omega) (by omega) (by omega) (by omega) (by omega) (by omega) (by omega) (beq_eq_false_iff_ne.mpr (by omega))
theorem wdec_18 (E : Int → Int) (F : Int → Option Int) (cond rd rn rm imm mode list : Int) (s it : Bool) (a b : Int) (hok : Nm.okB ⟨18, cond, rd, rn, rm, imm, mode, list, s⟩ = true) (hw : Nm.Wide list) (he : rowW F ⟨18, cond, rd, rn, rm, imm, mode, list, s⟩ it = some (a, b)) :
    59392 ≤ a ∧ a < 65536 ∧ 0 ≤ b ∧ b < 65536 ∧ decW E a b = ⟨18, cond, rd, rn, rm, imm, mode, list, s⟩ := by
  cases s
  · exact wdec_18f E F cond rd rn rm imm mode list it a b hok hw he
  · exact wdec_18t E F cond rd rn rm imm mode list it a b hok hw he
theorem wdec_19t (E : Int → Int) (F : Int → Option Int) (cond rd rn rm imm mode list : Int) (it : Bool) (a b : Int) (hok : Nm.okB ⟨19, cond, rd, rn, rm, imm, mode, list, true⟩ = true) (hw : Nm.Wide list) (he : rowW F ⟨19, cond, rd, rn, rm, imm, mode, list, true⟩ it = some (a, b)) :
    59392 ≤ a ∧ a < 65536 ∧ 0 ≤ b ∧ b < 65536 ∧ decW E a b = ⟨19, cond, rd, rn, rm, imm, mode, list, true⟩ := by
  obtain ⟨_, h1, h2, h3, h4, h5, h6⟩ := Nm.ok_parts hok
  clear hok
  have h3' := Nm.last_cases h3
  clear h3
  unfold rowW shiftW at he
  dsimp only at he h1 h2 h3' h4 h5 h6
  have hl := Nm.list_most h4 0 (by decide) rfl hw
  have hc : cond = 0 := by simpa [Im.condB] using h5
  clear h4 h5 h6
  rcases h3' with ⟨rfl, q1, q2, rfl, rfl⟩ | ⟨rfl, q1, q2, q3, q4, rfl⟩ | ⟨rfl, q1, q2, rfl⟩
  · cases (show (1 : Int) = 0 from q1)
  · replace q2 : 1 ≤ imm := q2
    replace q3 : imm ≤ 31 := q3
    clear q1 q4
    have hd := Nm.one_in h1 (by decide)
    have hn := Nm.one_in h2 (by decide)
    clear h1 h2
    repeat (first | rw [if_neg (by omega)] at he | rw [if_pos (by omega)] at he)
    rw [fl_t] at he
    simp only [Option.some.injEq, Prod.mk.injEq] at he
    obtain ⟨rfl, rfl⟩ := he
    refine ⟨by omega, by omega, by omega, by omega, ?_⟩
    unfold decW decA
    repeat (first | rw [if_neg (by omega)] | rw [if_pos (by omega)])
    exact Nm.mk_eq (by omega) (by omega) (by omega) (by omega) (by omega) (by omega) (by omega) (by omega) (by decide)
  · have hm := Nm.one_in q2 (by decide)
    clear q1 q2
    have hd := Nm.one_in h1 (by decide)
    have hn := Nm.one_in h2 (by decide)
    clear h1 h2
    repeat (first | rw [if_neg (by omega)] at he | rw [if_pos (by omega)] at he)
    rw [fl_t] at he
    simp only [Option.some.injEq, Prod.mk.injEq] at he
    obtain ⟨rfl, rfl⟩ := he
    refine ⟨by omega, by omega, by omega, by omega, ?_⟩
    unfold decW decD
    repeat (first | rw [if_neg (by omega)] | rw [if_pos (by omega)])
    exact Nm.mk_eq (by omega) (by omega) (by omega) (by omega) (by omega) (by omega) (by omega) (by omega) (beq_iff_eq.mpr (by omega))
theorem wdec_19f (E : Int → Int) (F : Int → Option Int) (cond rd rn rm imm mode list : Int) (it : Bool) (a b : Int) (hok : Nm.okB ⟨19, cond, rd, rn, rm, imm, mode, list, false⟩ = true) (hw : Nm.Wide list) (he : rowW F ⟨19, cond, rd, rn, rm, imm, mode, list, false⟩ it = some (a, b)) :
    59392 ≤ a ∧ a < 65536 ∧ 0 ≤ b ∧ b < 65536 ∧ decW E a b = ⟨19, cond, rd, rn, rm, imm, mode, list, false⟩ := by
  obtain ⟨_, h1, h2, h3, h4, h5, h6⟩ := Nm.ok_parts hok
  clear hok
  have h3' := Nm.last_cases h3
  clear h3
  unfold rowW shiftW at he
  dsimp only at he h1 h2 h3' h4 h5 h6
  have hl := Nm.list_most h4 0 (by decide) rfl hw
  have hc : cond = 0 := by simpa [Im.condB] using h5
  clear h4 h5 h6
  rcases h3' with ⟨rfl, q1, q2, rfl, rfl⟩ | ⟨rfl, q1, q2, q3, q4, rfl⟩ | ⟨rfl, q1, q2, rfl⟩
  · cases (show (1 : Int) = 0 from q1)
  · replace q2 : 1 ≤ imm := q2
    replace q3 : imm ≤ 31 := q3
    clear q1 q4
    have hd := Nm.one_in h1 (by decide)
    have hn := Nm.one_in h2 (by decide)
    clear h1 h2
    repeat (first | rw [if_neg (by omega)] at he | rw [if_pos (by omega)] at he)
    rw [fl_f _ _ _ _ _ _ _ _ (by decide)] at he
    simp only [Option.some.injEq, Prod.mk.injEq] at he
    obtain ⟨rfl, rfl⟩ := he
    refine ⟨by omega, by omega, by omega, by omega, ?_⟩
    unfold decW decA
    repeat (first | rw [if_neg (by omega)] | rw [if_pos (by omega)])
    exact Nm.mk_eq (by omega) (by omega) (by omega) (by omega) (by omega) (by omega) (by omega) (by omega) (by decide)
  · have hm := Nm.one_in q2 (by decide)
    clear q1 q2
    have hd := Nm.one_in h1 (by decide)
    have hn := Nm.one_in h2 (by decide)
    clear h1 h2
    repeat (first | rw [if_neg (by omega)] at he | rw [if_pos (by omega)] at he)
    rw [fl_f _ _ _ _ _ _ _ _ (by decide)] at he
    simp only [Option.some.injEq, Prod.mk.injEq] at he
    obtain ⟨rfl, rfl⟩ := he
    refine ⟨by omega, by omega, by omega, by omega, ?_⟩
    unfold decW decD
    repeat (first | rw [if_neg (by omega)] | rw [if_pos (by omega)])
    exact Nm.mk_eq (by omega) (by omega) (by omega) (by omega) (by omega) (by omega) (by omega) (by omega) (beq_eq_false_iff_ne.mpr (by omega))
theorem wdec_19 (E : Int → Int) (F : Int → Option Int) (cond rd rn rm imm mode list : Int) (s it : Bool) (a b : Int) (hok : Nm.okB ⟨19, cond, rd, rn, rm, imm, mode, list, s⟩ = true) (hw : Nm.Wide list) (he : rowW F ⟨19, cond, rd, rn, rm, imm, mode, list, s⟩ it = some (a, b)) :
    59392 ≤ a ∧ a < 65536 ∧ 0 ≤ b ∧ b < 65536 ∧ decW E a b = ⟨19, cond, rd, rn, rm, imm, mode, list, s⟩ := by
  cases s
  · exact wdec_19f E F cond rd rn rm imm mode list it a b hok hw he
  · exact wdec_19t E F cond rd rn rm imm mode list it a b hok hw he
end Wm
end Go.Proofs.YtmofimgodmcdjaaDoor

namespace Go.Proofs.YtmofimgodmcdjaaDoor
namespace Wm
open Nm (I)

theorem one_14 {r : Int} (h : Im.oneB 32767 r = true) : 0 ≤ r ∧ r ≤ 14 := by
  have h' := Nm.one_in h (by decide)
  refine ⟨h'.1, Classical.byContradiction fun hn => ?_⟩
  have e : r = 15 := by omega
  subst e
  revert h
  decide
theorem one_12 {r : Int} (h : Im.oneB 24575 r = true) : 0 ≤ r ∧ r ≤ 14 ∧ r ≠ 13 := by
  have h' := Nm.one_in h (by decide)
  refine ⟨h'.1, Classical.byContradiction fun hn => ?_, ?_⟩
  · have e : r = 15 := by omega
    subst e
    revert h
    decide
  · rintro rfl
    revert h
    decide
theorem x_parts {n : Int} (h0 : 0 ≤ n) (h1 : n < 4096) : ∃ u v w, x1 n = u * 1024 ∧ x2 n = v * 4096 + w ∧ 0 ≤ u ∧ u ≤ 1 ∧ 0 ≤ v ∧ v ≤ 7 ∧ 0 ≤ w ∧ w ≤ 255 ∧ n = u * 2048 + v * 256 + w :=
  ⟨n / 2048 % 2, n / 256 % 8, n % 256, rfl, rfl, by omega, by omega, by omega, by omega, by omega, by omega, by omega⟩
theorem decW_C (E : Int → Int) {a b : Int} (h0 : 61440 ≤ a) (h1 : a < 63488) (h2 : b < 32768) : decW E a b = decC E a b := by
  unfold decW
  rw [if_neg (by omega), if_neg (by omega), if_neg (by omega), if_neg (by omega), if_neg (by omega), if_neg (by omega), if_pos h1, if_neg (by omega)]
theorem decC_23 (E : Int → Int) {a b : Int} (h0 : a / 512 % 2 = 1) (h1 : a / 16 % 32 = 4) : decC E a b = ⟨23, 0, b / 256 % 16, 0, 0, a % 16 * 4096 + num a b, 1, 0, false⟩ := by
  unfold decC
  rw [if_neg (by omega), if_pos h1]
theorem decC_24 (E : Int → Int) {a b : Int} (h0 : a / 512 % 2 = 1) (h1 : a / 16 % 32 = 12) : decC E a b = ⟨24, 0, b / 256 % 16, 0, 0, a % 16 * 4096 + num a b, 1, 0, false⟩ := by
  unfold decC
  rw [if_neg (by omega), if_neg (by omega), if_pos h1]
theorem decC_op (E : Int → Int) {a b : Int} (h0 : a / 512 % 2 = 0) : decC E a b = dataD (a / 32 % 16) (a % 16) (b / 256 % 16) 0 (E (num a b)) 1 (a / 16 % 2 == 1) := by
  unfold decC
  rw [if_pos h0]
theorem wdec_20 (E : Int → Int) (F : Int → Option Int) (cond rd rn rm imm mode list : Int) (s it : Bool) (a b : Int) (hok : Nm.okB ⟨20, cond, rd, rn, rm, imm, mode, list, s⟩ = true) (hw : Nm.Wide list) (he : rowW F ⟨20, cond, rd, rn, rm, imm, mode, list, s⟩ it = some (a, b)) :
    59392 ≤ a ∧ a < 65536 ∧ 0 ≤ b ∧ b < 65536 ∧ decW E a b = ⟨20, cond, rd, rn, rm, imm, mode, list, s⟩ := by
  obtain ⟨_, h1, h2, h3, h4, h5, h6⟩ := Nm.ok_parts hok
  clear hok
  have h3' := Nm.last_cases h3
  clear h3
  unfold rowW restW at he
  dsimp only at he h1 h2 h3' h4 h5 h6
  have hs := Nm.flag_off h6 rfl
  subst hs
  have hl := Nm.list_most h4 0 (by decide) rfl hw
  have hc : cond = 0 := by simpa [Im.condB] using h5
  clear h5 h6
  clear h4
  rcases h3' with ⟨rfl, q1, q2, rfl, rfl⟩ | ⟨rfl, q1, q2, q3, q4, rfl⟩ | ⟨rfl, q1, q2, rfl⟩
  · exact absurd q2 (by decide)
  · exact absurd rfl q1
  · have hm := one_12 q2
    clear q1 q2
    have hd := one_12 h1
    have hn := one_12 h2
    clear h1 h2
    repeat (first | rw [if_neg (by omega)] at he | rw [if_pos (by omega)] at he)
    simp only [Option.some.injEq, Prod.mk.injEq] at he
    obtain ⟨rfl, rfl⟩ := he
    refine ⟨by omega, by omega, by omega, by omega, ?_⟩
    unfold decW decD
    repeat (first | rw [if_neg (by omega)] | rw [if_pos (by omega)])
    exact Nm.mk_eq (by omega) (by omega) (by omega) (by omega) (by omega) (by omega) (by omega) (by omega) rfl
theorem wdec_21 (E : Int → Int) (F : Int → Option Int) (cond rd rn rm imm mode list : Int) (s it : Bool) (a b : Int) (hok : Nm.okB ⟨21, cond, rd, rn, rm, imm, mode, list, s⟩ = true) (hw : Nm.Wide list) (he : rowW F ⟨21, cond, rd, rn, rm, imm, mode, list, s⟩ it = some (a, b)) :
    59392 ≤ a ∧ a < 65536 ∧ 0 ≤ b ∧ b < 65536 ∧ decW E a b = ⟨21, cond, rd, rn, rm, imm, mode, list, s⟩ := by
  obtain ⟨_, h1, h2, h3, h4, h5, h6⟩ := Nm.ok_parts hok
  clear hok
  have h3' := Nm.last_cases h3
  clear h3
  unfold rowW restW at he
  dsimp only at he h1 h2 h3' h4 h5 h6
  have hs := Nm.flag_off h6 rfl
  subst hs
  have hl := Nm.list_most h4 0 (by decide) rfl hw
  have hc : cond = 0 := by simpa [Im.condB] using h5
  clear h5 h6
  clear h4
  rcases h3' with ⟨rfl, q1, q2, rfl, rfl⟩ | ⟨rfl, q1, q2, q3, q4, rfl⟩ | ⟨rfl, q1, q2, rfl⟩
  · exact absurd q2 (by decide)
  · exact absurd rfl q1
  · have hm := one_12 q2
    clear q1 q2
    have hd := one_12 h1
    have hn := one_12 h2
    clear h1 h2
    repeat (first | rw [if_neg (by omega)] at he | rw [if_pos (by omega)] at he)
    simp only [Option.some.injEq, Prod.mk.injEq] at he
    obtain ⟨rfl, rfl⟩ := he
    refine ⟨by omega, by omega, by omega, by omega, ?_⟩
    unfold decW decD
    repeat (first | rw [if_neg (by omega)] | rw [if_pos (by omega)])
    exact Nm.mk_eq (by omega) (by omega) (by omega) (by omega) (by omega) (by omega) (by omega) (by omega) rfl
theorem wdec_22 (E : Int → Int) (F : Int → Option Int) (cond rd rn rm imm mode list : Int) (s it : Bool) (a b : Int) (hok : Nm.okB ⟨22, cond, rd, rn, rm, imm, mode, list, s⟩ = true) (hw : Nm.Wide list) (he : rowW F ⟨22, cond, rd, rn, rm, imm, mode, list, s⟩ it = some (a, b)) :
    59392 ≤ a ∧ a < 65536 ∧ 0 ≤ b ∧ b < 65536 ∧ decW E a b = ⟨22, cond, rd, rn, rm, imm, mode, list, s⟩ := by
  obtain ⟨_, h1, h2, h3, h4, h5, h6⟩ := Nm.ok_parts hok
  clear hok
  have h3' := Nm.last_cases h3
  clear h3
  unfold rowW restW at he
  dsimp only at he h1 h2 h3' h4 h5 h6
  have hs := Nm.flag_off h6 rfl
  subst hs
  have hl := Nm.list_most h4 0 (by decide) rfl hw
  have hc : cond = 0 := by simpa [Im.condB] using h5
  clear h5 h6
  clear h4
  rcases h3' with ⟨rfl, q1, q2, rfl, rfl⟩ | ⟨rfl, q1, q2, q3, q4, rfl⟩ | ⟨rfl, q1, q2, rfl⟩
  · exact absurd q2 (by decide)
  · exact absurd rfl q1
  · have hm := one_12 q2
    clear q1 q2
    have hd := one_12 h1
    have hn := one_12 h2
    clear h1 h2
    repeat (first | rw [if_neg (by omega)] at he | rw [if_pos (by omega)] at he)
    simp only [Option.some.injEq, Prod.mk.injEq] at he
    obtain ⟨rfl, rfl⟩ := he
    refine ⟨by omega, by omega, by omega, by omega, ?_⟩
    unfold decW decD
    repeat (first | rw [if_neg (by omega)] | rw [if_pos (by omega)])
    exact Nm.mk_eq (by omega) (by omega) (by omega) (by omega) (by omega) (by omega) (by omega) (by omega) rfl
theorem wdec_25 (E : Int → Int) (F : Int → Option Int) (cond rd rn rm imm mode list : Int) (s it : Bool) (a b : Int) (hok : Nm.okB ⟨25, cond, rd, rn, rm, imm, mode, list, s⟩ = true) (hw : Nm.Wide list) (he : rowW F ⟨25, cond, rd, rn, rm, imm, mode, list, s⟩ it = some (a, b)) :
    59392 ≤ a ∧ a < 65536 ∧ 0 ≤ b ∧ b < 65536 ∧ decW E a b = ⟨25, cond, rd, rn, rm, imm, mode, list, s⟩ := by
  obtain ⟨_, h1, h2, h3, h4, h5, h6⟩ := Nm.ok_parts hok
  clear hok
  have h3' := Nm.last_cases h3
  clear h3
  unfold rowW loadW at he
  dsimp only at he h1 h2 h3' h4 h5 h6
  have hs := Nm.flag_off h6 rfl
  subst hs
  have hl := Nm.list_most h4 0 (by decide) rfl hw
  have hc : cond = 0 := by simpa [Im.condB] using h5
  clear h5 h6
  clear h4
  rcases h3' with ⟨rfl, q1, q2, rfl, rfl⟩ | ⟨rfl, q1, q2, q3, q4, rfl⟩ | ⟨rfl, q1, q2, rfl⟩
  · exact absurd q1 (by decide)
  · replace q2 : 0 ≤ imm := q2
    replace q3 : imm ≤ 4095 := q3
    clear q1 q4
    have hd := one_12 h1
    have hn := one_14 h2
    clear h1 h2
    repeat (first | rw [if_neg (by omega)] at he | rw [if_pos (by omega)] at he)
    rw [show loadK 25 = 80 from rfl] at he
    simp only [Option.some.injEq, Prod.mk.injEq] at he
    obtain ⟨rfl, rfl⟩ := he
    refine ⟨by omega, by omega, by omega, by omega, ?_⟩
    unfold decW decD
    repeat (first | rw [if_neg (by omega)] | rw [if_pos (by omega)])
    exact Nm.mk_eq (by rw [show (63616 + 80 + rn - 63616) / 16 = 5 by omega]; rfl) (by omega) (by omega) (by omega) (by omega) (by omega) (by omega) (by omega) rfl
  · have hm := one_12 q2
    clear q1 q2
    have hd := one_12 h1
    have hn := one_14 h2
    clear h1 h2
    repeat (first | rw [if_neg (by omega)] at he | rw [if_pos (by omega)] at he)
    rw [show loadK 25 = 80 from rfl] at he
    simp only [Option.some.injEq, Prod.mk.injEq] at he
    obtain ⟨rfl, rfl⟩ := he
    refine ⟨by omega, by omega, by omega, by omega, ?_⟩
    unfold decW decD
    repeat (first | rw [if_neg (by omega)] | rw [if_pos (by omega)])
    exact Nm.mk_eq (by rw [show (63488 + 80 + rn - 63488) / 16 = 5 by omega]; rfl) (by omega) (by omega) (by omega) (by omega) (by omega) (by omega) (by omega) rfl
theorem wdec_26 (E : Int → Int) (F : Int → Option Int) (cond rd rn rm imm mode list : Int) (s it : Bool) (a b : Int) (hok : Nm.okB ⟨26, cond, rd, rn, rm, imm, mode, list, s⟩ = true) (hw : Nm.Wide list) (he : rowW F ⟨26, cond, rd, rn, rm, imm, mode, list, s⟩ it = some (a, b)) :
    59392 ≤ a ∧ a < 65536 ∧ 0 ≤ b ∧ b < 65536 ∧ decW E a b = ⟨26, cond, rd, rn, rm, imm, mode, list, s⟩ := by
  obtain ⟨_, h1, h2, h3, h4, h5, h6⟩ := Nm.ok_parts hok
  clear hok
  have h3' := Nm.last_cases h3
  clear h3
  unfold rowW loadW at he
  dsimp only at he h1 h2 h3' h4 h5 h6
  have hs := Nm.flag_off h6 rfl
  subst hs
  have hl := Nm.list_most h4 0 (by decide) rfl hw
  have hc : cond = 0 := by simpa [Im.condB] using h5
  clear h5 h6
  clear h4
  rcases h3' with ⟨rfl, q1, q2, rfl, rfl⟩ | ⟨rfl, q1, q2, q3, q4, rfl⟩ | ⟨rfl, q1, q2, rfl⟩
  · exact absurd q1 (by decide)
  · replace q2 : 0 ≤ imm := q2
    replace q3 : imm ≤ 4095 := q3
    clear q1 q4
    have hd := one_12 h1
    have hn := one_14 h2
    clear h1 h2
    repeat (first | rw [if_neg (by omega)] at he | rw [if_pos (by omega)] at he)
    rw [show loadK 26 = 16 from rfl] at he
    simp only [Option.some.injEq, Prod.mk.injEq] at he
    obtain ⟨rfl, rfl⟩ := he
    refine ⟨by omega, by omega, by omega, by omega, ?_⟩
    unfold decW decD
    repeat (first | rw [if_neg (by omega)] | rw [if_pos (by omega)])
    exact Nm.mk_eq (by rw [show (63616 + 16 + rn - 63616) / 16 = 1 by omega]; rfl) (by omega) (by omega) (by omega) (by omega) (by omega) (by omega) (by omega) rfl
  · have hm := one_12 q2
    clear q1 q2
    have hd := one_12 h1
    have hn := one_14 h2
    clear h1 h2
    repeat (first | rw [if_neg (by omega)] at he | rw [if_pos (by omega)] at he)
    rw [show loadK 26 = 16 from rfl] at he
    simp only [Option.some.injEq, Prod.mk.injEq] at he
    obtain ⟨rfl, rfl⟩ := he
    refine ⟨by omega, by omega, by omega, by omega, ?_⟩
    unfold decW decD
    repeat (first | rw [if_neg (by omega)] | rw [if_pos (by omega)])
    exact Nm.mk_eq (by rw [show (63488 + 16 + rn - 63488) / 16 = 1 by omega]; rfl) (by omega) (by omega) (by omega) (by omega) (by omega) (by omega) (by omega) rfl
theorem wdec_27 (E : Int → Int) (F : Int → Option Int) (cond rd rn rm imm mode list : Int) (s it : Bool) (a b : Int) (hok : Nm.okB ⟨27, cond, rd, rn, rm, imm, mode, list, s⟩ = true) (hw : Nm.Wide list) (he : rowW F ⟨27, cond, rd, rn, rm, imm, mode, list, s⟩ it = some (a, b)) :
    59392 ≤ a ∧ a < 65536 ∧ 0 ≤ b ∧ b < 65536 ∧ decW E a b = ⟨27, cond, rd, rn, rm, imm, mode, list, s⟩ := by
  obtain ⟨_, h1, h2, h3, h4, h5, h6⟩ := Nm.ok_parts hok
  clear hok
  have h3' := Nm.last_cases h3
  clear h3
  unfold rowW loadW at he
  dsimp only at he h1 h2 h3' h4 h5 h6
  have hs := Nm.flag_off h6 rfl
  subst hs
  have hl := Nm.list_most h4 0 (by decide) rfl hw
  have hc : cond = 0 := by simpa [Im.condB] using h5
  clear h5 h6
  clear h4
  rcases h3' with ⟨rfl, q1, q2, rfl, rfl⟩ | ⟨rfl, q1, q2, q3, q4, rfl⟩ | ⟨rfl, q1, q2, rfl⟩
  · exact absurd q1 (by decide)
  · replace q2 : 0 ≤ imm := q2
    replace q3 : imm ≤ 4095 := q3
    clear q1 q4
    have hd := one_12 h1
    have hn := one_14 h2
    clear h1 h2
    repeat (first | rw [if_neg (by omega)] at he | rw [if_pos (by omega)] at he)
    rw [show loadK 27 = 48 from rfl] at he
    simp only [Option.some.injEq, Prod.mk.injEq] at he
    obtain ⟨rfl, rfl⟩ := he
    refine ⟨by omega, by omega, by omega, by omega, ?_⟩
    unfold decW decD
    repeat (first | rw [if_neg (by omega)] | rw [if_pos (by omega)])
    exact Nm.mk_eq (by rw [show (63616 + 48 + rn - 63616) / 16 = 3 by omega]; rfl) (by omega) (by omega) (by omega) (by omega) (by omega) (by omega) (by omega) rfl
  · have hm := one_12 q2
    clear q1 q2
    have hd := one_12 h1
    have hn := one_14 h2
    clear h1 h2
    repeat (first | rw [if_neg (by omega)] at he | rw [if_pos (by omega)] at he)
    rw [show loadK 27 = 48 from rfl] at he
    simp only [Option.some.injEq, Prod.mk.injEq] at he
    obtain ⟨rfl, rfl⟩ := he
    refine ⟨by omega, by omega, by omega, by omega, ?_⟩
    unfold decW decD
    repeat (first | rw [if_neg (by omega)] | rw [if_pos (by omega)])
    exact Nm.mk_eq (by rw [show (63488 + 48 + rn - 63488) / 16 = 3 by omega]; rfl) (by omega) (by omega) (by omega) (by omega) (by omega) (by omega) (by omega) rfl
theorem wdec_28 (E : Int → Int) (F : Int → Option Int) (cond rd rn rm imm mode list : Int) (s it : Bool) (a b : Int) (hok : Nm.okB ⟨28, cond, rd, rn, rm, imm, mode, list, s⟩ = true) (hw : Nm.Wide list) (he : rowW F ⟨28, cond, rd, rn, rm, imm, mode, list, s⟩ it = some (a, b)) :
    59392 ≤ a ∧ a < 65536 ∧ 0 ≤ b ∧ b < 65536 ∧ decW E a b = ⟨28, cond, rd, rn, rm, imm, mode, list, s⟩ := by
  obtain ⟨_, h1, h2, h3, h4, h5, h6⟩ := Nm.ok_parts hok
  clear hok
  have h3' := Nm.last_cases h3
  clear h3
  unfold rowW loadW at he
  dsimp only at he h1 h2 h3' h4 h5 h6
  have hs := Nm.flag_off h6 rfl
  subst hs
  have hl := Nm.list_most h4 0 (by decide) rfl hw
  have hc : cond = 0 := by simpa [Im.condB] using h5
  clear h5 h6
  clear h4
  rcases h3' with ⟨rfl, q1, q2, rfl, rfl⟩ | ⟨rfl, q1, q2, q3, q4, rfl⟩ | ⟨rfl, q1, q2, rfl⟩
  · exact absurd q1 (by decide)
  · replace q2 : 0 ≤ imm := q2
    replace q3 : imm ≤ 4095 := q3
    clear q1 q4
    have hd := one_12 h1
    have hn := one_14 h2
    clear h1 h2
    repeat (first | rw [if_neg (by omega)] at he | rw [if_pos (by omega)] at he)
    rw [show loadK 28 = 64 from rfl] at he
    simp only [Option.some.injEq, Prod.mk.injEq] at he
    obtain ⟨rfl, rfl⟩ := he
    refine ⟨by omega, by omega, by omega, by omega, ?_⟩
    unfold decW decD
    repeat (first | rw [if_neg (by omega)] | rw [if_pos (by omega)])
    exact Nm.mk_eq (by rw [show (63616 + 64 + rn - 63616) / 16 = 4 by omega]; rfl) (by omega) (by omega) (by omega) (by omega) (by omega) (by omega) (by omega) rfl
  · have hm := one_12 q2
    clear q1 q2
    have hd := one_12 h1
    have hn := one_14 h2
    clear h1 h2
    repeat (first | rw [if_neg (by omega)] at he | rw [if_pos (by omega)] at he)
    rw [show loadK 28 = 64 from rfl] at he
    simp only [Option.some.injEq, Prod.mk.injEq] at he
    obtain ⟨rfl, rfl⟩ := he
    refine ⟨by omega, by omega, by omega, by omega, ?_⟩
    unfold decW decD
    repeat (first | rw [if_neg (by omega)] | rw [if_pos (by omega)])
    exact Nm.mk_eq (by rw [show (63488 + 64 + rn - 63488) / 16 = 4 by omega]; rfl) (by omega) (by omega) (by omega) (by omega) (by omega) (by omega) (by omega) rfl
theorem wdec_29 (E : Int → Int) (F : Int → Option Int) (cond rd rn rm imm mode list : Int) (s it : Bool) (a b : Int) (hok : Nm.okB ⟨29, cond, rd, rn, rm, imm, mode, list, s⟩ = true) (hw : Nm.Wide list) (he : rowW F ⟨29, cond, rd, rn, rm, imm, mode, list, s⟩ it = some (a, b)) :
    59392 ≤ a ∧ a < 65536 ∧ 0 ≤ b ∧ b < 65536 ∧ decW E a b = ⟨29, cond, rd, rn, rm, imm, mode, list, s⟩ := by
  obtain ⟨_, h1, h2, h3, h4, h5, h6⟩ := Nm.ok_parts hok
  clear hok
  have h3' := Nm.last_cases h3
  clear h3
  unfold rowW loadW at he
  dsimp only at he h1 h2 h3' h4 h5 h6
  have hs := Nm.flag_off h6 rfl
  subst hs
  have hl := Nm.list_most h4 0 (by decide) rfl hw
  have hc : cond = 0 := by simpa [Im.condB] using h5
  clear h5 h6
  clear h4
  rcases h3' with ⟨rfl, q1, q2, rfl, rfl⟩ | ⟨rfl, q1, q2, q3, q4, rfl⟩ | ⟨rfl, q1, q2, rfl⟩
  · exact absurd q1 (by decide)
  · replace q2 : 0 ≤ imm := q2
    replace q3 : imm ≤ 4095 := q3
    clear q1 q4
    have hd := one_12 h1
    have hn := one_14 h2
    clear h1 h2
    repeat (first | rw [if_neg (by omega)] at he | rw [if_pos (by omega)] at he)
    rw [show loadK 29 = 0 from rfl] at he
    simp only [Option.some.injEq, Prod.mk.injEq] at he
    obtain ⟨rfl, rfl⟩ := he
    refine ⟨by omega, by omega, by omega, by omega, ?_⟩
    unfold decW decD
    repeat (first | rw [if_neg (by omega)] | rw [if_pos (by omega)])
    exact Nm.mk_eq (by rw [show (63616 + 0 + rn - 63616) / 16 = 0 by omega]; rfl) (by omega) (by omega) (by omega) (by omega) (by omega) (by omega) (by omega) rfl
  · have hm := one_12 q2
    clear q1 q2
    have hd := one_12 h1
    have hn := one_14 h2
    clear h1 h2
    repeat (first | rw [if_neg (by omega)] at he | rw [if_pos (by omega)] at he)
    rw [show loadK 29 = 0 from rfl] at he
    simp only [Option.some.injEq, Prod.mk.injEq] at he
    obtain ⟨rfl, rfl⟩ := he
    refine ⟨by omega, by omega, by omega, by omega, ?_⟩
    unfold decW decD
    repeat (first | rw [if_neg (by omega)] | rw [if_pos (by omega)])
    exact Nm.mk_eq (by rw [show (63488 + 0 + rn - 63488) / 16 = 0 by omega]; rfl) (by omega) (by omega) (by omega) (by omega) (by omega) (by omega) (by omega) rfl
theorem wdec_30 (E : Int → Int) (F : Int → Option Int) (cond rd rn rm imm mode list : Int) (s it : Bool) (a b : Int) (hok : Nm.okB ⟨30, cond, rd, rn, rm, imm, mode, list, s⟩ = true) (hw : Nm.Wide list) (he : rowW F ⟨30, cond, rd, rn, rm, imm, mode, list, s⟩ it = some (a, b)) :
    59392 ≤ a ∧ a < 65536 ∧ 0 ≤ b ∧ b < 65536 ∧ decW E a b = ⟨30, cond, rd, rn, rm, imm, mode, list, s⟩ := by
  obtain ⟨_, h1, h2, h3, h4, h5, h6⟩ := Nm.ok_parts hok
  clear hok
  have h3' := Nm.last_cases h3
  clear h3
  unfold rowW loadW at he
  dsimp only at he h1 h2 h3' h4 h5 h6
  have hs := Nm.flag_off h6 rfl
  subst hs
  have hl := Nm.list_most h4 0 (by decide) rfl hw
  have hc : cond = 0 := by simpa [Im.condB] using h5
  clear h5 h6
  clear h4
  rcases h3' with ⟨rfl, q1, q2, rfl, rfl⟩ | ⟨rfl, q1, q2, q3, q4, rfl⟩ | ⟨rfl, q1, q2, rfl⟩
  · exact absurd q1 (by decide)
  · replace q2 : 0 ≤ imm := q2
    replace q3 : imm ≤ 4095 := q3
    clear q1 q4
    have hd := one_12 h1
    have hn := one_14 h2
    clear h1 h2
    repeat (first | rw [if_neg (by omega)] at he | rw [if_pos (by omega)] at he)
    rw [show loadK 30 = 32 from rfl] at he
    simp only [Option.some.injEq, Prod.mk.injEq] at he
    obtain ⟨rfl, rfl⟩ := he
    refine ⟨by omega, by omega, by omega, by omega, ?_⟩
    unfold decW decD
    repeat (first | rw [if_neg (by omega)] | rw [if_pos (by omega)])
    exact Nm.mk_eq (by rw [show (63616 + 32 + rn - 63616) / 16 = 2 by omega]; rfl) (by omega) (by omega) (by omega) (by omega) (by omega) (by omega) (by omega) rfl
  · have hm := one_12 q2
    clear q1 q2
    have hd := one_12 h1
    have hn := one_14 h2
    clear h1 h2
    repeat (first | rw [if_neg (by omega)] at he | rw [if_pos (by omega)] at he)
    rw [show loadK 30 = 32 from rfl] at he
    simp only [Option.some.injEq, Prod.mk.injEq] at he
    obtain ⟨rfl, rfl⟩ := he
    refine ⟨by omega, by omega, by omega, by omega, ?_⟩
    unfold decW decD
    repeat (first | rw [if_neg (by omega)] | rw [if_pos (by omega)])
    exact Nm.mk_eq (by rw [show (63488 + 32 + rn - 63488) / 16 = 2 by omega]; rfl) (by omega) (by omega) (by omega) (by omega) (by omega) (by omega) (by omega) rfl
theorem wdec_40 (E : Int → Int) (F : Int → Option Int) (cond rd rn rm imm mode list : Int) (s it : Bool) (a b : Int) (hok : Nm.okB ⟨40, cond, rd, rn, rm, imm, mode, list, s⟩ = true) (hw : Nm.Wide list) (he : rowW F ⟨40, cond, rd, rn, rm, imm, mode, list, s⟩ it = some (a, b)) :
    59392 ≤ a ∧ a < 65536 ∧ 0 ≤ b ∧ b < 65536 ∧ decW E a b = ⟨40, cond, rd, rn, rm, imm, mode, list, s⟩ := by
  obtain ⟨_, h1, h2, h3, h4, h5, h6⟩ := Nm.ok_parts hok
  clear hok
  have h3' := Nm.last_cases h3
  clear h3
  unfold rowW placeW at he
  dsimp only at he h1 h2 h3' h4 h5 h6
  have hs := Nm.flag_off h6 rfl
  subst hs
  have hl := Nm.list_most h4 0 (by decide) rfl hw
  have hc : cond = 0 := by simpa [Im.condB] using h5
  clear h5 h6
  clear h4
  rcases h3' with ⟨rfl, q1, q2, rfl, rfl⟩ | ⟨rfl, q1, q2, q3, q4, rfl⟩ | ⟨rfl, q1, q2, rfl⟩
  · exact absurd q1 (by decide)
  · have hd := one_12 h1
    have hn := Nm.one_none h2
    clear h1 h2
    replace q2 : -4095 ≤ imm := q2
    replace q3 : imm ≤ 4095 := q3
    clear q1 q4
    by_cases hi : imm < 0
    · repeat (first | rw [if_neg (by omega)] at he | rw [if_pos (by omega)] at he)
      simp only [Option.some.injEq, Prod.mk.injEq] at he
      obtain ⟨rfl, rfl⟩ := he
      refine ⟨by omega, by omega, by omega, by omega, ?_⟩
      unfold decW decD
      repeat (first | rw [if_neg (by omega)] | rw [if_pos (by omega)])
      exact Nm.mk_eq (by omega) (by omega) (by omega) (by omega) (by omega) (by omega) (by omega) (by omega) rfl
    · repeat (first | rw [if_neg (by omega)] at he | rw [if_pos (by omega)] at he)
      simp only [Option.some.injEq, Prod.mk.injEq] at he
      obtain ⟨rfl, rfl⟩ := he
      refine ⟨by omega, by omega, by omega, by omega, ?_⟩
      unfold decW decD
      repeat (first | rw [if_neg (by omega)] | rw [if_pos (by omega)])
      exact Nm.mk_eq (by omega) (by omega) (by omega) (by omega) (by omega) (by omega) (by omega) (by omega) rfl
  · exact absurd rfl q1
theorem wdec_41 (E : Int → Int) (F : Int → Option Int) (cond rd rn rm imm mode list : Int) (s it : Bool) (a b : Int) (hok : Nm.okB ⟨41, cond, rd, rn, rm, imm, mode, list, s⟩ = true) (hw : Nm.Wide list) (he : rowW F ⟨41, cond, rd, rn, rm, imm, mode, list, s⟩ it = some (a, b)) :
    59392 ≤ a ∧ a < 65536 ∧ 0 ≤ b ∧ b < 65536 ∧ decW E a b = ⟨41, cond, rd, rn, rm, imm, mode, list, s⟩ := by
  obtain ⟨_, h1, h2, h3, h4, h5, h6⟩ := Nm.ok_parts hok
  clear hok
  have h3' := Nm.last_cases h3
  clear h3
  unfold rowW placeW at he
  dsimp only at he h1 h2 h3' h4 h5 h6
  have hs := Nm.flag_off h6 rfl
  subst hs
  have hl := Nm.list_most h4 0 (by decide) rfl hw
  have hc : cond = 0 := by simpa [Im.condB] using h5
  clear h5 h6
  clear h4
  rcases h3' with ⟨rfl, q1, q2, rfl, rfl⟩ | ⟨rfl, q1, q2, q3, q4, rfl⟩ | ⟨rfl, q1, q2, rfl⟩
  · exact absurd q1 (by decide)
  · have hd := one_12 h1
    have hn := Nm.one_none h2
    clear h1 h2
    replace q2 : -4095 ≤ imm := q2
    replace q3 : imm ≤ 4095 := q3
    clear q1 q4
    by_cases hi : imm < 0
    · repeat (first | rw [if_neg (by omega)] at he | rw [if_pos (by omega)] at he)
      obtain ⟨u, v, w, e1, e2, u0, u1, v0, v1, w0, w1, e3⟩ := x_parts (n := (-imm)) (by omega) (by omega)
      have en := num_x 62127 (-imm) (rd * 256) (by omega) (by omega) (by decide) (by omega) (by omega)
      rw [e1, e2] at he en
      simp only [Option.some.injEq, Prod.mk.injEq] at he
      obtain ⟨rfl, rfl⟩ := he
      refine ⟨by omega, by omega, by omega, by omega, ?_⟩
      unfold decW decC
      repeat (first | rw [if_neg (by omega)] | rw [if_pos (by omega)])
      rw [en]
      exact Nm.mk_eq (by omega) (by omega) (by omega) (by omega) (by omega) (by omega) (by omega) (by omega) rfl
    · repeat (first | rw [if_neg (by omega)] at he | rw [if_pos (by omega)] at he)
      obtain ⟨u, v, w, e1, e2, u0, u1, v0, v1, w0, w1, e3⟩ := x_parts (n := imm) (by omega) (by omega)
      have en := num_x 61967 imm (rd * 256) (by omega) (by omega) (by decide) (by omega) (by omega)
      rw [e1, e2] at he en
      simp only [Option.some.injEq, Prod.mk.injEq] at he
      obtain ⟨rfl, rfl⟩ := he
      refine ⟨by omega, by omega, by omega, by omega, ?_⟩
      unfold decW decC
      repeat (first | rw [if_neg (by omega)] | rw [if_pos (by omega)])
      rw [en]
      exact Nm.mk_eq (by omega) (by omega) (by omega) (by omega) (by omega) (by omega) (by omega) (by omega) rfl
  · exact absurd rfl q1
theorem wdec_23 (E : Int → Int) (F : Int → Option Int) (cond rd rn rm imm mode list : Int) (s it : Bool) (a b : Int) (hok : Nm.okB ⟨23, cond, rd, rn, rm, imm, mode, list, s⟩ = true) (hw : Nm.Wide list) (he : rowW F ⟨23, cond, rd, rn, rm, imm, mode, list, s⟩ it = some (a, b)) :
    59392 ≤ a ∧ a < 65536 ∧ 0 ≤ b ∧ b < 65536 ∧ decW E a b = ⟨23, cond, rd, rn, rm, imm, mode, list, s⟩ := by
  obtain ⟨_, h1, h2, h3, h4, h5, h6⟩ := Nm.ok_parts hok
  clear hok
  have h3' := Nm.last_cases h3
  clear h3
  unfold rowW restW at he
  dsimp only at he h1 h2 h3' h4 h5 h6
  have hs := Nm.flag_off h6 rfl
  subst hs
  have hl := Nm.list_most h4 0 (by decide) rfl hw
  have hc : cond = 0 := by simpa [Im.condB] using h5
  clear h5 h6
  clear h4
  rcases h3' with ⟨rfl, q1, q2, rfl, rfl⟩ | ⟨rfl, q1, q2, q3, q4, rfl⟩ | ⟨rfl, q1, q2, rfl⟩
  · exact absurd q1 (by decide)
  · have hd := one_12 h1
    have hn := Nm.one_none h2
    clear h1 h2
    replace q2 : 0 ≤ imm := q2
    replace q3 : imm ≤ 65535 := q3
    clear q1 q4
    repeat (first | rw [if_neg (by omega)] at he | rw [if_pos (by omega)] at he)
    obtain ⟨u, v, w, e1, e2, u0, u1, v0, v1, w0, w1, e3⟩ := x_parts (n := imm % 4096) (by omega) (by omega)
    have en := num_x (62016 + imm / 4096) (imm % 4096) (rd * 256) (by omega) (by omega) (by omega) (by omega) (by omega)
    rw [e1, e2] at he en
    simp only [Option.some.injEq, Prod.mk.injEq] at he
    obtain ⟨rfl, rfl⟩ := he
    refine ⟨by omega, by omega, by omega, by omega, ?_⟩
    rw [decW_C E (by omega) (by omega) (by omega), decC_23 E (by rcases (show u = 0 ∨ u = 1 by omega) with rfl | rfl <;> omega) (by rcases (show u = 0 ∨ u = 1 by omega) with rfl | rfl <;> omega)]
    rw [en]
    exact Nm.mk_eq (by omega) (by omega) (by omega) (by omega) (by omega) (by omega) (by omega) (by omega) rfl
  · exact absurd rfl q1
theorem wdec_24 (E : Int → Int) (F : Int → Option Int) (cond rd rn rm imm mode list : Int) (s it : Bool) (a b : Int) (hok : Nm.okB ⟨24, cond, rd, rn, rm, imm, mode, list, s⟩ = true) (hw : Nm.Wide list) (he : rowW F ⟨24, cond, rd, rn, rm, imm, mode, list, s⟩ it = some (a, b)) :
    59392 ≤ a ∧ a < 65536 ∧ 0 ≤ b ∧ b < 65536 ∧ decW E a b = ⟨24, cond, rd, rn, rm, imm, mode, list, s⟩ := by
  obtain ⟨_, h1, h2, h3, h4, h5, h6⟩ := Nm.ok_parts hok
  clear hok
  have h3' := Nm.last_cases h3
  clear h3
  unfold rowW restW at he
  dsimp only at he h1 h2 h3' h4 h5 h6
  have hs := Nm.flag_off h6 rfl
  subst hs
  have hl := Nm.list_most h4 0 (by decide) rfl hw
  have hc : cond = 0 := by simpa [Im.condB] using h5
  clear h5 h6
  clear h4
  rcases h3' with ⟨rfl, q1, q2, rfl, rfl⟩ | ⟨rfl, q1, q2, q3, q4, rfl⟩ | ⟨rfl, q1, q2, rfl⟩
  · exact absurd q1 (by decide)
  · have hd := one_12 h1
    have hn := Nm.one_none h2
    clear h1 h2
    replace q2 : 0 ≤ imm := q2
    replace q3 : imm ≤ 65535 := q3
    clear q1 q4
    repeat (first | rw [if_neg (by omega)] at he | rw [if_pos (by omega)] at he)
    obtain ⟨u, v, w, e1, e2, u0, u1, v0, v1, w0, w1, e3⟩ := x_parts (n := imm % 4096) (by omega) (by omega)
    have en := num_x (62144 + imm / 4096) (imm % 4096) (rd * 256) (by omega) (by omega) (by omega) (by omega) (by omega)
    rw [e1, e2] at he en
    simp only [Option.some.injEq, Prod.mk.injEq] at he
    obtain ⟨rfl, rfl⟩ := he
    refine ⟨by omega, by omega, by omega, by omega, ?_⟩
    rw [decW_C E (by omega) (by omega) (by omega), decC_24 E (by rcases (show u = 0 ∨ u = 1 by omega) with rfl | rfl <;> omega) (by rcases (show u = 0 ∨ u = 1 by omega) with rfl | rfl <;> omega)]
    rw [en]
    exact Nm.mk_eq (by omega) (by omega) (by omega) (by omega) (by omega) (by omega) (by omega) (by omega) rfl
  · exact absurd rfl q1
theorem wdec_31 (E : Int → Int) (F : Int → Option Int) (cond rd rn rm imm mode list : Int) (s it : Bool) (a b : Int) (hok : Nm.okB ⟨31, cond, rd, rn, rm, imm, mode, list, s⟩ = true) (hw : Nm.Wide list) (he : rowW F ⟨31, cond, rd, rn, rm, imm, mode, list, s⟩ it = some (a, b)) :
    59392 ≤ a ∧ a < 65536 ∧ 0 ≤ b ∧ b < 65536 ∧ decW E a b = ⟨31, cond, rd, rn, rm, imm, mode, list, s⟩ := by
  obtain ⟨_, h1, h2, h3, h4, h5, h6⟩ := Nm.ok_parts hok
  clear hok
  have h3' := Nm.last_cases h3
  clear h3
  unfold rowW restW at he
  dsimp only at he h1 h2 h3' h4 h5 h6
  have hs := Nm.flag_off h6 rfl
  subst hs
  have hl := Nm.list_most h4 24575 (by decide) rfl hw
  have hc : cond = 0 := by simpa [Im.condB] using h5
  clear h5 h6
  clear h4
  rcases h3' with ⟨rfl, q1, q2, rfl, rfl⟩ | ⟨rfl, q1, q2, q3, q4, rfl⟩ | ⟨rfl, q1, q2, rfl⟩
  · have hd := Nm.one_none h1
    have hn := one_12 h2
    clear h1 h2
    repeat (first | rw [if_neg (by omega)] at he | rw [if_pos (by omega)] at he)
    simp only [Option.some.injEq, Prod.mk.injEq] at he
    obtain ⟨rfl, rfl⟩ := he
    refine ⟨by omega, by omega, by omega, by omega, ?_⟩
    unfold decW
    repeat (first | rw [if_neg (by omega)] | rw [if_pos (by omega)])
    exact Nm.mk_eq (by omega) (by omega) (by omega) (by omega) (by omega) (by omega) (by omega) (by omega) rfl
  · exact absurd rfl q1
  · exact absurd rfl q1
theorem wdec_32 (E : Int → Int) (F : Int → Option Int) (cond rd rn rm imm mode list : Int) (s it : Bool) (a b : Int) (hok : Nm.okB ⟨32, cond, rd, rn, rm, imm, mode, list, s⟩ = true) (hw : Nm.Wide list) (he : rowW F ⟨32, cond, rd, rn, rm, imm, mode, list, s⟩ it = some (a, b)) :
    59392 ≤ a ∧ a < 65536 ∧ 0 ≤ b ∧ b < 65536 ∧ decW E a b = ⟨32, cond, rd, rn, rm, imm, mode, list, s⟩ := by
  obtain ⟨_, h1, h2, h3, h4, h5, h6⟩ := Nm.ok_parts hok
  clear hok
  have h3' := Nm.last_cases h3
  clear h3
  unfold rowW restW at he
  dsimp only at he h1 h2 h3' h4 h5 h6
  have hs := Nm.flag_off h6 rfl
  subst hs
  have hl := Nm.list_most h4 24575 (by decide) rfl hw
  have hc : cond = 0 := by simpa [Im.condB] using h5
  clear h5 h6
  clear h4
  rcases h3' with ⟨rfl, q1, q2, rfl, rfl⟩ | ⟨rfl, q1, q2, q3, q4, rfl⟩ | ⟨rfl, q1, q2, rfl⟩
  · have hd := Nm.one_none h1
    have hn := one_12 h2
    clear h1 h2
    repeat (first | rw [if_neg (by omega)] at he | rw [if_pos (by omega)] at he)
    simp only [Option.some.injEq, Prod.mk.injEq] at he
    obtain ⟨rfl, rfl⟩ := he
    refine ⟨by omega, by omega, by omega, by omega, ?_⟩
    unfold decW
    repeat (first | rw [if_neg (by omega)] | rw [if_pos (by omega)])
    exact Nm.mk_eq (by omega) (by omega) (by omega) (by omega) (by omega) (by omega) (by omega) (by omega) rfl
  · exact absurd rfl q1
  · exact absurd rfl q1
theorem wdec_33 (E : Int → Int) (F : Int → Option Int) (cond rd rn rm imm mode list : Int) (s it : Bool) (a b : Int) (hok : Nm.okB ⟨33, cond, rd, rn, rm, imm, mode, list, s⟩ = true) (hw : Nm.Wide list) (he : rowW F ⟨33, cond, rd, rn, rm, imm, mode, list, s⟩ it = some (a, b)) :
    59392 ≤ a ∧ a < 65536 ∧ 0 ≤ b ∧ b < 65536 ∧ decW E a b = ⟨33, cond, rd, rn, rm, imm, mode, list, s⟩ := by
  obtain ⟨_, h1, h2, h3, h4, h5, h6⟩ := Nm.ok_parts hok
  clear hok
  have h3' := Nm.last_cases h3
  clear h3
  unfold rowW restW at he
  dsimp only at he h1 h2 h3' h4 h5 h6
  have hs := Nm.flag_off h6 rfl
  subst hs
  have hl := Nm.list_most h4 24575 (by decide) rfl hw
  have hc : cond = 0 := by simpa [Im.condB] using h5
  clear h5 h6
  clear h4
  rcases h3' with ⟨rfl, q1, q2, rfl, rfl⟩ | ⟨rfl, q1, q2, q3, q4, rfl⟩ | ⟨rfl, q1, q2, rfl⟩
  · have hd := Nm.one_none h1
    have hn := Nm.one_none h2
    clear h1 h2
    repeat (first | rw [if_neg (by omega)] at he | rw [if_pos (by omega)] at he)
    split at he
    case isFalse => cases he
    simp only [Option.some.injEq, Prod.mk.injEq] at he
    obtain ⟨rfl, rfl⟩ := he
    refine ⟨by omega, by omega, by omega, by omega, ?_⟩
    unfold decW
    repeat (first | rw [if_neg (by omega)] | rw [if_pos (by omega)])
    exact Nm.mk_eq (by omega) (by omega) (by omega) (by omega) (by omega) (by omega) (by omega) (by omega) rfl
  · exact absurd rfl q1
  · exact absurd rfl q1
theorem wdec_34 (E : Int → Int) (F : Int → Option Int) (cond rd rn rm imm mode list : Int) (s it : Bool) (a b : Int) (hok : Nm.okB ⟨34, cond, rd, rn, rm, imm, mode, list, s⟩ = true) (hw : Nm.Wide list) (he : rowW F ⟨34, cond, rd, rn, rm, imm, mode, list, s⟩ it = some (a, b)) :
    59392 ≤ a ∧ a < 65536 ∧ 0 ≤ b ∧ b < 65536 ∧ decW E a b = ⟨34, cond, rd, rn, rm, imm, mode, list, s⟩ := by
  obtain ⟨_, h1, h2, h3, h4, h5, h6⟩ := Nm.ok_parts hok
  clear hok
  have h3' := Nm.last_cases h3
  clear h3
  unfold rowW restW at he
  dsimp only at he h1 h2 h3' h4 h5 h6
  have hs := Nm.flag_off h6 rfl
  subst hs
  have hl := Nm.list_most h4 57343 (by decide) rfl hw
  have hc : cond = 0 := by simpa [Im.condB] using h5
  clear h5 h6
  clear h4
  rcases h3' with ⟨rfl, q1, q2, rfl, rfl⟩ | ⟨rfl, q1, q2, q3, q4, rfl⟩ | ⟨rfl, q1, q2, rfl⟩
  · have hd := Nm.one_none h1
    have hn := Nm.one_none h2
    clear h1 h2
    repeat (first | rw [if_neg (by omega)] at he | rw [if_pos (by omega)] at he)
    split at he
    case isFalse => cases he
    simp only [Option.some.injEq, Prod.mk.injEq] at he
    obtain ⟨rfl, rfl⟩ := he
    refine ⟨by omega, by omega, by omega, by omega, ?_⟩
    unfold decW
    repeat (first | rw [if_neg (by omega)] | rw [if_pos (by omega)])
    exact Nm.mk_eq (by omega) (by omega) (by omega) (by omega) (by omega) (by omega) (by omega) (by omega) rfl
  · exact absurd rfl q1
  · exact absurd rfl q1
theorem wdec_43 (E : Int → Int) (F : Int → Option Int) (cond rd rn rm imm mode list : Int) (s it : Bool) (a b : Int) (hok : Nm.okB ⟨43, cond, rd, rn, rm, imm, mode, list, s⟩ = true) (hw : Nm.Wide list) (he : rowW F ⟨43, cond, rd, rn, rm, imm, mode, list, s⟩ it = some (a, b)) :
    59392 ≤ a ∧ a < 65536 ∧ 0 ≤ b ∧ b < 65536 ∧ decW E a b = ⟨43, cond, rd, rn, rm, imm, mode, list, s⟩ := by
  obtain ⟨_, h1, h2, h3, h4, h5, h6⟩ := Nm.ok_parts hok
  clear hok
  have h3' := Nm.last_cases h3
  clear h3
  unfold rowW restW at he
  dsimp only at he h1 h2 h3' h4 h5 h6
  have hs := Nm.flag_off h6 rfl
  subst hs
  have hl := Nm.list_most h4 0 (by decide) rfl hw
  have hc : cond = 0 := by simpa [Im.condB] using h5
  clear h5 h6
  clear h4
  rcases h3' with ⟨rfl, q1, q2, rfl, rfl⟩ | ⟨rfl, q1, q2, q3, q4, rfl⟩ | ⟨rfl, q1, q2, rfl⟩
  · have hd := Nm.one_none h1
    have hn := Nm.one_none h2
    clear h1 h2
    repeat (first | rw [if_neg (by omega)] at he | rw [if_pos (by omega)] at he)
    simp only [Option.some.injEq, Prod.mk.injEq] at he
    obtain ⟨rfl, rfl⟩ := he
    refine ⟨by omega, by omega, by omega, by omega, ?_⟩
    unfold decW decB
    repeat (first | rw [if_neg (by omega)] | rw [if_pos (by omega)])
    exact Nm.mk_eq (by omega) (by omega) (by omega) (by omega) (by omega) (by omega) (by omega) (by omega) rfl
  · exact absurd rfl q1
  · exact absurd rfl q1
theorem wdec_45 (E : Int → Int) (F : Int → Option Int) (cond rd rn rm imm mode list : Int) (s it : Bool) (a b : Int) (hok : Nm.okB ⟨45, cond, rd, rn, rm, imm, mode, list, s⟩ = true) (hw : Nm.Wide list) (he : rowW F ⟨45, cond, rd, rn, rm, imm, mode, list, s⟩ it = some (a, b)) :
    59392 ≤ a ∧ a < 65536 ∧ 0 ≤ b ∧ b < 65536 ∧ decW E a b = ⟨45, cond, rd, rn, rm, imm, mode, list, s⟩ := by
  obtain ⟨_, h1, h2, h3, h4, h5, h6⟩ := Nm.ok_parts hok
  clear hok
  have h3' := Nm.last_cases h3
  clear h3
  unfold rowW restW at he
  dsimp only at he h1 h2 h3' h4 h5 h6
  have hs := Nm.flag_off h6 rfl
  subst hs
  have hl := Nm.list_most h4 0 (by decide) rfl hw
  have hc : cond = 0 := by simpa [Im.condB] using h5
  clear h5 h6
  clear h4
  rcases h3' with ⟨rfl, q1, q2, rfl, rfl⟩ | ⟨rfl, q1, q2, q3, q4, rfl⟩ | ⟨rfl, q1, q2, rfl⟩
  · exact absurd q2 (by decide)
  · exact absurd rfl q1
  · have hd := Nm.one_none h1
    have hn := one_12 h2
    have hm := one_12 q2
    clear h1 h2 q1 q2
    repeat (first | rw [if_neg (by omega)] at he | rw [if_pos (by omega)] at he)
    simp only [Option.some.injEq, Prod.mk.injEq] at he
    obtain ⟨rfl, rfl⟩ := he
    refine ⟨by omega, by omega, by omega, by omega, ?_⟩
    unfold decW
    repeat (first | rw [if_neg (by omega)] | rw [if_pos (by omega)])
    exact Nm.mk_eq (by omega) (by omega) (by omega) (by omega) (by omega) (by omega) (by omega) (by omega) rfl
end Wm
end Go.Proofs.YtmofimgodmcdjaaDoor
