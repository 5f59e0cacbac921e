/- The instruction of any halfword, plainly: exactly as the document reads it. No program; no conditions (text by gen_sm.py). A read instruction, or none, as it is answered. No program; no conditions. Short's table, plainly, and how a halfword is read by it. No program; no conditions (text by gen_sp.py). Of an instruction's halfword it is the instruction (text by gen_sm.py). -/
import Derived.Test.YtcphhojdfpedkaaDoorRows
import Derived.Test.YtcphhojdfpedkaaDoorGa
import Derived.Test.YtcphhojdfpedkaaDoorNe

namespace Go.Proofs.YtcphhojdfpedkaaDoor
namespace Sm
open Nm (I)
def badP (h : Int) (it : Bool) : Prop := (0 ≤ h ∧ h < 64 ∧ (it = true)) ∨ (17216 ≤ h ∧ h < 17280 ∧ (it = false)) ∨ (17664 ≤ h ∧ h < 17920 ∧ (Nm.hi4 h ≤ 7 ∧ h / 8 % 16 ≤ 7)) ∨ (18176 ≤ h ∧ h < 18432 ∧ (¬ (h / 128 % 2 = 0 ∧ h % 8 = 0))) ∨ (22016 ≤ h ∧ h < 22528) ∨ (24064 ≤ h ∧ h < 24576) ∨ (43008 ≤ h ∧ h < 45312) ∨ (45568 ≤ h ∧ h < 45824) ∨ (45312 ≤ h ∧ h < 45568 ∧ (it = true)) ∨ (45824 ≤ h ∧ h < 46080 ∧ (it = true)) ∨ (46592 ≤ h ∧ h < 47360) ∨ (47616 ≤ h ∧ h < 47872) ∨ (47360 ≤ h ∧ h < 47616 ∧ (it = true)) ∨ (47872 ≤ h ∧ h < 48128 ∧ (it = true)) ∨ (48897 ≤ h ∧ h < 49152 ∧ (it = true ∨ h % 16 = 0)) ∨ (53248 ≤ h ∧ h < 57344 ∧ (it = true ∨ 14 ≤ h / 256 % 16))
instance (h : Int) (it : Bool) : Decidable (badP h it) := by unfold badP; exact inferInstance
def noneI : I := ⟨0, 0, 0, 0, 0, 0, 0, 0, false⟩
def decS (h : Int) (it : Bool) : I := if badP h it then noneI else Nm.decI h it
def shortP (h : Int) (it : Bool) : Option I := if h < 59392 ∧ Nm.okB (decS h it) = true then some (decS h it) else none
end Sm
end Go.Proofs.YtcphhojdfpedkaaDoor

namespace Go.Proofs.YtcphhojdfpedkaaDoor
namespace Rd
open Sm (noneI)
def IV (i : Nm.I) : Value := .agg #[.int .i64 i.op, .int .i64 i.cond, .int .i64 i.rd, .int .i64 i.rn, .int .i64 i.rm, .int .i64 i.imm, .int .i64 i.mode, .int .i64 i.list, .bool i.s]
def decV : Option Nm.I → Value
  | some i => .tuple #[IV i, .bool true]
  | none => .tuple #[IV noneI, .bool false]
end Rd
end Go.Proofs.YtcphhojdfpedkaaDoor

namespace Go.Proofs.YtcphhojdfpedkaaDoor
namespace Sp
open Nm (I okB)
structure P where
  field : Int
  count : Int
  at_ : Int
  up : Int
structure R where
  of_ : List (Int × Int)
  known : I
  says : Int
  pcs : List P
def bitsP (p : P) (h : Int) : Int := h / 2 ^ p.at_.toNat % 2 ^ p.count.toNat
def clearP (h : Int) (p : P) : Int := h - bitsP p h * 2 ^ p.at_.toNat
def partP (p : P) (h : Int) : Int := bitsP p h * 2 ^ p.up.toNat
def nearI (h : Int) : Int := if h % 256 < 128 then h % 256 * 2 else h % 256 * 2 - 512
def farI (h : Int) : Int := if h % 2048 < 1024 then h % 2048 * 2 else h % 2048 * 2 - 4096
def aheadI (h : Int) : Int := h / 512 % 2 * 64 + h / 8 % 32 * 2
def addP (h : Int) (i : I) (p : P) : I :=
  if p.field = 0 then { i with rd := bits .or .i64 i.rd (partP p h) }
  else if p.field = 1 then { i with rn := bits .or .i64 i.rn (partP p h) }
  else if p.field = 2 then { i with rm := bits .or .i64 i.rm (partP p h) }
  else if p.field = 3 then { i with imm := bits .or .i64 i.imm (partP p h) }
  else if p.field = 4 then { i with list := bits .or .i64 i.list (partP p h) }
  else if p.field = 5 then { i with cond := bits .or .i64 i.cond (partP p h) }
  else if p.field = 6 then { i with imm := nearI h }
  else if p.field = 7 then { i with imm := farI h }
  else if p.field = 8 then { i with imm := aheadI h }
  else i
def clears (l : List P) (h : Int) : Int := l.foldl clearP h
def adds (l : List P) (h : Int) (i : I) : I := l.foldl (addP h) i
def findB : List (Int × Int) → Int → Option Int
  | [], _ => none
  | b :: r, x => if b.2 = x then some b.1 else findB r x
def saysB (says : Int) (k : Nat) : Bool := says / 2 ^ k % 2 == 1
def flagB (says : Int) (it : Bool) : Bool := saysB says 2 && !it
def allowsB (says : Int) (i : I) (it : Bool) : Bool :=
  !(saysB says 0 && it) && !(saysB says 1 && !it) && !(saysB says 3 && i.cond == 14) && !(saysB says 4 && (decide (i.rn < 8) && decide (i.rm < 8)))
def insP (r : R) (h : Int) (it : Bool) (op : Int) : I := adds r.pcs h { r.known with op := op, s := flagB r.says it }
def readP (r : R) (h : Int) (it : Bool) : Option I :=
  match findB r.of_ (clears r.pcs h) with
  | none => none
  | some op => if allowsB r.says (insP r h it op) it && okB (insP r h it op) then some (insP r h it op) else none
def searchP : List R → Int → Bool → Option I
  | [], _, _ => none
  | r :: l, h, it => match readP r h it with | some i => some i | none => searchP l h it
def row_0 : R := ⟨[(1, 16384), (2, 16448), (6, 16704), (8, 16768), (3, 17152), (4, 17280)], ⟨0, 0, 0, 0, 0, 0, 2, 0, false⟩, 4, [⟨2, 3, 3, 0⟩, ⟨0, 3, 0, 0⟩, ⟨1, 3, 0, 0⟩, ⟨0, 0, 0, 0⟩, ⟨0, 0, 0, 0⟩]⟩
def row_1 : R := ⟨[(9, 16960), (0, 0), (0, 0), (0, 0), (0, 0), (0, 0)], ⟨0, 0, 0, 0, 0, 0, 1, 0, false⟩, 4, [⟨1, 3, 3, 0⟩, ⟨0, 3, 0, 0⟩, ⟨0, 0, 0, 0⟩, ⟨0, 0, 0, 0⟩, ⟨0, 0, 0, 0⟩]⟩
def row_2 : R := ⟨[(11, 17344), (0, 0), (0, 0), (0, 0), (0, 0), (0, 0)], ⟨0, 0, 0, 0, 0, 0, 2, 0, false⟩, 4, [⟨2, 3, 3, 0⟩, ⟨0, 3, 0, 0⟩, ⟨0, 0, 0, 0⟩, ⟨0, 0, 0, 0⟩, ⟨0, 0, 0, 0⟩]⟩
def row_3 : R := ⟨[(20, 17216), (0, 0), (0, 0), (0, 0), (0, 0), (0, 0)], ⟨0, 0, 0, 0, 0, 0, 2, 0, false⟩, 2, [⟨1, 3, 3, 0⟩, ⟨0, 3, 0, 0⟩, ⟨2, 3, 0, 0⟩, ⟨0, 0, 0, 0⟩, ⟨0, 0, 0, 0⟩]⟩
def row_4 : R := ⟨[(14, 16896), (13, 17088), (0, 0), (0, 0), (0, 0), (0, 0)], ⟨0, 0, 0, 0, 0, 0, 2, 0, false⟩, 0, [⟨2, 3, 3, 0⟩, ⟨1, 3, 0, 0⟩, ⟨0, 0, 0, 0⟩, ⟨0, 0, 0, 0⟩, ⟨0, 0, 0, 0⟩]⟩
def row_5 : R := ⟨[(12, 17024), (0, 0), (0, 0), (0, 0), (0, 0), (0, 0)], ⟨0, 0, 0, 0, 0, 0, 2, 0, false⟩, 0, [⟨2, 3, 3, 0⟩, ⟨1, 3, 0, 0⟩, ⟨0, 0, 0, 0⟩, ⟨0, 0, 0, 0⟩, ⟨0, 0, 0, 0⟩]⟩
def row_6 : R := ⟨[(12, 17664), (0, 0), (0, 0), (0, 0), (0, 0), (0, 0)], ⟨0, 0, 0, 0, 0, 0, 2, 0, false⟩, 16, [⟨2, 4, 3, 0⟩, ⟨1, 1, 7, 3⟩, ⟨1, 3, 0, 0⟩, ⟨0, 0, 0, 0⟩, ⟨0, 0, 0, 0⟩]⟩
def row_7 : R := ⟨[(12, 10240), (0, 0), (0, 0), (0, 0), (0, 0), (0, 0)], ⟨0, 0, 0, 0, 0, 0, 1, 0, false⟩, 0, [⟨1, 3, 8, 0⟩, ⟨3, 8, 0, 0⟩, ⟨0, 0, 0, 0⟩, ⟨0, 0, 0, 0⟩, ⟨0, 0, 0, 0⟩]⟩
def row_8 : R := ⟨[(10, 8192), (0, 0), (0, 0), (0, 0), (0, 0), (0, 0)], ⟨0, 0, 0, 0, 0, 0, 1, 0, false⟩, 4, [⟨0, 3, 8, 0⟩, ⟨3, 8, 0, 0⟩, ⟨0, 0, 0, 0⟩, ⟨0, 0, 0, 0⟩, ⟨0, 0, 0, 0⟩]⟩
def row_9 : R := ⟨[(10, 0), (0, 0), (0, 0), (0, 0), (0, 0), (0, 0)], ⟨0, 0, 0, 0, 0, 0, 2, 0, false⟩, 5, [⟨2, 3, 3, 0⟩, ⟨0, 3, 0, 0⟩, ⟨0, 0, 0, 0⟩, ⟨0, 0, 0, 0⟩, ⟨0, 0, 0, 0⟩]⟩
def row_10 : R := ⟨[(10, 17920), (0, 0), (0, 0), (0, 0), (0, 0), (0, 0)], ⟨0, 0, 0, 0, 0, 0, 2, 0, false⟩, 0, [⟨2, 4, 3, 0⟩, ⟨0, 1, 7, 3⟩, ⟨0, 3, 0, 0⟩, ⟨0, 0, 0, 0⟩, ⟨0, 0, 0, 0⟩]⟩
def row_11 : R := ⟨[(5, 6144), (7, 6656), (0, 0), (0, 0), (0, 0), (0, 0)], ⟨0, 0, 0, 0, 0, 0, 2, 0, false⟩, 4, [⟨2, 3, 6, 0⟩, ⟨1, 3, 3, 0⟩, ⟨0, 3, 0, 0⟩, ⟨0, 0, 0, 0⟩, ⟨0, 0, 0, 0⟩]⟩
def row_12 : R := ⟨[(5, 17408), (0, 0), (0, 0), (0, 0), (0, 0), (0, 0)], ⟨0, 0, 0, 0, 0, 0, 2, 0, false⟩, 0, [⟨2, 4, 3, 0⟩, ⟨0, 1, 7, 3⟩, ⟨0, 3, 0, 0⟩, ⟨1, 1, 7, 3⟩, ⟨1, 3, 0, 0⟩]⟩
def row_13 : R := ⟨[(5, 7168), (7, 7680), (0, 0), (0, 0), (0, 0), (0, 0)], ⟨0, 0, 0, 0, 0, 0, 1, 0, false⟩, 4, [⟨3, 3, 6, 0⟩, ⟨1, 3, 3, 0⟩, ⟨0, 3, 0, 0⟩, ⟨0, 0, 0, 0⟩, ⟨0, 0, 0, 0⟩]⟩
def row_14 : R := ⟨[(5, 12288), (7, 14336), (0, 0), (0, 0), (0, 0), (0, 0)], ⟨0, 0, 0, 0, 0, 0, 1, 0, false⟩, 4, [⟨0, 3, 8, 0⟩, ⟨1, 3, 8, 0⟩, ⟨3, 8, 0, 0⟩, ⟨0, 0, 0, 0⟩, ⟨0, 0, 0, 0⟩]⟩
def row_15 : R := ⟨[(16, 0), (17, 2048), (18, 4096), (0, 0), (0, 0), (0, 0)], ⟨0, 0, 0, 0, 0, 0, 1, 0, false⟩, 4, [⟨3, 5, 6, 0⟩, ⟨1, 3, 3, 0⟩, ⟨0, 3, 0, 0⟩, ⟨0, 0, 0, 0⟩, ⟨0, 0, 0, 0⟩]⟩
def row_16 : R := ⟨[(17, 2048), (18, 4096), (0, 0), (0, 0), (0, 0), (0, 0)], ⟨0, 0, 0, 0, 0, 32, 1, 0, false⟩, 4, [⟨1, 3, 3, 0⟩, ⟨0, 3, 0, 0⟩, ⟨0, 0, 0, 0⟩, ⟨0, 0, 0, 0⟩, ⟨0, 0, 0, 0⟩]⟩
def row_17 : R := ⟨[(16, 16512), (17, 16576), (18, 16640), (19, 16832), (0, 0), (0, 0)], ⟨0, 0, 0, 0, 0, 0, 2, 0, false⟩, 4, [⟨2, 3, 3, 0⟩, ⟨0, 3, 0, 0⟩, ⟨1, 3, 0, 0⟩, ⟨0, 0, 0, 0⟩, ⟨0, 0, 0, 0⟩]⟩
def row_18 : R := ⟨[(28, 24576), (25, 26624), (0, 0), (0, 0), (0, 0), (0, 0)], ⟨0, 0, 0, 0, 0, 0, 1, 0, false⟩, 0, [⟨3, 5, 6, 2⟩, ⟨1, 3, 3, 0⟩, ⟨0, 3, 0, 0⟩, ⟨0, 0, 0, 0⟩, ⟨0, 0, 0, 0⟩]⟩
def row_19 : R := ⟨[(29, 28672), (26, 30720), (0, 0), (0, 0), (0, 0), (0, 0)], ⟨0, 0, 0, 0, 0, 0, 1, 0, false⟩, 0, [⟨3, 5, 6, 0⟩, ⟨1, 3, 3, 0⟩, ⟨0, 3, 0, 0⟩, ⟨0, 0, 0, 0⟩, ⟨0, 0, 0, 0⟩]⟩
def row_20 : R := ⟨[(30, 32768), (27, 34816), (0, 0), (0, 0), (0, 0), (0, 0)], ⟨0, 0, 0, 0, 0, 0, 1, 0, false⟩, 0, [⟨3, 5, 6, 1⟩, ⟨1, 3, 3, 0⟩, ⟨0, 3, 0, 0⟩, ⟨0, 0, 0, 0⟩, ⟨0, 0, 0, 0⟩]⟩
def row_21 : R := ⟨[(28, 36864), (25, 38912), (0, 0), (0, 0), (0, 0), (0, 0)], ⟨0, 0, 0, 13, 0, 0, 1, 0, false⟩, 0, [⟨0, 3, 8, 0⟩, ⟨3, 8, 0, 2⟩, ⟨0, 0, 0, 0⟩, ⟨0, 0, 0, 0⟩, ⟨0, 0, 0, 0⟩]⟩
def row_22 : R := ⟨[(28, 20480), (30, 20992), (29, 21504), (25, 22528), (27, 23040), (26, 23552)], ⟨0, 0, 0, 0, 0, 0, 2, 0, false⟩, 0, [⟨2, 3, 6, 0⟩, ⟨1, 3, 3, 0⟩, ⟨0, 3, 0, 0⟩, ⟨0, 0, 0, 0⟩, ⟨0, 0, 0, 0⟩]⟩
def row_23 : R := ⟨[(32, 49152), (31, 51200), (0, 0), (0, 0), (0, 0), (0, 0)], ⟨0, 0, 0, 0, 0, 0, 0, 0, false⟩, 0, [⟨1, 3, 8, 0⟩, ⟨4, 8, 0, 0⟩, ⟨0, 0, 0, 0⟩, ⟨0, 0, 0, 0⟩, ⟨0, 0, 0, 0⟩]⟩
def row_24 : R := ⟨[(33, 46080), (0, 0), (0, 0), (0, 0), (0, 0), (0, 0)], ⟨0, 0, 0, 0, 0, 0, 0, 0, false⟩, 0, [⟨4, 1, 8, 14⟩, ⟨4, 8, 0, 0⟩, ⟨0, 0, 0, 0⟩, ⟨0, 0, 0, 0⟩, ⟨0, 0, 0, 0⟩]⟩
def row_25 : R := ⟨[(34, 48128), (0, 0), (0, 0), (0, 0), (0, 0), (0, 0)], ⟨0, 0, 0, 0, 0, 0, 0, 0, false⟩, 0, [⟨4, 1, 8, 15⟩, ⟨4, 8, 0, 0⟩, ⟨0, 0, 0, 0⟩, ⟨0, 0, 0, 0⟩, ⟨0, 0, 0, 0⟩]⟩
def row_26 : R := ⟨[(35, 53248), (0, 0), (0, 0), (0, 0), (0, 0), (0, 0)], ⟨0, 0, 0, 0, 0, 0, 1, 0, false⟩, 9, [⟨5, 4, 8, 0⟩, ⟨6, 8, 0, 0⟩, ⟨0, 0, 0, 0⟩, ⟨0, 0, 0, 0⟩, ⟨0, 0, 0, 0⟩]⟩
def row_27 : R := ⟨[(35, 57344), (0, 0), (0, 0), (0, 0), (0, 0), (0, 0)], ⟨0, 14, 0, 0, 0, 0, 1, 0, false⟩, 0, [⟨7, 11, 0, 0⟩, ⟨0, 0, 0, 0⟩, ⟨0, 0, 0, 0⟩, ⟨0, 0, 0, 0⟩, ⟨0, 0, 0, 0⟩]⟩
def row_28 : R := ⟨[(37, 45312), (38, 47360), (0, 0), (0, 0), (0, 0), (0, 0)], ⟨0, 0, 0, 0, 0, 0, 1, 0, false⟩, 1, [⟨8, 1, 9, 0⟩, ⟨8, 5, 3, 0⟩, ⟨1, 3, 0, 0⟩, ⟨0, 0, 0, 0⟩, ⟨0, 0, 0, 0⟩]⟩
def row_29 : R := ⟨[(39, 18176), (0, 0), (0, 0), (0, 0), (0, 0), (0, 0)], ⟨0, 0, 0, 0, 0, 0, 2, 0, false⟩, 0, [⟨2, 4, 3, 0⟩, ⟨0, 0, 0, 0⟩, ⟨0, 0, 0, 0⟩, ⟨0, 0, 0, 0⟩, ⟨0, 0, 0, 0⟩]⟩
def row_30 : R := ⟨[(40, 18432), (41, 40960), (0, 0), (0, 0), (0, 0), (0, 0)], ⟨0, 0, 0, 0, 0, 0, 1, 0, false⟩, 0, [⟨0, 3, 8, 0⟩, ⟨3, 8, 0, 2⟩, ⟨0, 0, 0, 0⟩, ⟨0, 0, 0, 0⟩, ⟨0, 0, 0, 0⟩]⟩
def row_31 : R := ⟨[(42, 48896), (0, 0), (0, 0), (0, 0), (0, 0), (0, 0)], ⟨0, 0, 0, 0, 0, 0, 1, 0, false⟩, 1, [⟨5, 4, 4, 0⟩, ⟨3, 4, 0, 0⟩, ⟨0, 0, 0, 0⟩, ⟨0, 0, 0, 0⟩, ⟨0, 0, 0, 0⟩]⟩
def row_32 : R := ⟨[(43, 48896), (0, 0), (0, 0), (0, 0), (0, 0), (0, 0)], ⟨0, 0, 0, 0, 0, 0, 0, 0, false⟩, 0, [⟨0, 0, 0, 0⟩, ⟨0, 0, 0, 0⟩, ⟨0, 0, 0, 0⟩, ⟨0, 0, 0, 0⟩, ⟨0, 0, 0, 0⟩]⟩
def row_33 : R := ⟨[(44, 48640), (0, 0), (0, 0), (0, 0), (0, 0), (0, 0)], ⟨0, 0, 0, 0, 0, 0, 1, 0, false⟩, 0, [⟨3, 8, 0, 0⟩, ⟨0, 0, 0, 0⟩, ⟨0, 0, 0, 0⟩, ⟨0, 0, 0, 0⟩, ⟨0, 0, 0, 0⟩]⟩
def rowsT : List R := [row_0, row_1, row_2, row_3, row_4, row_5, row_6, row_7, row_8, row_9, row_10, row_11, row_12, row_13, row_14, row_15, row_16, row_17, row_18, row_19, row_20, row_21, row_22, row_23, row_24, row_25, row_26, row_27, row_28, row_29, row_30, row_31, row_32, row_33]
end Sp
end Go.Proofs.YtcphhojdfpedkaaDoor

namespace Go.Proofs.YtcphhojdfpedkaaDoor
namespace Sm
open Nm (I)
theorem opt_no {b : Bool} {k h : Int} (e : Nm.opt b k = some h) (hn : b = true → k = h → False) : False := by
  obtain ⟨h1, h2⟩ := Nm.opt_is e
  exact hn h1 h2.symm
theorem bad_0 (h : Int) (it : Bool) (h0 : 0 ≤ h) (h1 : h < 64) (hc : it = true) (he : Nm.rowI (Nm.decI h it) it = some h) : False := by
  have e : Nm.decI h it = ⟨10, 0, h % 8, 0, h / 8 % 8, 0, 2, 0, true⟩ := by
    unfold Nm.decI Nm.dec0
    repeat (first | rw [if_neg (by omega)] | rw [if_pos (by omega)])
  rw [e] at he
  clear e
  subst hc
  unfold Nm.rowI Nm.moveI at he
  dsimp only at he
  repeat (first | rw [if_neg (by omega)] at he | rw [if_pos (by omega)] at he | rw [if_pos rfl] at he)
  exact opt_no he (fun hb _ => by simp at hb)
theorem bad_17216 (h : Int) (it : Bool) (h0 : 17216 ≤ h) (h1 : h < 17280) (hc : it = false) (he : Nm.rowI (Nm.decI h it) it = some h) : False := by
  have e : Nm.decI h it = ⟨20, 0, h % 8, h / 8 % 8, h % 8, 0, 2, 0, false⟩ := by
    unfold Nm.decI Nm.dec1
    repeat (first | rw [if_neg (by omega)] | rw [if_pos (by omega)])
  rw [e] at he
  clear e
  subst hc
  unfold Nm.rowI Nm.twoI at he
  dsimp only at he
  repeat (first | rw [if_neg (by omega)] at he | rw [if_pos (by omega)] at he | rw [if_pos rfl] at he)
  exact opt_no he (fun hb _ => by simp at hb)
theorem bad_17664 (h : Int) (it : Bool) (h0 : 17664 ≤ h) (h1 : h < 17920) (hc : Nm.hi4 h ≤ 7 ∧ h / 8 % 16 ≤ 7) (he : Nm.rowI (Nm.decI h it) it = some h) : False := by
  have e : Nm.decI h it = ⟨12, 0, 0, Nm.hi4 h, h / 8 % 16, 0, 2, 0, false⟩ := by
    unfold Nm.decI Nm.dec2
    repeat (first | rw [if_neg (by omega)] | rw [if_pos (by omega)])
  rw [e] at he
  clear e
  unfold Nm.rowI Nm.moveI at he
  dsimp only at he
  repeat (first | rw [if_neg (by omega)] at he | rw [if_pos (by omega)] at he | rw [if_pos rfl] at he)
  rw [if_pos (by simp [Nm.low]; unfold Nm.hi4 at hc ⊢; omega)] at he
  have := Option.some.inj he
  unfold Nm.hi4 at this
  omega
theorem bad_18176 (h : Int) (it : Bool) (h0 : 18176 ≤ h) (h1 : h < 18432) (hc : ¬ (h / 128 % 2 = 0 ∧ h % 8 = 0)) (he : Nm.rowI (Nm.decI h it) it = some h) : False := by
  have e : Nm.decI h it = ⟨39, 0, 0, 0, h / 8 % 16, 0, 2, 0, false⟩ := by
    unfold Nm.decI Nm.dec2
    repeat (first | rw [if_neg (by omega)] | rw [if_pos (by omega)])
  rw [e] at he
  clear e
  unfold Nm.rowI Nm.restI at he
  dsimp only at he
  repeat (first | rw [if_neg (by omega)] at he | rw [if_pos (by omega)] at he | rw [if_pos rfl] at he)
  have := Option.some.inj he
  omega
theorem bad_22016 (h : Int) (it : Bool) (h0 : 22016 ≤ h) (h1 : h < 22528) (he : Nm.rowI (Nm.decI h it) it = some h) : False := by
  have e : Nm.decI h it = ⟨25, 0, h % 8, h / 8 % 8, h / 64 % 8, 0, 2, 0, false⟩ := by
    unfold Nm.decI Nm.dec3
    repeat (first | rw [if_neg (by omega)] | rw [if_pos (by omega)])
  rw [e] at he
  clear e
  unfold Nm.rowI Nm.loadI at he
  dsimp only at he
  repeat (first | rw [if_neg (by omega)] at he | rw [if_pos (by omega)] at he | rw [if_pos rfl] at he)
  exact opt_no he (fun _ hk => by rw [show Nm.regB 25 = 22528 from rfl] at hk; omega)
theorem bad_24064 (h : Int) (it : Bool) (h0 : 24064 ≤ h) (h1 : h < 24576) (he : Nm.rowI (Nm.decI h it) it = some h) : False := by
  have e : Nm.decI h it = ⟨26, 0, h % 8, h / 8 % 8, h / 64 % 8, 0, 2, 0, false⟩ := by
    unfold Nm.decI Nm.dec3
    repeat (first | rw [if_neg (by omega)] | rw [if_pos (by omega)])
  rw [e] at he
  clear e
  unfold Nm.rowI Nm.loadI at he
  dsimp only at he
  repeat (first | rw [if_neg (by omega)] at he | rw [if_pos (by omega)] at he | rw [if_pos rfl] at he)
  exact opt_no he (fun _ hk => by rw [show Nm.regB 26 = 23552 from rfl] at hk; omega)
theorem bad_43008 (h : Int) (it : Bool) (h0 : 43008 ≤ h) (h1 : h < 45056) (he : Nm.rowI (Nm.decI h it) it = some h) : False := by
  have e : Nm.decI h it = ⟨41, 0, h / 256 % 8, 0, 0, h % 256 * 4, 1, 0, false⟩ := by
    unfold Nm.decI
    repeat (first | rw [if_neg (by omega)] | rw [if_pos (by omega)])
  rw [e] at he
  clear e
  unfold Nm.rowI Nm.restI at he
  dsimp only at he
  repeat (first | rw [if_neg (by omega)] at he | rw [if_pos (by omega)] at he | rw [if_pos rfl] at he)
  exact opt_no he (fun _ hk => by omega)
theorem bad_45056 (h : Int) (it : Bool) (h0 : 45056 ≤ h) (h1 : h < 45312) (he : Nm.rowI (Nm.decI h it) it = some h) : False := by
  have e : Nm.decI h it = ⟨37, 0, 0, h % 8, 0, h / 512 % 2 * 64 + h / 8 % 32 * 2, 1, 0, false⟩ := by
    unfold Nm.decI Nm.dec4
    repeat (first | rw [if_neg (by omega)] | rw [if_pos (by omega)])
  rw [e] at he
  clear e
  unfold Nm.rowI Nm.branchI at he
  dsimp only at he
  repeat (first | rw [if_neg (by omega)] at he | rw [if_pos (by omega)] at he | rw [if_pos rfl] at he)
  have e1 : (h / 512 % 2 * 64 + h / 8 % 32 * 2) / 64 % 2 = h / 512 % 2 := by omega
  have e2 : (h / 512 % 2 * 64 + h / 8 % 32 * 2) / 2 % 32 = h / 8 % 32 := by omega
  rw [e1, e2] at he
  exact opt_no he (fun _ hk => by omega)
theorem bad_45568 (h : Int) (it : Bool) (h0 : 45568 ≤ h) (h1 : h < 45824) (he : Nm.rowI (Nm.decI h it) it = some h) : False := by
  have e : Nm.decI h it = ⟨37, 0, 0, h % 8, 0, h / 512 % 2 * 64 + h / 8 % 32 * 2, 1, 0, false⟩ := by
    unfold Nm.decI Nm.dec4
    repeat (first | rw [if_neg (by omega)] | rw [if_pos (by omega)])
  rw [e] at he
  clear e
  unfold Nm.rowI Nm.branchI at he
  dsimp only at he
  repeat (first | rw [if_neg (by omega)] at he | rw [if_pos (by omega)] at he | rw [if_pos rfl] at he)
  have e1 : (h / 512 % 2 * 64 + h / 8 % 32 * 2) / 64 % 2 = h / 512 % 2 := by omega
  have e2 : (h / 512 % 2 * 64 + h / 8 % 32 * 2) / 2 % 32 = h / 8 % 32 := by omega
  rw [e1, e2] at he
  exact opt_no he (fun _ hk => by omega)
theorem bad_45312 (h : Int) (it : Bool) (h0 : 45312 ≤ h) (h1 : h < 45568) (hc : it = true) (he : Nm.rowI (Nm.decI h it) it = some h) : False := by
  have e : Nm.decI h it = ⟨37, 0, 0, h % 8, 0, h / 512 % 2 * 64 + h / 8 % 32 * 2, 1, 0, false⟩ := by
    unfold Nm.decI Nm.dec4
    repeat (first | rw [if_neg (by omega)] | rw [if_pos (by omega)])
  rw [e] at he
  clear e
  subst hc
  unfold Nm.rowI Nm.branchI at he
  dsimp only at he
  repeat (first | rw [if_neg (by omega)] at he | rw [if_pos (by omega)] at he | rw [if_pos rfl] at he)
  exact opt_no he (fun hb _ => by simp at hb)
theorem bad_45824 (h : Int) (it : Bool) (h0 : 45824 ≤ h) (h1 : h < 46080) (hc : it = true) (he : Nm.rowI (Nm.decI h it) it = some h) : False := by
  have e : Nm.decI h it = ⟨37, 0, 0, h % 8, 0, h / 512 % 2 * 64 + h / 8 % 32 * 2, 1, 0, false⟩ := by
    unfold Nm.decI Nm.dec4
    repeat (first | rw [if_neg (by omega)] | rw [if_pos (by omega)])
  rw [e] at he
  clear e
  subst hc
  unfold Nm.rowI Nm.branchI at he
  dsimp only at he
  repeat (first | rw [if_neg (by omega)] at he | rw [if_pos (by omega)] at he | rw [if_pos rfl] at he)
  exact opt_no he (fun hb _ => by simp at hb)
theorem bad_46592 (h : Int) (it : Bool) (h0 : 46592 ≤ h) (h1 : h < 47360) (he : Nm.rowI (Nm.decI h it) it = some h) : False := by
  have e : Nm.decI h it = ⟨38, 0, 0, h % 8, 0, h / 512 % 2 * 64 + h / 8 % 32 * 2, 1, 0, false⟩ := by
    unfold Nm.decI Nm.dec4
    repeat (first | rw [if_neg (by omega)] | rw [if_pos (by omega)])
  rw [e] at he
  clear e
  unfold Nm.rowI Nm.branchI at he
  dsimp only at he
  repeat (first | rw [if_neg (by omega)] at he | rw [if_pos (by omega)] at he | rw [if_pos rfl] at he)
  have e1 : (h / 512 % 2 * 64 + h / 8 % 32 * 2) / 64 % 2 = h / 512 % 2 := by omega
  have e2 : (h / 512 % 2 * 64 + h / 8 % 32 * 2) / 2 % 32 = h / 8 % 32 := by omega
  rw [e1, e2] at he
  exact opt_no he (fun _ hk => by omega)
theorem bad_47616 (h : Int) (it : Bool) (h0 : 47616 ≤ h) (h1 : h < 47872) (he : Nm.rowI (Nm.decI h it) it = some h) : False := by
  have e : Nm.decI h it = ⟨38, 0, 0, h % 8, 0, h / 512 % 2 * 64 + h / 8 % 32 * 2, 1, 0, false⟩ := by
    unfold Nm.decI Nm.dec4
    repeat (first | rw [if_neg (by omega)] | rw [if_pos (by omega)])
  rw [e] at he
  clear e
  unfold Nm.rowI Nm.branchI at he
  dsimp only at he
  repeat (first | rw [if_neg (by omega)] at he | rw [if_pos (by omega)] at he | rw [if_pos rfl] at he)
  have e1 : (h / 512 % 2 * 64 + h / 8 % 32 * 2) / 64 % 2 = h / 512 % 2 := by omega
  have e2 : (h / 512 % 2 * 64 + h / 8 % 32 * 2) / 2 % 32 = h / 8 % 32 := by omega
  rw [e1, e2] at he
  exact opt_no he (fun _ hk => by omega)
theorem bad_47360 (h : Int) (it : Bool) (h0 : 47360 ≤ h) (h1 : h < 47616) (hc : it = true) (he : Nm.rowI (Nm.decI h it) it = some h) : False := by
  have e : Nm.decI h it = ⟨38, 0, 0, h % 8, 0, h / 512 % 2 * 64 + h / 8 % 32 * 2, 1, 0, false⟩ := by
    unfold Nm.decI Nm.dec4
    repeat (first | rw [if_neg (by omega)] | rw [if_pos (by omega)])
  rw [e] at he
  clear e
  subst hc
  unfold Nm.rowI Nm.branchI at he
  dsimp only at he
  repeat (first | rw [if_neg (by omega)] at he | rw [if_pos (by omega)] at he | rw [if_pos rfl] at he)
  exact opt_no he (fun hb _ => by simp at hb)
theorem bad_47872 (h : Int) (it : Bool) (h0 : 47872 ≤ h) (h1 : h < 48128) (hc : it = true) (he : Nm.rowI (Nm.decI h it) it = some h) : False := by
  have e : Nm.decI h it = ⟨38, 0, 0, h % 8, 0, h / 512 % 2 * 64 + h / 8 % 32 * 2, 1, 0, false⟩ := by
    unfold Nm.decI Nm.dec4
    repeat (first | rw [if_neg (by omega)] | rw [if_pos (by omega)])
  rw [e] at he
  clear e
  subst hc
  unfold Nm.rowI Nm.branchI at he
  dsimp only at he
  repeat (first | rw [if_neg (by omega)] at he | rw [if_pos (by omega)] at he | rw [if_pos rfl] at he)
  exact opt_no he (fun hb _ => by simp at hb)
theorem bad_48897 (h : Int) (it : Bool) (h0 : 48897 ≤ h) (h1 : h < 49152) (hc : it = true ∨ h % 16 = 0) (hok : Nm.okB (Nm.decI h it) = true) (he : Nm.rowI (Nm.decI h it) it = some h) : False := by
  have e : Nm.decI h it = ⟨42, h / 16 % 16, 0, 0, 0, h % 16, 1, 0, false⟩ := by
    unfold Nm.decI Nm.dec4
    repeat (first | rw [if_neg (by omega)] | rw [if_pos (by omega)])
  rw [e] at he hok
  clear e
  rcases hc with rfl | hc
  · unfold Nm.rowI Nm.restI at he
    dsimp only at he
    repeat (first | rw [if_neg (by omega)] at he | rw [if_pos (by omega)] at he | rw [if_pos rfl] at he)
    exact opt_no he (fun hb _ => by simp at hb)
  · obtain ⟨_, _, _, h3, _⟩ := Nm.ok_parts hok
    have h3' := Nm.last_cases h3
    rcases h3' with ⟨h, _⟩ | ⟨_, _, q2, _⟩ | ⟨h, _⟩
    · cases h
    · replace q2 : 1 ≤ h % 16 := q2
      omega
    · cases h
theorem bad_53248 (h : Int) (it : Bool) (h0 : 53248 ≤ h) (h1 : h < 57344) (hc : it = true ∨ 14 ≤ h / 256 % 16) (hok : Nm.okB (Nm.decI h it) = true) (he : Nm.rowI (Nm.decI h it) it = some h) : False := by
  have e : Nm.decI h it = ⟨35, h / 256 % 16, 0, 0, 0, if h % 256 < 128 then h % 256 * 2 else h % 256 * 2 - 512, 1, 0, false⟩ := by
    unfold Nm.decI
    repeat (first | rw [if_neg (by omega)] | rw [if_pos (by omega)])
  rw [e] at he hok
  clear e
  have h5 := (Nm.ok_parts hok).2.2.2.2.2.1
  have hcd : 0 ≤ h / 256 % 16 ∧ h / 256 % 16 ≤ 14 := by simpa [Im.condB] using h5
  clear h5 hok
  generalize (if h % 256 < 128 then h % 256 * 2 else h % 256 * 2 - 512) = x at *
  unfold Nm.rowI Nm.branchI at he
  dsimp only at he
  rw [if_neg (by omega), if_neg (by omega), if_neg (by omega), if_neg (by omega), if_neg (by omega), if_pos (by omega), if_pos rfl] at he
  by_cases h14 : h / 256 % 16 = 14
  · rw [if_pos h14] at he
    exact opt_no he (fun _ hk => by omega)
  · rw [if_neg h14] at he
    rcases hc with rfl | hc
    · exact opt_no he (fun hb _ => by simp at hb)
    · omega
theorem not_bad (h : Int) (it : Bool) (hok : Nm.okB (Nm.decI h it) = true) (he : Nm.rowI (Nm.decI h it) it = some h) : ¬ badP h it := by
  intro hb
  unfold badP at hb
  rcases hb with ⟨a, b, c⟩ | ⟨a, b, c⟩ | ⟨a, b, c⟩ | ⟨a, b, c⟩ | ⟨a, b⟩ | ⟨a, b⟩ | ⟨a, b⟩ | ⟨a, b⟩ | ⟨a, b, c⟩ | ⟨a, b, c⟩ | ⟨a, b⟩ | ⟨a, b⟩ | ⟨a, b, c⟩ | ⟨a, b, c⟩ | ⟨a, b, c⟩ | ⟨a, b, c⟩
  · exact bad_0 h it a b c he
  · exact bad_17216 h it a b c he
  · exact bad_17664 h it a b c he
  · exact bad_18176 h it a b c he
  · exact bad_22016 h it a b he
  · exact bad_24064 h it a b he
  · by_cases hs : h < 45056
    · exact bad_43008 h it a hs he
    · exact bad_45056 h it (by omega) b he
  · exact bad_45568 h it a b he
  · exact bad_45312 h it a b c he
  · exact bad_45824 h it a b c he
  · exact bad_46592 h it a b he
  · exact bad_47616 h it a b he
  · exact bad_47360 h it a b c he
  · exact bad_47872 h it a b c he
  · exact bad_48897 h it a b c hok he
  · exact bad_53248 h it a b c hok he
theorem back (i : I) (it : Bool) (h : Int) (hw : Nm.Wide i.list) (he : Nm.encI i it = some h) : shortP h it = some i ∧ 0 ≤ h ∧ h < 59392 := by
  unfold Nm.encI at he
  split at he
  case isFalse => cases he
  rename_i hok
  obtain ⟨h0, h1, hd⟩ := Nm.dec_row i it h hok hw he
  have hb : ¬ badP h it := not_bad h it (by rw [hd]; exact hok) (by rw [hd]; exact he)
  unfold shortP decS
  rw [if_neg hb, hd, if_pos ⟨h1, hok⟩]
  exact ⟨rfl, h0, h1⟩
end Sm
end Go.Proofs.YtcphhojdfpedkaaDoor
