/- Contract of the program's Get of offsets: a loop over the table of pieces. -/
import Derived.Test.YthpoficikcicmaaDoorRows
import Derived.Test.YthpoficikcicmaaDoorOf
import Derived.Deep.RegionHeld3
namespace Go.Proofs.YthpoficikcicmaaDoor
open Go.ChangeShapes Go.WideShapes Go.ChangeAt Go.RowKit

structure Piece where
  k : Int
  h : Int
  a : Int
  hi : Int
  lo : Int
def pieceTab : List Piece := [⟨1, 0, 0, 8, 1⟩, ⟨2, 0, 0, 11, 1⟩, ⟨3, 0, 10, 20, 20⟩, ⟨3, 0, 0, 17, 12⟩, ⟨3, 1, 13, 18, 18⟩, ⟨3, 1, 11, 19, 19⟩, ⟨3, 1, 0, 11, 1⟩, ⟨4, 0, 10, 24, 24⟩, ⟨4, 0, 0, 21, 12⟩, ⟨4, 1, 13, 23, 23⟩, ⟨4, 1, 11, 22, 22⟩, ⟨4, 1, 0, 11, 1⟩, ⟨5, 0, 9, 6, 6⟩, ⟨5, 0, 3, 5, 1⟩]
def pieceAt (n : Nat) : Piece := pieceTab.getD n ⟨0, 0, 0, 0, 0⟩

def cellsOfPiece (p : Piece) : Value := .agg #[.int .i64 p.k, .int .i64 p.h, .int .i64 p.a, .int .i64 p.hi, .int .i64 p.lo]

theorem index_piece (n : Nat) (hn : n < 14) (w : World) : (Instr.index 85 (.agg pieceCells.toArray) (.int .i64 (n : Int))).run Tryd.prog w = .ok (cellsOfPiece (pieceAt n)) w := by
  rcases (by omega : n = 0 ∨ n = 1 ∨ n = 2 ∨ n = 3 ∨ n = 4 ∨ n = 5 ∨ n = 6 ∨ n = 7 ∨ n = 8 ∨ n = 9 ∨ n = 10 ∨ n = 11 ∨ n = 12 ∨ n = 13) with rfl | rfl | rfl | rfl | rfl | rfl | rfl | rfl | rfl | rfl | rfl | rfl | rfl | rfl <;> kernel_rfl

/-- what the loops ask of a piece -/
structure PieceOk (p : Piece) : Prop where
  h0 : 0 ≤ p.h
  h1 : p.h < 2
  a0 : 0 ≤ p.a
  a1 : p.a < 32
  hi0 : 0 ≤ p.hi
  hi1 : p.hi < 32
  lo0 : 0 ≤ p.lo
  lo1 : p.lo < 32
theorem piece_ok (n : Nat) (hn : n < 14) : PieceOk (pieceAt n) := by
  rcases (by omega : n = 0 ∨ n = 1 ∨ n = 2 ∨ n = 3 ∨ n = 4 ∨ n = 5 ∨ n = 6 ∨ n = 7 ∨ n = 8 ∨ n = 9 ∨ n = 10 ∨ n = 11 ∨ n = 12 ∨ n = 13) with rfl | rfl | rfl | rfl | rfl | rfl | rfl | rfl | rfl | rfl | rfl | rfl | rfl | rfl <;> exact ⟨by decide, by decide, by decide, by decide, by decide, by decide, by decide, by decide⟩

theorem getI_bd (x hi lo : Int) (hx0 : 0 ≤ x) (hx : x < 4294967296) : 0 ≤ getI x hi lo ∧ getI x hi lo < 4294967296 := by
  unfold getI
  split
  · exact getv_bd x hi lo hx0 hx
  · omega
theorem putI_bd (x hi lo v : Int) (hx0 : 0 ≤ x) (hx : x < 4294967296) : 0 ≤ putI x hi lo v ∧ putI x hi lo v < 4294967296 := by
  unfold putI
  split
  · have := Bm.put_lt x.toNat lo.toNat (hi.toNat + 1 - lo.toNat) v.toNat (by omega)
    omega
  · omega

theorem underP : Tryd.prog.underlying 85 = some (.array 14 84) := by kernel_rfl
theorem infoP : (Tryd.prog.info? 85).map (·.size) = some pieceCells.length := by kernel_rfl

theorem top_x (k h a hi lo : Int) (w : World) (ha : 0 ≤ a) (ha2 : a < 32) (hh : 0 ≤ hi) (hh2 : hi < 32) (hl : 0 ≤ lo) (hl2 : lo < 32) :
    Calls Tryd.prog 61 #[.agg #[.int .i64 k, .int .i64 h, .int .i64 a, .int .i64 hi, .int .i64 lo]] w fun e w' => e = .returned (.int .i64 (a + hi - lo)) ∧ w' = w.alloc (.cells #[.int .i64 k, .int .i64 h, .int .i64 a, .int .i64 hi, .int .i64 lo] 84) := by
  go_enter Tryd.func61, Tryd.ntmps61
  go_wp2
  go_ret
  exact ⟨rfl, rfl⟩

theorem below_other {B k : Nat} {a w : World} (h : Below B a (w.drewN k)) (n : Nat) : Below B a (w.drewN n) := ⟨h.os, h.tape, h.output, h.size, h.block⟩

theorem cross_bd (k x : Int) (hx0 : 0 ≤ x) (hx : x < 4294967296) : 0 ≤ crossI k x ∧ crossI k x < 4294967296 := by
  unfold crossI
  split
  · have h := bounds_u32 (wf_bits .xor .u32 x 12582912)
    omega
  · omega

theorem range_later {w : World} {cs : List Value} (h : w.rangeAt 1 0 cs) (hs : 1 < w.heap.size) (o : Obj) (n : Nat) : ((w.alloc o).drewN n).rangeAt 1 0 cs := fun j v hv =>
  (World.cell?_alloc_lt w o ⟨1, 0 + j, none⟩ hs).trans (h j v hv)

end Go.Proofs.YthpoficikcicmaaDoor
