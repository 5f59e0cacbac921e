/- The two tables of the offsets: what their cells hold when a call begins (out of the rows' condition), and that they hold it still in every later world. -/
import Derived.Test.YthpoficikcicmaaDoorRows
import Derived.Test.YthpoficikcicmaaDoorFl
import Derived.Test.YthpoficikcicmaaDoorTg
namespace Go.Proofs.YthpoficikcicmaaDoor
open Go.ChangeShapes Go.WideShapes Go.ChangeAt Go.RowKit

def rangeCells : List Value := [.int .i64 (-256), .int .i64 (254), .int .i64 (9), .int .i64 (-2048), .int .i64 (2046), .int .i64 (12), .int .i64 (-1048576), .int .i64 (1048574), .int .i64 (21), .int .i64 (-16777216), .int .i64 (16777214), .int .i64 (25), .int .i64 (0), .int .i64 (126), .int .i64 (8)]
def pieceCells : List Value := [.int .i64 (1), .int .i64 (0), .int .i64 (0), .int .i64 (8), .int .i64 (1), .int .i64 (2), .int .i64 (0), .int .i64 (0), .int .i64 (11), .int .i64 (1), .int .i64 (3), .int .i64 (0), .int .i64 (10), .int .i64 (20), .int .i64 (20), .int .i64 (3), .int .i64 (0), .int .i64 (0), .int .i64 (17), .int .i64 (12), .int .i64 (3), .int .i64 (1), .int .i64 (13), .int .i64 (18), .int .i64 (18), .int .i64 (3), .int .i64 (1), .int .i64 (11), .int .i64 (19), .int .i64 (19), .int .i64 (3), .int .i64 (1), .int .i64 (0), .int .i64 (11), .int .i64 (1), .int .i64 (4), .int .i64 (0), .int .i64 (10), .int .i64 (24), .int .i64 (24), .int .i64 (4), .int .i64 (0), .int .i64 (0), .int .i64 (21), .int .i64 (12), .int .i64 (4), .int .i64 (1), .int .i64 (13), .int .i64 (23), .int .i64 (23), .int .i64 (4), .int .i64 (1), .int .i64 (11), .int .i64 (22), .int .i64 (22), .int .i64 (4), .int .i64 (1), .int .i64 (0), .int .i64 (11), .int .i64 (1), .int .i64 (5), .int .i64 (0), .int .i64 (9), .int .i64 (6), .int .i64 (6), .int .i64 (5), .int .i64 (0), .int .i64 (3), .int .i64 (5), .int .i64 (1)]

/-- both tables lie in memory as the program's text lays them -/
structure Tabs (W : World) : Prop where
  r : W.rangeAt 0 0 rangeCells
  p : W.rangeAt 1 0 pieceCells
  big : 2 ≤ W.heap.size

theorem Tabs.below {W W' : World} {n : Nat} (h : Tabs W) (hb : Below n W W') (hn : 2 ≤ n) : Tabs W' :=
  ⟨fun j v hv => (hb.cell (by show 0 < n; omega)).trans (h.r j v hv), fun j v hv => (hb.cell (by show 1 < n; omega)).trans (h.p j v hv), Nat.le_trans h.big hb.size⟩
theorem Tabs.drew {W : World} (h : Tabs W) (n : Nat) : Tabs (W.drewN n) := h.below (n := W.heap.size) (below_drewN (Below.refl _ _) _) h.big

theorem gR : Tryd.prog.globalNamed "cartouche/offs.ranges" = some 0 := by kernel_rfl
theorem gP : Tryd.prog.globalNamed "cartouche/offs.pieces" = some 1 := by kernel_rfl
theorem tR : (Tryd.prog.globals[0]?).map (·.type) = some 80 := by kernel_rfl
theorem tP : (Tryd.prog.globals[1]?).map (·.type) = some 85 := by kernel_rfl
theorem tightR : Flat.tight Tryd.prog 4 80 = true := by kernel_rfl
theorem tightP : Flat.tight Tryd.prog 4 85 = true := by kernel_rfl
theorem flatR {H : Type} : Flat.flat (Rows.laid_cartouche_offs_ranges : DataW H) = some rangeCells := by kernel_rfl
theorem flatP {H : Type} : Flat.flat (Rows.laid_cartouche_offs_pieces : DataW H) = some pieceCells := by kernel_rfl

theorem range_of_var {W : World} {name : String} {g : Nat} {cs : Array Value} {l : List Value} (hg : Tryd.prog.globalNamed name = some g) (hv : W.var? Tryd.prog name = some cs) (hl : cs.toList = l) : W.rangeAt g 0 l := by
  intro j v hj
  have h := World.var?_cell hg hv j
  rw [Nat.zero_add, h]
  subst hl
  simpa using hj

theorem tabs_of_laid {W : World} (h : laidMetH Tryd.prog [("cartouche/offs.ranges", Rows.laid_cartouche_offs_ranges), ("cartouche/offs.pieces", Rows.laid_cartouche_offs_pieces)] W) : Tabs W := by
  rw [MakeChecks.laidMetH_plain _ _ _ (by kernel_rfl)] at h
  obtain ⟨ps, ⟨g0, t0, cs0, f0, p0, q0, hg0, ht0, hv0, hd0, ⟨g1, t1, cs1, f1, p1, q1, hg1, ht1, hv1, hd1, _, _⟩, _⟩, _, _⟩ := h
  obtain rfl := Option.some.inj (gR.symm.trans hg0)
  obtain rfl := Option.some.inj (gP.symm.trans hg1)
  obtain rfl := Option.some.inj (tR.symm.trans ht0)
  obtain rfl := Option.some.inj (tP.symm.trans ht1)
  have e0 := Flat.cells _ _ _ _ _ _ _ hd0 flatR tightR
  have e1 := Flat.cells _ _ _ _ _ _ _ hd1 flatP tightP
  have hr := range_of_var gR hv0 e0
  have hp := range_of_var gP hv1 e1
  exact ⟨hr, hp, by have h1 : 0 < W.heap.size := World.block_lt_of_cell? W ⟨0, 0 + 0, none⟩ (hr 0 _ rfl); have h2 : 1 < W.heap.size := World.block_lt_of_cell? W ⟨1, 0 + 0, none⟩ (hp 0 _ rfl); omega⟩
end Go.Proofs.YthpoficikcicmaaDoor
