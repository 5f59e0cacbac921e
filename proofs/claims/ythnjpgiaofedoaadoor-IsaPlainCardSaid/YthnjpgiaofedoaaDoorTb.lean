/- The table of names: what its cells hold when a call begins (out of the rows' condition), and that they hold it still in every later world. -/
import Derived.Test.YthnjpgiaofedoaaDoorRows
import Derived.Test.YthnjpgiaofedoaaDoorFl
import Derived.Test.YthnjpgiaofedoaaDoorIm
import Derived.WalkKit
import Derived.ProofKit
import Derived.OpenShut
import Derived.WalkLawsBesides
import Derived.Lib.Hide
import Derived.Outline
import Derived.Deep.QuietTactic
import Derived.BigQuiet
namespace Go.Proofs.YthnjpgiaofedoaaDoor
open Go.ChangeShapes Go.WideShapes Go.ChangeAt Go.RowKit

theorem ret_int {k : IntKind} {a b : Int} (h : a = b) : Ending.returned (.int k a) = .returned (.int k b) := by rw [h]
theorem ret_bool {a b : Bool} (h : a = b) : Ending.returned (.bool a) = .returned (.bool b) := by rw [h]
theorem below_drewN {B : Nat} {a w : World} (h : Below B a w) (n : Nat) : Below B a (w.drewN n) := ⟨h.os, h.tape, h.output, h.size, h.block⟩

/-- a callee that only draws, met behind draws already counted: all draws together are a count again -/
theorem drawn_on {P : Program} {g : FuncId} {xs : Array Value} {r : Value} {w : World} {a k : Nat}
    (c : Calls P g xs (w.drewN (a + k)) fun e w' => e = .returned r ∧ ∃ m, w' = (w.drewN (a + k)).drewN m) :
    Calls P g xs (w.drewN (a + k)) fun e w' => e = .returned r ∧ ∃ m, w' = w.drewN (a + m) := by
  refine c.mono ?_
  rintro e w' ⟨he, m, rfl⟩
  exact ⟨he, k + m, by rw [World.drewN_drewN, Nat.add_assoc]⟩

/-- draws stand outside: behind a new block, behind a store -/
@[simp, go_sem] theorem alloc_drewN (w : World) (n : Nat) (o : Obj) : (w.drewN n).alloc o = (w.alloc o).drewN n := rfl
@[simp, go_sem] theorem setCell_drewN (w : World) (n : Nat) (a : Addr) (v : Value) : (w.drewN n).setCell a v = (w.setCell a v).drewN n := rfl

theorem string_of {a b : List UInt8} (h : a = b) : Ending.returned (.string ⟨a.toArray⟩) = .returned (.string ⟨b.toArray⟩) := by rw [h]

def nameCells : List Value := Im.tab.map fun l => .string ⟨l.toArray⟩

/-- the table lies in memory as the program's text lays it -/
structure Tabs (W : World) : Prop where
  r : W.rangeAt 0 0 nameCells
  big : 1 ≤ W.heap.size

theorem Tabs.below {W W' : World} {n : Nat} (h : Tabs W) (hb : Below n W W') (hn : 1 ≤ n) : Tabs W' :=
  ⟨fun j v hv => (hb.cell (by show 0 < n; omega)).trans (h.r j v hv), Nat.le_trans h.big hb.size⟩
theorem Tabs.drew {W : World} (h : Tabs W) (n : Nat) : Tabs (W.drewN n) := h.below (n := W.heap.size) (below_drewN (Below.refl _ _) _) h.big

theorem gR : Tryd.prog.globalNamed "cartouche/isa.names" = some 0 := by kernel_rfl
theorem tR : (Tryd.prog.globals[0]?).map (·.type) = some 33 := by kernel_rfl
theorem tightR : Flat.tight Tryd.prog 4 33 = true := by kernel_rfl
theorem flatR {H : Type} : Flat.flat (Rows.laid_cartouche_isa_names : DataW H) = some nameCells := by kernel_rfl

theorem range_of_var {W : World} {name : String} {g : Nat} {cs : Array Value} {l : List Value} (hg : Tryd.prog.globalNamed name = some g) (hv : W.var? Tryd.prog name = some cs) (hl : cs.toList = l) : W.rangeAt g 0 l := by
  intro j v hj
  have h := World.var?_cell hg hv j
  rw [Nat.zero_add, h]
  subst hl
  simpa using hj

theorem tabs_of_laid {W : World} (h : laidMetH Tryd.prog [("cartouche/isa.names", Rows.laid_cartouche_isa_names)] W) : Tabs W := by
  rw [MakeChecks.laidMetH_plain _ _ _ (by kernel_rfl)] at h
  obtain ⟨ps, ⟨g0, t0, cs0, f0, p0, q0, hg0, ht0, hv0, hd0, _, _⟩, _, _⟩ := h
  obtain rfl := Option.some.inj (gR.symm.trans hg0)
  obtain rfl := Option.some.inj (tR.symm.trans ht0)
  have e0 := Flat.cells _ _ _ _ _ _ _ hd0 flatR tightR
  have hr := range_of_var gR hv0 e0
  exact ⟨hr, World.block_lt_of_cell? W ⟨0, 0 + 0, none⟩ (hr 0 _ rfl)⟩

/-- W is a world behind w: the table lies there still, and all that was there at w -/
structure Later (w W : World) : Prop where
  tabs : Tabs W
  bel : Below w.heap.size w W
theorem Later.refl {w : World} (h : Tabs w) : Later w w := ⟨h, Below.refl _ _⟩
theorem Later.step {w W W' : World} (h : Later w W) (hb : Below W.heap.size W W') : Later w W' := ⟨h.tabs.below hb h.tabs.big, h.bel.trans (hb.mono h.bel.size)⟩
theorem Later.drewn {w W : World} (h : Later w W) (n : Nat) : Later w (W.drewN n) := ⟨h.tabs.drew n, below_drewN h.bel n⟩
end Go.Proofs.YthnjpgiaofedoaaDoor
