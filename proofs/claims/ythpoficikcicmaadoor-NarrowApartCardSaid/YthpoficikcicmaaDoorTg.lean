/- Small facts that every walk here wants: draws stand outside of new blocks and stores; a callee that only draws. No conditions. -/
import Derived.Test.YthpoficikcicmaaDoorRows
import Derived.WalkKit
import Derived.ProofKit
import Derived.OpenShut
import Derived.WalkLawsBesides
import Derived.Lib.Hide
import Derived.Outline
import Derived.Deep.QuietTactic
import Derived.BigQuiet
namespace Go.Proofs.YthpoficikcicmaaDoor
open Go.ChangeShapes Go.WideShapes Go.ChangeAt Go.RowKit

theorem ret_int {k : IntKind} {a b : Int} (h : a = b) : Ending.returned (.int k a) = .returned (.int k b) := by rw [h]
theorem ret_bool {a b : Bool} (h : a = b) : Ending.returned (.bool a) = .returned (.bool b) := by rw [h]
theorem below_drewN {B : Nat} {a w : World} (h : Below B a w) (n : Nat) : Below B a (w.drewN n) := ⟨h.os, h.tape, h.output, h.size, h.block⟩

/-- a callee that only draws, met behind draws already counted: all draws together are a count again -/
theorem drawn_on {P : Program} {g : FuncId} {xs : Array Value} {r : Value} {w : World} {a k : Nat}
    (c : Calls P g xs (w.drewN (a + k)) fun e w' => e = .returned r ∧ ∃ m, w' = (w.drewN (a + k)).drewN m) :
    Calls P g xs (w.drewN (a + k)) fun e w' => e = .returned r ∧ ∃ m, w' = w.drewN (a + m) := by
  refine c.mono ?_
  rintro e w' ⟨he, m, rfl⟩
  exact ⟨he, k + m, by rw [World.drewN_drewN, Nat.add_assoc]⟩

/-- draws stand outside: behind a new block, behind a store -/
@[simp, go_sem] theorem alloc_drewN (w : World) (n : Nat) (o : Obj) : (w.drewN n).alloc o = (w.alloc o).drewN n := rfl
@[simp, go_sem] theorem setCell_drewN (w : World) (n : Nat) (a : Addr) (v : Value) : (w.drewN n).setCell a v = (w.setCell a v).drewN n := rfl

theorem string_of {a b : List UInt8} (h : a = b) : Ending.returned (.string ⟨a.toArray⟩) = .returned (.string ⟨b.toArray⟩) := by rw [h]
end Go.Proofs.YthpoficikcicmaaDoor
