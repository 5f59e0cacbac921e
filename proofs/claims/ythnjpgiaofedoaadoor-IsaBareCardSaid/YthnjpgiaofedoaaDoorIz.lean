/- Worlds in which an instruction lies. -/
import Derived.Test.YthnjpgiaofedoaaDoorRows
import Derived.Test.YthnjpgiaofedoaaDoorIw
import Derived.Test.YthnjpgiaofedoaaDoorIy
namespace Go.Proofs.YthnjpgiaofedoaaDoor
open Go.ChangeShapes Go.WideShapes Go.ChangeAt Go.RowKit

/-- W is a world behind w in which the instruction lies in the first new block -/
structure Ins (w : World) (op cond rd rn rm imm mode list : Int) (s : Bool) (W : World) : Prop where
  later : Later w W
  c : ∀ j, W.cell? ⟨w.heap.size, j, none⟩ = (#[.int .i64 op, .int .i64 cond, .int .i64 rd, .int .i64 rn, .int .i64 rm, .int .i64 imm, .int .i64 mode, .int .i64 list, .bool s] : Array Value)[j]?
  lt : w.heap.size < W.heap.size
theorem Ins.step {w W W' : World} {op cond rd rn rm imm mode list : Int} {s : Bool} (h : Ins w op cond rd rn rm imm mode list s W) (hb : Below W.heap.size W W') : Ins w op cond rd rn rm imm mode list s W' :=
  ⟨h.later.step hb, fun j => (hb.cell (p := ⟨w.heap.size, j, none⟩) h.lt).trans (h.c j), Nat.lt_of_lt_of_le h.lt hb.size⟩
theorem Ins.start {w : World} (hT : Tabs w) (op cond rd rn rm imm mode list : Int) (s : Bool) (t : TypeId) : Ins w op cond rd rn rm imm mode list s (w.alloc (.cells #[.int .i64 op, .int .i64 cond, .int .i64 rd, .int .i64 rn, .int .i64 rm, .int .i64 imm, .int .i64 mode, .int .i64 list, .bool s] t)) :=
  ⟨(Later.refl hT).step ((Below.refl _ _).alloc (Nat.le_refl _) _), fun j => World.cell?_alloc_new w _ t j, by simp⟩

/-- the cells lie at block b -/
def Lies (b : Nat) (cs : Array Value) (W : World) : Prop := b < W.heap.size ∧ ∀ j, W.cell? ⟨b, j, none⟩ = cs[j]?
theorem Lies.step {b : Nat} {cs : Array Value} {W W' : World} (h : Lies b cs W) (hb : Below W.heap.size W W') : Lies b cs W' :=
  ⟨Nat.lt_of_lt_of_le h.1 hb.size, fun j => (hb.cell (p := ⟨b, j, none⟩) h.1).trans (h.2 j)⟩
theorem Lies.new (W : World) (cs : Array Value) (t : TypeId) : Lies W.heap.size cs (W.alloc (.cells cs t)) := ⟨by simp, fun j => World.cell?_alloc_new W _ t j⟩
theorem Lies.second (W : World) (o : Obj) (cs : Array Value) (t : TypeId) : Lies (W.heap.size + 1) cs ((W.alloc o).alloc (.cells cs t)) := by
  have h := Lies.new (W.alloc o) cs t
  rwa [show (W.alloc o).heap.size = W.heap.size + 1 by simp] at h
theorem Lies.third (W : World) (o o' : Obj) (cs : Array Value) (t : TypeId) : Lies (W.heap.size + 1 + 1) cs (((W.alloc o).alloc o').alloc (.cells cs t)) := by
  have h := Lies.new ((W.alloc o).alloc o') cs t
  rwa [show ((W.alloc o).alloc o').heap.size = W.heap.size + 1 + 1 by simp] at h

end Go.Proofs.YthnjpgiaofedoaaDoor
