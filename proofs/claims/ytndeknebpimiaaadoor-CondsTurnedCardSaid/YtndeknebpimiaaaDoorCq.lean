/- Flags that a call has boxed: their cells lie there in every later world. -/
import Derived.Test.YtndeknebpimiaaaDoorRows
import Derived.Test.YtndeknebpimiaaaDoorCp
import Derived.Deep.RegionHeld3
namespace Go.Proofs.YtndeknebpimiaaaDoor
open Go.ChangeShapes Go.WideShapes Go.ChangeAt Go.RowKit

/-- W is a world behind w, and the flags' block, made first, lies there still -/
structure Boxed (w : World) (n z k v : Bool) (W : World) : Prop where
  later : Later w W
  c0 : W.cell? ⟨w.heap.size, 0, none⟩ = some (.bool n)
  c1 : W.cell? ⟨w.heap.size, 1, none⟩ = some (.bool z)
  c2 : W.cell? ⟨w.heap.size, 2, none⟩ = some (.bool k)
  c3 : W.cell? ⟨w.heap.size, 3, none⟩ = some (.bool v)
  lt : w.heap.size < W.heap.size
theorem Boxed.step {w W W' : World} {n z k v : Bool} (h : Boxed w n z k v W) (hb : Below W.heap.size W W') : Boxed w n z k v W' :=
  ⟨h.later.step hb, (hb.cell h.lt).trans h.c0, (hb.cell h.lt).trans h.c1, (hb.cell h.lt).trans h.c2, (hb.cell h.lt).trans h.c3, Nat.lt_of_lt_of_le h.lt hb.size⟩
theorem Boxed.start {w : World} (hT : Tabs w) (n z k v : Bool) (t : TypeId) : Boxed w n z k v (w.alloc (.cells #[.bool n, .bool z, .bool k, .bool v] t)) :=
  ⟨(Later.refl hT).step ((Below.refl _ _).alloc (Nat.le_refl _) _), World.cell?_alloc_new w _ t 0, World.cell?_alloc_new w _ t 1, World.cell?_alloc_new w _ t 2, World.cell?_alloc_new w _ t 3, by simp⟩
theorem Boxed.drewn {w W : World} {n z k v : Bool} (h : Boxed w n z k v W) (m : Nat) : Boxed w n z k v (W.drewN m) := h.step (below_drewN (Below.refl _ _) _)
theorem Boxed.drew {w W : World} {n z k v : Bool} (h : Boxed w n z k v W) : Boxed w n z k v W.drew := h.drewn 1
theorem Boxed.other {w W : World} {n z k v : Bool} {a : Nat} (h : Boxed w n z k v (W.drewN a)) (b : Nat) : Boxed w n z k v (W.drewN b) :=
  ⟨⟨h.later.tabs.below (n := W.heap.size) (below_drewN (a := W.drewN a) (w := W) ⟨rfl, rfl, rfl, Nat.le_refl _, fun _ _ => rfl⟩ b) h.later.tabs.big, ⟨h.later.bel.os, h.later.bel.tape, h.later.bel.output, h.later.bel.size, h.later.bel.block⟩⟩, h.c0, h.c1, h.c2, h.c3, h.lt⟩
/-- what a region that draws its order holds throughout -/
def Held (w : World) (n z k v : Bool) (W : World) : Prop :=
  W.cell? ⟨w.heap.size, 0, none⟩ = some (.bool n) ∧ W.cell? ⟨w.heap.size, 1, none⟩ = some (.bool z) ∧ W.cell? ⟨w.heap.size, 2, none⟩ = some (.bool k) ∧ W.cell? ⟨w.heap.size, 3, none⟩ = some (.bool v) ∧ Boxed w n z k v W
theorem Boxed.held {w W : World} {n z k v : Bool} (h : Boxed w n z k v W) : Held w n z k v W := ⟨h.c0, h.c1, h.c2, h.c3, h⟩
end Go.Proofs.YtndeknebpimiaaaDoor
