/- A halfword, or none, as it is answered; later worlds. No conditions but those that each fact names. What the laws of tall ask of the program (TallOk); the chapter's example (awake). No conditions but those that each fact names. What the laws of tall ask of the program: it reads what the document's rows say. No conditions. What the rows lay, as one list; that the witness' start has it. No conditions. -/
import Derived.Test.YtdcnkmkaafimlaaDoorRows
import Derived.Test.YtdcnkmkaafimlaaDoorGa
import Derived.Test.YtdcnkmkaafimlaaDoorGb
import Derived.Test.YtdcnkmkaafimlaaDoorGc
import Derived.Test.YtdcnkmkaafimlaaDoorPq
import Derived.SevenTiedAt

namespace Go.Proofs.YtdcnkmkaafimlaaDoor
open Go.ChangeShapes Go.WideShapes Go.ChangeAt Go.RowKit

def optV : Option Int → Value
  | none => .tuple #[.int .i64 0, .bool false]
  | some h => .tuple #[.int .i64 h, .bool true]
theorem ret_optV {a : Value} {o p : Option Int} (h : a = optV o) (h2 : o = p) : Ending.returned a = .returned (optV p) := by rw [h, h2]
/-- W is a world behind w: the tables lie there still, and all that was there at w -/
structure Later (w W : World) : Prop where
  tabs : Tabs W
  bel : Below w.heap.size w W
theorem Later.refl {w : World} (h : Tabs w) : Later w w := ⟨h, Below.refl _ _⟩
theorem Later.step {w W W' : World} (h : Later w W) (hb : Below W.heap.size W W') : Later w W' := ⟨h.tabs.below hb h.tabs.big, h.bel.trans (hb.mono h.bel.size)⟩
theorem Later.drewn {w W : World} (h : Later w W) (n : Nat) : Later w (W.drewN n) := ⟨h.tabs.drew n, below_drewN h.bel n⟩
end Go.Proofs.YtdcnkmkaafimlaaDoor

namespace Go.Proofs.YtdcnkmkaafimlaaDoor
open Go.ChangeShapes Go.WideShapes Go.ChangeAt Go.RowKit

/-- what the laws ask of the program: it reads what the document's rows say -/
structure TallOk : Prop where
  tall : ∀ (a b : Int) (it : Bool) (w : World), Tabs w → Calls Tryd.prog 5 #[.int .i64 a, .int .i64 b, .bool it] w fun e w' => e = .returned (Tl.decV (Tm.tallP Wm.tellF Tm.validI (a % 65536) (b % 65536) it)) ∧ Below w.heap.size w w'
theorem tone_b (w : World) (o : Obj) : Below w.heap.size w (w.alloc o) := (Below.refl _ _).alloc (Nat.le_refl _) _
theorem tnew_cells {w1 w2 : World} {cs : Array Value} {t : TypeId} (hb : Below (w1.alloc (.cells cs t)).heap.size (w1.alloc (.cells cs t)) w2) : (∀ j, w2.cell? ⟨w1.heap.size, j, none⟩ = cs[j]?) ∧ w1.heap.size < w2.heap.size :=
  ⟨fun j => (hb.cell (p := ⟨w1.heap.size, j, none⟩) (by simp)).trans (World.cell?_alloc_new w1 cs t j), Nat.lt_of_lt_of_le (by simp) hb.size⟩
theorem tex1 : Tm.tallP Wm.tellF Tm.validI (61519 % 65536) (1 % 65536) false = some ⟨10, 0, 0, 0, 0, 1, 1, 0, false⟩ := by kernel_rfl
theorem tex2 : Tm.tallP Wm.tellF Tm.validI (62383 % 65536) (32768 % 65536) false = some ⟨43, 0, 0, 0, 0, 0, 0, 0, false⟩ := by kernel_rfl
theorem tex3 : Tm.tallP Wm.tellF Tm.validI (65535 % 65536) (65535 % 65536) false = none := by kernel_rfl
set_option maxHeartbeats 1000000 in
theorem tawake_c (P : TallOk) (w : World) (hT : Tabs w) :
    Calls Tryd.prog 6 #[] w fun e w' => e = .returned (.bool true) ∧ Below w.heap.size w w' := by
  have h1 := fun W hT => P.tall 61519 1 false W hT
  rw [tex1] at h1
  have h2 := fun W hT => P.tall 62383 32768 false W hT
  rw [tex2] at h2
  have h3 := fun W hT => P.tall 65535 65535 false W hT
  rw [tex3] at h3
  replace h1 := Lib.hid h1
  replace h2 := Lib.hid h2
  replace h3 := Lib.hid h3
  clear P
  have hL := Lib.hid (Later.refl hT)
  clear hT
  go_enter Tryd.func6, Tryd.ntmps6
  go_wp2_with fail
  refine (h1.out _ hL.out.tabs).mono ?_
  rintro e w1 ⟨rfl, hb⟩
  replace hL := Lib.hid ((hL.out.step hb).step (tone_b w1 (.cells #[.int .i64 10, .int .i64 0, .int .i64 0, .int .i64 0, .int .i64 0, .int .i64 1, .int .i64 1, .int .i64 0, .bool false] 23)))
  clear hb
  unfold Tl.decV
  dsimp only
  unfold Tl.IV
  dsimp only
  go_wp2_with fail
  refine (h2.out _ hL.out.tabs).mono ?_
  rintro e w2 ⟨rfl, hb⟩
  obtain ⟨c1, l1⟩ := tnew_cells hb
  replace hL := Lib.hid ((hL.out.step hb).step (tone_b w2 (.cells #[.int .i64 43, .int .i64 0, .int .i64 0, .int .i64 0, .int .i64 0, .int .i64 0, .int .i64 0, .int .i64 0, .bool false] 23)))
  clear hb
  unfold Tl.decV
  dsimp only
  unfold Tl.IV
  dsimp only
  go_wp2_with fail
  refine (h3.out _ hL.out.tabs).mono ?_
  rintro e w3 ⟨rfl, hb⟩
  obtain ⟨c2, l2⟩ := tnew_cells hb
  have l3 : w1.heap.size < w3.heap.size := by omega
  replace c1 : ∀ j, w3.cell? ⟨w1.heap.size, j, none⟩ = (#[.int .i64 10, .int .i64 0, .int .i64 0, .int .i64 0, .int .i64 0, .int .i64 1, .int .i64 1, .int .i64 0, .bool false] : Array Value)[j]? := fun j => (hb.cell (p := ⟨w1.heap.size, j, none⟩) (by simp; omega)).trans ((World.cell?_alloc_lt w2 _ ⟨w1.heap.size, j, none⟩ l1).trans (c1 j))
  replace hL := Lib.hid ((hL.out.step hb).step (tone_b w3 (.cells #[.int .i64 0, .int .i64 0, .int .i64 0, .int .i64 0, .int .i64 0, .int .i64 0, .int .i64 0, .int .i64 0, .bool false] 23)))
  clear hb
  unfold Tl.decV
  dsimp only
  unfold Tl.IV Tm.Z
  dsimp only
  go_wp2
  go_ret
  exact ⟨rfl, hL.out.bel⟩
end Go.Proofs.YtdcnkmkaafimlaaDoor

namespace Go.Proofs.YtdcnkmkaafimlaaDoor
open Go.ChangeShapes Go.WideShapes Go.ChangeAt Go.RowKit
theorem tallOk : TallOk := ⟨fun a b it w hT => Tp.decode_c a b it w hT⟩
end Go.Proofs.YtdcnkmkaafimlaaDoor

namespace Go.Proofs.YtdcnkmkaafimlaaDoor
open Go.ChangeShapes Go.WideShapes Go.ChangeAt Go.RowKit

def laidL {H : Type} : List (String × DataW H) := [("cartouche/offs.ranges", Rows.laid_cartouche_offs_ranges), ("cartouche/offs.pieces", Rows.laid_cartouche_offs_pieces), ("cartouche/tall.whole", Rows.laid_cartouche_tall_whole), ("cartouche/tall.moves", Rows.laid_cartouche_tall_moves), ("cartouche/tall.comparisons", Rows.laid_cartouche_tall_comparisons)]
theorem tabs_of {W : World} (h : laidMetH Tryd.prog laidL W) : Tabs W := tabs_of_laid h

theorem door_met (os : Os) (args : Array Value) : laidMetH Tryd.prog laidL ((World.doorLaid Tryd.prog 400 os).forCall (fun _ _ => 0) ⟨#[], args, []⟩).memory :=
  laidMetH_of_parts3 (fuel := 8) (laidMet_of_run' 8 (by kernel_rfl) (by kernel_rfl)) (by kernel_rfl) (by kernel_rfl)
end Go.Proofs.YtdcnkmkaafimlaaDoor
