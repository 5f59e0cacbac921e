/- Arguments: an instruction that came in: what it is; the start of the witness. -/
import Derived.Test.YtcphhojdfpedkaaDoorGb
import Derived.Deep.Grids
import Derived.Stop.Joined
namespace Go.Proofs.YtcphhojdfpedkaaDoor
open Go.ChangeShapes Go.WideShapes Go.ChangeAt Go.RowKit
def laidL {H : Type} : List (String × DataW H) := [("cartouche/offs.ranges", Rows.laid_cartouche_offs_ranges), ("cartouche/offs.pieces", Rows.laid_cartouche_offs_pieces)]
theorem tabs_of {W : World} (h : laidMetH Tryd.prog laidL W) : Tabs W := tabs_of_laid h
theorem door_met (os : Os) (args : Array Value) : laidMetH Tryd.prog laidL ((World.doorLaid Tryd.prog 400 os).forCall (fun _ _ => 0) ⟨#[], args, []⟩).memory :=
  laidMetH_of_parts3 (fuel := 8) (laidMet_of_run' 8 (by kernel_rfl) (by kernel_rfl)) (by kernel_rfl) (by kernel_rfl)
theorem open_ins {H : Type} {enc : TypeId × Value → H} {P : Program} {w : World} {base b0 : Nat} {spare : Nat → Bool} {held : Bool} {t : TypeId} {f0 f1 f2 f3 f4 f5 f6 f7 f8 : Field} {r : Reach} {v : Value} {d : DataW H} {p : List MemPlace}
    (ht : P.underlying t = some (.struct #[f0, f1, f2, f3, f4, f5, f6, f7, f8])) (hC : P.cellsOf t = 9)
    (h0 : P.underlying f0.type = some (.int .i64) ∧ P.cellsOf f0.type = 1 ∧ f0.offset = 0)
    (h1 : P.underlying f1.type = some (.int .i64) ∧ P.cellsOf f1.type = 1 ∧ f1.offset = 1)
    (h2 : P.underlying f2.type = some (.int .i64) ∧ P.cellsOf f2.type = 1 ∧ f2.offset = 2)
    (h3 : P.underlying f3.type = some (.int .i64) ∧ P.cellsOf f3.type = 1 ∧ f3.offset = 3)
    (h4 : P.underlying f4.type = some (.int .i64) ∧ P.cellsOf f4.type = 1 ∧ f4.offset = 4)
    (h5 : P.underlying f5.type = some (.int .i64) ∧ P.cellsOf f5.type = 1 ∧ f5.offset = 5)
    (h6 : P.underlying f6.type = some (.int .i64) ∧ P.cellsOf f6.type = 1 ∧ f6.offset = 6)
    (h7 : P.underlying f7.type = some (.int .i64) ∧ P.cellsOf f7.type = 1 ∧ f7.offset = 7)
    (h8 : P.underlying f8.type = some .bool ∧ P.cellsOf f8.type = 1 ∧ f8.offset = 8)
    (hv : Value.okWide P w r b0 t v) (h : DataW.Trod enc P w base spare held t v d p) :
    ∃ (a0 a1 a2 a3 a4 a5 a6 a7 : Int) (s : Bool), v = .agg #[.int .i64 a0, .int .i64 a1, .int .i64 a2, .int .i64 a3, .int .i64 a4, .int .i64 a5, .int .i64 a6, .int .i64 a7, .bool s] ∧ (Lit.int .i64 a7).wf = true := by
  simp only [Value.okWide, ht] at hv
  obtain ⟨cs, rfl, hsz, _⟩ := hv
  rw [hC] at hsz
  obtain ⟨c0, c1, c2, c3, c4, c5, c6, c7, c8, rfl⟩ : ∃ c0 c1 c2 c3 c4 c5 c6 c7 c8, cs = #[c0, c1, c2, c3, c4, c5, c6, c7, c8] := by
    obtain ⟨l⟩ := cs
    match l, hsz with
    | [c0, c1, c2, c3, c4, c5, c6, c7, c8], _ => exact ⟨c0, c1, c2, c3, c4, c5, c6, c7, c8, rfl⟩
  obtain ⟨fuel, hf⟩ := h
  obtain ⟨xs, m, _, _, _, hl, hx⟩ := DataW.trod_struct ht hf
  have e0 := hx 0 f0 rfl
  rw [h0.2.1, h0.2.2] at e0
  have e1 := hx 1 f1 rfl
  rw [h1.2.1, h1.2.2] at e1
  have e2 := hx 2 f2 rfl
  rw [h2.2.1, h2.2.2] at e2
  have e3 := hx 3 f3 rfl
  rw [h3.2.1, h3.2.2] at e3
  have e4 := hx 4 f4 rfl
  rw [h4.2.1, h4.2.2] at e4
  have e5 := hx 5 f5 rfl
  rw [h5.2.1, h5.2.2] at e5
  have e6 := hx 6 f6 rfl
  rw [h6.2.1, h6.2.2] at e6
  have e7 := hx 7 f7 rfl
  rw [h7.2.1, h7.2.2] at e7
  have e8 := hx 8 f8 rfl
  rw [h8.2.1, h8.2.2] at e8
  match xs, hl with
  | [y0, y1, y2, y3, y4, y5, y6, y7, y8], _ =>
    obtain ⟨a0, q0, _, w0⟩ := DataW.trod_int h0.1 e0
    obtain ⟨a1, q1, _, w1⟩ := DataW.trod_int h1.1 e1
    obtain ⟨a2, q2, _, w2⟩ := DataW.trod_int h2.1 e2
    obtain ⟨a3, q3, _, w3⟩ := DataW.trod_int h3.1 e3
    obtain ⟨a4, q4, _, w4⟩ := DataW.trod_int h4.1 e4
    obtain ⟨a5, q5, _, w5⟩ := DataW.trod_int h5.1 e5
    obtain ⟨a6, q6, _, w6⟩ := DataW.trod_int h6.1 e6
    obtain ⟨a7, q7, _, w7⟩ := DataW.trod_int h7.1 e7
    obtain ⟨s, q8, _⟩ := DataW.trod_bool h8.1 e8
    simp [Value.cells] at q0 q1 q2 q3 q4 q5 q6 q7 q8
    subst q0 q1 q2 q3 q4 q5 q6 q7 q8
    exact ⟨a0, a1, a2, a3, a4, a5, a6, a7, s, rfl, w7⟩
end Go.Proofs.YtcphhojdfpedkaaDoor
