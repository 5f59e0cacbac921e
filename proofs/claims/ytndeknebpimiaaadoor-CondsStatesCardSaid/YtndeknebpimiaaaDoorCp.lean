/- Arguments: flags, and a row of bools that came in: what they are, and what they read as; the start of the witness. -/
import Derived.Test.YtndeknebpimiaaaDoorRows
import Derived.Test.YtndeknebpimiaaaDoorCe
import Derived.Deep.Grids
import Derived.Stop.Joined
namespace Go.Proofs.YtndeknebpimiaaaDoor
open Go.ChangeShapes Go.WideShapes Go.ChangeAt Go.RowKit

/-- what the rows list -/
def laidL {H : Type} : List (String × DataW H) := [("cartouche/conds.names", Rows.laid_cartouche_conds_names)]
theorem tabs_of {W : World} (h : laidMetH Tryd.prog laidL W) : Tabs W := tabs_of_laid h

theorem door_met (os : Os) (args : Array Value) : laidMetH Tryd.prog laidL ((World.doorLaid Tryd.prog 400 os).forCall (fun _ _ => 0) ⟨#[], args, []⟩).memory :=
  laidMetH_of_parts3 (fuel := 8) (laidMet_of_run' 8 (by kernel_rfl) (by kernel_rfl)) (by kernel_rfl) (by kernel_rfl)

/-- four bools -/
theorem open_flags {H : Type} {enc : TypeId × Value → H} {P : Program} {w : World} {base b0 : Nat} {spare : Nat → Bool} {held : Bool} {t : TypeId} {f0 f1 f2 f3 : Field} {r : Reach} {v : Value} {d : DataW H} {p : List MemPlace}
    (ht : P.underlying t = some (.struct #[f0, f1, f2, f3])) (hC : P.cellsOf t = 4)
    (h0 : P.underlying f0.type = some .bool ∧ P.cellsOf f0.type = 1 ∧ f0.offset = 0) (h1 : P.underlying f1.type = some .bool ∧ P.cellsOf f1.type = 1 ∧ f1.offset = 1)
    (h2 : P.underlying f2.type = some .bool ∧ P.cellsOf f2.type = 1 ∧ f2.offset = 2) (h3 : P.underlying f3.type = some .bool ∧ P.cellsOf f3.type = 1 ∧ f3.offset = 3)
    (hv : Value.okWide P w r b0 t v) (h : DataW.Trod enc P w base spare held t v d p) :
    ∃ a b c e : Bool, v = .agg #[.bool a, .bool b, .bool c, .bool e] := by
  simp only [Value.okWide, ht] at hv
  obtain ⟨cs, rfl, hsz, _⟩ := hv
  rw [hC] at hsz
  obtain ⟨c0, c1, c2, c3, rfl⟩ : ∃ c0 c1 c2 c3, cs = #[c0, c1, c2, c3] := by
    obtain ⟨l⟩ := cs
    match l, hsz with
    | [c0, c1, c2, c3], _ => exact ⟨c0, c1, c2, c3, rfl⟩
  obtain ⟨fuel, hf⟩ := h
  obtain ⟨xs, m, _, _, _, hl, hx⟩ := DataW.trod_struct ht hf
  have e0 := hx 0 f0 rfl
  have e1 := hx 1 f1 rfl
  have e2 := hx 2 f2 rfl
  have e3 := hx 3 f3 rfl
  rw [h0.2.1, h0.2.2] at e0
  rw [h1.2.1, h1.2.2] at e1
  rw [h2.2.1, h2.2.2] at e2
  rw [h3.2.1, h3.2.2] at e3
  match xs, hl with
  | [y0, y1, y2, y3], _ =>
    obtain ⟨a, ea, _⟩ := DataW.trod_bool h0.1 e0
    obtain ⟨b, eb, _⟩ := DataW.trod_bool h1.1 e1
    obtain ⟨c, ec, _⟩ := DataW.trod_bool h2.1 e2
    obtain ⟨e, ee, _⟩ := DataW.trod_bool h3.1 e3
    simp [Value.cells] at ea eb ec ee
    subst ea eb ec ee
    exact ⟨a, b, c, e, rfl⟩

/-- a slice of bools that came in: it leads to its bools -/
theorem open_boolrow {H : Type} {enc : TypeId × Value → H} {P : Program} {w : World} {base : Nat} {held : Bool} {t e : TypeId} {A : Option Addr} {len cap : Nat} {d : DataW H} {p : List MemPlace}
    (ht : P.underlying t = some (.slice e)) (he : P.underlying e = some .bool) (hce : P.cellsOf e = 1)
    (h : DataW.Trod enc P w base (fun _ => true) held t (.slice A len cap) d p) : ∃ xs : List Bool, len = xs.length ∧ BoolsAt w w.heap.size A xs := by
  obtain ⟨fuel, hf⟩ := h
  rcases Deep.open_bools ht he hce hf with ⟨hcs, _⟩ | ⟨x, l, c, B, hcs, _, hl, _, _, hcell⟩
  · simp [Value.cells] at hcs
    obtain ⟨rfl, rfl, rfl⟩ := hcs
    exact ⟨[], rfl, .inl rfl⟩
  · simp [Value.cells] at hcs
    obtain ⟨rfl, rfl, rfl⟩ := hcs
    refine ⟨(List.range len).map B, by simp, ?_⟩
    by_cases h0 : len = 0
    · left; rw [h0]; rfl
    · right
      obtain ⟨b, off, spot⟩ := x
      have hc0 := hcell 0 (by omega)
      have hspot : spot = none := by simpa [Addr.add] using World.cell?_spot hc0
      subst hspot
      refine ⟨b, off, rfl, ?_, fun j hj => ?_⟩
      · exact World.block_lt_of_cell? w _ (by simpa [Addr.add] using hc0)
      · rw [List.length_map, List.length_range] at hj
        have hc := hcell j (by omega)
        have e1 : (⟨b, off, none⟩ : Addr).add j = ⟨b, off + j, none⟩ := by
          unfold Addr.add
          split
          · rename_i hj0; subst hj0; rfl
          · rfl
        rw [e1] at hc
        rw [hc]
        congr 2
        simp [List.getD, hj]
end Go.Proofs.YtndeknebpimiaaaDoor
