/- The forms of narrow as the program's text has them, plainly. No conditions. The contract of narrow's forms. No conditions but those that each fact names. -/
import Derived.Test.YtmofimgodmcdjaaDoorRows
import Derived.Test.YtmofimgodmcdjaaDoorGa
import Derived.Test.YtmofimgodmcdjaaDoorKr

namespace Go.Proofs.YtmofimgodmcdjaaDoor
open Go.ChangeShapes Go.WideShapes Go.ChangeAt Go.RowKit

structure Pc where
  f : Int
  hi : Int
  lo : Int
  at_ : Int
structure Fm where
  of_ : List (Int × Int)
  asks : Int
  pcs : List Pc
  kind : Int
def formTab : List Fm := [
  ⟨[(1, 16384), (2, 16448), (6, 16704), (8, 16768), (3, 17152), (4, 17280)], 194, [⟨3, 2, 0, 3⟩, ⟨1, 2, 0, 0⟩, ⟨2, 2, 0, 32⟩, ⟨0, 0, 0, 0⟩], 0⟩,
  ⟨[(9, 16960), (0, 0), (0, 0), (0, 0), (0, 0), (0, 0)], 65, [⟨2, 2, 0, 3⟩, ⟨1, 2, 0, 0⟩, ⟨0, 0, 0, 0⟩, ⟨0, 0, 0, 0⟩], 0⟩,
  ⟨[(11, 17344), (0, 0), (0, 0), (0, 0), (0, 0), (0, 0)], 66, [⟨3, 2, 0, 3⟩, ⟨1, 2, 0, 0⟩, ⟨0, 0, 0, 0⟩, ⟨0, 0, 0, 0⟩], 0⟩,
  ⟨[(20, 17216), (0, 0), (0, 0), (0, 0), (0, 0), (0, 0)], 264, [⟨2, 2, 0, 3⟩, ⟨1, 2, 0, 0⟩, ⟨3, 2, 0, 32⟩, ⟨0, 0, 0, 0⟩], 0⟩,
  ⟨[(14, 16896), (13, 17088), (0, 0), (0, 0), (0, 0), (0, 0)], 2, [⟨3, 2, 0, 3⟩, ⟨2, 2, 0, 0⟩, ⟨0, 0, 0, 0⟩, ⟨0, 0, 0, 0⟩], 0⟩,
  ⟨[(12, 17024), (0, 0), (0, 0), (0, 0), (0, 0), (0, 0)], 2, [⟨3, 2, 0, 3⟩, ⟨2, 2, 0, 0⟩, ⟨0, 0, 0, 0⟩, ⟨0, 0, 0, 0⟩], 0⟩,
  ⟨[(12, 17664), (0, 0), (0, 0), (0, 0), (0, 0), (0, 0)], 2, [⟨3, 3, 0, 3⟩, ⟨2, 3, 3, 7⟩, ⟨2, 2, 0, 0⟩, ⟨0, 0, 0, 0⟩], 0⟩,
  ⟨[(12, 10240), (0, 0), (0, 0), (0, 0), (0, 0), (0, 0)], 1, [⟨2, 2, 0, 8⟩, ⟨4, 7, 0, 0⟩, ⟨0, 0, 0, 0⟩, ⟨0, 0, 0, 0⟩], 0⟩,
  ⟨[(10, 8192), (0, 0), (0, 0), (0, 0), (0, 0), (0, 0)], 65, [⟨1, 2, 0, 8⟩, ⟨4, 7, 0, 0⟩, ⟨0, 0, 0, 0⟩, ⟨0, 0, 0, 0⟩], 0⟩,
  ⟨[(10, 0), (0, 0), (0, 0), (0, 0), (0, 0), (0, 0)], 22, [⟨3, 2, 0, 3⟩, ⟨1, 2, 0, 0⟩, ⟨0, 0, 0, 0⟩, ⟨0, 0, 0, 0⟩], 0⟩,
  ⟨[(10, 17920), (0, 0), (0, 0), (0, 0), (0, 0), (0, 0)], 34, [⟨3, 3, 0, 3⟩, ⟨1, 3, 3, 7⟩, ⟨1, 2, 0, 0⟩, ⟨0, 0, 0, 0⟩], 0⟩,
  ⟨[(5, 6144), (7, 6656), (0, 0), (0, 0), (0, 0), (0, 0)], 66, [⟨3, 2, 0, 6⟩, ⟨2, 2, 0, 3⟩, ⟨1, 2, 0, 0⟩, ⟨0, 0, 0, 0⟩], 0⟩,
  ⟨[(5, 17408), (0, 0), (0, 0), (0, 0), (0, 0), (0, 0)], 162, [⟨3, 3, 0, 3⟩, ⟨1, 3, 3, 7⟩, ⟨1, 2, 0, 0⟩, ⟨2, 3, 0, 32⟩], 0⟩,
  ⟨[(5, 7168), (7, 7680), (0, 0), (0, 0), (0, 0), (0, 0)], 65, [⟨4, 2, 0, 6⟩, ⟨2, 2, 0, 3⟩, ⟨1, 2, 0, 0⟩, ⟨0, 0, 0, 0⟩], 0⟩,
  ⟨[(5, 12288), (7, 14336), (0, 0), (0, 0), (0, 0), (0, 0)], 193, [⟨1, 2, 0, 8⟩, ⟨4, 7, 0, 0⟩, ⟨2, 2, 0, 32⟩, ⟨0, 0, 0, 0⟩], 0⟩,
  ⟨[(16, 0), (17, 2048), (18, 4096), (0, 0), (0, 0), (0, 0)], 65, [⟨4, 4, 0, 6⟩, ⟨4, 5, 5, 32⟩, ⟨2, 2, 0, 3⟩, ⟨1, 2, 0, 0⟩], 0⟩,
  ⟨[(16, 16512), (17, 16576), (18, 16640), (19, 16832), (0, 0), (0, 0)], 194, [⟨3, 2, 0, 3⟩, ⟨1, 2, 0, 0⟩, ⟨2, 2, 0, 32⟩, ⟨0, 0, 0, 0⟩], 0⟩,
  ⟨[(28, 24576), (25, 26624), (0, 0), (0, 0), (0, 0), (0, 0)], 1, [⟨4, 6, 2, 6⟩, ⟨2, 2, 0, 3⟩, ⟨1, 2, 0, 0⟩, ⟨0, 0, 0, 0⟩], 0⟩,
  ⟨[(29, 28672), (26, 30720), (0, 0), (0, 0), (0, 0), (0, 0)], 1, [⟨4, 4, 0, 6⟩, ⟨2, 2, 0, 3⟩, ⟨1, 2, 0, 0⟩, ⟨0, 0, 0, 0⟩], 0⟩,
  ⟨[(30, 32768), (27, 34816), (0, 0), (0, 0), (0, 0), (0, 0)], 1, [⟨4, 5, 1, 6⟩, ⟨2, 2, 0, 3⟩, ⟨1, 2, 0, 0⟩, ⟨0, 0, 0, 0⟩], 0⟩,
  ⟨[(28, 36864), (25, 38912), (0, 0), (0, 0), (0, 0), (0, 0)], 513, [⟨1, 2, 0, 8⟩, ⟨4, 9, 2, 0⟩, ⟨2, 3, 0, 32⟩, ⟨0, 0, 0, 0⟩], 0⟩,
  ⟨[(28, 20480), (30, 20992), (29, 21504), (25, 22528), (27, 23040), (26, 23552)], 2, [⟨3, 2, 0, 6⟩, ⟨2, 2, 0, 3⟩, ⟨1, 2, 0, 0⟩, ⟨0, 0, 0, 0⟩], 0⟩,
  ⟨[(32, 49152), (31, 51200), (0, 0), (0, 0), (0, 0), (0, 0)], 0, [⟨2, 2, 0, 8⟩, ⟨5, 7, 0, 0⟩, ⟨0, 0, 0, 0⟩, ⟨0, 0, 0, 0⟩], 0⟩,
  ⟨[(33, 46080), (0, 0), (0, 0), (0, 0), (0, 0), (0, 0)], 0, [⟨5, 7, 0, 0⟩, ⟨5, 14, 14, 8⟩, ⟨0, 0, 0, 0⟩, ⟨0, 0, 0, 0⟩], 0⟩,
  ⟨[(34, 48128), (0, 0), (0, 0), (0, 0), (0, 0), (0, 0)], 0, [⟨5, 7, 0, 0⟩, ⟨5, 15, 15, 8⟩, ⟨0, 0, 0, 0⟩, ⟨0, 0, 0, 0⟩], 0⟩,
  ⟨[(35, 53248), (0, 0), (0, 0), (0, 0), (0, 0), (0, 0)], 2052, [⟨6, 3, 0, 8⟩, ⟨0, 0, 0, 0⟩, ⟨0, 0, 0, 0⟩, ⟨0, 0, 0, 0⟩], 1⟩,
  ⟨[(35, 57344), (0, 0), (0, 0), (0, 0), (0, 0), (0, 0)], 1024, [⟨6, 3, 0, 32⟩, ⟨0, 0, 0, 0⟩, ⟨0, 0, 0, 0⟩, ⟨0, 0, 0, 0⟩], 2⟩,
  ⟨[(37, 45312), (38, 47360), (0, 0), (0, 0), (0, 0), (0, 0)], 4, [⟨2, 2, 0, 0⟩, ⟨0, 0, 0, 0⟩, ⟨0, 0, 0, 0⟩, ⟨0, 0, 0, 0⟩], 5⟩,
  ⟨[(39, 18176), (0, 0), (0, 0), (0, 0), (0, 0), (0, 0)], 0, [⟨3, 3, 0, 3⟩, ⟨0, 0, 0, 0⟩, ⟨0, 0, 0, 0⟩, ⟨0, 0, 0, 0⟩], 0⟩,
  ⟨[(40, 18432), (41, 40960), (0, 0), (0, 0), (0, 0), (0, 0)], 0, [⟨1, 2, 0, 8⟩, ⟨4, 9, 2, 0⟩, ⟨0, 0, 0, 0⟩, ⟨0, 0, 0, 0⟩], 0⟩,
  ⟨[(42, 48896), (0, 0), (0, 0), (0, 0), (0, 0), (0, 0)], 4, [⟨6, 3, 0, 4⟩, ⟨4, 3, 0, 0⟩, ⟨0, 0, 0, 0⟩, ⟨0, 0, 0, 0⟩], 0⟩,
  ⟨[(43, 48896), (0, 0), (0, 0), (0, 0), (0, 0), (0, 0)], 0, [⟨0, 0, 0, 0⟩, ⟨0, 0, 0, 0⟩, ⟨0, 0, 0, 0⟩, ⟨0, 0, 0, 0⟩], 0⟩,
  ⟨[(44, 48640), (0, 0), (0, 0), (0, 0), (0, 0), (0, 0)], 0, [⟨4, 7, 0, 0⟩, ⟨0, 0, 0, 0⟩, ⟨0, 0, 0, 0⟩, ⟨0, 0, 0, 0⟩], 0⟩]

def bgC (b : Int × Int) : List Value := [.int .i64 b.1, .int .i64 b.2]
def pcC (p : Pc) : List Value := [.int .i64 p.f, .int .i64 p.hi, .int .i64 p.lo, .int .i64 p.at_]
def fmC (f : Fm) : List Value := f.of_.flatMap bgC ++ ([.int .i64 f.asks] ++ (f.pcs.flatMap pcC ++ [.int .i64 f.kind]))
def formCells : List Value := formTab.flatMap fmC

end Go.Proofs.YtmofimgodmcdjaaDoor

namespace Go.Proofs.YtmofimgodmcdjaaDoor
open Go.ChangeShapes Go.WideShapes Go.ChangeAt Go.RowKit

theorem below_cells {B b : Nat} {a : World} (hb : B ≤ b) : ∀ (vs : List Value) (o : Nat) {w : World}, Below B a w → Below B a (w.setCells b o vs)
  | [], _, _, h => h
  | v :: r, o, _, h => below_cells hb r (o + 1) (h.setCell (p := ⟨b, o, none⟩) hb v)
theorem underF : Tryd.prog.underlying 66 = some (.array 33 65) := by kernel_rfl
theorem infoF : (Tryd.prog.info? 66).map (·.size) = some formCells.length := by kernel_rfl
theorem info990 : formCells.length = 990 := by kernel_rfl
theorem oneF : formCells.toArray.all (·.oneCell') = true := by kernel_rfl

theorem zeroF : ((Tryd.prog.info? 66).bind (·.zero)).map (·.cells) = some (List.replicate 990 (.int .i64 0) : List Value).toArray := by kernel_rfl
theorem sizeF : (Tryd.prog.info? 65).map (·.size) = some 30 := by kernel_rfl
theorem zip_maps {e : Nat → Value} : ∀ {l : List Nat} {r : List (List Value)}, l.map e = (r.map fun v => Value.agg v.toArray) → ∀ k, ((l.zipIdx k).map fun (x : Nat × Nat) => (x.2, e x.1)) = (r.zipIdx k).map fun (x : List Value × Nat) => (x.2, Value.agg x.1.toArray)
  | [], [], _, _ => rfl
  | a :: l, v :: r, h, k => by
    simp only [List.map_cons, List.cons.injEq] at h
    simp only [List.zipIdx_cons, List.map_cons, h.1, zip_maps h.2 (k + 1)]
def formSlots : List Nat := [12, 18, 24, 31, 38, 44, 51, 57, 63, 69, 76, 84, 92, 100, 108, 118, 128, 136, 144, 152, 160, 172, 179, 185, 191, 196, 201, 207, 212, 219, 225, 228, 233]
def formRows : List (List Value) := formTab.map fmC
theorem rows30 : ∀ v ∈ formRows, v.length = 30 := by
  have h : (formRows.all fun v => v.length == 30) = true := by kernel_rfl
  intro v hv
  simpa using List.all_eq_true.1 h v hv
theorem rowsFlat : formRows.flatten = formCells := rfl

set_option maxRecDepth 100000 in
theorem forms_c (w : World) :
    Calls Tryd.prog 18 #[] w fun e w' => e = .returned (.agg formCells.toArray) ∧ Below w.heap.size w w' := by
  go_enter Tryd.func18, Tryd.ntmps18
  apply wp_seq_k; intro K hK
  apply wp_region_lit
  refine wpList_firstE 1 235 _ ⟨rfl, fun _ => rfl⟩ (fun e => e 0) (.pointer (some ⟨w.heap.size, 0, none⟩)) (w.alloc (.cells (List.replicate 990 (.int .i64 0) : List Value).toArray 66)) (by kernel_rfl) (fun a1 e1 hv1 hm1 hd1 => ?_)
  refine wpList_nil ?_
  refine hK _ _ ?_
  clear hK K
  apply wp_seq_k; intro K hK
  apply wp_region_lit
  generalize hW : w.alloc (.cells (List.replicate 990 (.int .i64 0) : List Value).toArray 66) = W
  refine wpList_firstE 233 235 e1 hm1 (fun e => (e 0, formSlots.map e)) (e1 0, formRows.map fun v => .agg v.toArray) W (by kernel_rfl) (fun a2 e2 hv2 hm2 hd2 => ?_)
  have hd0 : a2.defers = [] := hd2.trans hd1
  simp only [Prod.mk.injEq] at hv2
  obtain ⟨hp, hs⟩ := hv2
  rw [hv1] at hp
  clear hv1 hm1 hd1 hd2
  refine wpList_build_one 66 ((formSlots.zipIdx 0).map fun (x : Nat × Nat) => (x.2, Operand.tmp x.1)).toArray 234 formCells.toArray (by kernel_rfl) (by kernel_rfl) (by kernel_rfl) ?_ ?_
  · rw [hm2.eval, ← rowsFlat]
    have h := built_all (P := Tryd.prog) 30 (List.replicate 990 (.int .i64 0)) formRows underF zeroF sizeF rows30 (by kernel_rfl)
    rw [← h]
    have e3 : ((formSlots.zipIdx 0).map fun (x : Nat × Nat) => (x.2, e2 x.1)) = (formRows.zipIdx 0).map fun (x : List Value × Nat) => (x.2, Value.agg x.1.toArray) := zip_maps hs 0
    rw [← e3]
    simp [evalE]
    rfl
  · refine wpList_last_store 66 (.tmp 0) (.tmp 234) w.heap.size formCells.toArray (by kernel_rfl) (by kernel_rfl) (by kernel_rfl) ?_ ?_ ?_ ?_ oneF ?_
    · have h := (hm2.put 234 (.agg formCells.toArray) (by decide)).eval
      rw [h]
      exact hp
    · have h := (hm2.put 234 (.agg formCells.toArray) (by decide)).eval
      rw [h]
      rfl
    · rw [← hW]
      exact there_new w _ _ _ (by simp [info990])
    · rw [infoF]; simp
    · refine hK _ _ ?_
      clear hK K
      apply wp_ret
      have hT : W.there w.heap.size 0 formCells.toArray.toList.length := by rw [← hW]; exact there_new w _ _ _ (by simp [info990])
      have hr := World.rangeAt_setCells_same W w.heap.size 0 formCells.toArray.toList hT
      have hm := hm2.put 234 (.agg formCells.toArray) (by decide)
      refine bodyPost_ret (v := .agg formCells.toArray) ?_ hd0 ⟨rfl, ?_⟩
      · have h := results_cell (P := Tryd.prog) (fn := Tryd.f18) (tmps := (a2.put (some 234) (.agg formCells.toArray)).tmps) 0 66 w.heap.size formCells.toArray.toList _ (by kernel_rfl) (by rw [hm.2]; exact hp) hr underF rfl (by rw [infoF])
        rw [h]
      · rw [← hW]
        exact below_cells (Nat.le_refl _) _ _ ((Below.refl _ _).alloc (Nat.le_refl _) _)

end Go.Proofs.YtmofimgodmcdjaaDoor
