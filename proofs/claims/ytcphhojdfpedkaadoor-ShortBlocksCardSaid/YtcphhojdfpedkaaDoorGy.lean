/- Short's pieces and its table of rows. No conditions. The contract of short's rows. No conditions. -/
import Derived.Test.YtcphhojdfpedkaaDoorRows
import Derived.Test.YtcphhojdfpedkaaDoorGs
import Derived.ProofKit
import Derived.OpenShut
import Derived.WalkLawsBesides
import Derived.Lib.Hide
import Derived.Outline
import Derived.Deep.QuietTactic
import Derived.BigQuiet
import Derived.Deep.MidRow
import Derived.Laws.Tables
import Derived.Laws.Alloc2
import Derived.Below
import Derived.Test.YtcphhojdfpedkaaDoorGu

namespace Go.Proofs.YtcphhojdfpedkaaDoor
open Go.ChangeShapes Go.WideShapes Go.ChangeAt Go.RowKit
namespace Ys
def pieceV (r c a u : Int) : Value := .agg #[.int .i64 r, .int .i64 c, .int .i64 a, .int .i64 u]
theorem low_c (r a : Int) (w : World) : Calls Tryd.prog 34 #[.int .i64 r, .int .i64 a] w fun e w' => e = .returned (pieceV r 3 a 0) ∧ Below w.heap.size w w' := by
  go_enter Tryd.func34, Tryd.ntmps34
  go_wp2
  refine bodyPost_ret (v := pieceV r 3 a 0) (by simp [results, Tryd.f34, go_sem, pieceV]) rfl ?_
  exact ⟨rfl, (Below.refl _ _).alloc (Nat.le_refl _) _⟩
theorem high_c (r a : Int) (w : World) : Calls Tryd.prog 36 #[.int .i64 r, .int .i64 a] w fun e w' => e = .returned (pieceV r 1 a 3) ∧ Below w.heap.size w w' := by
  go_enter Tryd.func36, Tryd.ntmps36
  go_wp2
  refine bodyPost_ret (v := pieceV r 1 a 3) (by simp [results, Tryd.f36, go_sem, pieceV]) rfl ?_
  exact ⟨rfl, (Below.refl _ _).alloc (Nat.le_refl _) _⟩
theorem whole_c (r a : Int) (w : World) : Calls Tryd.prog 35 #[.int .i64 r, .int .i64 a] w fun e w' => e = .returned (pieceV r 4 a 0) ∧ Below w.heap.size w w' := by
  go_enter Tryd.func35, Tryd.ntmps35
  go_wp2
  refine bodyPost_ret (v := pieceV r 4 a 0) (by simp [results, Tryd.f35, go_sem, pieceV]) rfl ?_
  exact ⟨rfl, (Below.refl _ _).alloc (Nat.le_refl _) _⟩
/-! the table's cells -/
def pcC (p : Sp.P) : List Value := [.int .i64 p.field, .int .i64 p.count, .int .i64 p.at_, .int .i64 p.up]
def bgC (b : Int × Int) : List Value := [.int .i64 b.1, .int .u32 b.2]
def insC (i : Nm.I) : List Value := [.int .i64 i.op, .int .i64 i.cond, .int .i64 i.rd, .int .i64 i.rn, .int .i64 i.rm, .int .i64 i.imm, .int .i64 i.mode, .int .i64 i.list, .bool i.s]
def rowC (r : Sp.R) : List Value := (r.of_.map bgC).flatten ++ insC r.known ++ [.int .i64 r.says] ++ (r.pcs.map pcC).flatten
def tabC : List Value := (Sp.rowsT.map rowC).flatten
theorem tab1428 : tabC.length = 1428 := by kernel_rfl
theorem rows42 : ∀ v ∈ Sp.rowsT.map rowC, v.length = 42 := by
  have h : ((Sp.rowsT.map rowC).all fun v => v.length == 42) = true := by kernel_rfl
  intro v hv
  simpa using List.all_eq_true.1 h v hv
def ans (f : FuncId) (args : List Value) : Option Value :=
  match args with
  | [.int .i64 r, .int .i64 a] => if f = 34 then some (pieceV r 3 a 0) else if f = 36 then some (pieceV r 1 a 3) else if f = 35 then some (pieceV r 4 a 0) else none
  | _ => none
theorem ans_ok (f : FuncId) (args : List Value) (v : Value) (h : ans f args = some v) : (∀ W, (callFunc f args.toArray).run Tryd.prog W = .ok (.enter f args.toArray) W) ∧ ∀ W, Calls Tryd.prog f args.toArray W fun e W' => e = .returned v ∧ Below W.heap.size W W' := by
  unfold ans at h
  split at h
  · rename_i r a
    split at h
    · rename_i hf
      subst hf
      cases h
      exact ⟨fun W => by kernel_rfl, fun W => low_c r a W⟩
    · split at h
      · rename_i hf
        subst hf
        cases h
        exact ⟨fun W => by kernel_rfl, fun W => high_c r a W⟩
      · split at h
        · rename_i hf
          subst hf
          cases h
          exact ⟨fun W => by kernel_rfl, fun W => whole_c r a W⟩
        · cases h
  · cases h
end Ys
end Go.Proofs.YtcphhojdfpedkaaDoor

namespace Go.Proofs.YtcphhojdfpedkaaDoor
open Go.ChangeShapes Go.WideShapes Go.ChangeAt Go.RowKit
namespace Ys
theorem below_cells {B b : Nat} {a : World} (hb : B ≤ b) : ∀ (vs : List Value) (o : Nat) {w : World}, Below B a w → Below B a (w.setCells b o vs)
  | [], _, _, h => h
  | v :: r, o, _, h => below_cells hb r (o + 1) (h.setCell (p := ⟨b, o, none⟩) hb v)
theorem wpList_store_one {P : Program} {ops : Array Oper} {Q : Exit → Act → World → Prop} {l : List Oper} {a : Act} {w : World} (ty : TypeId) (x y : Operand) (b : Nat) (cells : Array Value)
    (hg : (l.take 1).map (·.guard) = [none]) (ho : (l.take 1).map (·.op) = [.store ty x y]) (hd : (l.take 1).map (·.dst) = [none])
    (hx : a.eval x = .pointer (some ⟨b, 0, none⟩)) (hy : a.eval y = .agg cells)
    (ht : w.there b 0 cells.size) (hi : (P.info? ty).map (·.size) = some cells.size) (h1 : cells.all (·.oneCell') = true)
    (h : wpList P ops Q (l.drop 1) a (w.setCells b 0 cells.toList)) : wpList P ops Q l a w := by
  cases l with
  | nil => cases hg
  | cons op r =>
    simp only [List.take_succ_cons, List.take_zero, List.map_cons, List.map_nil, List.cons.injEq, and_true] at hg ho hd
    refine wpList_store_mid hg ty x y ho b 0 cells hx hy ht hi h1 ?_
    rw [hd]
    exact h
theorem zip_maps {e : Nat → Value} : ∀ {l : List Nat} {r : List (List Value)}, l.map e = (r.map fun v => Value.agg v.toArray) → ∀ k, ((l.zipIdx k).map fun (x : Nat × Nat) => (x.2, e x.1)) = (r.zipIdx k).map fun (x : List Value × Nat) => (x.2, Value.agg x.1.toArray)
  | [], [], _, _ => rfl
  | a :: l, v :: r, h, k => by
    simp only [List.map_cons, List.cons.injEq] at h
    simp only [List.zipIdx_cons, List.map_cons, h.1, zip_maps h.2 (k + 1)]
theorem underT : Tryd.prog.underlying 46 = some (.array 34 45) := by kernel_rfl
theorem infoT : (Tryd.prog.info? 46).map (·.size) = some tabC.length := by kernel_rfl
theorem one_row (r : Sp.R) : ∀ v ∈ rowC r, v.oneCell' = true := by
  intro v hv
  unfold rowC at hv
  simp only [List.mem_append, List.mem_flatten, List.mem_map] at hv
  rcases hv with ((⟨l, ⟨b, _, rfl⟩, h⟩ | h) | h) | ⟨l, ⟨p, _, rfl⟩, h⟩
  · simp only [bgC, List.mem_cons, List.not_mem_nil, or_false] at h
    rcases h with rfl | rfl <;> rfl
  · simp only [insC, List.mem_cons, List.not_mem_nil, or_false] at h
    rcases h with rfl | rfl | rfl | rfl | rfl | rfl | rfl | rfl | rfl <;> rfl
  · simp only [List.mem_cons, List.not_mem_nil, or_false] at h
    rw [h]; rfl
  · simp only [pcC, List.mem_cons, List.not_mem_nil, or_false] at h
    rcases h with rfl | rfl | rfl | rfl <;> rfl
theorem oneT : tabC.toArray.all (·.oneCell') = true := all_oneCell_toArray fun v hv => by
  unfold tabC at hv
  simp only [List.mem_flatten, List.mem_map] at hv
  obtain ⟨l, ⟨r, _, rfl⟩, h⟩ := hv
  exact one_row r v h
theorem one_b (w : World) (o : Obj) : Below w.heap.size w (w.alloc o) := (Below.refl _ _).alloc (Nat.le_refl _) _
def zeroRow : List Value := (List.replicate 6 [.int .i64 0, .int .u32 0]).flatten ++ insC Sm.noneI ++ [.int .i64 0] ++ List.replicate 20 (.int .i64 0)
def zeros : List Value := (List.replicate 34 zeroRow).flatten
theorem zeroT : ((Tryd.prog.info? 46).bind (·.zero)).map (·.cells) = some zeros.toArray := by kernel_rfl
theorem zeros1428 : zeros.toArray.size = 1428 := by kernel_rfl
theorem sizeT : (Tryd.prog.info? 45).map (·.size) = some 42 := by kernel_rfl
def rowSlots : List Nat := [21, 28, 35, 43, 51, 58, 66, 73, 80, 87, 95, 104, 114, 123, 132, 142, 150, 161, 170, 179, 188, 196, 209, 216, 222, 228, 235, 241, 250, 256, 264, 271, 274, 280]
def rowsL : List (List Value) := Sp.rowsT.map rowC
theorem rowsFlat : rowsL.flatten = tabC := rfl
theorem insI : (Tryd.prog.info? 23).map (·.size) = some 9 := by kernel_rfl
theorem underI : Tryd.prog.underlying 23 = some (.struct (Tryd.prog.fieldsOf 23)) := by kernel_rfl
def looks (b1 b2 b3 b4 : Nat) : Looks :=
  ⟨23, fun k => if k = 1 then some [.int .i64 0, .int .i64 0, .int .i64 0, .int .i64 0, .int .i64 0, .int .i64 0, .int .i64 1, .int .i64 0, .bool false] else if k = 2 then some [.int .i64 0, .int .i64 0, .int .i64 0, .int .i64 0, .int .i64 0, .int .i64 0, .int .i64 2, .int .i64 0, .bool false] else if k = 3 then some [.int .i64 0, .int .i64 0, .int .i64 0, .int .i64 13, .int .i64 0, .int .i64 0, .int .i64 1, .int .i64 0, .bool false] else if k = 4 then some [.int .i64 0, .int .i64 14, .int .i64 0, .int .i64 0, .int .i64 0, .int .i64 0, .int .i64 1, .int .i64 0, .bool false] else none,
    fun k => if k = 1 then b1 else if k = 2 then b2 else if k = 3 then b3 else b4⟩
def valsL : List Value := [.agg (bgC (1, 16384)).toArray,
  .agg (bgC (2, 16448)).toArray,
  .agg (bgC (6, 16704)).toArray,
  .agg (bgC (8, 16768)).toArray,
  .agg (bgC (3, 17152)).toArray,
  .agg (bgC (4, 17280)).toArray,
  .agg ((Sp.row_0.of_.map bgC).flatten).toArray,
  .agg ([.int .i64 0, .int .i64 0, .int .i64 0, .int .i64 0, .int .i64 0, .int .i64 0, .int .i64 2, .int .i64 0, .bool false] : List Value).toArray,
  pieceV 2 3 3 0,
  pieceV 0 3 0 0,
  pieceV 1 3 0 0,
  .agg ((Sp.row_0.pcs.map pcC).flatten).toArray,
  .agg (rowC Sp.row_0).toArray,
  .agg (bgC (9, 16960)).toArray,
  .agg ((Sp.row_1.of_.map bgC).flatten).toArray,
  .agg ([.int .i64 0, .int .i64 0, .int .i64 0, .int .i64 0, .int .i64 0, .int .i64 0, .int .i64 1, .int .i64 0, .bool false] : List Value).toArray,
  pieceV 1 3 3 0,
  pieceV 0 3 0 0,
  .agg ((Sp.row_1.pcs.map pcC).flatten).toArray,
  .agg (rowC Sp.row_1).toArray,
  .agg (bgC (11, 17344)).toArray,
  .agg ((Sp.row_2.of_.map bgC).flatten).toArray,
  .agg ([.int .i64 0, .int .i64 0, .int .i64 0, .int .i64 0, .int .i64 0, .int .i64 0, .int .i64 2, .int .i64 0, .bool false] : List Value).toArray,
  pieceV 2 3 3 0,
  pieceV 0 3 0 0,
  .agg ((Sp.row_2.pcs.map pcC).flatten).toArray,
  .agg (rowC Sp.row_2).toArray,
  .agg (bgC (20, 17216)).toArray,
  .agg ((Sp.row_3.of_.map bgC).flatten).toArray,
  .agg ([.int .i64 0, .int .i64 0, .int .i64 0, .int .i64 0, .int .i64 0, .int .i64 0, .int .i64 2, .int .i64 0, .bool false] : List Value).toArray,
  pieceV 1 3 3 0,
  pieceV 0 3 0 0,
  pieceV 2 3 0 0,
  .agg ((Sp.row_3.pcs.map pcC).flatten).toArray,
  .agg (rowC Sp.row_3).toArray,
  .agg (bgC (14, 16896)).toArray,
  .agg (bgC (13, 17088)).toArray,
  .agg ((Sp.row_4.of_.map bgC).flatten).toArray,
  .agg ([.int .i64 0, .int .i64 0, .int .i64 0, .int .i64 0, .int .i64 0, .int .i64 0, .int .i64 2, .int .i64 0, .bool false] : List Value).toArray,
  pieceV 2 3 3 0,
  pieceV 1 3 0 0,
  .agg ((Sp.row_4.pcs.map pcC).flatten).toArray,
  .agg (rowC Sp.row_4).toArray,
  .agg (bgC (12, 17024)).toArray,
  .agg ((Sp.row_5.of_.map bgC).flatten).toArray,
  .agg ([.int .i64 0, .int .i64 0, .int .i64 0, .int .i64 0, .int .i64 0, .int .i64 0, .int .i64 2, .int .i64 0, .bool false] : List Value).toArray,
  pieceV 2 3 3 0,
  pieceV 1 3 0 0,
  .agg ((Sp.row_5.pcs.map pcC).flatten).toArray,
  .agg (rowC Sp.row_5).toArray,
  .agg (bgC (12, 17664)).toArray,
  .agg ((Sp.row_6.of_.map bgC).flatten).toArray,
  .agg ([.int .i64 0, .int .i64 0, .int .i64 0, .int .i64 0, .int .i64 0, .int .i64 0, .int .i64 2, .int .i64 0, .bool false] : List Value).toArray,
  pieceV 2 4 3 0,
  pieceV 1 1 7 3,
  pieceV 1 3 0 0,
  .agg ((Sp.row_6.pcs.map pcC).flatten).toArray,
  .agg (rowC Sp.row_6).toArray,
  .agg (bgC (12, 10240)).toArray,
  .agg ((Sp.row_7.of_.map bgC).flatten).toArray,
  .agg ([.int .i64 0, .int .i64 0, .int .i64 0, .int .i64 0, .int .i64 0, .int .i64 0, .int .i64 1, .int .i64 0, .bool false] : List Value).toArray,
  pieceV 1 3 8 0,
  pieceV 3 8 0 0,
  .agg ((Sp.row_7.pcs.map pcC).flatten).toArray,
  .agg (rowC Sp.row_7).toArray,
  .agg (bgC (10, 8192)).toArray,
  .agg ((Sp.row_8.of_.map bgC).flatten).toArray,
  .agg ([.int .i64 0, .int .i64 0, .int .i64 0, .int .i64 0, .int .i64 0, .int .i64 0, .int .i64 1, .int .i64 0, .bool false] : List Value).toArray,
  pieceV 0 3 8 0,
  pieceV 3 8 0 0,
  .agg ((Sp.row_8.pcs.map pcC).flatten).toArray,
  .agg (rowC Sp.row_8).toArray,
  .agg (bgC (10, 0)).toArray,
  .agg ((Sp.row_9.of_.map bgC).flatten).toArray,
  .agg ([.int .i64 0, .int .i64 0, .int .i64 0, .int .i64 0, .int .i64 0, .int .i64 0, .int .i64 2, .int .i64 0, .bool false] : List Value).toArray,
  pieceV 2 3 3 0,
  pieceV 0 3 0 0,
  .agg ((Sp.row_9.pcs.map pcC).flatten).toArray,
  .agg (rowC Sp.row_9).toArray,
  .agg (bgC (10, 17920)).toArray,
  .agg ((Sp.row_10.of_.map bgC).flatten).toArray,
  .agg ([.int .i64 0, .int .i64 0, .int .i64 0, .int .i64 0, .int .i64 0, .int .i64 0, .int .i64 2, .int .i64 0, .bool false] : List Value).toArray,
  pieceV 2 4 3 0,
  pieceV 0 1 7 3,
  pieceV 0 3 0 0,
  .agg ((Sp.row_10.pcs.map pcC).flatten).toArray,
  .agg (rowC Sp.row_10).toArray,
  .agg (bgC (5, 6144)).toArray,
  .agg (bgC (7, 6656)).toArray,
  .agg ((Sp.row_11.of_.map bgC).flatten).toArray,
  .agg ([.int .i64 0, .int .i64 0, .int .i64 0, .int .i64 0, .int .i64 0, .int .i64 0, .int .i64 2, .int .i64 0, .bool false] : List Value).toArray,
  pieceV 2 3 6 0,
  pieceV 1 3 3 0,
  pieceV 0 3 0 0,
  .agg ((Sp.row_11.pcs.map pcC).flatten).toArray,
  .agg (rowC Sp.row_11).toArray,
  .agg (bgC (5, 17408)).toArray,
  .agg ((Sp.row_12.of_.map bgC).flatten).toArray,
  .agg ([.int .i64 0, .int .i64 0, .int .i64 0, .int .i64 0, .int .i64 0, .int .i64 0, .int .i64 2, .int .i64 0, .bool false] : List Value).toArray,
  pieceV 2 4 3 0,
  pieceV 0 1 7 3,
  pieceV 0 3 0 0,
  pieceV 1 1 7 3,
  pieceV 1 3 0 0,
  .agg ((Sp.row_12.pcs.map pcC).flatten).toArray,
  .agg (rowC Sp.row_12).toArray,
  .agg (bgC (5, 7168)).toArray,
  .agg (bgC (7, 7680)).toArray,
  .agg ((Sp.row_13.of_.map bgC).flatten).toArray,
  .agg ([.int .i64 0, .int .i64 0, .int .i64 0, .int .i64 0, .int .i64 0, .int .i64 0, .int .i64 1, .int .i64 0, .bool false] : List Value).toArray,
  pieceV 3 3 6 0,
  pieceV 1 3 3 0,
  pieceV 0 3 0 0,
  .agg ((Sp.row_13.pcs.map pcC).flatten).toArray,
  .agg (rowC Sp.row_13).toArray,
  .agg (bgC (5, 12288)).toArray,
  .agg (bgC (7, 14336)).toArray,
  .agg ((Sp.row_14.of_.map bgC).flatten).toArray,
  .agg ([.int .i64 0, .int .i64 0, .int .i64 0, .int .i64 0, .int .i64 0, .int .i64 0, .int .i64 1, .int .i64 0, .bool false] : List Value).toArray,
  pieceV 0 3 8 0,
  pieceV 1 3 8 0,
  pieceV 3 8 0 0,
  .agg ((Sp.row_14.pcs.map pcC).flatten).toArray,
  .agg (rowC Sp.row_14).toArray,
  .agg (bgC (16, 0)).toArray,
  .agg (bgC (17, 2048)).toArray,
  .agg (bgC (18, 4096)).toArray,
  .agg ((Sp.row_15.of_.map bgC).flatten).toArray,
  .agg ([.int .i64 0, .int .i64 0, .int .i64 0, .int .i64 0, .int .i64 0, .int .i64 0, .int .i64 1, .int .i64 0, .bool false] : List Value).toArray,
  pieceV 3 5 6 0,
  pieceV 1 3 3 0,
  pieceV 0 3 0 0,
  .agg ((Sp.row_15.pcs.map pcC).flatten).toArray,
  .agg (rowC Sp.row_15).toArray,
  .agg (bgC (17, 2048)).toArray,
  .agg (bgC (18, 4096)).toArray,
  .agg ((Sp.row_16.of_.map bgC).flatten).toArray,
  .agg (insC ⟨0, 0, 0, 0, 0, 32, 1, 0, false⟩).toArray,
  pieceV 1 3 3 0,
  pieceV 0 3 0 0,
  .agg ((Sp.row_16.pcs.map pcC).flatten).toArray,
  .agg (rowC Sp.row_16).toArray,
  .agg (bgC (16, 16512)).toArray,
  .agg (bgC (17, 16576)).toArray,
  .agg (bgC (18, 16640)).toArray,
  .agg (bgC (19, 16832)).toArray,
  .agg ((Sp.row_17.of_.map bgC).flatten).toArray,
  .agg ([.int .i64 0, .int .i64 0, .int .i64 0, .int .i64 0, .int .i64 0, .int .i64 0, .int .i64 2, .int .i64 0, .bool false] : List Value).toArray,
  pieceV 2 3 3 0,
  pieceV 0 3 0 0,
  pieceV 1 3 0 0,
  .agg ((Sp.row_17.pcs.map pcC).flatten).toArray,
  .agg (rowC Sp.row_17).toArray,
  .agg (bgC (28, 24576)).toArray,
  .agg (bgC (25, 26624)).toArray,
  .agg ((Sp.row_18.of_.map bgC).flatten).toArray,
  .agg ([.int .i64 0, .int .i64 0, .int .i64 0, .int .i64 0, .int .i64 0, .int .i64 0, .int .i64 1, .int .i64 0, .bool false] : List Value).toArray,
  pieceV 3 5 6 2,
  pieceV 1 3 3 0,
  pieceV 0 3 0 0,
  .agg ((Sp.row_18.pcs.map pcC).flatten).toArray,
  .agg (rowC Sp.row_18).toArray,
  .agg (bgC (29, 28672)).toArray,
  .agg (bgC (26, 30720)).toArray,
  .agg ((Sp.row_19.of_.map bgC).flatten).toArray,
  .agg ([.int .i64 0, .int .i64 0, .int .i64 0, .int .i64 0, .int .i64 0, .int .i64 0, .int .i64 1, .int .i64 0, .bool false] : List Value).toArray,
  pieceV 3 5 6 0,
  pieceV 1 3 3 0,
  pieceV 0 3 0 0,
  .agg ((Sp.row_19.pcs.map pcC).flatten).toArray,
  .agg (rowC Sp.row_19).toArray,
  .agg (bgC (30, 32768)).toArray,
  .agg (bgC (27, 34816)).toArray,
  .agg ((Sp.row_20.of_.map bgC).flatten).toArray,
  .agg ([.int .i64 0, .int .i64 0, .int .i64 0, .int .i64 0, .int .i64 0, .int .i64 0, .int .i64 1, .int .i64 0, .bool false] : List Value).toArray,
  pieceV 3 5 6 1,
  pieceV 1 3 3 0,
  pieceV 0 3 0 0,
  .agg ((Sp.row_20.pcs.map pcC).flatten).toArray,
  .agg (rowC Sp.row_20).toArray,
  .agg (bgC (28, 36864)).toArray,
  .agg (bgC (25, 38912)).toArray,
  .agg ((Sp.row_21.of_.map bgC).flatten).toArray,
  .agg ([.int .i64 0, .int .i64 0, .int .i64 0, .int .i64 13, .int .i64 0, .int .i64 0, .int .i64 1, .int .i64 0, .bool false] : List Value).toArray,
  pieceV 0 3 8 0,
  pieceV 3 8 0 2,
  .agg ((Sp.row_21.pcs.map pcC).flatten).toArray,
  .agg (rowC Sp.row_21).toArray,
  .agg (bgC (28, 20480)).toArray,
  .agg (bgC (30, 20992)).toArray,
  .agg (bgC (29, 21504)).toArray,
  .agg (bgC (25, 22528)).toArray,
  .agg (bgC (27, 23040)).toArray,
  .agg (bgC (26, 23552)).toArray,
  .agg ((Sp.row_22.of_.map bgC).flatten).toArray,
  .agg ([.int .i64 0, .int .i64 0, .int .i64 0, .int .i64 0, .int .i64 0, .int .i64 0, .int .i64 2, .int .i64 0, .bool false] : List Value).toArray,
  pieceV 2 3 6 0,
  pieceV 1 3 3 0,
  pieceV 0 3 0 0,
  .agg ((Sp.row_22.pcs.map pcC).flatten).toArray,
  .agg (rowC Sp.row_22).toArray,
  .agg (bgC (32, 49152)).toArray,
  .agg (bgC (31, 51200)).toArray,
  .agg ((Sp.row_23.of_.map bgC).flatten).toArray,
  pieceV 1 3 8 0,
  pieceV 4 8 0 0,
  .agg ((Sp.row_23.pcs.map pcC).flatten).toArray,
  .agg (rowC Sp.row_23).toArray,
  .agg (bgC (33, 46080)).toArray,
  .agg ((Sp.row_24.of_.map bgC).flatten).toArray,
  pieceV 4 1 8 14,
  pieceV 4 8 0 0,
  .agg ((Sp.row_24.pcs.map pcC).flatten).toArray,
  .agg (rowC Sp.row_24).toArray,
  .agg (bgC (34, 48128)).toArray,
  .agg ((Sp.row_25.of_.map bgC).flatten).toArray,
  pieceV 4 1 8 15,
  pieceV 4 8 0 0,
  .agg ((Sp.row_25.pcs.map pcC).flatten).toArray,
  .agg (rowC Sp.row_25).toArray,
  .agg (bgC (35, 53248)).toArray,
  .agg ((Sp.row_26.of_.map bgC).flatten).toArray,
  .agg ([.int .i64 0, .int .i64 0, .int .i64 0, .int .i64 0, .int .i64 0, .int .i64 0, .int .i64 1, .int .i64 0, .bool false] : List Value).toArray,
  pieceV 5 4 8 0,
  pieceV 6 8 0 0,
  .agg ((Sp.row_26.pcs.map pcC).flatten).toArray,
  .agg (rowC Sp.row_26).toArray,
  .agg (bgC (35, 57344)).toArray,
  .agg ((Sp.row_27.of_.map bgC).flatten).toArray,
  .agg ([.int .i64 0, .int .i64 14, .int .i64 0, .int .i64 0, .int .i64 0, .int .i64 0, .int .i64 1, .int .i64 0, .bool false] : List Value).toArray,
  pieceV 7 11 0 0,
  .agg ((Sp.row_27.pcs.map pcC).flatten).toArray,
  .agg (rowC Sp.row_27).toArray,
  .agg (bgC (37, 45312)).toArray,
  .agg (bgC (38, 47360)).toArray,
  .agg ((Sp.row_28.of_.map bgC).flatten).toArray,
  .agg ([.int .i64 0, .int .i64 0, .int .i64 0, .int .i64 0, .int .i64 0, .int .i64 0, .int .i64 1, .int .i64 0, .bool false] : List Value).toArray,
  pieceV 8 1 9 0,
  pieceV 8 5 3 0,
  pieceV 1 3 0 0,
  .agg ((Sp.row_28.pcs.map pcC).flatten).toArray,
  .agg (rowC Sp.row_28).toArray,
  .agg (bgC (39, 18176)).toArray,
  .agg ((Sp.row_29.of_.map bgC).flatten).toArray,
  .agg ([.int .i64 0, .int .i64 0, .int .i64 0, .int .i64 0, .int .i64 0, .int .i64 0, .int .i64 2, .int .i64 0, .bool false] : List Value).toArray,
  pieceV 2 4 3 0,
  .agg ((Sp.row_29.pcs.map pcC).flatten).toArray,
  .agg (rowC Sp.row_29).toArray,
  .agg (bgC (40, 18432)).toArray,
  .agg (bgC (41, 40960)).toArray,
  .agg ((Sp.row_30.of_.map bgC).flatten).toArray,
  .agg ([.int .i64 0, .int .i64 0, .int .i64 0, .int .i64 0, .int .i64 0, .int .i64 0, .int .i64 1, .int .i64 0, .bool false] : List Value).toArray,
  pieceV 0 3 8 0,
  pieceV 3 8 0 2,
  .agg ((Sp.row_30.pcs.map pcC).flatten).toArray,
  .agg (rowC Sp.row_30).toArray,
  .agg (bgC (42, 48896)).toArray,
  .agg ((Sp.row_31.of_.map bgC).flatten).toArray,
  .agg ([.int .i64 0, .int .i64 0, .int .i64 0, .int .i64 0, .int .i64 0, .int .i64 0, .int .i64 1, .int .i64 0, .bool false] : List Value).toArray,
  pieceV 5 4 4 0,
  pieceV 3 4 0 0,
  .agg ((Sp.row_31.pcs.map pcC).flatten).toArray,
  .agg (rowC Sp.row_31).toArray,
  .agg (bgC (43, 48896)).toArray,
  .agg ((Sp.row_32.of_.map bgC).flatten).toArray,
  .agg (rowC Sp.row_32).toArray,
  .agg (bgC (44, 48640)).toArray,
  .agg ((Sp.row_33.of_.map bgC).flatten).toArray,
  .agg ([.int .i64 0, .int .i64 0, .int .i64 0, .int .i64 0, .int .i64 0, .int .i64 0, .int .i64 1, .int .i64 0, .bool false] : List Value).toArray,
  pieceV 3 8 0 0,
  .agg ((Sp.row_33.pcs.map pcC).flatten).toArray,
  .agg (rowC Sp.row_33).toArray,
  .agg tabC.toArray]
def nxtL : List Nat := [6, 6, 6, 6, 6, 6, 12, 12, 11, 11, 11, 12, 272, 14, 19, 19, 18, 18, 19, 272, 21, 26, 26, 25, 25, 26, 272, 28, 34, 34, 33, 33, 33, 34, 272, 37, 37, 42, 42, 41, 41, 42, 272, 44, 49, 49, 48, 48, 49, 272, 51, 57, 57, 56, 56, 56, 57, 272, 59, 64, 64, 63, 63, 64, 272, 66, 71, 71, 70, 70, 71, 272, 73, 78, 78, 77, 77, 78, 272, 80, 86, 86, 85, 85, 85, 86, 272, 89, 89, 95, 95, 94, 94, 94, 95, 272, 97, 105, 105, 104, 104, 104, 104, 104, 105, 272, 108, 108, 114, 114, 113, 113, 113, 114, 272, 117, 117, 123, 123, 122, 122, 122, 123, 272, 127, 127, 127, 133, 133, 132, 132, 132, 133, 272, 136, 136, 141, 141, 140, 140, 141, 272, 146, 146, 146, 146, 152, 152, 151, 151, 151, 152, 272, 155, 155, 161, 161, 160, 160, 160, 161, 272, 164, 164, 170, 170, 169, 169, 169, 170, 272, 173, 173, 179, 179, 178, 178, 178, 179, 272, 182, 182, 187, 187, 186, 186, 187, 272, 194, 194, 194, 194, 194, 194, 200, 200, 199, 199, 199, 200, 272, 203, 203, 207, 206, 206, 207, 272, 209, 213, 212, 212, 213, 272, 215, 219, 218, 218, 219, 272, 221, 226, 226, 225, 225, 226, 272, 228, 232, 232, 231, 232, 272, 235, 235, 241, 241, 240, 240, 240, 241, 272, 243, 247, 247, 246, 247, 272, 250, 250, 255, 255, 254, 254, 255, 272, 257, 262, 262, 261, 261, 262, 272, 264, 265, 272, 267, 271, 271, 270, 271, 272, 273]
def rowE (e0 : Nat → Value) (t : Nat) : Value := if t < 9 then e0 t else valsL.getD (t - 9) undef
theorem rowE_281 {e0 : Nat → Value} : rowE e0 281 = .agg tabC.toArray := by kernel_rfl
theorem looks_low {b1 b2 b3 b4 k : Nat} {cs : List Value} (h : (looks b1 b2 b3 b4).at_ k = some cs) : k < 9 := by
  unfold looks at h
  dsimp only at h
  refine Decidable.byContradiction fun hn => ?_
  rw [if_neg (by omega), if_neg (by omega), if_neg (by omega), if_neg (by omega)] at h
  cases h
theorem fix_of_lists {P : Program} {ops : Array Oper} {b n : Nat} {E : Nat → Value} {an : FuncId → List Value → Option Value} {L : Looks}
    (hA : (((ops.toList.take n).zipIdx 0).all fun x => fixedB b x.2 x.1) = true) (hB : (ops.toList.take n).map (valueOf P an L E) = (List.range n).map fun i => some (E (i + b))) :
    ∀ i o, i < n → ops[i]? = some o → fixedB b i o = true ∧ valueOf P an L E o = some (E (i + b)) := by
  intro i o hi ho
  have h0 : (ops.toList.take n)[i]? = some o := by
    rw [List.getElem?_take, if_pos hi]
    simpa using ho
  constructor
  · have h1 := List.all_eq_true.1 hA (o, i) (List.mem_iff_getElem?.2 ⟨i, by rw [List.getElem?_zipIdx, h0]; simp⟩)
    exact h1
  · have h2 := congrArg (·[i]?) hB
    simp only [List.getElem?_map, h0, List.getElem?_range hi, Option.map_some, Option.some.injEq] at h2
    exact h2
theorem fix_more {ops : Array Oper} {E : Nat → Value} {an : FuncId → List Value → Option Value} {L : Looks} (h : ∀ i o, i < 272 → ops[i]? = some o → fixedB 9 i o = true ∧ valueOf Tryd.prog an L E o = some (E (i + 9)))
    (h1 : (ops[272]?).map (fun o => (o.op, fixedB 9 272 o)) = some (.build 46 ((rowSlots.zipIdx 0).map fun (x : Nat × Nat) => (x.2, Operand.tmp x.1)).toArray, true))
    (hs : rowSlots.map E = rowsL.map fun v => .agg v.toArray) (h281 : E 281 = .agg tabC.toArray) :
    ∀ i o, i < 273 → ops[i]? = some o → fixedB 9 i o = true ∧ valueOf Tryd.prog an L E o = some (E (i + 9)) := by
  intro i o hi ho
  by_cases h2 : i < 272
  · exact h i o h2 ho
  obtain rfl : i = 272 := by omega
  rw [ho] at h1
  simp only [Option.map_some, Option.some.injEq, Prod.mk.injEq] at h1
  obtain ⟨h3, h4⟩ := h1
  refine ⟨h4, ?_⟩
  unfold valueOf
  rw [h3]
  dsimp only
  have hb := built_all (P := Tryd.prog) 42 zeros rowsL underT zeroT sizeT rows42 (by kernel_rfl)
  have e3' : ((rowSlots.zipIdx 0).map fun (x : Nat × Nat) => (x.2, E x.1)) = (rowsL.zipIdx 0).map fun (x : List Value × Nat) => (x.2, Value.agg x.1.toArray) := zip_maps hs 0
  rw [← e3', rowsFlat] at hb
  rw [show (((rowSlots.zipIdx 0).map fun (x : Nat × Nat) => (x.2, Operand.tmp x.1)).toArray.map fun (x : Nat × Operand) => (x.1, evalE E x.2)).toList = ((rowSlots.zipIdx 0).map fun (x : Nat × Nat) => (x.2, E x.1)) by simp [evalE], hb, h281]
  rfl
theorem next_of {ops : Array Oper} {n : Nat} (l : List Nat) (h : ((List.range n).all fun i => awaitedB ops i (l.getD i 0)) = true) : ∀ i, i < n → ∃ j, awaitedB ops i j = true :=
  fun i hi => ⟨_, List.all_eq_true.1 h i (List.mem_range.2 hi)⟩
theorem back_of {ops : Array Oper} {n : Nat} {o : Oper} (h : (ops[n]?).map (backB n) = some true) (ho : ops[n]? = some o) : backB n o = true := by
  rw [ho] at h
  exact Option.some.inj h
set_option maxRecDepth 100000 in
set_option maxHeartbeats 1000000 in
theorem rows_c (w : World) :
    Calls Tryd.prog 16 #[] w fun e w' => e = .returned (.agg tabC.toArray) ∧ Below w.heap.size w w' := by
  go_enter Tryd.func16, Tryd.ntmps16
  apply wp_seq_k; intro K hK
  apply wp_region_lit
  refine wpList_firstE 1 282 _ ⟨rfl, fun _ => rfl⟩ (fun e => e 0) (.pointer (some ⟨w.heap.size, 0, none⟩)) (w.alloc (.cells zeros.toArray 46)) (by kernel_rfl) (fun a1 e1 hv1 hm1 hd1 => ?_)
  refine wpList_nil ?_
  refine hK _ _ ?_
  clear hK K
  apply wp_seq_k; intro K hK
  apply wp_region_lit
  have hb0 : Below w.heap.size w (w.alloc (.cells zeros.toArray 46)) := (Below.refl _ _).alloc (Nat.le_refl _) _
  have hT0 : (w.alloc (.cells zeros.toArray 46)).there w.heap.size 0 1428 := there_new w zeros.toArray _ _ (Nat.le_of_eq zeros1428.symm)
  have hs0 : w.heap.size < (w.alloc (.cells zeros.toArray 46)).heap.size := by simp
  generalize w.alloc (.cells zeros.toArray 46) = W at *
  refine wpList_firstE 8 282 e1 hm1 (fun e => (e 0, (e 1, e 2, e 3, e 4), (e 5, e 6, e 7, e 8))) (e1 0, (.pointer (some ⟨W.heap.size, 0, none⟩), .pointer (some ⟨(W.alloc (.cells #[.int .i64 0, .int .i64 0, .int .i64 0, .int .i64 0, .int .i64 0, .int .i64 0, .int .i64 0, .int .i64 0, .bool false] 23)).heap.size, 0, none⟩), .pointer (some ⟨((W.alloc (.cells #[.int .i64 0, .int .i64 0, .int .i64 0, .int .i64 0, .int .i64 0, .int .i64 0, .int .i64 0, .int .i64 0, .bool false] 23)).alloc (.cells #[.int .i64 0, .int .i64 0, .int .i64 0, .int .i64 0, .int .i64 0, .int .i64 0, .int .i64 0, .int .i64 0, .bool false] 23)).heap.size, 0, none⟩), .pointer (some ⟨(((W.alloc (.cells #[.int .i64 0, .int .i64 0, .int .i64 0, .int .i64 0, .int .i64 0, .int .i64 0, .int .i64 0, .int .i64 0, .bool false] 23)).alloc (.cells #[.int .i64 0, .int .i64 0, .int .i64 0, .int .i64 0, .int .i64 0, .int .i64 0, .int .i64 0, .int .i64 0, .bool false] 23)).alloc (.cells #[.int .i64 0, .int .i64 0, .int .i64 0, .int .i64 0, .int .i64 0, .int .i64 0, .int .i64 0, .int .i64 0, .bool false] 23)).heap.size, 0, none⟩)), (.agg ([.int .i64 0, .int .i64 0, .int .i64 0, .int .i64 0, .int .i64 0, .int .i64 0, .int .i64 1, .int .i64 0, .bool false] : List Value).toArray, .agg ([.int .i64 0, .int .i64 0, .int .i64 0, .int .i64 0, .int .i64 0, .int .i64 0, .int .i64 2, .int .i64 0, .bool false] : List Value).toArray, .agg ([.int .i64 0, .int .i64 0, .int .i64 0, .int .i64 13, .int .i64 0, .int .i64 0, .int .i64 1, .int .i64 0, .bool false] : List Value).toArray, .agg ([.int .i64 0, .int .i64 14, .int .i64 0, .int .i64 0, .int .i64 0, .int .i64 0, .int .i64 1, .int .i64 0, .bool false] : List Value).toArray)) ((((W.alloc (.cells #[.int .i64 0, .int .i64 0, .int .i64 0, .int .i64 0, .int .i64 0, .int .i64 0, .int .i64 0, .int .i64 0, .bool false] 23)).alloc (.cells #[.int .i64 0, .int .i64 0, .int .i64 0, .int .i64 0, .int .i64 0, .int .i64 0, .int .i64 0, .int .i64 0, .bool false] 23)).alloc (.cells #[.int .i64 0, .int .i64 0, .int .i64 0, .int .i64 0, .int .i64 0, .int .i64 0, .int .i64 0, .int .i64 0, .bool false] 23)).alloc (.cells #[.int .i64 0, .int .i64 0, .int .i64 0, .int .i64 0, .int .i64 0, .int .i64 0, .int .i64 0, .int .i64 0, .bool false] 23)) (by kernel_rfl) (fun a2 e2 hv2 hm2 hd2 => ?_)
  have hd0 : a2.defers = [] := hd2.trans hd1
  simp only [Prod.mk.injEq] at hv2
  obtain ⟨hp0, ⟨hp1, hp2, hp3, hp4⟩, hc1, hc2, hc3, hc4⟩ := hv2
  rw [hv1] at hp0
  clear hv1 hm1 hd1 hd2
  -- the four blocks
  have hn1 : W.heap.size = W.heap.size := rfl
  have hn2 : (W.alloc (.cells #[.int .i64 0, .int .i64 0, .int .i64 0, .int .i64 0, .int .i64 0, .int .i64 0, .int .i64 0, .int .i64 0, .bool false] 23)).heap.size = W.heap.size + 1 := by simp
  have hn3 : ((W.alloc (.cells #[.int .i64 0, .int .i64 0, .int .i64 0, .int .i64 0, .int .i64 0, .int .i64 0, .int .i64 0, .int .i64 0, .bool false] 23)).alloc (.cells #[.int .i64 0, .int .i64 0, .int .i64 0, .int .i64 0, .int .i64 0, .int .i64 0, .int .i64 0, .int .i64 0, .bool false] 23)).heap.size = W.heap.size + 2 := by simp
  have hn4 : (((W.alloc (.cells #[.int .i64 0, .int .i64 0, .int .i64 0, .int .i64 0, .int .i64 0, .int .i64 0, .int .i64 0, .int .i64 0, .bool false] 23)).alloc (.cells #[.int .i64 0, .int .i64 0, .int .i64 0, .int .i64 0, .int .i64 0, .int .i64 0, .int .i64 0, .int .i64 0, .bool false] 23)).alloc (.cells #[.int .i64 0, .int .i64 0, .int .i64 0, .int .i64 0, .int .i64 0, .int .i64 0, .int .i64 0, .int .i64 0, .bool false] 23)).heap.size = W.heap.size + 3 := by simp
  have hn5 : ((((W.alloc (.cells #[.int .i64 0, .int .i64 0, .int .i64 0, .int .i64 0, .int .i64 0, .int .i64 0, .int .i64 0, .int .i64 0, .bool false] 23)).alloc (.cells #[.int .i64 0, .int .i64 0, .int .i64 0, .int .i64 0, .int .i64 0, .int .i64 0, .int .i64 0, .int .i64 0, .bool false] 23)).alloc (.cells #[.int .i64 0, .int .i64 0, .int .i64 0, .int .i64 0, .int .i64 0, .int .i64 0, .int .i64 0, .int .i64 0, .bool false] 23)).alloc (.cells #[.int .i64 0, .int .i64 0, .int .i64 0, .int .i64 0, .int .i64 0, .int .i64 0, .int .i64 0, .int .i64 0, .bool false] 23)).heap.size = W.heap.size + 4 := by simp
  have t1 : ((((W.alloc (.cells #[.int .i64 0, .int .i64 0, .int .i64 0, .int .i64 0, .int .i64 0, .int .i64 0, .int .i64 0, .int .i64 0, .bool false] 23)).alloc (.cells #[.int .i64 0, .int .i64 0, .int .i64 0, .int .i64 0, .int .i64 0, .int .i64 0, .int .i64 0, .int .i64 0, .bool false] 23)).alloc (.cells #[.int .i64 0, .int .i64 0, .int .i64 0, .int .i64 0, .int .i64 0, .int .i64 0, .int .i64 0, .int .i64 0, .bool false] 23)).alloc (.cells #[.int .i64 0, .int .i64 0, .int .i64 0, .int .i64 0, .int .i64 0, .int .i64 0, .int .i64 0, .int .i64 0, .bool false] 23)).there W.heap.size 0 9 := World.there_alloc (World.there_alloc (World.there_alloc (there_new _ _ _ 9 (Nat.le_refl _)) _) _) _
  have t2 : ((((W.alloc (.cells #[.int .i64 0, .int .i64 0, .int .i64 0, .int .i64 0, .int .i64 0, .int .i64 0, .int .i64 0, .int .i64 0, .bool false] 23)).alloc (.cells #[.int .i64 0, .int .i64 0, .int .i64 0, .int .i64 0, .int .i64 0, .int .i64 0, .int .i64 0, .int .i64 0, .bool false] 23)).alloc (.cells #[.int .i64 0, .int .i64 0, .int .i64 0, .int .i64 0, .int .i64 0, .int .i64 0, .int .i64 0, .int .i64 0, .bool false] 23)).alloc (.cells #[.int .i64 0, .int .i64 0, .int .i64 0, .int .i64 0, .int .i64 0, .int .i64 0, .int .i64 0, .int .i64 0, .bool false] 23)).there (W.alloc (.cells #[.int .i64 0, .int .i64 0, .int .i64 0, .int .i64 0, .int .i64 0, .int .i64 0, .int .i64 0, .int .i64 0, .bool false] 23)).heap.size 0 9 := World.there_alloc (World.there_alloc (there_new _ _ _ 9 (Nat.le_refl _)) _) _
  have t3 : ((((W.alloc (.cells #[.int .i64 0, .int .i64 0, .int .i64 0, .int .i64 0, .int .i64 0, .int .i64 0, .int .i64 0, .int .i64 0, .bool false] 23)).alloc (.cells #[.int .i64 0, .int .i64 0, .int .i64 0, .int .i64 0, .int .i64 0, .int .i64 0, .int .i64 0, .int .i64 0, .bool false] 23)).alloc (.cells #[.int .i64 0, .int .i64 0, .int .i64 0, .int .i64 0, .int .i64 0, .int .i64 0, .int .i64 0, .int .i64 0, .bool false] 23)).alloc (.cells #[.int .i64 0, .int .i64 0, .int .i64 0, .int .i64 0, .int .i64 0, .int .i64 0, .int .i64 0, .int .i64 0, .bool false] 23)).there ((W.alloc (.cells #[.int .i64 0, .int .i64 0, .int .i64 0, .int .i64 0, .int .i64 0, .int .i64 0, .int .i64 0, .int .i64 0, .bool false] 23)).alloc (.cells #[.int .i64 0, .int .i64 0, .int .i64 0, .int .i64 0, .int .i64 0, .int .i64 0, .int .i64 0, .int .i64 0, .bool false] 23)).heap.size 0 9 := World.there_alloc (there_new _ _ _ 9 (Nat.le_refl _)) _
  have t4 : ((((W.alloc (.cells #[.int .i64 0, .int .i64 0, .int .i64 0, .int .i64 0, .int .i64 0, .int .i64 0, .int .i64 0, .int .i64 0, .bool false] 23)).alloc (.cells #[.int .i64 0, .int .i64 0, .int .i64 0, .int .i64 0, .int .i64 0, .int .i64 0, .int .i64 0, .int .i64 0, .bool false] 23)).alloc (.cells #[.int .i64 0, .int .i64 0, .int .i64 0, .int .i64 0, .int .i64 0, .int .i64 0, .int .i64 0, .int .i64 0, .bool false] 23)).alloc (.cells #[.int .i64 0, .int .i64 0, .int .i64 0, .int .i64 0, .int .i64 0, .int .i64 0, .int .i64 0, .int .i64 0, .bool false] 23)).there (((W.alloc (.cells #[.int .i64 0, .int .i64 0, .int .i64 0, .int .i64 0, .int .i64 0, .int .i64 0, .int .i64 0, .int .i64 0, .bool false] 23)).alloc (.cells #[.int .i64 0, .int .i64 0, .int .i64 0, .int .i64 0, .int .i64 0, .int .i64 0, .int .i64 0, .int .i64 0, .bool false] 23)).alloc (.cells #[.int .i64 0, .int .i64 0, .int .i64 0, .int .i64 0, .int .i64 0, .int .i64 0, .int .i64 0, .int .i64 0, .bool false] 23)).heap.size 0 9 := there_new _ _ _ 9 (Nat.le_refl _)
  have hbW : Below W.heap.size W ((((W.alloc (.cells #[.int .i64 0, .int .i64 0, .int .i64 0, .int .i64 0, .int .i64 0, .int .i64 0, .int .i64 0, .int .i64 0, .bool false] 23)).alloc (.cells #[.int .i64 0, .int .i64 0, .int .i64 0, .int .i64 0, .int .i64 0, .int .i64 0, .int .i64 0, .int .i64 0, .bool false] 23)).alloc (.cells #[.int .i64 0, .int .i64 0, .int .i64 0, .int .i64 0, .int .i64 0, .int .i64 0, .int .i64 0, .int .i64 0, .bool false] 23)).alloc (.cells #[.int .i64 0, .int .i64 0, .int .i64 0, .int .i64 0, .int .i64 0, .int .i64 0, .int .i64 0, .int .i64 0, .bool false] 23)) := (one_b W _).trans (((one_b _ _).mono (by rw [hn2]; omega)).trans (((one_b _ _).mono (by rw [hn3]; omega)).trans ((one_b _ _).mono (by rw [hn4]; omega))))
  generalize (((W.alloc (.cells #[.int .i64 0, .int .i64 0, .int .i64 0, .int .i64 0, .int .i64 0, .int .i64 0, .int .i64 0, .int .i64 0, .bool false] 23)).alloc (.cells #[.int .i64 0, .int .i64 0, .int .i64 0, .int .i64 0, .int .i64 0, .int .i64 0, .int .i64 0, .int .i64 0, .bool false] 23)).alloc (.cells #[.int .i64 0, .int .i64 0, .int .i64 0, .int .i64 0, .int .i64 0, .int .i64 0, .int .i64 0, .int .i64 0, .bool false] 23)).heap.size = b4 at *
  generalize ((W.alloc (.cells #[.int .i64 0, .int .i64 0, .int .i64 0, .int .i64 0, .int .i64 0, .int .i64 0, .int .i64 0, .int .i64 0, .bool false] 23)).alloc (.cells #[.int .i64 0, .int .i64 0, .int .i64 0, .int .i64 0, .int .i64 0, .int .i64 0, .int .i64 0, .int .i64 0, .bool false] 23)).heap.size = b3 at *
  generalize (W.alloc (.cells #[.int .i64 0, .int .i64 0, .int .i64 0, .int .i64 0, .int .i64 0, .int .i64 0, .int .i64 0, .int .i64 0, .bool false] 23)).heap.size = b2 at *
  obtain ⟨b1, eb1⟩ : ∃ b, W.heap.size = b := ⟨_, rfl⟩
  rw [eb1] at hp1 t1
  generalize ((((W.alloc (.cells #[.int .i64 0, .int .i64 0, .int .i64 0, .int .i64 0, .int .i64 0, .int .i64 0, .int .i64 0, .int .i64 0, .bool false] 23)).alloc (.cells #[.int .i64 0, .int .i64 0, .int .i64 0, .int .i64 0, .int .i64 0, .int .i64 0, .int .i64 0, .int .i64 0, .bool false] 23)).alloc (.cells #[.int .i64 0, .int .i64 0, .int .i64 0, .int .i64 0, .int .i64 0, .int .i64 0, .int .i64 0, .int .i64 0, .bool false] 23)).alloc (.cells #[.int .i64 0, .int .i64 0, .int .i64 0, .int .i64 0, .int .i64 0, .int .i64 0, .int .i64 0, .int .i64 0, .bool false] 23)) = V at *
  clear hn1
  have hT1 : V.there w.heap.size 0 1428 := fun j hj => by
    have hj' := hT0 j hj
    exact ⟨by rw [hbW.cell (p := ⟨w.heap.size, 0 + j, none⟩) hs0]; exact hj'.1, by rw [hbW.frozen (p := ⟨w.heap.size, 0 + j, none⟩) hs0]; exact hj'.2⟩
  refine wpList_store_one 23 (.tmp 1) (.tmp 5) b1 ([.int .i64 0, .int .i64 0, .int .i64 0, .int .i64 0, .int .i64 0, .int .i64 0, .int .i64 1, .int .i64 0, .bool false] : List Value).toArray (by kernel_rfl) (by kernel_rfl) (by kernel_rfl) (by rw [hm2.eval]; exact hp1) (by rw [hm2.eval]; exact hc1) t1 insI (by kernel_rfl) ?_
  refine wpList_store_one 23 (.tmp 2) (.tmp 6) b2 ([.int .i64 0, .int .i64 0, .int .i64 0, .int .i64 0, .int .i64 0, .int .i64 0, .int .i64 2, .int .i64 0, .bool false] : List Value).toArray (by kernel_rfl) (by kernel_rfl) (by kernel_rfl) (by rw [hm2.eval]; exact hp2) (by rw [hm2.eval]; exact hc2) (World.there_setCells t2 _ _ _) insI (by kernel_rfl) ?_
  refine wpList_store_one 23 (.tmp 3) (.tmp 7) b3 ([.int .i64 0, .int .i64 0, .int .i64 0, .int .i64 13, .int .i64 0, .int .i64 0, .int .i64 1, .int .i64 0, .bool false] : List Value).toArray (by kernel_rfl) (by kernel_rfl) (by kernel_rfl) (by rw [hm2.eval]; exact hp3) (by rw [hm2.eval]; exact hc3) (World.there_setCells (World.there_setCells t3 _ _ _) _ _ _) insI (by kernel_rfl) ?_
  refine wpList_store_one 23 (.tmp 4) (.tmp 8) b4 ([.int .i64 0, .int .i64 14, .int .i64 0, .int .i64 0, .int .i64 0, .int .i64 0, .int .i64 1, .int .i64 0, .bool false] : List Value).toArray (by kernel_rfl) (by kernel_rfl) (by kernel_rfl) (by rw [hm2.eval]; exact hp4) (by rw [hm2.eval]; exact hc4) (World.there_setCells (World.there_setCells (World.there_setCells t4 _ _ _) _ _ _) _ _ _) insI (by kernel_rfl) ?_
  have r1 := World.rangeAt_setCells_apart (World.rangeAt_setCells_apart (World.rangeAt_setCells_apart (World.rangeAt_setCells_same V b1 0 ([.int .i64 0, .int .i64 0, .int .i64 0, .int .i64 0, .int .i64 0, .int .i64 0, .int .i64 1, .int .i64 0, .bool false] : List Value) t1) b2 0 ([.int .i64 0, .int .i64 0, .int .i64 0, .int .i64 0, .int .i64 0, .int .i64 0, .int .i64 2, .int .i64 0, .bool false] : List Value) (.inl (by omega))) b3 0 ([.int .i64 0, .int .i64 0, .int .i64 0, .int .i64 13, .int .i64 0, .int .i64 0, .int .i64 1, .int .i64 0, .bool false] : List Value) (.inl (by omega))) b4 0 ([.int .i64 0, .int .i64 14, .int .i64 0, .int .i64 0, .int .i64 0, .int .i64 0, .int .i64 1, .int .i64 0, .bool false] : List Value) (.inl (by omega))
  have r2 := World.rangeAt_setCells_apart (World.rangeAt_setCells_apart (World.rangeAt_setCells_same (V.setCells b1 0 ([.int .i64 0, .int .i64 0, .int .i64 0, .int .i64 0, .int .i64 0, .int .i64 0, .int .i64 1, .int .i64 0, .bool false] : List Value)) b2 0 ([.int .i64 0, .int .i64 0, .int .i64 0, .int .i64 0, .int .i64 0, .int .i64 0, .int .i64 2, .int .i64 0, .bool false] : List Value) (World.there_setCells t2 _ _ _)) b3 0 ([.int .i64 0, .int .i64 0, .int .i64 0, .int .i64 13, .int .i64 0, .int .i64 0, .int .i64 1, .int .i64 0, .bool false] : List Value) (.inl (by omega))) b4 0 ([.int .i64 0, .int .i64 14, .int .i64 0, .int .i64 0, .int .i64 0, .int .i64 0, .int .i64 1, .int .i64 0, .bool false] : List Value) (.inl (by omega))
  have r3 := World.rangeAt_setCells_apart (World.rangeAt_setCells_same ((V.setCells b1 0 ([.int .i64 0, .int .i64 0, .int .i64 0, .int .i64 0, .int .i64 0, .int .i64 0, .int .i64 1, .int .i64 0, .bool false] : List Value)).setCells b2 0 ([.int .i64 0, .int .i64 0, .int .i64 0, .int .i64 0, .int .i64 0, .int .i64 0, .int .i64 2, .int .i64 0, .bool false] : List Value)) b3 0 ([.int .i64 0, .int .i64 0, .int .i64 0, .int .i64 13, .int .i64 0, .int .i64 0, .int .i64 1, .int .i64 0, .bool false] : List Value) (World.there_setCells (World.there_setCells t3 _ _ _) _ _ _)) b4 0 ([.int .i64 0, .int .i64 14, .int .i64 0, .int .i64 0, .int .i64 0, .int .i64 0, .int .i64 1, .int .i64 0, .bool false] : List Value) (.inl (by omega))
  have r4 := World.rangeAt_setCells_same (((V.setCells b1 0 ([.int .i64 0, .int .i64 0, .int .i64 0, .int .i64 0, .int .i64 0, .int .i64 0, .int .i64 1, .int .i64 0, .bool false] : List Value)).setCells b2 0 ([.int .i64 0, .int .i64 0, .int .i64 0, .int .i64 0, .int .i64 0, .int .i64 0, .int .i64 2, .int .i64 0, .bool false] : List Value)).setCells b3 0 ([.int .i64 0, .int .i64 0, .int .i64 0, .int .i64 13, .int .i64 0, .int .i64 0, .int .i64 1, .int .i64 0, .bool false] : List Value)) b4 0 ([.int .i64 0, .int .i64 14, .int .i64 0, .int .i64 0, .int .i64 0, .int .i64 0, .int .i64 1, .int .i64 0, .bool false] : List Value) (World.there_setCells (World.there_setCells (World.there_setCells t4 _ _ _) _ _ _) _ _ _)
  have hT2 := World.there_setCells (World.there_setCells (World.there_setCells (World.there_setCells hT1 b1 0 ([.int .i64 0, .int .i64 0, .int .i64 0, .int .i64 0, .int .i64 0, .int .i64 0, .int .i64 1, .int .i64 0, .bool false] : List Value)) b2 0 ([.int .i64 0, .int .i64 0, .int .i64 0, .int .i64 0, .int .i64 0, .int .i64 0, .int .i64 2, .int .i64 0, .bool false] : List Value)) b3 0 ([.int .i64 0, .int .i64 0, .int .i64 0, .int .i64 13, .int .i64 0, .int .i64 0, .int .i64 1, .int .i64 0, .bool false] : List Value)) b4 0 ([.int .i64 0, .int .i64 14, .int .i64 0, .int .i64 0, .int .i64 0, .int .i64 0, .int .i64 1, .int .i64 0, .bool false] : List Value)
  have hbV : Below w.heap.size w V := hb0.trans (hbW.mono (Nat.le_of_lt hs0))
  have hb4 : Below w.heap.size w ((((V.setCells b1 0 ([.int .i64 0, .int .i64 0, .int .i64 0, .int .i64 0, .int .i64 0, .int .i64 0, .int .i64 1, .int .i64 0, .bool false] : List Value)).setCells b2 0 ([.int .i64 0, .int .i64 0, .int .i64 0, .int .i64 0, .int .i64 0, .int .i64 0, .int .i64 2, .int .i64 0, .bool false] : List Value)).setCells b3 0 ([.int .i64 0, .int .i64 0, .int .i64 0, .int .i64 13, .int .i64 0, .int .i64 0, .int .i64 1, .int .i64 0, .bool false] : List Value)).setCells b4 0 ([.int .i64 0, .int .i64 14, .int .i64 0, .int .i64 0, .int .i64 0, .int .i64 0, .int .i64 1, .int .i64 0, .bool false] : List Value)) := below_cells (by omega) _ _ (below_cells (by omega) _ _ (below_cells (by omega) _ _ (below_cells (by omega) _ _ hbV)))
  have hsz : ((((V.setCells b1 0 ([.int .i64 0, .int .i64 0, .int .i64 0, .int .i64 0, .int .i64 0, .int .i64 0, .int .i64 1, .int .i64 0, .bool false] : List Value)).setCells b2 0 ([.int .i64 0, .int .i64 0, .int .i64 0, .int .i64 0, .int .i64 0, .int .i64 0, .int .i64 2, .int .i64 0, .bool false] : List Value)).setCells b3 0 ([.int .i64 0, .int .i64 0, .int .i64 0, .int .i64 13, .int .i64 0, .int .i64 0, .int .i64 1, .int .i64 0, .bool false] : List Value)).setCells b4 0 ([.int .i64 0, .int .i64 14, .int .i64 0, .int .i64 0, .int .i64 0, .int .i64 0, .int .i64 1, .int .i64 0, .bool false] : List Value)).heap.size = V.heap.size := by simp [World.setCells]
  generalize (((V.setCells b1 0 ([.int .i64 0, .int .i64 0, .int .i64 0, .int .i64 0, .int .i64 0, .int .i64 0, .int .i64 1, .int .i64 0, .bool false] : List Value)).setCells b2 0 ([.int .i64 0, .int .i64 0, .int .i64 0, .int .i64 0, .int .i64 0, .int .i64 0, .int .i64 2, .int .i64 0, .bool false] : List Value)).setCells b3 0 ([.int .i64 0, .int .i64 0, .int .i64 0, .int .i64 13, .int .i64 0, .int .i64 0, .int .i64 1, .int .i64 0, .bool false] : List Value)).setCells b4 0 ([.int .i64 0, .int .i64 14, .int .i64 0, .int .i64 0, .int .i64 0, .int .i64 0, .int .i64 1, .int .i64 0, .bool false] : List Value) = U at *
  have hseen : Seen Tryd.prog (looks b1 b2 b3 b4) e2 U := by
    refine ⟨⟨_, underI, rfl⟩, fun k cs hk => ?_⟩
    simp only [looks] at hk ⊢
    by_cases k1 : k = 1
    · subst k1
      simp only [if_pos] at hk ⊢
      obtain rfl := Option.some.inj hk
      exact ⟨hp1, r1, by omega, insI⟩
    by_cases k2 : k = 2
    · subst k2
      simp only [if_pos, if_neg k1] at hk ⊢
      obtain rfl := Option.some.inj hk
      exact ⟨hp2, r2, by omega, insI⟩
    by_cases k3 : k = 3
    · subst k3
      simp only [if_pos, if_neg k1, if_neg k2] at hk ⊢
      obtain rfl := Option.some.inj hk
      exact ⟨hp3, r3, by omega, insI⟩
    by_cases k4 : k = 4
    · subst k4
      simp only [if_pos, if_neg k1, if_neg k2, if_neg k3] at hk ⊢
      obtain rfl := Option.some.inj hk
      exact ⟨hp4, r4, by omega, insI⟩
    simp only [if_neg k1, if_neg k2, if_neg k3, if_neg k4] at hk
    cases hk
  have hsw : w.heap.size < U.heap.size := by omega
  refine wpList_nil ?_
  refine hK _ _ ?_
  clear hK K
  apply wp_seq_k; intro K hK
  clear r1 r2 r3 r4 t1 t2 t3 t4 hT0 hT1 hbV hbW hb0 hn2 hn3 hn4 hn5 hsz hp1 hp2 hp3 hp4 hc1 hc2 hc3 hc4
  have hE : ∀ t, t < 9 → rowE e2 t = e2 t := fun t ht => by unfold rowE; rw [if_pos ht]
  have hseenE : Seen Tryd.prog (looks b1 b2 b3 b4) (rowE e2) U := ⟨hseen.row, fun k cs hk => by
    obtain ⟨h1, h2⟩ := hseen.all k cs hk
    refine ⟨?_, h2⟩
    rw [hE k (looks_low hk)]
    exact h1⟩
  refine wp_region_fixed (N := 282) (b := 9) (n := 273) (E := rowE e2) (ans := ans) (L := looks b1 b2 b3 b4) (S := fun X => Below U.heap.size U X) (by kernel_rfl) (by kernel_rfl) (by decide)
    (fix_more (fix_of_lists (n := 272) (by as_aux_lemma => kernel_rfl) (by as_aux_lemma => kernel_rfl)) (by as_aux_lemma => kernel_rfl) (by as_aux_lemma => kernel_rfl) (by as_aux_lemma => kernel_rfl)) ?_ (next_of nxtL (by as_aux_lemma => kernel_rfl)) ans_ok (fun X hX => hseenE.below hX) (fun X Y hX hY => hX.trans (hY.mono hX.size)) (fun k cs hk => looks_low hk) hm2.1 (fun t ht => (hm2.2 t).trans (hE t ht).symm) ((Below.refl _ _).drew) ?_
  · intro o ho
    revert ho
    refine back_of ?_
    kernel_rfl
  intro a3 X hsz3 hall hd3 hbX K2 hK2
  have hp : a3.tmps.getD 0 undef = .pointer (some ⟨w.heap.size, 0, none⟩) := (hall 0 (by decide)).trans ((hE 0 (by decide)).trans hp0)
  have hv : a3.tmps.getD 281 undef = .agg tabC.toArray := (hall 281 (by decide)).trans rowE_281
  have hd4 : a3.defers = [] := hd3.trans hd0
  have hT : X.there w.heap.size 0 tabC.toArray.toList.length := by
    have e : tabC.toArray.toList.length = 1428 := tab1428
    rw [e]
    exact fun j hj => by
      have hj' := hT2 j hj
      exact ⟨by rw [hbX.cell (p := ⟨w.heap.size, 0 + j, none⟩) hsw]; exact hj'.1, by rw [hbX.frozen (p := ⟨w.heap.size, 0 + j, none⟩) hsw]; exact hj'.2⟩
  have hbel : Below w.heap.size w X := hb4.trans (hbX.mono (Nat.le_of_lt hsw))
  clear hm2 hseen hseenE hp0 hT2 hb4 hsw hbX hd0 hd3 hall hE
  refine wpOp_step rfl fun K' hK' => ?_
  rw [if_pos (by kernel_rfl)]
  refine wp_store_mid 46 (.tmp 0) (.tmp 281) rfl w.heap.size 0 tabC.toArray hp hv (by simpa using hT) (by rw [infoT]; simp) oneT ?_
  refine hK' _ _ (hK2 _ _ ?_)
  refine hK _ _ ?_
  clear hK hK' hK2 K K2 K'
  apply wp_ret
  have hr := World.rangeAt_setCells_same X w.heap.size 0 tabC.toArray.toList hT
  refine bodyPost_ret (v := .agg tabC.toArray) ?_ hd4 ⟨rfl, ?_⟩
  · have h := results_cell (P := Tryd.prog) (fn := Tryd.f16) (tmps := a3.tmps) 0 46 w.heap.size tabC.toArray.toList _ (by kernel_rfl) hp hr underT rfl (by rw [infoT])
    exact h
  · exact below_cells (Nat.le_refl _) _ _ hbel
end Ys
end Go.Proofs.YtcphhojdfpedkaaDoor
