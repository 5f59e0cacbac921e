/- Contract of fieldsOf: operations 1 to 26, but moves. Contract of fieldsOf. -/
import Derived.Test.YtdcnkmkaafimlaaDoorRows
import Derived.Test.YtdcnkmkaafimlaaDoorIg
import Derived.Test.YtdcnkmkaafimlaaDoorIj

namespace Go.Proofs.YtdcnkmkaafimlaaDoor
open Go.ChangeShapes Go.WideShapes Go.ChangeAt Go.RowKit

theorem fields_1 (cond rd rn rm imm mode list : Int) (s : Bool) (w : World) :
    Calls Tryd.prog 41 #[.agg #[.int .i64 1, .int .i64 cond, .int .i64 rd, .int .i64 rn, .int .i64 rm, .int .i64 imm, .int .i64 mode, .int .i64 list, .bool s]] w fun e w' => e = .returned (.tuple #[FV (Im.fieldsI 1 mode s), .bool true]) ∧ Below w.heap.size w w' := by
  go_enter Tryd.func41, Tryd.ntmps41
  go_wp2
  refine bodyPost_ret (v := .tuple #[FV (Im.fieldsI 1 mode s), .bool true]) (by simp [results, Tryd.f41, go_sem, FV, Im.fieldsI]) rfl ?_
  exact ⟨rfl, two_bel _ _ _⟩
theorem fields_2 (cond rd rn rm imm mode list : Int) (s : Bool) (w : World) :
    Calls Tryd.prog 41 #[.agg #[.int .i64 2, .int .i64 cond, .int .i64 rd, .int .i64 rn, .int .i64 rm, .int .i64 imm, .int .i64 mode, .int .i64 list, .bool s]] w fun e w' => e = .returned (.tuple #[FV (Im.fieldsI 2 mode s), .bool true]) ∧ Below w.heap.size w w' := by
  go_enter Tryd.func41, Tryd.ntmps41
  go_wp2
  refine bodyPost_ret (v := .tuple #[FV (Im.fieldsI 2 mode s), .bool true]) (by simp [results, Tryd.f41, go_sem, FV, Im.fieldsI]) rfl ?_
  exact ⟨rfl, two_bel _ _ _⟩
theorem fields_3 (cond rd rn rm imm mode list : Int) (s : Bool) (w : World) :
    Calls Tryd.prog 41 #[.agg #[.int .i64 3, .int .i64 cond, .int .i64 rd, .int .i64 rn, .int .i64 rm, .int .i64 imm, .int .i64 mode, .int .i64 list, .bool s]] w fun e w' => e = .returned (.tuple #[FV (Im.fieldsI 3 mode s), .bool true]) ∧ Below w.heap.size w w' := by
  go_enter Tryd.func41, Tryd.ntmps41
  go_wp2
  refine bodyPost_ret (v := .tuple #[FV (Im.fieldsI 3 mode s), .bool true]) (by simp [results, Tryd.f41, go_sem, FV, Im.fieldsI]) rfl ?_
  exact ⟨rfl, two_bel _ _ _⟩
theorem fields_4 (cond rd rn rm imm mode list : Int) (s : Bool) (w : World) :
    Calls Tryd.prog 41 #[.agg #[.int .i64 4, .int .i64 cond, .int .i64 rd, .int .i64 rn, .int .i64 rm, .int .i64 imm, .int .i64 mode, .int .i64 list, .bool s]] w fun e w' => e = .returned (.tuple #[FV (Im.fieldsI 4 mode s), .bool true]) ∧ Below w.heap.size w w' := by
  go_enter Tryd.func41, Tryd.ntmps41
  go_wp2
  refine bodyPost_ret (v := .tuple #[FV (Im.fieldsI 4 mode s), .bool true]) (by simp [results, Tryd.f41, go_sem, FV, Im.fieldsI]) rfl ?_
  exact ⟨rfl, two_bel _ _ _⟩
theorem fields_5 (cond rd rn rm imm mode list : Int) (s : Bool) (w : World) :
    Calls Tryd.prog 41 #[.agg #[.int .i64 5, .int .i64 cond, .int .i64 rd, .int .i64 rn, .int .i64 rm, .int .i64 imm, .int .i64 mode, .int .i64 list, .bool s]] w fun e w' => e = .returned (.tuple #[FV (Im.fieldsI 5 mode s), .bool true]) ∧ Below w.heap.size w w' := by
  go_enter Tryd.func41, Tryd.ntmps41
  go_wp2
  refine bodyPost_ret (v := .tuple #[FV (Im.fieldsI 5 mode s), .bool true]) (by simp [results, Tryd.f41, go_sem, FV, Im.fieldsI]) rfl ?_
  exact ⟨rfl, two_bel _ _ _⟩
theorem fields_6 (cond rd rn rm imm mode list : Int) (s : Bool) (w : World) :
    Calls Tryd.prog 41 #[.agg #[.int .i64 6, .int .i64 cond, .int .i64 rd, .int .i64 rn, .int .i64 rm, .int .i64 imm, .int .i64 mode, .int .i64 list, .bool s]] w fun e w' => e = .returned (.tuple #[FV (Im.fieldsI 6 mode s), .bool true]) ∧ Below w.heap.size w w' := by
  go_enter Tryd.func41, Tryd.ntmps41
  go_wp2
  refine bodyPost_ret (v := .tuple #[FV (Im.fieldsI 6 mode s), .bool true]) (by simp [results, Tryd.f41, go_sem, FV, Im.fieldsI]) rfl ?_
  exact ⟨rfl, two_bel _ _ _⟩
theorem fields_7 (cond rd rn rm imm mode list : Int) (s : Bool) (w : World) :
    Calls Tryd.prog 41 #[.agg #[.int .i64 7, .int .i64 cond, .int .i64 rd, .int .i64 rn, .int .i64 rm, .int .i64 imm, .int .i64 mode, .int .i64 list, .bool s]] w fun e w' => e = .returned (.tuple #[FV (Im.fieldsI 7 mode s), .bool true]) ∧ Below w.heap.size w w' := by
  go_enter Tryd.func41, Tryd.ntmps41
  go_wp2
  refine bodyPost_ret (v := .tuple #[FV (Im.fieldsI 7 mode s), .bool true]) (by simp [results, Tryd.f41, go_sem, FV, Im.fieldsI]) rfl ?_
  exact ⟨rfl, two_bel _ _ _⟩
theorem fields_8 (cond rd rn rm imm mode list : Int) (s : Bool) (w : World) :
    Calls Tryd.prog 41 #[.agg #[.int .i64 8, .int .i64 cond, .int .i64 rd, .int .i64 rn, .int .i64 rm, .int .i64 imm, .int .i64 mode, .int .i64 list, .bool s]] w fun e w' => e = .returned (.tuple #[FV (Im.fieldsI 8 mode s), .bool true]) ∧ Below w.heap.size w w' := by
  go_enter Tryd.func41, Tryd.ntmps41
  go_wp2
  refine bodyPost_ret (v := .tuple #[FV (Im.fieldsI 8 mode s), .bool true]) (by simp [results, Tryd.f41, go_sem, FV, Im.fieldsI]) rfl ?_
  exact ⟨rfl, two_bel _ _ _⟩
theorem fields_9 (cond rd rn rm imm mode list : Int) (s : Bool) (w : World) :
    Calls Tryd.prog 41 #[.agg #[.int .i64 9, .int .i64 cond, .int .i64 rd, .int .i64 rn, .int .i64 rm, .int .i64 imm, .int .i64 mode, .int .i64 list, .bool s]] w fun e w' => e = .returned (.tuple #[FV (Im.fieldsI 9 mode s), .bool true]) ∧ Below w.heap.size w w' := by
  go_enter Tryd.func41, Tryd.ntmps41
  go_wp2
  refine bodyPost_ret (v := .tuple #[FV (Im.fieldsI 9 mode s), .bool true]) (by simp [results, Tryd.f41, go_sem, FV, Im.fieldsI]) rfl ?_
  exact ⟨rfl, two_bel _ _ _⟩
theorem fields_12 (cond rd rn rm imm mode list : Int) (s : Bool) (w : World) :
    Calls Tryd.prog 41 #[.agg #[.int .i64 12, .int .i64 cond, .int .i64 rd, .int .i64 rn, .int .i64 rm, .int .i64 imm, .int .i64 mode, .int .i64 list, .bool s]] w fun e w' => e = .returned (.tuple #[FV (Im.fieldsI 12 mode s), .bool true]) ∧ Below w.heap.size w w' := by
  go_enter Tryd.func41, Tryd.ntmps41
  go_wp2
  refine bodyPost_ret (v := .tuple #[FV (Im.fieldsI 12 mode s), .bool true]) (by simp [results, Tryd.f41, go_sem, FV, Im.fieldsI]) rfl ?_
  exact ⟨rfl, two_bel _ _ _⟩
theorem fields_13 (cond rd rn rm imm mode list : Int) (s : Bool) (w : World) :
    Calls Tryd.prog 41 #[.agg #[.int .i64 13, .int .i64 cond, .int .i64 rd, .int .i64 rn, .int .i64 rm, .int .i64 imm, .int .i64 mode, .int .i64 list, .bool s]] w fun e w' => e = .returned (.tuple #[FV (Im.fieldsI 13 mode s), .bool true]) ∧ Below w.heap.size w w' := by
  go_enter Tryd.func41, Tryd.ntmps41
  go_wp2
  refine bodyPost_ret (v := .tuple #[FV (Im.fieldsI 13 mode s), .bool true]) (by simp [results, Tryd.f41, go_sem, FV, Im.fieldsI]) rfl ?_
  exact ⟨rfl, two_bel _ _ _⟩
theorem fields_14 (cond rd rn rm imm mode list : Int) (s : Bool) (w : World) :
    Calls Tryd.prog 41 #[.agg #[.int .i64 14, .int .i64 cond, .int .i64 rd, .int .i64 rn, .int .i64 rm, .int .i64 imm, .int .i64 mode, .int .i64 list, .bool s]] w fun e w' => e = .returned (.tuple #[FV (Im.fieldsI 14 mode s), .bool true]) ∧ Below w.heap.size w w' := by
  go_enter Tryd.func41, Tryd.ntmps41
  go_wp2
  refine bodyPost_ret (v := .tuple #[FV (Im.fieldsI 14 mode s), .bool true]) (by simp [results, Tryd.f41, go_sem, FV, Im.fieldsI]) rfl ?_
  exact ⟨rfl, two_bel _ _ _⟩
theorem fields_15 (cond rd rn rm imm mode list : Int) (s : Bool) (w : World) :
    Calls Tryd.prog 41 #[.agg #[.int .i64 15, .int .i64 cond, .int .i64 rd, .int .i64 rn, .int .i64 rm, .int .i64 imm, .int .i64 mode, .int .i64 list, .bool s]] w fun e w' => e = .returned (.tuple #[FV (Im.fieldsI 15 mode s), .bool true]) ∧ Below w.heap.size w w' := by
  go_enter Tryd.func41, Tryd.ntmps41
  go_wp2
  refine bodyPost_ret (v := .tuple #[FV (Im.fieldsI 15 mode s), .bool true]) (by simp [results, Tryd.f41, go_sem, FV, Im.fieldsI]) rfl ?_
  exact ⟨rfl, two_bel _ _ _⟩
theorem fields_16 (cond rd rn rm imm mode list : Int) (s : Bool) (w : World) :
    Calls Tryd.prog 41 #[.agg #[.int .i64 16, .int .i64 cond, .int .i64 rd, .int .i64 rn, .int .i64 rm, .int .i64 imm, .int .i64 mode, .int .i64 list, .bool s]] w fun e w' => e = .returned (.tuple #[FV (Im.fieldsI 16 mode s), .bool true]) ∧ Below w.heap.size w w' := by
  go_enter Tryd.func41, Tryd.ntmps41
  go_wp2
  refine bodyPost_ret (v := .tuple #[FV (Im.fieldsI 16 mode s), .bool true]) (by simp [results, Tryd.f41, go_sem, FV, Im.fieldsI]) rfl ?_
  exact ⟨rfl, two_bel _ _ _⟩
theorem fields_17 (cond rd rn rm imm mode list : Int) (s : Bool) (w : World) :
    Calls Tryd.prog 41 #[.agg #[.int .i64 17, .int .i64 cond, .int .i64 rd, .int .i64 rn, .int .i64 rm, .int .i64 imm, .int .i64 mode, .int .i64 list, .bool s]] w fun e w' => e = .returned (.tuple #[FV (Im.fieldsI 17 mode s), .bool true]) ∧ Below w.heap.size w w' := by
  go_enter Tryd.func41, Tryd.ntmps41
  go_wp2
  refine bodyPost_ret (v := .tuple #[FV (Im.fieldsI 17 mode s), .bool true]) (by simp [results, Tryd.f41, go_sem, FV, Im.fieldsI]) rfl ?_
  exact ⟨rfl, two_bel _ _ _⟩
theorem fields_18 (cond rd rn rm imm mode list : Int) (s : Bool) (w : World) :
    Calls Tryd.prog 41 #[.agg #[.int .i64 18, .int .i64 cond, .int .i64 rd, .int .i64 rn, .int .i64 rm, .int .i64 imm, .int .i64 mode, .int .i64 list, .bool s]] w fun e w' => e = .returned (.tuple #[FV (Im.fieldsI 18 mode s), .bool true]) ∧ Below w.heap.size w w' := by
  go_enter Tryd.func41, Tryd.ntmps41
  go_wp2
  refine bodyPost_ret (v := .tuple #[FV (Im.fieldsI 18 mode s), .bool true]) (by simp [results, Tryd.f41, go_sem, FV, Im.fieldsI]) rfl ?_
  exact ⟨rfl, two_bel _ _ _⟩
theorem fields_19 (cond rd rn rm imm mode list : Int) (s : Bool) (w : World) :
    Calls Tryd.prog 41 #[.agg #[.int .i64 19, .int .i64 cond, .int .i64 rd, .int .i64 rn, .int .i64 rm, .int .i64 imm, .int .i64 mode, .int .i64 list, .bool s]] w fun e w' => e = .returned (.tuple #[FV (Im.fieldsI 19 mode s), .bool true]) ∧ Below w.heap.size w w' := by
  go_enter Tryd.func41, Tryd.ntmps41
  go_wp2
  refine bodyPost_ret (v := .tuple #[FV (Im.fieldsI 19 mode s), .bool true]) (by simp [results, Tryd.f41, go_sem, FV, Im.fieldsI]) rfl ?_
  exact ⟨rfl, two_bel _ _ _⟩
theorem fields_20 (cond rd rn rm imm mode list : Int) (s : Bool) (w : World) :
    Calls Tryd.prog 41 #[.agg #[.int .i64 20, .int .i64 cond, .int .i64 rd, .int .i64 rn, .int .i64 rm, .int .i64 imm, .int .i64 mode, .int .i64 list, .bool s]] w fun e w' => e = .returned (.tuple #[FV (Im.fieldsI 20 mode s), .bool true]) ∧ Below w.heap.size w w' := by
  go_enter Tryd.func41, Tryd.ntmps41
  go_wp2
  refine bodyPost_ret (v := .tuple #[FV (Im.fieldsI 20 mode s), .bool true]) (by simp [results, Tryd.f41, go_sem, FV, Im.fieldsI]) rfl ?_
  exact ⟨rfl, two_bel _ _ _⟩
theorem fields_21 (cond rd rn rm imm mode list : Int) (s : Bool) (w : World) :
    Calls Tryd.prog 41 #[.agg #[.int .i64 21, .int .i64 cond, .int .i64 rd, .int .i64 rn, .int .i64 rm, .int .i64 imm, .int .i64 mode, .int .i64 list, .bool s]] w fun e w' => e = .returned (.tuple #[FV (Im.fieldsI 21 mode s), .bool true]) ∧ Below w.heap.size w w' := by
  go_enter Tryd.func41, Tryd.ntmps41
  go_wp2
  refine bodyPost_ret (v := .tuple #[FV (Im.fieldsI 21 mode s), .bool true]) (by simp [results, Tryd.f41, go_sem, FV, Im.fieldsI]) rfl ?_
  exact ⟨rfl, two_bel _ _ _⟩
theorem fields_22 (cond rd rn rm imm mode list : Int) (s : Bool) (w : World) :
    Calls Tryd.prog 41 #[.agg #[.int .i64 22, .int .i64 cond, .int .i64 rd, .int .i64 rn, .int .i64 rm, .int .i64 imm, .int .i64 mode, .int .i64 list, .bool s]] w fun e w' => e = .returned (.tuple #[FV (Im.fieldsI 22 mode s), .bool true]) ∧ Below w.heap.size w w' := by
  go_enter Tryd.func41, Tryd.ntmps41
  go_wp2
  refine bodyPost_ret (v := .tuple #[FV (Im.fieldsI 22 mode s), .bool true]) (by simp [results, Tryd.f41, go_sem, FV, Im.fieldsI]) rfl ?_
  exact ⟨rfl, two_bel _ _ _⟩
theorem fields_23 (cond rd rn rm imm mode list : Int) (s : Bool) (w : World) :
    Calls Tryd.prog 41 #[.agg #[.int .i64 23, .int .i64 cond, .int .i64 rd, .int .i64 rn, .int .i64 rm, .int .i64 imm, .int .i64 mode, .int .i64 list, .bool s]] w fun e w' => e = .returned (.tuple #[FV (Im.fieldsI 23 mode s), .bool true]) ∧ Below w.heap.size w w' := by
  go_enter Tryd.func41, Tryd.ntmps41
  go_wp2
  refine bodyPost_ret (v := .tuple #[FV (Im.fieldsI 23 mode s), .bool true]) (by simp [results, Tryd.f41, go_sem, FV, Im.fieldsI]) rfl ?_
  exact ⟨rfl, two_bel _ _ _⟩
theorem fields_24 (cond rd rn rm imm mode list : Int) (s : Bool) (w : World) :
    Calls Tryd.prog 41 #[.agg #[.int .i64 24, .int .i64 cond, .int .i64 rd, .int .i64 rn, .int .i64 rm, .int .i64 imm, .int .i64 mode, .int .i64 list, .bool s]] w fun e w' => e = .returned (.tuple #[FV (Im.fieldsI 24 mode s), .bool true]) ∧ Below w.heap.size w w' := by
  go_enter Tryd.func41, Tryd.ntmps41
  go_wp2
  refine bodyPost_ret (v := .tuple #[FV (Im.fieldsI 24 mode s), .bool true]) (by simp [results, Tryd.f41, go_sem, FV, Im.fieldsI]) rfl ?_
  exact ⟨rfl, two_bel _ _ _⟩
theorem fields_25 (cond rd rn rm imm mode list : Int) (s : Bool) (w : World) :
    Calls Tryd.prog 41 #[.agg #[.int .i64 25, .int .i64 cond, .int .i64 rd, .int .i64 rn, .int .i64 rm, .int .i64 imm, .int .i64 mode, .int .i64 list, .bool s]] w fun e w' => e = .returned (.tuple #[FV (Im.fieldsI 25 mode s), .bool true]) ∧ Below w.heap.size w w' := by
  go_enter Tryd.func41, Tryd.ntmps41
  go_wp2
  refine bodyPost_ret (v := .tuple #[FV (Im.fieldsI 25 mode s), .bool true]) (by simp [results, Tryd.f41, go_sem, FV, Im.fieldsI]) rfl ?_
  exact ⟨rfl, two_bel _ _ _⟩
theorem fields_26 (cond rd rn rm imm mode list : Int) (s : Bool) (w : World) :
    Calls Tryd.prog 41 #[.agg #[.int .i64 26, .int .i64 cond, .int .i64 rd, .int .i64 rn, .int .i64 rm, .int .i64 imm, .int .i64 mode, .int .i64 list, .bool s]] w fun e w' => e = .returned (.tuple #[FV (Im.fieldsI 26 mode s), .bool true]) ∧ Below w.heap.size w w' := by
  go_enter Tryd.func41, Tryd.ntmps41
  go_wp2
  refine bodyPost_ret (v := .tuple #[FV (Im.fieldsI 26 mode s), .bool true]) (by simp [results, Tryd.f41, go_sem, FV, Im.fieldsI]) rfl ?_
  exact ⟨rfl, two_bel _ _ _⟩
end Go.Proofs.YtdcnkmkaafimlaaDoor

namespace Go.Proofs.YtdcnkmkaafimlaaDoor
open Go.ChangeShapes Go.WideShapes Go.ChangeAt Go.RowKit

theorem fields_c (op cond rd rn rm imm mode list : Int) (s : Bool) (w : World) (h : 1 ≤ op ∧ op ≤ 45) :
    Calls Tryd.prog 41 #[.agg #[.int .i64 op, .int .i64 cond, .int .i64 rd, .int .i64 rn, .int .i64 rm, .int .i64 imm, .int .i64 mode, .int .i64 list, .bool s]] w fun e w' => e = .returned (.tuple #[FV (Im.fieldsI op mode s), .bool true]) ∧ Below w.heap.size w w' := by
  rcases (by omega : op = 1 ∨ op = 2 ∨ op = 3 ∨ op = 4 ∨ op = 5 ∨ op = 6 ∨ op = 7 ∨ op = 8 ∨ op = 9 ∨ op = 10 ∨ op = 11 ∨ op = 12 ∨ op = 13 ∨ op = 14 ∨ op = 15 ∨ op = 16 ∨ op = 17 ∨ op = 18 ∨ op = 19 ∨ op = 20 ∨ op = 21 ∨ op = 22 ∨ op = 23 ∨ op = 24 ∨ op = 25 ∨ op = 26 ∨ op = 27 ∨ op = 28 ∨ op = 29 ∨ op = 30 ∨ op = 31 ∨ op = 32 ∨ op = 33 ∨ op = 34 ∨ op = 35 ∨ op = 36 ∨ op = 37 ∨ op = 38 ∨ op = 39 ∨ op = 40 ∨ op = 41 ∨ op = 42 ∨ op = 43 ∨ op = 44 ∨ op = 45) with rfl | rfl | rfl | rfl | rfl | rfl | rfl | rfl | rfl | rfl | rfl | rfl | rfl | rfl | rfl | rfl | rfl | rfl | rfl | rfl | rfl | rfl | rfl | rfl | rfl | rfl | rfl | rfl | rfl | rfl | rfl | rfl | rfl | rfl | rfl | rfl | rfl | rfl | rfl | rfl | rfl | rfl | rfl | rfl | rfl
  · exact fields_1 _ _ _ _ _ _ _ _ _
  · exact fields_2 _ _ _ _ _ _ _ _ _
  · exact fields_3 _ _ _ _ _ _ _ _ _
  · exact fields_4 _ _ _ _ _ _ _ _ _
  · exact fields_5 _ _ _ _ _ _ _ _ _
  · exact fields_6 _ _ _ _ _ _ _ _ _
  · exact fields_7 _ _ _ _ _ _ _ _ _
  · exact fields_8 _ _ _ _ _ _ _ _ _
  · exact fields_9 _ _ _ _ _ _ _ _ _
  · exact fields_mv10 _ _ _ _ _ _ _ _ _ _ _ _ _ _ _ _ _ rfl
  · exact fields_mv11 _ _ _ _ _ _ _ _ _ _ _ _ _ _ _ _ _ rfl
  · exact fields_12 _ _ _ _ _ _ _ _ _
  · exact fields_13 _ _ _ _ _ _ _ _ _
  · exact fields_14 _ _ _ _ _ _ _ _ _
  · exact fields_15 _ _ _ _ _ _ _ _ _
  · exact fields_16 _ _ _ _ _ _ _ _ _
  · exact fields_17 _ _ _ _ _ _ _ _ _
  · exact fields_18 _ _ _ _ _ _ _ _ _
  · exact fields_19 _ _ _ _ _ _ _ _ _
  · exact fields_20 _ _ _ _ _ _ _ _ _
  · exact fields_21 _ _ _ _ _ _ _ _ _
  · exact fields_22 _ _ _ _ _ _ _ _ _
  · exact fields_23 _ _ _ _ _ _ _ _ _
  · exact fields_24 _ _ _ _ _ _ _ _ _
  · exact fields_25 _ _ _ _ _ _ _ _ _
  · exact fields_26 _ _ _ _ _ _ _ _ _
  · exact fields_27 _ _ _ _ _ _ _ _ _
  · exact fields_28 _ _ _ _ _ _ _ _ _
  · exact fields_29 _ _ _ _ _ _ _ _ _
  · exact fields_30 _ _ _ _ _ _ _ _ _
  · exact fields_31 _ _ _ _ _ _ _ _ _
  · exact fields_32 _ _ _ _ _ _ _ _ _
  · exact fields_33 _ _ _ _ _ _ _ _ _
  · exact fields_34 _ _ _ _ _ _ _ _ _
  · exact fields_35 _ _ _ _ _ _ _ _ _
  · exact fields_36 _ _ _ _ _ _ _ _ _
  · exact fields_37 _ _ _ _ _ _ _ _ _
  · exact fields_38 _ _ _ _ _ _ _ _ _
  · exact fields_39 _ _ _ _ _ _ _ _ _
  · exact fields_40 _ _ _ _ _ _ _ _ _
  · exact fields_41 _ _ _ _ _ _ _ _ _
  · exact fields_42 _ _ _ _ _ _ _ _ _
  · exact fields_43 _ _ _ _ _ _ _ _ _
  · exact fields_44 _ _ _ _ _ _ _ _ _
  · exact fields_45 _ _ _ _ _ _ _ _ _
end Go.Proofs.YtdcnkmkaafimlaaDoor
