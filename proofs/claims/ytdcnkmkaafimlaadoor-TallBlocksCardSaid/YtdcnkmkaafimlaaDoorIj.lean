/- Contract of fieldsOf: operations 27 to 45. -/
import Derived.Test.YtdcnkmkaafimlaaDoorRows
import Derived.Test.YtdcnkmkaafimlaaDoorIg
namespace Go.Proofs.YtdcnkmkaafimlaaDoor
open Go.ChangeShapes Go.WideShapes Go.ChangeAt Go.RowKit

theorem fields_27 (cond rd rn rm imm mode list : Int) (s : Bool) (w : World) :
    Calls Tryd.prog 41 #[.agg #[.int .i64 27, .int .i64 cond, .int .i64 rd, .int .i64 rn, .int .i64 rm, .int .i64 imm, .int .i64 mode, .int .i64 list, .bool s]] w fun e w' => e = .returned (.tuple #[FV (Im.fieldsI 27 mode s), .bool true]) ∧ Below w.heap.size w w' := by
  go_enter Tryd.func41, Tryd.ntmps41
  go_wp2
  refine bodyPost_ret (v := .tuple #[FV (Im.fieldsI 27 mode s), .bool true]) (by simp [results, Tryd.f41, go_sem, FV, Im.fieldsI]) rfl ?_
  exact ⟨rfl, two_bel _ _ _⟩
theorem fields_28 (cond rd rn rm imm mode list : Int) (s : Bool) (w : World) :
    Calls Tryd.prog 41 #[.agg #[.int .i64 28, .int .i64 cond, .int .i64 rd, .int .i64 rn, .int .i64 rm, .int .i64 imm, .int .i64 mode, .int .i64 list, .bool s]] w fun e w' => e = .returned (.tuple #[FV (Im.fieldsI 28 mode s), .bool true]) ∧ Below w.heap.size w w' := by
  go_enter Tryd.func41, Tryd.ntmps41
  go_wp2
  refine bodyPost_ret (v := .tuple #[FV (Im.fieldsI 28 mode s), .bool true]) (by simp [results, Tryd.f41, go_sem, FV, Im.fieldsI]) rfl ?_
  exact ⟨rfl, two_bel _ _ _⟩
theorem fields_29 (cond rd rn rm imm mode list : Int) (s : Bool) (w : World) :
    Calls Tryd.prog 41 #[.agg #[.int .i64 29, .int .i64 cond, .int .i64 rd, .int .i64 rn, .int .i64 rm, .int .i64 imm, .int .i64 mode, .int .i64 list, .bool s]] w fun e w' => e = .returned (.tuple #[FV (Im.fieldsI 29 mode s), .bool true]) ∧ Below w.heap.size w w' := by
  go_enter Tryd.func41, Tryd.ntmps41
  go_wp2
  refine bodyPost_ret (v := .tuple #[FV (Im.fieldsI 29 mode s), .bool true]) (by simp [results, Tryd.f41, go_sem, FV, Im.fieldsI]) rfl ?_
  exact ⟨rfl, two_bel _ _ _⟩
theorem fields_30 (cond rd rn rm imm mode list : Int) (s : Bool) (w : World) :
    Calls Tryd.prog 41 #[.agg #[.int .i64 30, .int .i64 cond, .int .i64 rd, .int .i64 rn, .int .i64 rm, .int .i64 imm, .int .i64 mode, .int .i64 list, .bool s]] w fun e w' => e = .returned (.tuple #[FV (Im.fieldsI 30 mode s), .bool true]) ∧ Below w.heap.size w w' := by
  go_enter Tryd.func41, Tryd.ntmps41
  go_wp2
  refine bodyPost_ret (v := .tuple #[FV (Im.fieldsI 30 mode s), .bool true]) (by simp [results, Tryd.f41, go_sem, FV, Im.fieldsI]) rfl ?_
  exact ⟨rfl, two_bel _ _ _⟩
theorem fields_31 (cond rd rn rm imm mode list : Int) (s : Bool) (w : World) :
    Calls Tryd.prog 41 #[.agg #[.int .i64 31, .int .i64 cond, .int .i64 rd, .int .i64 rn, .int .i64 rm, .int .i64 imm, .int .i64 mode, .int .i64 list, .bool s]] w fun e w' => e = .returned (.tuple #[FV (Im.fieldsI 31 mode s), .bool true]) ∧ Below w.heap.size w w' := by
  go_enter Tryd.func41, Tryd.ntmps41
  go_wp2
  refine bodyPost_ret (v := .tuple #[FV (Im.fieldsI 31 mode s), .bool true]) (by simp [results, Tryd.f41, go_sem, FV, Im.fieldsI]) rfl ?_
  exact ⟨rfl, two_bel _ _ _⟩
theorem fields_32 (cond rd rn rm imm mode list : Int) (s : Bool) (w : World) :
    Calls Tryd.prog 41 #[.agg #[.int .i64 32, .int .i64 cond, .int .i64 rd, .int .i64 rn, .int .i64 rm, .int .i64 imm, .int .i64 mode, .int .i64 list, .bool s]] w fun e w' => e = .returned (.tuple #[FV (Im.fieldsI 32 mode s), .bool true]) ∧ Below w.heap.size w w' := by
  go_enter Tryd.func41, Tryd.ntmps41
  go_wp2
  refine bodyPost_ret (v := .tuple #[FV (Im.fieldsI 32 mode s), .bool true]) (by simp [results, Tryd.f41, go_sem, FV, Im.fieldsI]) rfl ?_
  exact ⟨rfl, two_bel _ _ _⟩
theorem fields_33 (cond rd rn rm imm mode list : Int) (s : Bool) (w : World) :
    Calls Tryd.prog 41 #[.agg #[.int .i64 33, .int .i64 cond, .int .i64 rd, .int .i64 rn, .int .i64 rm, .int .i64 imm, .int .i64 mode, .int .i64 list, .bool s]] w fun e w' => e = .returned (.tuple #[FV (Im.fieldsI 33 mode s), .bool true]) ∧ Below w.heap.size w w' := by
  go_enter Tryd.func41, Tryd.ntmps41
  go_wp2
  refine bodyPost_ret (v := .tuple #[FV (Im.fieldsI 33 mode s), .bool true]) (by simp [results, Tryd.f41, go_sem, FV, Im.fieldsI]) rfl ?_
  exact ⟨rfl, two_bel _ _ _⟩
theorem fields_34 (cond rd rn rm imm mode list : Int) (s : Bool) (w : World) :
    Calls Tryd.prog 41 #[.agg #[.int .i64 34, .int .i64 cond, .int .i64 rd, .int .i64 rn, .int .i64 rm, .int .i64 imm, .int .i64 mode, .int .i64 list, .bool s]] w fun e w' => e = .returned (.tuple #[FV (Im.fieldsI 34 mode s), .bool true]) ∧ Below w.heap.size w w' := by
  go_enter Tryd.func41, Tryd.ntmps41
  go_wp2
  refine bodyPost_ret (v := .tuple #[FV (Im.fieldsI 34 mode s), .bool true]) (by simp [results, Tryd.f41, go_sem, FV, Im.fieldsI]) rfl ?_
  exact ⟨rfl, two_bel _ _ _⟩
theorem fields_35 (cond rd rn rm imm mode list : Int) (s : Bool) (w : World) :
    Calls Tryd.prog 41 #[.agg #[.int .i64 35, .int .i64 cond, .int .i64 rd, .int .i64 rn, .int .i64 rm, .int .i64 imm, .int .i64 mode, .int .i64 list, .bool s]] w fun e w' => e = .returned (.tuple #[FV (Im.fieldsI 35 mode s), .bool true]) ∧ Below w.heap.size w w' := by
  go_enter Tryd.func41, Tryd.ntmps41
  go_wp2
  refine bodyPost_ret (v := .tuple #[FV (Im.fieldsI 35 mode s), .bool true]) (by simp [results, Tryd.f41, go_sem, FV, Im.fieldsI]) rfl ?_
  exact ⟨rfl, two_bel _ _ _⟩
theorem fields_36 (cond rd rn rm imm mode list : Int) (s : Bool) (w : World) :
    Calls Tryd.prog 41 #[.agg #[.int .i64 36, .int .i64 cond, .int .i64 rd, .int .i64 rn, .int .i64 rm, .int .i64 imm, .int .i64 mode, .int .i64 list, .bool s]] w fun e w' => e = .returned (.tuple #[FV (Im.fieldsI 36 mode s), .bool true]) ∧ Below w.heap.size w w' := by
  go_enter Tryd.func41, Tryd.ntmps41
  go_wp2
  refine bodyPost_ret (v := .tuple #[FV (Im.fieldsI 36 mode s), .bool true]) (by simp [results, Tryd.f41, go_sem, FV, Im.fieldsI]) rfl ?_
  exact ⟨rfl, two_bel _ _ _⟩
theorem fields_37 (cond rd rn rm imm mode list : Int) (s : Bool) (w : World) :
    Calls Tryd.prog 41 #[.agg #[.int .i64 37, .int .i64 cond, .int .i64 rd, .int .i64 rn, .int .i64 rm, .int .i64 imm, .int .i64 mode, .int .i64 list, .bool s]] w fun e w' => e = .returned (.tuple #[FV (Im.fieldsI 37 mode s), .bool true]) ∧ Below w.heap.size w w' := by
  go_enter Tryd.func41, Tryd.ntmps41
  go_wp2
  refine bodyPost_ret (v := .tuple #[FV (Im.fieldsI 37 mode s), .bool true]) (by simp [results, Tryd.f41, go_sem, FV, Im.fieldsI]) rfl ?_
  exact ⟨rfl, two_bel _ _ _⟩
theorem fields_38 (cond rd rn rm imm mode list : Int) (s : Bool) (w : World) :
    Calls Tryd.prog 41 #[.agg #[.int .i64 38, .int .i64 cond, .int .i64 rd, .int .i64 rn, .int .i64 rm, .int .i64 imm, .int .i64 mode, .int .i64 list, .bool s]] w fun e w' => e = .returned (.tuple #[FV (Im.fieldsI 38 mode s), .bool true]) ∧ Below w.heap.size w w' := by
  go_enter Tryd.func41, Tryd.ntmps41
  go_wp2
  refine bodyPost_ret (v := .tuple #[FV (Im.fieldsI 38 mode s), .bool true]) (by simp [results, Tryd.f41, go_sem, FV, Im.fieldsI]) rfl ?_
  exact ⟨rfl, two_bel _ _ _⟩
theorem fields_39 (cond rd rn rm imm mode list : Int) (s : Bool) (w : World) :
    Calls Tryd.prog 41 #[.agg #[.int .i64 39, .int .i64 cond, .int .i64 rd, .int .i64 rn, .int .i64 rm, .int .i64 imm, .int .i64 mode, .int .i64 list, .bool s]] w fun e w' => e = .returned (.tuple #[FV (Im.fieldsI 39 mode s), .bool true]) ∧ Below w.heap.size w w' := by
  go_enter Tryd.func41, Tryd.ntmps41
  go_wp2
  refine bodyPost_ret (v := .tuple #[FV (Im.fieldsI 39 mode s), .bool true]) (by simp [results, Tryd.f41, go_sem, FV, Im.fieldsI]) rfl ?_
  exact ⟨rfl, two_bel _ _ _⟩
theorem fields_40 (cond rd rn rm imm mode list : Int) (s : Bool) (w : World) :
    Calls Tryd.prog 41 #[.agg #[.int .i64 40, .int .i64 cond, .int .i64 rd, .int .i64 rn, .int .i64 rm, .int .i64 imm, .int .i64 mode, .int .i64 list, .bool s]] w fun e w' => e = .returned (.tuple #[FV (Im.fieldsI 40 mode s), .bool true]) ∧ Below w.heap.size w w' := by
  go_enter Tryd.func41, Tryd.ntmps41
  go_wp2
  refine bodyPost_ret (v := .tuple #[FV (Im.fieldsI 40 mode s), .bool true]) (by simp [results, Tryd.f41, go_sem, FV, Im.fieldsI]) rfl ?_
  exact ⟨rfl, two_bel _ _ _⟩
theorem fields_41 (cond rd rn rm imm mode list : Int) (s : Bool) (w : World) :
    Calls Tryd.prog 41 #[.agg #[.int .i64 41, .int .i64 cond, .int .i64 rd, .int .i64 rn, .int .i64 rm, .int .i64 imm, .int .i64 mode, .int .i64 list, .bool s]] w fun e w' => e = .returned (.tuple #[FV (Im.fieldsI 41 mode s), .bool true]) ∧ Below w.heap.size w w' := by
  go_enter Tryd.func41, Tryd.ntmps41
  go_wp2
  refine bodyPost_ret (v := .tuple #[FV (Im.fieldsI 41 mode s), .bool true]) (by simp [results, Tryd.f41, go_sem, FV, Im.fieldsI]) rfl ?_
  exact ⟨rfl, two_bel _ _ _⟩
theorem fields_42 (cond rd rn rm imm mode list : Int) (s : Bool) (w : World) :
    Calls Tryd.prog 41 #[.agg #[.int .i64 42, .int .i64 cond, .int .i64 rd, .int .i64 rn, .int .i64 rm, .int .i64 imm, .int .i64 mode, .int .i64 list, .bool s]] w fun e w' => e = .returned (.tuple #[FV (Im.fieldsI 42 mode s), .bool true]) ∧ Below w.heap.size w w' := by
  go_enter Tryd.func41, Tryd.ntmps41
  go_wp2
  refine bodyPost_ret (v := .tuple #[FV (Im.fieldsI 42 mode s), .bool true]) (by simp [results, Tryd.f41, go_sem, FV, Im.fieldsI]) rfl ?_
  exact ⟨rfl, two_bel _ _ _⟩
theorem fields_43 (cond rd rn rm imm mode list : Int) (s : Bool) (w : World) :
    Calls Tryd.prog 41 #[.agg #[.int .i64 43, .int .i64 cond, .int .i64 rd, .int .i64 rn, .int .i64 rm, .int .i64 imm, .int .i64 mode, .int .i64 list, .bool s]] w fun e w' => e = .returned (.tuple #[FV (Im.fieldsI 43 mode s), .bool true]) ∧ Below w.heap.size w w' := by
  go_enter Tryd.func41, Tryd.ntmps41
  go_wp2
  refine bodyPost_ret (v := .tuple #[FV (Im.fieldsI 43 mode s), .bool true]) (by simp [results, Tryd.f41, go_sem, FV, Im.fieldsI]) rfl ?_
  exact ⟨rfl, two_bel _ _ _⟩
theorem fields_44 (cond rd rn rm imm mode list : Int) (s : Bool) (w : World) :
    Calls Tryd.prog 41 #[.agg #[.int .i64 44, .int .i64 cond, .int .i64 rd, .int .i64 rn, .int .i64 rm, .int .i64 imm, .int .i64 mode, .int .i64 list, .bool s]] w fun e w' => e = .returned (.tuple #[FV (Im.fieldsI 44 mode s), .bool true]) ∧ Below w.heap.size w w' := by
  go_enter Tryd.func41, Tryd.ntmps41
  go_wp2
  refine bodyPost_ret (v := .tuple #[FV (Im.fieldsI 44 mode s), .bool true]) (by simp [results, Tryd.f41, go_sem, FV, Im.fieldsI]) rfl ?_
  exact ⟨rfl, two_bel _ _ _⟩
theorem fields_45 (cond rd rn rm imm mode list : Int) (s : Bool) (w : World) :
    Calls Tryd.prog 41 #[.agg #[.int .i64 45, .int .i64 cond, .int .i64 rd, .int .i64 rn, .int .i64 rm, .int .i64 imm, .int .i64 mode, .int .i64 list, .bool s]] w fun e w' => e = .returned (.tuple #[FV (Im.fieldsI 45 mode s), .bool true]) ∧ Below w.heap.size w w' := by
  go_enter Tryd.func41, Tryd.ntmps41
  go_wp2
  refine bodyPost_ret (v := .tuple #[FV (Im.fieldsI 45 mode s), .bool true]) (by simp [results, Tryd.f41, go_sem, FV, Im.fieldsI]) rfl ?_
  exact ⟨rfl, two_bel _ _ _⟩
end Go.Proofs.YtdcnkmkaafimlaaDoor
