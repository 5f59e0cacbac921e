/- Contract of fieldsOf: operations 1 to 26, but moves. -/
import Derived.Test.YtcphhojdfpedkaaDoorIg
namespace Go.Proofs.YtcphhojdfpedkaaDoor
open Go.ChangeShapes Go.WideShapes Go.ChangeAt Go.RowKit
theorem fields_1 (cond rd rn rm imm mode list : Int) (s : Bool) (w : World) :
    Calls Tryd.prog 65 #[.agg #[.int .i64 1, .int .i64 cond, .int .i64 rd, .int .i64 rn, .int .i64 rm, .int .i64 imm, .int .i64 mode, .int .i64 list, .bool s]] w fun e w' => e = .returned (.tuple #[FV (Im.fieldsI 1 mode s), .bool true]) ∧ Below w.heap.size w w' := by
  go_enter Tryd.func65, Tryd.ntmps65
  go_wp2
  refine bodyPost_ret (v := .tuple #[FV (Im.fieldsI 1 mode s), .bool true]) (by simp [results, Tryd.f65, go_sem, FV, Im.fieldsI]) rfl ?_
  exact ⟨rfl, two_bel _ _ _⟩
theorem fields_2 (cond rd rn rm imm mode list : Int) (s : Bool) (w : World) :
    Calls Tryd.prog 65 #[.agg #[.int .i64 2, .int .i64 cond, .int .i64 rd, .int .i64 rn, .int .i64 rm, .int .i64 imm, .int .i64 mode, .int .i64 list, .bool s]] w fun e w' => e = .returned (.tuple #[FV (Im.fieldsI 2 mode s), .bool true]) ∧ Below w.heap.size w w' := by
  go_enter Tryd.func65, Tryd.ntmps65
  go_wp2
  refine bodyPost_ret (v := .tuple #[FV (Im.fieldsI 2 mode s), .bool true]) (by simp [results, Tryd.f65, go_sem, FV, Im.fieldsI]) rfl ?_
  exact ⟨rfl, two_bel _ _ _⟩
theorem fields_3 (cond rd rn rm imm mode list : Int) (s : Bool) (w : World) :
    Calls Tryd.prog 65 #[.agg #[.int .i64 3, .int .i64 cond, .int .i64 rd, .int .i64 rn, .int .i64 rm, .int .i64 imm, .int .i64 mode, .int .i64 list, .bool s]] w fun e w' => e = .returned (.tuple #[FV (Im.fieldsI 3 mode s), .bool true]) ∧ Below w.heap.size w w' := by
  go_enter Tryd.func65, Tryd.ntmps65
  go_wp2
  refine bodyPost_ret (v := .tuple #[FV (Im.fieldsI 3 mode s), .bool true]) (by simp [results, Tryd.f65, go_sem, FV, Im.fieldsI]) rfl ?_
  exact ⟨rfl, two_bel _ _ _⟩
theorem fields_4 (cond rd rn rm imm mode list : Int) (s : Bool) (w : World) :
    Calls Tryd.prog 65 #[.agg #[.int .i64 4, .int .i64 cond, .int .i64 rd, .int .i64 rn, .int .i64 rm, .int .i64 imm, .int .i64 mode, .int .i64 list, .bool s]] w fun e w' => e = .returned (.tuple #[FV (Im.fieldsI 4 mode s), .bool true]) ∧ Below w.heap.size w w' := by
  go_enter Tryd.func65, Tryd.ntmps65
  go_wp2
  refine bodyPost_ret (v := .tuple #[FV (Im.fieldsI 4 mode s), .bool true]) (by simp [results, Tryd.f65, go_sem, FV, Im.fieldsI]) rfl ?_
  exact ⟨rfl, two_bel _ _ _⟩
theorem fields_5 (cond rd rn rm imm mode list : Int) (s : Bool) (w : World) :
    Calls Tryd.prog 65 #[.agg #[.int .i64 5, .int .i64 cond, .int .i64 rd, .int .i64 rn, .int .i64 rm, .int .i64 imm, .int .i64 mode, .int .i64 list, .bool s]] w fun e w' => e = .returned (.tuple #[FV (Im.fieldsI 5 mode s), .bool true]) ∧ Below w.heap.size w w' := by
  go_enter Tryd.func65, Tryd.ntmps65
  go_wp2
  refine bodyPost_ret (v := .tuple #[FV (Im.fieldsI 5 mode s), .bool true]) (by simp [results, Tryd.f65, go_sem, FV, Im.fieldsI]) rfl ?_
  exact ⟨rfl, two_bel _ _ _⟩
theorem fields_6 (cond rd rn rm imm mode list : Int) (s : Bool) (w : World) :
    Calls Tryd.prog 65 #[.agg #[.int .i64 6, .int .i64 cond, .int .i64 rd, .int .i64 rn, .int .i64 rm, .int .i64 imm, .int .i64 mode, .int .i64 list, .bool s]] w fun e w' => e = .returned (.tuple #[FV (Im.fieldsI 6 mode s), .bool true]) ∧ Below w.heap.size w w' := by
  go_enter Tryd.func65, Tryd.ntmps65
  go_wp2
  refine bodyPost_ret (v := .tuple #[FV (Im.fieldsI 6 mode s), .bool true]) (by simp [results, Tryd.f65, go_sem, FV, Im.fieldsI]) rfl ?_
  exact ⟨rfl, two_bel _ _ _⟩
theorem fields_7 (cond rd rn rm imm mode list : Int) (s : Bool) (w : World) :
    Calls Tryd.prog 65 #[.agg #[.int .i64 7, .int .i64 cond, .int .i64 rd, .int .i64 rn, .int .i64 rm, .int .i64 imm, .int .i64 mode, .int .i64 list, .bool s]] w fun e w' => e = .returned (.tuple #[FV (Im.fieldsI 7 mode s), .bool true]) ∧ Below w.heap.size w w' := by
  go_enter Tryd.func65, Tryd.ntmps65
  go_wp2
  refine bodyPost_ret (v := .tuple #[FV (Im.fieldsI 7 mode s), .bool true]) (by simp [results, Tryd.f65, go_sem, FV, Im.fieldsI]) rfl ?_
  exact ⟨rfl, two_bel _ _ _⟩
theorem fields_8 (cond rd rn rm imm mode list : Int) (s : Bool) (w : World) :
    Calls Tryd.prog 65 #[.agg #[.int .i64 8, .int .i64 cond, .int .i64 rd, .int .i64 rn, .int .i64 rm, .int .i64 imm, .int .i64 mode, .int .i64 list, .bool s]] w fun e w' => e = .returned (.tuple #[FV (Im.fieldsI 8 mode s), .bool true]) ∧ Below w.heap.size w w' := by
  go_enter Tryd.func65, Tryd.ntmps65
  go_wp2
  refine bodyPost_ret (v := .tuple #[FV (Im.fieldsI 8 mode s), .bool true]) (by simp [results, Tryd.f65, go_sem, FV, Im.fieldsI]) rfl ?_
  exact ⟨rfl, two_bel _ _ _⟩
theorem fields_9 (cond rd rn rm imm mode list : Int) (s : Bool) (w : World) :
    Calls Tryd.prog 65 #[.agg #[.int .i64 9, .int .i64 cond, .int .i64 rd, .int .i64 rn, .int .i64 rm, .int .i64 imm, .int .i64 mode, .int .i64 list, .bool s]] w fun e w' => e = .returned (.tuple #[FV (Im.fieldsI 9 mode s), .bool true]) ∧ Below w.heap.size w w' := by
  go_enter Tryd.func65, Tryd.ntmps65
  go_wp2
  refine bodyPost_ret (v := .tuple #[FV (Im.fieldsI 9 mode s), .bool true]) (by simp [results, Tryd.f65, go_sem, FV, Im.fieldsI]) rfl ?_
  exact ⟨rfl, two_bel _ _ _⟩
theorem fields_12 (cond rd rn rm imm mode list : Int) (s : Bool) (w : World) :
    Calls Tryd.prog 65 #[.agg #[.int .i64 12, .int .i64 cond, .int .i64 rd, .int .i64 rn, .int .i64 rm, .int .i64 imm, .int .i64 mode, .int .i64 list, .bool s]] w fun e w' => e = .returned (.tuple #[FV (Im.fieldsI 12 mode s), .bool true]) ∧ Below w.heap.size w w' := by
  go_enter Tryd.func65, Tryd.ntmps65
  go_wp2
  refine bodyPost_ret (v := .tuple #[FV (Im.fieldsI 12 mode s), .bool true]) (by simp [results, Tryd.f65, go_sem, FV, Im.fieldsI]) rfl ?_
  exact ⟨rfl, two_bel _ _ _⟩
theorem fields_13 (cond rd rn rm imm mode list : Int) (s : Bool) (w : World) :
    Calls Tryd.prog 65 #[.agg #[.int .i64 13, .int .i64 cond, .int .i64 rd, .int .i64 rn, .int .i64 rm, .int .i64 imm, .int .i64 mode, .int .i64 list, .bool s]] w fun e w' => e = .returned (.tuple #[FV (Im.fieldsI 13 mode s), .bool true]) ∧ Below w.heap.size w w' := by
  go_enter Tryd.func65, Tryd.ntmps65
  go_wp2
  refine bodyPost_ret (v := .tuple #[FV (Im.fieldsI 13 mode s), .bool true]) (by simp [results, Tryd.f65, go_sem, FV, Im.fieldsI]) rfl ?_
  exact ⟨rfl, two_bel _ _ _⟩
theorem fields_14 (cond rd rn rm imm mode list : Int) (s : Bool) (w : World) :
    Calls Tryd.prog 65 #[.agg #[.int .i64 14, .int .i64 cond, .int .i64 rd, .int .i64 rn, .int .i64 rm, .int .i64 imm, .int .i64 mode, .int .i64 list, .bool s]] w fun e w' => e = .returned (.tuple #[FV (Im.fieldsI 14 mode s), .bool true]) ∧ Below w.heap.size w w' := by
  go_enter Tryd.func65, Tryd.ntmps65
  go_wp2
  refine bodyPost_ret (v := .tuple #[FV (Im.fieldsI 14 mode s), .bool true]) (by simp [results, Tryd.f65, go_sem, FV, Im.fieldsI]) rfl ?_
  exact ⟨rfl, two_bel _ _ _⟩
theorem fields_15 (cond rd rn rm imm mode list : Int) (s : Bool) (w : World) :
    Calls Tryd.prog 65 #[.agg #[.int .i64 15, .int .i64 cond, .int .i64 rd, .int .i64 rn, .int .i64 rm, .int .i64 imm, .int .i64 mode, .int .i64 list, .bool s]] w fun e w' => e = .returned (.tuple #[FV (Im.fieldsI 15 mode s), .bool true]) ∧ Below w.heap.size w w' := by
  go_enter Tryd.func65, Tryd.ntmps65
  go_wp2
  refine bodyPost_ret (v := .tuple #[FV (Im.fieldsI 15 mode s), .bool true]) (by simp [results, Tryd.f65, go_sem, FV, Im.fieldsI]) rfl ?_
  exact ⟨rfl, two_bel _ _ _⟩
theorem fields_16 (cond rd rn rm imm mode list : Int) (s : Bool) (w : World) :
    Calls Tryd.prog 65 #[.agg #[.int .i64 16, .int .i64 cond, .int .i64 rd, .int .i64 rn, .int .i64 rm, .int .i64 imm, .int .i64 mode, .int .i64 list, .bool s]] w fun e w' => e = .returned (.tuple #[FV (Im.fieldsI 16 mode s), .bool true]) ∧ Below w.heap.size w w' := by
  go_enter Tryd.func65, Tryd.ntmps65
  go_wp2
  refine bodyPost_ret (v := .tuple #[FV (Im.fieldsI 16 mode s), .bool true]) (by simp [results, Tryd.f65, go_sem, FV, Im.fieldsI]) rfl ?_
  exact ⟨rfl, two_bel _ _ _⟩
theorem fields_17 (cond rd rn rm imm mode list : Int) (s : Bool) (w : World) :
    Calls Tryd.prog 65 #[.agg #[.int .i64 17, .int .i64 cond, .int .i64 rd, .int .i64 rn, .int .i64 rm, .int .i64 imm, .int .i64 mode, .int .i64 list, .bool s]] w fun e w' => e = .returned (.tuple #[FV (Im.fieldsI 17 mode s), .bool true]) ∧ Below w.heap.size w w' := by
  go_enter Tryd.func65, Tryd.ntmps65
  go_wp2
  refine bodyPost_ret (v := .tuple #[FV (Im.fieldsI 17 mode s), .bool true]) (by simp [results, Tryd.f65, go_sem, FV, Im.fieldsI]) rfl ?_
  exact ⟨rfl, two_bel _ _ _⟩
theorem fields_18 (cond rd rn rm imm mode list : Int) (s : Bool) (w : World) :
    Calls Tryd.prog 65 #[.agg #[.int .i64 18, .int .i64 cond, .int .i64 rd, .int .i64 rn, .int .i64 rm, .int .i64 imm, .int .i64 mode, .int .i64 list, .bool s]] w fun e w' => e = .returned (.tuple #[FV (Im.fieldsI 18 mode s), .bool true]) ∧ Below w.heap.size w w' := by
  go_enter Tryd.func65, Tryd.ntmps65
  go_wp2
  refine bodyPost_ret (v := .tuple #[FV (Im.fieldsI 18 mode s), .bool true]) (by simp [results, Tryd.f65, go_sem, FV, Im.fieldsI]) rfl ?_
  exact ⟨rfl, two_bel _ _ _⟩
theorem fields_19 (cond rd rn rm imm mode list : Int) (s : Bool) (w : World) :
    Calls Tryd.prog 65 #[.agg #[.int .i64 19, .int .i64 cond, .int .i64 rd, .int .i64 rn, .int .i64 rm, .int .i64 imm, .int .i64 mode, .int .i64 list, .bool s]] w fun e w' => e = .returned (.tuple #[FV (Im.fieldsI 19 mode s), .bool true]) ∧ Below w.heap.size w w' := by
  go_enter Tryd.func65, Tryd.ntmps65
  go_wp2
  refine bodyPost_ret (v := .tuple #[FV (Im.fieldsI 19 mode s), .bool true]) (by simp [results, Tryd.f65, go_sem, FV, Im.fieldsI]) rfl ?_
  exact ⟨rfl, two_bel _ _ _⟩
theorem fields_20 (cond rd rn rm imm mode list : Int) (s : Bool) (w : World) :
    Calls Tryd.prog 65 #[.agg #[.int .i64 20, .int .i64 cond, .int .i64 rd, .int .i64 rn, .int .i64 rm, .int .i64 imm, .int .i64 mode, .int .i64 list, .bool s]] w fun e w' => e = .returned (.tuple #[FV (Im.fieldsI 20 mode s), .bool true]) ∧ Below w.heap.size w w' := by
  go_enter Tryd.func65, Tryd.ntmps65
  go_wp2
  refine bodyPost_ret (v := .tuple #[FV (Im.fieldsI 20 mode s), .bool true]) (by simp [results, Tryd.f65, go_sem, FV, Im.fieldsI]) rfl ?_
  exact ⟨rfl, two_bel _ _ _⟩
theorem fields_21 (cond rd rn rm imm mode list : Int) (s : Bool) (w : World) :
    Calls Tryd.prog 65 #[.agg #[.int .i64 21, .int .i64 cond, .int .i64 rd, .int .i64 rn, .int .i64 rm, .int .i64 imm, .int .i64 mode, .int .i64 list, .bool s]] w fun e w' => e = .returned (.tuple #[FV (Im.fieldsI 21 mode s), .bool true]) ∧ Below w.heap.size w w' := by
  go_enter Tryd.func65, Tryd.ntmps65
  go_wp2
  refine bodyPost_ret (v := .tuple #[FV (Im.fieldsI 21 mode s), .bool true]) (by simp [results, Tryd.f65, go_sem, FV, Im.fieldsI]) rfl ?_
  exact ⟨rfl, two_bel _ _ _⟩
theorem fields_22 (cond rd rn rm imm mode list : Int) (s : Bool) (w : World) :
    Calls Tryd.prog 65 #[.agg #[.int .i64 22, .int .i64 cond, .int .i64 rd, .int .i64 rn, .int .i64 rm, .int .i64 imm, .int .i64 mode, .int .i64 list, .bool s]] w fun e w' => e = .returned (.tuple #[FV (Im.fieldsI 22 mode s), .bool true]) ∧ Below w.heap.size w w' := by
  go_enter Tryd.func65, Tryd.ntmps65
  go_wp2
  refine bodyPost_ret (v := .tuple #[FV (Im.fieldsI 22 mode s), .bool true]) (by simp [results, Tryd.f65, go_sem, FV, Im.fieldsI]) rfl ?_
  exact ⟨rfl, two_bel _ _ _⟩
theorem fields_23 (cond rd rn rm imm mode list : Int) (s : Bool) (w : World) :
    Calls Tryd.prog 65 #[.agg #[.int .i64 23, .int .i64 cond, .int .i64 rd, .int .i64 rn, .int .i64 rm, .int .i64 imm, .int .i64 mode, .int .i64 list, .bool s]] w fun e w' => e = .returned (.tuple #[FV (Im.fieldsI 23 mode s), .bool true]) ∧ Below w.heap.size w w' := by
  go_enter Tryd.func65, Tryd.ntmps65
  go_wp2
  refine bodyPost_ret (v := .tuple #[FV (Im.fieldsI 23 mode s), .bool true]) (by simp [results, Tryd.f65, go_sem, FV, Im.fieldsI]) rfl ?_
  exact ⟨rfl, two_bel _ _ _⟩
theorem fields_24 (cond rd rn rm imm mode list : Int) (s : Bool) (w : World) :
    Calls Tryd.prog 65 #[.agg #[.int .i64 24, .int .i64 cond, .int .i64 rd, .int .i64 rn, .int .i64 rm, .int .i64 imm, .int .i64 mode, .int .i64 list, .bool s]] w fun e w' => e = .returned (.tuple #[FV (Im.fieldsI 24 mode s), .bool true]) ∧ Below w.heap.size w w' := by
  go_enter Tryd.func65, Tryd.ntmps65
  go_wp2
  refine bodyPost_ret (v := .tuple #[FV (Im.fieldsI 24 mode s), .bool true]) (by simp [results, Tryd.f65, go_sem, FV, Im.fieldsI]) rfl ?_
  exact ⟨rfl, two_bel _ _ _⟩
theorem fields_25 (cond rd rn rm imm mode list : Int) (s : Bool) (w : World) :
    Calls Tryd.prog 65 #[.agg #[.int .i64 25, .int .i64 cond, .int .i64 rd, .int .i64 rn, .int .i64 rm, .int .i64 imm, .int .i64 mode, .int .i64 list, .bool s]] w fun e w' => e = .returned (.tuple #[FV (Im.fieldsI 25 mode s), .bool true]) ∧ Below w.heap.size w w' := by
  go_enter Tryd.func65, Tryd.ntmps65
  go_wp2
  refine bodyPost_ret (v := .tuple #[FV (Im.fieldsI 25 mode s), .bool true]) (by simp [results, Tryd.f65, go_sem, FV, Im.fieldsI]) rfl ?_
  exact ⟨rfl, two_bel _ _ _⟩
theorem fields_26 (cond rd rn rm imm mode list : Int) (s : Bool) (w : World) :
    Calls Tryd.prog 65 #[.agg #[.int .i64 26, .int .i64 cond, .int .i64 rd, .int .i64 rn, .int .i64 rm, .int .i64 imm, .int .i64 mode, .int .i64 list, .bool s]] w fun e w' => e = .returned (.tuple #[FV (Im.fieldsI 26 mode s), .bool true]) ∧ Below w.heap.size w w' := by
  go_enter Tryd.func65, Tryd.ntmps65
  go_wp2
  refine bodyPost_ret (v := .tuple #[FV (Im.fieldsI 26 mode s), .bool true]) (by simp [results, Tryd.f65, go_sem, FV, Im.fieldsI]) rfl ?_
  exact ⟨rfl, two_bel _ _ _⟩
end Go.Proofs.YtcphhojdfpedkaaDoor
