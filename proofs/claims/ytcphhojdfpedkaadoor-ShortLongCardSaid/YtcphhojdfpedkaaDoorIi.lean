/- Contract of fieldsOf. -/
import Derived.Test.YtcphhojdfpedkaaDoorIh
import Derived.Test.YtcphhojdfpedkaaDoorIj
namespace Go.Proofs.YtcphhojdfpedkaaDoor
open Go.ChangeShapes Go.WideShapes Go.ChangeAt Go.RowKit
theorem fields_c (op cond rd rn rm imm mode list : Int) (s : Bool) (w : World) (h : 1 ≤ op ∧ op ≤ 45) :
    Calls Tryd.prog 65 #[.agg #[.int .i64 op, .int .i64 cond, .int .i64 rd, .int .i64 rn, .int .i64 rm, .int .i64 imm, .int .i64 mode, .int .i64 list, .bool s]] w fun e w' => e = .returned (.tuple #[FV (Im.fieldsI op mode s), .bool true]) ∧ Below w.heap.size w w' := by
  rcases (by omega : op = 1 ∨ op = 2 ∨ op = 3 ∨ op = 4 ∨ op = 5 ∨ op = 6 ∨ op = 7 ∨ op = 8 ∨ op = 9 ∨ op = 10 ∨ op = 11 ∨ op = 12 ∨ op = 13 ∨ op = 14 ∨ op = 15 ∨ op = 16 ∨ op = 17 ∨ op = 18 ∨ op = 19 ∨ op = 20 ∨ op = 21 ∨ op = 22 ∨ op = 23 ∨ op = 24 ∨ op = 25 ∨ op = 26 ∨ op = 27 ∨ op = 28 ∨ op = 29 ∨ op = 30 ∨ op = 31 ∨ op = 32 ∨ op = 33 ∨ op = 34 ∨ op = 35 ∨ op = 36 ∨ op = 37 ∨ op = 38 ∨ op = 39 ∨ op = 40 ∨ op = 41 ∨ op = 42 ∨ op = 43 ∨ op = 44 ∨ op = 45) with rfl | rfl | rfl | rfl | rfl | rfl | rfl | rfl | rfl | rfl | rfl | rfl | rfl | rfl | rfl | rfl | rfl | rfl | rfl | rfl | rfl | rfl | rfl | rfl | rfl | rfl | rfl | rfl | rfl | rfl | rfl | rfl | rfl | rfl | rfl | rfl | rfl | rfl | rfl | rfl | rfl | rfl | rfl | rfl | rfl
  · exact fields_1 _ _ _ _ _ _ _ _ _
  · exact fields_2 _ _ _ _ _ _ _ _ _
  · exact fields_3 _ _ _ _ _ _ _ _ _
  · exact fields_4 _ _ _ _ _ _ _ _ _
  · exact fields_5 _ _ _ _ _ _ _ _ _
  · exact fields_6 _ _ _ _ _ _ _ _ _
  · exact fields_7 _ _ _ _ _ _ _ _ _
  · exact fields_8 _ _ _ _ _ _ _ _ _
  · exact fields_9 _ _ _ _ _ _ _ _ _
  · exact fields_mv10 _ _ _ _ _ _ _ _ _ _ _ _ _ _ _ _ _ rfl
  · exact fields_mv11 _ _ _ _ _ _ _ _ _ _ _ _ _ _ _ _ _ rfl
  · exact fields_12 _ _ _ _ _ _ _ _ _
  · exact fields_13 _ _ _ _ _ _ _ _ _
  · exact fields_14 _ _ _ _ _ _ _ _ _
  · exact fields_15 _ _ _ _ _ _ _ _ _
  · exact fields_16 _ _ _ _ _ _ _ _ _
  · exact fields_17 _ _ _ _ _ _ _ _ _
  · exact fields_18 _ _ _ _ _ _ _ _ _
  · exact fields_19 _ _ _ _ _ _ _ _ _
  · exact fields_20 _ _ _ _ _ _ _ _ _
  · exact fields_21 _ _ _ _ _ _ _ _ _
  · exact fields_22 _ _ _ _ _ _ _ _ _
  · exact fields_23 _ _ _ _ _ _ _ _ _
  · exact fields_24 _ _ _ _ _ _ _ _ _
  · exact fields_25 _ _ _ _ _ _ _ _ _
  · exact fields_26 _ _ _ _ _ _ _ _ _
  · exact fields_27 _ _ _ _ _ _ _ _ _
  · exact fields_28 _ _ _ _ _ _ _ _ _
  · exact fields_29 _ _ _ _ _ _ _ _ _
  · exact fields_30 _ _ _ _ _ _ _ _ _
  · exact fields_31 _ _ _ _ _ _ _ _ _
  · exact fields_32 _ _ _ _ _ _ _ _ _
  · exact fields_33 _ _ _ _ _ _ _ _ _
  · exact fields_34 _ _ _ _ _ _ _ _ _
  · exact fields_35 _ _ _ _ _ _ _ _ _
  · exact fields_36 _ _ _ _ _ _ _ _ _
  · exact fields_37 _ _ _ _ _ _ _ _ _
  · exact fields_38 _ _ _ _ _ _ _ _ _
  · exact fields_39 _ _ _ _ _ _ _ _ _
  · exact fields_40 _ _ _ _ _ _ _ _ _
  · exact fields_41 _ _ _ _ _ _ _ _ _
  · exact fields_42 _ _ _ _ _ _ _ _ _
  · exact fields_43 _ _ _ _ _ _ _ _ _
  · exact fields_44 _ _ _ _ _ _ _ _ _
  · exact fields_45 _ _ _ _ _ _ _ _ _
end Go.Proofs.YtcphhojdfpedkaaDoor
