/- The contracts of the functions in wide's forms, by number. No conditions but those that each fact names. -/
import Derived.Test.YtgjipmlegpbaaaaDoorRows
import Derived.Test.YtgjipmlegpbaaaaDoorXt
import Derived.Test.YtgjipmlegpbaaaaDoorXb
namespace Go.Proofs.YtgjipmlegpbaaaaDoor
open Go.ChangeShapes Go.WideShapes Go.ChangeAt Go.RowKit
namespace Xw

/-- whether the functions of the forms' fields take an instruction; what they tell of it -/
def takesP (n : Nat) (cond rd rm imm mode list : Int) (s it : Bool) : Bool :=
  if n = 0 then (true) else if n = 1 then (mode == 1) else if n = 2 then (mode == 2) else if n = 3 then (findB (imm % 4294967296) && mode == 1) else if n = 4 then ((mode == 1) && (decide (imm ≤ 4095) && !s)) else if n = 5 then ((mode == 2) && ((rd != 13) && (rm != 13))) else if n = 6 then (severalB list) else if n = 7 then ((cond != 14) && (!it && fitsB 3 imm)) else if n = 8 then (cond == 14) else if n = 9 then (decide (0 ≤ imm)) else decide (imm < 0)
def fieldsP (n : Nat) (cond rd rn rm imm list : Int) (s : Bool) : Int :=
  if n = 0 then expandedR rn rd rm imm s else if n = 1 then amountR rn rd rm imm s else if n = 2 then regR rn rd rm s else if n = 3 then shiftedR rn rd rm imm s else if n = 4 then halfR rn rd rm imm s else if n = 5 then loadedR rn rd rm imm else if n = 6 then listedR rn list else if n = 7 then nearR cond imm else offR 4 imm
theorem tkF_0 : tkF 0 = 38 := rfl
theorem takesP_0 (cond rd rm imm mode list : Int) (s it : Bool) : takesP 0 cond rd rm imm mode list s it = (true) := by
  unfold takesP
  repeat first | rw [if_pos rfl] | rw [if_neg (by decide)]
theorem tkF_1 : tkF 1 = 35 := rfl
theorem takesP_1 (cond rd rm imm mode list : Int) (s it : Bool) : takesP 1 cond rd rm imm mode list s it = (mode == 1) := by
  unfold takesP
  repeat first | rw [if_pos rfl] | rw [if_neg (by decide)]
theorem tkF_2 : tkF 2 = 37 := rfl
theorem takesP_2 (cond rd rm imm mode list : Int) (s it : Bool) : takesP 2 cond rd rm imm mode list s it = (mode == 2) := by
  unfold takesP
  repeat first | rw [if_pos rfl] | rw [if_neg (by decide)]
theorem tkF_3 : tkF 3 = 29 := rfl
theorem takesP_3 (cond rd rm imm mode list : Int) (s it : Bool) : takesP 3 cond rd rm imm mode list s it = (findB (imm % 4294967296) && mode == 1) := by
  unfold takesP
  repeat first | rw [if_pos rfl] | rw [if_neg (by decide)]
theorem tkF_4 : tkF 4 = 31 := rfl
theorem takesP_4 (cond rd rm imm mode list : Int) (s it : Bool) : takesP 4 cond rd rm imm mode list s it = ((mode == 1) && (decide (imm ≤ 4095) && !s)) := by
  unfold takesP
  repeat first | rw [if_pos rfl] | rw [if_neg (by decide)]
theorem tkF_5 : tkF 5 = 33 := rfl
theorem takesP_5 (cond rd rm imm mode list : Int) (s it : Bool) : takesP 5 cond rd rm imm mode list s it = ((mode == 2) && ((rd != 13) && (rm != 13))) := by
  unfold takesP
  repeat first | rw [if_pos rfl] | rw [if_neg (by decide)]
theorem tkF_6 : tkF 6 = 42 := rfl
theorem takesP_6 (cond rd rm imm mode list : Int) (s it : Bool) : takesP 6 cond rd rm imm mode list s it = (severalB list) := by
  unfold takesP
  repeat first | rw [if_pos rfl] | rw [if_neg (by decide)]
theorem tkF_7 : tkF 7 = 43 := rfl
theorem takesP_7 (cond rd rm imm mode list : Int) (s it : Bool) : takesP 7 cond rd rm imm mode list s it = ((cond != 14) && (!it && fitsB 3 imm)) := by
  unfold takesP
  repeat first | rw [if_pos rfl] | rw [if_neg (by decide)]
theorem tkF_8 : tkF 8 = 45 := rfl
theorem takesP_8 (cond rd rm imm mode list : Int) (s it : Bool) : takesP 8 cond rd rm imm mode list s it = (cond == 14) := by
  unfold takesP
  repeat first | rw [if_pos rfl] | rw [if_neg (by decide)]
theorem tkF_9 : tkF 9 = 47 := rfl
theorem takesP_9 (cond rd rm imm mode list : Int) (s it : Bool) : takesP 9 cond rd rm imm mode list s it = (decide (0 ≤ imm)) := by
  unfold takesP
  repeat first | rw [if_pos rfl] | rw [if_neg (by decide)]
theorem tkF_10 : tkF 10 = 48 := rfl
theorem takesP_10 (cond rd rm imm mode list : Int) (s it : Bool) : takesP 10 cond rd rm imm mode list s it = (decide (imm < 0)) := by
  unfold takesP
  repeat first | rw [if_pos rfl] | rw [if_neg (by decide)]
theorem fdF_0 : fdF 0 = 30 := rfl
theorem fieldsP_0 (cond rd rn rm imm list : Int) (s : Bool) : fieldsP 0 cond rd rn rm imm list s = expandedR rn rd rm imm s := by
  unfold fieldsP
  repeat first | rw [if_pos rfl] | rw [if_neg (by decide)]
theorem fdF_1 : fdF 1 = 32 := rfl
theorem fieldsP_1 (cond rd rn rm imm list : Int) (s : Bool) : fieldsP 1 cond rd rn rm imm list s = amountR rn rd rm imm s := by
  unfold fieldsP
  repeat first | rw [if_pos rfl] | rw [if_neg (by decide)]
theorem fdF_2 : fdF 2 = 34 := rfl
theorem fieldsP_2 (cond rd rn rm imm list : Int) (s : Bool) : fieldsP 2 cond rd rn rm imm list s = regR rn rd rm s := by
  unfold fieldsP
  repeat first | rw [if_pos rfl] | rw [if_neg (by decide)]
theorem fdF_3 : fdF 3 = 36 := rfl
theorem fieldsP_3 (cond rd rn rm imm list : Int) (s : Bool) : fieldsP 3 cond rd rn rm imm list s = shiftedR rn rd rm imm s := by
  unfold fieldsP
  repeat first | rw [if_pos rfl] | rw [if_neg (by decide)]
theorem fdF_4 : fdF 4 = 39 := rfl
theorem fieldsP_4 (cond rd rn rm imm list : Int) (s : Bool) : fieldsP 4 cond rd rn rm imm list s = halfR rn rd rm imm s := by
  unfold fieldsP
  repeat first | rw [if_pos rfl] | rw [if_neg (by decide)]
theorem fdF_5 : fdF 5 = 40 := rfl
theorem fieldsP_5 (cond rd rn rm imm list : Int) (s : Bool) : fieldsP 5 cond rd rn rm imm list s = loadedR rn rd rm imm := by
  unfold fieldsP
  repeat first | rw [if_pos rfl] | rw [if_neg (by decide)]
theorem fdF_6 : fdF 6 = 41 := rfl
theorem fieldsP_6 (cond rd rn rm imm list : Int) (s : Bool) : fieldsP 6 cond rd rn rm imm list s = listedR rn list := by
  unfold fieldsP
  repeat first | rw [if_pos rfl] | rw [if_neg (by decide)]
theorem fdF_7 : fdF 7 = 44 := rfl
theorem fieldsP_7 (cond rd rn rm imm list : Int) (s : Bool) : fieldsP 7 cond rd rn rm imm list s = nearR cond imm := by
  unfold fieldsP
  repeat first | rw [if_pos rfl] | rw [if_neg (by decide)]
theorem fdF_8 : fdF 8 = 46 := rfl
theorem fieldsP_8 (cond rd rn rm imm list : Int) (s : Bool) : fieldsP 8 cond rd rn rm imm list s = offR 4 imm := by
  unfold fieldsP
  repeat first | rw [if_pos rfl] | rw [if_neg (by decide)]
theorem takes_c (n : Nat) (hn : n < 11) (op cond rd rn rm imm mode list : Int) (s it : Bool) (w : World) (hT : Tabs w) :
    Calls Tryd.prog (tkF n) #[.agg #[.int .i64 op, .int .i64 cond, .int .i64 rd, .int .i64 rn, .int .i64 rm, .int .i64 imm, .int .i64 mode, .int .i64 list, .bool s], .bool it] w fun e w' => e = .returned (.bool (takesP n cond rd rm imm mode list s it)) ∧ Below w.heap.size w w' := by
  rcases (by omega : n = 0 ∨ n = 1 ∨ n = 2 ∨ n = 3 ∨ n = 4 ∨ n = 5 ∨ n = 6 ∨ n = 7 ∨ n = 8 ∨ n = 9 ∨ n = 10) with rfl | rfl | rfl | rfl | rfl | rfl | rfl | rfl | rfl | rfl | rfl
  · rw [tkF_0, takesP_0]; exact always_c op cond rd rn rm imm mode list s it w
  · rw [tkF_1, takesP_1]; exact isByNumber_c op cond rd rn rm imm mode list s it w
  · rw [tkF_2, takesP_2]; exact isByRegister_c op cond rd rn rm imm mode list s it w
  · rw [tkF_3, takesP_3]; exact isExpanded_c op cond rd rn rm imm mode list s it w
  · rw [tkF_4, takesP_4]; exact isPlain_c op cond rd rn rm imm mode list s it w
  · rw [tkF_5, takesP_5]; exact isOfRegisters_c op cond rd rn rm imm mode list s it w
  · rw [tkF_6, takesP_6]; exact isOfSeveral_c op cond rd rn rm imm mode list s it w
  · rw [tkF_7, takesP_7]; exact isOnCondition_c op cond rd rn rm imm mode list s it w hT
  · rw [tkF_8, takesP_8]; exact isOnNone_c op cond rd rn rm imm mode list s it w
  · rw [tkF_9, takesP_9]; exact isAhead_c op cond rd rn rm imm mode list s it w
  · rw [tkF_10, takesP_10]; exact isBehind_c op cond rd rn rm imm mode list s it w
theorem fields_c (n : Nat) (hn : n < 9) (op cond rd rn rm imm mode list : Int) (s : Bool) (w : World) (hT : Tabs w) :
    Calls Tryd.prog (fdF n) #[.agg #[.int .i64 op, .int .i64 cond, .int .i64 rd, .int .i64 rn, .int .i64 rm, .int .i64 imm, .int .i64 mode, .int .i64 list, .bool s]] w fun e w' => e = .returned (.int .u32 (fieldsP n cond rd rn rm imm list s)) ∧ Below w.heap.size w w' := by
  rcases (by omega : n = 0 ∨ n = 1 ∨ n = 2 ∨ n = 3 ∨ n = 4 ∨ n = 5 ∨ n = 6 ∨ n = 7 ∨ n = 8) with rfl | rfl | rfl | rfl | rfl | rfl | rfl | rfl | rfl
  · rw [fdF_0, fieldsP_0]; exact expanded_c op cond rd rn rm imm mode list s w
  · rw [fdF_1, fieldsP_1]; exact amount_c op cond rd rn rm imm mode list s w
  · rw [fdF_2, fieldsP_2]; exact registers_c op cond rd rn rm imm mode list s w
  · rw [fdF_3, fieldsP_3]; exact shifted_c op cond rd rn rm imm mode list s w
  · rw [fdF_4, fieldsP_4]; exact half_c op cond rd rn rm imm mode list s w
  · rw [fdF_5, fieldsP_5]; exact loaded_c op cond rd rn rm imm mode list s w
  · rw [fdF_6, fieldsP_6]; exact listed_c op cond rd rn rm imm mode list s w
  · rw [fdF_7, fieldsP_7]; exact nearBranch_c op cond rd rn rm imm mode list s w hT
  · rw [fdF_8, fieldsP_8]; exact farBranch_c op cond rd rn rm imm mode list s w hT
theorem takes_enter (n : Nat) (hn : n < 11) (xs : Array Value) (W : World) : Sem.run Tryd.prog (callFunc (tkF n) xs) W = .ok (.enter (tkF n) xs) W := by
  rcases (by omega : n = 0 ∨ n = 1 ∨ n = 2 ∨ n = 3 ∨ n = 4 ∨ n = 5 ∨ n = 6 ∨ n = 7 ∨ n = 8 ∨ n = 9 ∨ n = 10) with rfl | rfl | rfl | rfl | rfl | rfl | rfl | rfl | rfl | rfl | rfl <;> kernel_rfl
theorem fields_enter (n : Nat) (hn : n < 9) (xs : Array Value) (W : World) : Sem.run Tryd.prog (callFunc (fdF n) xs) W = .ok (.enter (fdF n) xs) W := by
  rcases (by omega : n = 0 ∨ n = 1 ∨ n = 2 ∨ n = 3 ∨ n = 4 ∨ n = 5 ∨ n = 6 ∨ n = 7 ∨ n = 8) with rfl | rfl | rfl | rfl | rfl | rfl | rfl | rfl | rfl <;> kernel_rfl
end Xw
end Go.Proofs.YtgjipmlegpbaaaaDoor
