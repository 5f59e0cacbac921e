/- Contracts of the document's own fields and bare. -/
import Derived.Test.YtcphhojdfpedkaaDoorGj
import Derived.LoopN
namespace Go.Proofs.YtcphhojdfpedkaaDoor
open Go.ChangeShapes Go.WideShapes Go.ChangeAt Go.RowKit
theorem rfields_1 (w : World) : Calls Tryd.prog 29 #[.int .i64 1] w fun e w' => e = .returned (.string ⟨(Rb.fieldsS 1).toArray⟩) ∧ ∃ n, w' = w.drewN n := by
  go_enter Tryd.func29, Tryd.ntmps29
  go_wp2
  go_ret
  exact ⟨rfl, 0, rfl⟩
theorem rfields_2 (w : World) : Calls Tryd.prog 29 #[.int .i64 2] w fun e w' => e = .returned (.string ⟨(Rb.fieldsS 2).toArray⟩) ∧ ∃ n, w' = w.drewN n := by
  go_enter Tryd.func29, Tryd.ntmps29
  go_wp2
  go_ret
  exact ⟨rfl, 0, rfl⟩
theorem rfields_3 (w : World) : Calls Tryd.prog 29 #[.int .i64 3] w fun e w' => e = .returned (.string ⟨(Rb.fieldsS 3).toArray⟩) ∧ ∃ n, w' = w.drewN n := by
  go_enter Tryd.func29, Tryd.ntmps29
  go_wp2
  go_ret
  exact ⟨rfl, 0, rfl⟩
theorem rfields_4 (w : World) : Calls Tryd.prog 29 #[.int .i64 4] w fun e w' => e = .returned (.string ⟨(Rb.fieldsS 4).toArray⟩) ∧ ∃ n, w' = w.drewN n := by
  go_enter Tryd.func29, Tryd.ntmps29
  go_wp2
  go_ret
  exact ⟨rfl, 0, rfl⟩
theorem rfields_5 (w : World) : Calls Tryd.prog 29 #[.int .i64 5] w fun e w' => e = .returned (.string ⟨(Rb.fieldsS 5).toArray⟩) ∧ ∃ n, w' = w.drewN n := by
  go_enter Tryd.func29, Tryd.ntmps29
  go_wp2
  go_ret
  exact ⟨rfl, 0, rfl⟩
theorem rfields_6 (w : World) : Calls Tryd.prog 29 #[.int .i64 6] w fun e w' => e = .returned (.string ⟨(Rb.fieldsS 6).toArray⟩) ∧ ∃ n, w' = w.drewN n := by
  go_enter Tryd.func29, Tryd.ntmps29
  go_wp2
  go_ret
  exact ⟨rfl, 0, rfl⟩
theorem rfields_7 (w : World) : Calls Tryd.prog 29 #[.int .i64 7] w fun e w' => e = .returned (.string ⟨(Rb.fieldsS 7).toArray⟩) ∧ ∃ n, w' = w.drewN n := by
  go_enter Tryd.func29, Tryd.ntmps29
  go_wp2
  go_ret
  exact ⟨rfl, 0, rfl⟩
theorem rfields_8 (w : World) : Calls Tryd.prog 29 #[.int .i64 8] w fun e w' => e = .returned (.string ⟨(Rb.fieldsS 8).toArray⟩) ∧ ∃ n, w' = w.drewN n := by
  go_enter Tryd.func29, Tryd.ntmps29
  go_wp2
  go_ret
  exact ⟨rfl, 0, rfl⟩
theorem rfields_9 (w : World) : Calls Tryd.prog 29 #[.int .i64 9] w fun e w' => e = .returned (.string ⟨(Rb.fieldsS 9).toArray⟩) ∧ ∃ n, w' = w.drewN n := by
  go_enter Tryd.func29, Tryd.ntmps29
  go_wp2
  go_ret
  exact ⟨rfl, 0, rfl⟩
theorem rfields_10 (w : World) : Calls Tryd.prog 29 #[.int .i64 10] w fun e w' => e = .returned (.string ⟨(Rb.fieldsS 10).toArray⟩) ∧ ∃ n, w' = w.drewN n := by
  go_enter Tryd.func29, Tryd.ntmps29
  go_wp2
  go_ret
  exact ⟨rfl, 0, rfl⟩
theorem rfields_11 (w : World) : Calls Tryd.prog 29 #[.int .i64 11] w fun e w' => e = .returned (.string ⟨(Rb.fieldsS 11).toArray⟩) ∧ ∃ n, w' = w.drewN n := by
  go_enter Tryd.func29, Tryd.ntmps29
  go_wp2
  go_ret
  exact ⟨rfl, 0, rfl⟩
theorem rfields_12 (w : World) : Calls Tryd.prog 29 #[.int .i64 12] w fun e w' => e = .returned (.string ⟨(Rb.fieldsS 12).toArray⟩) ∧ ∃ n, w' = w.drewN n := by
  go_enter Tryd.func29, Tryd.ntmps29
  go_wp2
  go_ret
  exact ⟨rfl, 0, rfl⟩
theorem rfields_13 (w : World) : Calls Tryd.prog 29 #[.int .i64 13] w fun e w' => e = .returned (.string ⟨(Rb.fieldsS 13).toArray⟩) ∧ ∃ n, w' = w.drewN n := by
  go_enter Tryd.func29, Tryd.ntmps29
  go_wp2
  go_ret
  exact ⟨rfl, 0, rfl⟩
theorem rfields_14 (w : World) : Calls Tryd.prog 29 #[.int .i64 14] w fun e w' => e = .returned (.string ⟨(Rb.fieldsS 14).toArray⟩) ∧ ∃ n, w' = w.drewN n := by
  go_enter Tryd.func29, Tryd.ntmps29
  go_wp2
  go_ret
  exact ⟨rfl, 0, rfl⟩
theorem rfields_15 (w : World) : Calls Tryd.prog 29 #[.int .i64 15] w fun e w' => e = .returned (.string ⟨(Rb.fieldsS 15).toArray⟩) ∧ ∃ n, w' = w.drewN n := by
  go_enter Tryd.func29, Tryd.ntmps29
  go_wp2
  go_ret
  exact ⟨rfl, 0, rfl⟩
theorem rfields_16 (w : World) : Calls Tryd.prog 29 #[.int .i64 16] w fun e w' => e = .returned (.string ⟨(Rb.fieldsS 16).toArray⟩) ∧ ∃ n, w' = w.drewN n := by
  go_enter Tryd.func29, Tryd.ntmps29
  go_wp2
  go_ret
  exact ⟨rfl, 0, rfl⟩
theorem rfields_17 (w : World) : Calls Tryd.prog 29 #[.int .i64 17] w fun e w' => e = .returned (.string ⟨(Rb.fieldsS 17).toArray⟩) ∧ ∃ n, w' = w.drewN n := by
  go_enter Tryd.func29, Tryd.ntmps29
  go_wp2
  go_ret
  exact ⟨rfl, 0, rfl⟩
theorem rfields_18 (w : World) : Calls Tryd.prog 29 #[.int .i64 18] w fun e w' => e = .returned (.string ⟨(Rb.fieldsS 18).toArray⟩) ∧ ∃ n, w' = w.drewN n := by
  go_enter Tryd.func29, Tryd.ntmps29
  go_wp2
  go_ret
  exact ⟨rfl, 0, rfl⟩
theorem rfields_19 (w : World) : Calls Tryd.prog 29 #[.int .i64 19] w fun e w' => e = .returned (.string ⟨(Rb.fieldsS 19).toArray⟩) ∧ ∃ n, w' = w.drewN n := by
  go_enter Tryd.func29, Tryd.ntmps29
  go_wp2
  go_ret
  exact ⟨rfl, 0, rfl⟩
theorem rfields_20 (w : World) : Calls Tryd.prog 29 #[.int .i64 20] w fun e w' => e = .returned (.string ⟨(Rb.fieldsS 20).toArray⟩) ∧ ∃ n, w' = w.drewN n := by
  go_enter Tryd.func29, Tryd.ntmps29
  go_wp2
  go_ret
  exact ⟨rfl, 0, rfl⟩
theorem rfields_21 (w : World) : Calls Tryd.prog 29 #[.int .i64 21] w fun e w' => e = .returned (.string ⟨(Rb.fieldsS 21).toArray⟩) ∧ ∃ n, w' = w.drewN n := by
  go_enter Tryd.func29, Tryd.ntmps29
  go_wp2
  go_ret
  exact ⟨rfl, 0, rfl⟩
theorem rfields_22 (w : World) : Calls Tryd.prog 29 #[.int .i64 22] w fun e w' => e = .returned (.string ⟨(Rb.fieldsS 22).toArray⟩) ∧ ∃ n, w' = w.drewN n := by
  go_enter Tryd.func29, Tryd.ntmps29
  go_wp2
  go_ret
  exact ⟨rfl, 0, rfl⟩
theorem rfields_23 (w : World) : Calls Tryd.prog 29 #[.int .i64 23] w fun e w' => e = .returned (.string ⟨(Rb.fieldsS 23).toArray⟩) ∧ ∃ n, w' = w.drewN n := by
  go_enter Tryd.func29, Tryd.ntmps29
  go_wp2
  go_ret
  exact ⟨rfl, 0, rfl⟩
theorem rfields_24 (w : World) : Calls Tryd.prog 29 #[.int .i64 24] w fun e w' => e = .returned (.string ⟨(Rb.fieldsS 24).toArray⟩) ∧ ∃ n, w' = w.drewN n := by
  go_enter Tryd.func29, Tryd.ntmps29
  go_wp2
  go_ret
  exact ⟨rfl, 0, rfl⟩
theorem rfields_25 (w : World) : Calls Tryd.prog 29 #[.int .i64 25] w fun e w' => e = .returned (.string ⟨(Rb.fieldsS 25).toArray⟩) ∧ ∃ n, w' = w.drewN n := by
  go_enter Tryd.func29, Tryd.ntmps29
  go_wp2
  go_ret
  exact ⟨rfl, 0, rfl⟩
theorem rfields_26 (w : World) : Calls Tryd.prog 29 #[.int .i64 26] w fun e w' => e = .returned (.string ⟨(Rb.fieldsS 26).toArray⟩) ∧ ∃ n, w' = w.drewN n := by
  go_enter Tryd.func29, Tryd.ntmps29
  go_wp2
  go_ret
  exact ⟨rfl, 0, rfl⟩
theorem rfields_27 (w : World) : Calls Tryd.prog 29 #[.int .i64 27] w fun e w' => e = .returned (.string ⟨(Rb.fieldsS 27).toArray⟩) ∧ ∃ n, w' = w.drewN n := by
  go_enter Tryd.func29, Tryd.ntmps29
  go_wp2
  go_ret
  exact ⟨rfl, 0, rfl⟩
theorem rfields_28 (w : World) : Calls Tryd.prog 29 #[.int .i64 28] w fun e w' => e = .returned (.string ⟨(Rb.fieldsS 28).toArray⟩) ∧ ∃ n, w' = w.drewN n := by
  go_enter Tryd.func29, Tryd.ntmps29
  go_wp2
  go_ret
  exact ⟨rfl, 0, rfl⟩
theorem rfields_29 (w : World) : Calls Tryd.prog 29 #[.int .i64 29] w fun e w' => e = .returned (.string ⟨(Rb.fieldsS 29).toArray⟩) ∧ ∃ n, w' = w.drewN n := by
  go_enter Tryd.func29, Tryd.ntmps29
  go_wp2
  go_ret
  exact ⟨rfl, 0, rfl⟩
theorem rfields_30 (w : World) : Calls Tryd.prog 29 #[.int .i64 30] w fun e w' => e = .returned (.string ⟨(Rb.fieldsS 30).toArray⟩) ∧ ∃ n, w' = w.drewN n := by
  go_enter Tryd.func29, Tryd.ntmps29
  go_wp2
  go_ret
  exact ⟨rfl, 0, rfl⟩
theorem rfields_31 (w : World) : Calls Tryd.prog 29 #[.int .i64 31] w fun e w' => e = .returned (.string ⟨(Rb.fieldsS 31).toArray⟩) ∧ ∃ n, w' = w.drewN n := by
  go_enter Tryd.func29, Tryd.ntmps29
  go_wp2
  go_ret
  exact ⟨rfl, 0, rfl⟩
theorem rfields_32 (w : World) : Calls Tryd.prog 29 #[.int .i64 32] w fun e w' => e = .returned (.string ⟨(Rb.fieldsS 32).toArray⟩) ∧ ∃ n, w' = w.drewN n := by
  go_enter Tryd.func29, Tryd.ntmps29
  go_wp2
  go_ret
  exact ⟨rfl, 0, rfl⟩
theorem rfields_33 (w : World) : Calls Tryd.prog 29 #[.int .i64 33] w fun e w' => e = .returned (.string ⟨(Rb.fieldsS 33).toArray⟩) ∧ ∃ n, w' = w.drewN n := by
  go_enter Tryd.func29, Tryd.ntmps29
  go_wp2
  go_ret
  exact ⟨rfl, 0, rfl⟩
theorem rfields_34 (w : World) : Calls Tryd.prog 29 #[.int .i64 34] w fun e w' => e = .returned (.string ⟨(Rb.fieldsS 34).toArray⟩) ∧ ∃ n, w' = w.drewN n := by
  go_enter Tryd.func29, Tryd.ntmps29
  go_wp2
  go_ret
  exact ⟨rfl, 0, rfl⟩
theorem rfields_35 (w : World) : Calls Tryd.prog 29 #[.int .i64 35] w fun e w' => e = .returned (.string ⟨(Rb.fieldsS 35).toArray⟩) ∧ ∃ n, w' = w.drewN n := by
  go_enter Tryd.func29, Tryd.ntmps29
  go_wp2
  go_ret
  exact ⟨rfl, 0, rfl⟩
theorem rfields_36 (w : World) : Calls Tryd.prog 29 #[.int .i64 36] w fun e w' => e = .returned (.string ⟨(Rb.fieldsS 36).toArray⟩) ∧ ∃ n, w' = w.drewN n := by
  go_enter Tryd.func29, Tryd.ntmps29
  go_wp2
  go_ret
  exact ⟨rfl, 0, rfl⟩
theorem rfields_37 (w : World) : Calls Tryd.prog 29 #[.int .i64 37] w fun e w' => e = .returned (.string ⟨(Rb.fieldsS 37).toArray⟩) ∧ ∃ n, w' = w.drewN n := by
  go_enter Tryd.func29, Tryd.ntmps29
  go_wp2
  go_ret
  exact ⟨rfl, 0, rfl⟩
theorem rfields_38 (w : World) : Calls Tryd.prog 29 #[.int .i64 38] w fun e w' => e = .returned (.string ⟨(Rb.fieldsS 38).toArray⟩) ∧ ∃ n, w' = w.drewN n := by
  go_enter Tryd.func29, Tryd.ntmps29
  go_wp2
  go_ret
  exact ⟨rfl, 0, rfl⟩
theorem rfields_39 (w : World) : Calls Tryd.prog 29 #[.int .i64 39] w fun e w' => e = .returned (.string ⟨(Rb.fieldsS 39).toArray⟩) ∧ ∃ n, w' = w.drewN n := by
  go_enter Tryd.func29, Tryd.ntmps29
  go_wp2
  go_ret
  exact ⟨rfl, 0, rfl⟩
theorem rfields_40 (w : World) : Calls Tryd.prog 29 #[.int .i64 40] w fun e w' => e = .returned (.string ⟨(Rb.fieldsS 40).toArray⟩) ∧ ∃ n, w' = w.drewN n := by
  go_enter Tryd.func29, Tryd.ntmps29
  go_wp2
  go_ret
  exact ⟨rfl, 0, rfl⟩
theorem rfields_41 (w : World) : Calls Tryd.prog 29 #[.int .i64 41] w fun e w' => e = .returned (.string ⟨(Rb.fieldsS 41).toArray⟩) ∧ ∃ n, w' = w.drewN n := by
  go_enter Tryd.func29, Tryd.ntmps29
  go_wp2
  go_ret
  exact ⟨rfl, 0, rfl⟩
theorem rfields_42 (w : World) : Calls Tryd.prog 29 #[.int .i64 42] w fun e w' => e = .returned (.string ⟨(Rb.fieldsS 42).toArray⟩) ∧ ∃ n, w' = w.drewN n := by
  go_enter Tryd.func29, Tryd.ntmps29
  go_wp2
  go_ret
  exact ⟨rfl, 0, rfl⟩
theorem rfields_43 (w : World) : Calls Tryd.prog 29 #[.int .i64 43] w fun e w' => e = .returned (.string ⟨(Rb.fieldsS 43).toArray⟩) ∧ ∃ n, w' = w.drewN n := by
  go_enter Tryd.func29, Tryd.ntmps29
  go_wp2
  go_ret
  exact ⟨rfl, 0, rfl⟩
theorem rfields_44 (w : World) : Calls Tryd.prog 29 #[.int .i64 44] w fun e w' => e = .returned (.string ⟨(Rb.fieldsS 44).toArray⟩) ∧ ∃ n, w' = w.drewN n := by
  go_enter Tryd.func29, Tryd.ntmps29
  go_wp2
  go_ret
  exact ⟨rfl, 0, rfl⟩
theorem rfields_45 (w : World) : Calls Tryd.prog 29 #[.int .i64 45] w fun e w' => e = .returned (.string ⟨(Rb.fieldsS 45).toArray⟩) ∧ ∃ n, w' = w.drewN n := by
  go_enter Tryd.func29, Tryd.ntmps29
  go_wp2
  go_ret
  exact ⟨rfl, 0, rfl⟩
theorem rfields_c (op : Int) (h : 1 ≤ op ∧ op ≤ 45) (w : World) : Calls Tryd.prog 29 #[.int .i64 op] w fun e w' => e = .returned (.string ⟨(Rb.fieldsS op).toArray⟩) ∧ ∃ n, w' = w.drewN n := by
  rcases (by omega : op = 1 ∨ op = 2 ∨ op = 3 ∨ op = 4 ∨ op = 5 ∨ op = 6 ∨ op = 7 ∨ op = 8 ∨ op = 9 ∨ op = 10 ∨ op = 11 ∨ op = 12 ∨ op = 13 ∨ op = 14 ∨ op = 15 ∨ op = 16 ∨ op = 17 ∨ op = 18 ∨ op = 19 ∨ op = 20 ∨ op = 21 ∨ op = 22 ∨ op = 23 ∨ op = 24 ∨ op = 25 ∨ op = 26 ∨ op = 27 ∨ op = 28 ∨ op = 29 ∨ op = 30 ∨ op = 31 ∨ op = 32 ∨ op = 33 ∨ op = 34 ∨ op = 35 ∨ op = 36 ∨ op = 37 ∨ op = 38 ∨ op = 39 ∨ op = 40 ∨ op = 41 ∨ op = 42 ∨ op = 43 ∨ op = 44 ∨ op = 45) with rfl | rfl | rfl | rfl | rfl | rfl | rfl | rfl | rfl | rfl | rfl | rfl | rfl | rfl | rfl | rfl | rfl | rfl | rfl | rfl | rfl | rfl | rfl | rfl | rfl | rfl | rfl | rfl | rfl | rfl | rfl | rfl | rfl | rfl | rfl | rfl | rfl | rfl | rfl | rfl | rfl | rfl | rfl | rfl | rfl
  · exact rfields_1 w
  · exact rfields_2 w
  · exact rfields_3 w
  · exact rfields_4 w
  · exact rfields_5 w
  · exact rfields_6 w
  · exact rfields_7 w
  · exact rfields_8 w
  · exact rfields_9 w
  · exact rfields_10 w
  · exact rfields_11 w
  · exact rfields_12 w
  · exact rfields_13 w
  · exact rfields_14 w
  · exact rfields_15 w
  · exact rfields_16 w
  · exact rfields_17 w
  · exact rfields_18 w
  · exact rfields_19 w
  · exact rfields_20 w
  · exact rfields_21 w
  · exact rfields_22 w
  · exact rfields_23 w
  · exact rfields_24 w
  · exact rfields_25 w
  · exact rfields_26 w
  · exact rfields_27 w
  · exact rfields_28 w
  · exact rfields_29 w
  · exact rfields_30 w
  · exact rfields_31 w
  · exact rfields_32 w
  · exact rfields_33 w
  · exact rfields_34 w
  · exact rfields_35 w
  · exact rfields_36 w
  · exact rfields_37 w
  · exact rfields_38 w
  · exact rfields_39 w
  · exact rfields_40 w
  · exact rfields_41 w
  · exact rfields_42 w
  · exact rfields_43 w
  · exact rfields_44 w
  · exact rfields_45 w
def IV (i : Nm.I) : Value := .agg #[.int .i64 i.op, .int .i64 i.cond, .int .i64 i.rd, .int .i64 i.rn, .int .i64 i.rm, .int .i64 i.imm, .int .i64 i.mode, .int .i64 i.list, .bool i.s]
set_option maxHeartbeats 1000000 in
theorem rbare_dnms_2 (op cond rd rn rm imm mode list : Int) (s : Bool) (w : World) (hm : (mode == 2) = true) : Calls Tryd.prog 28 #[.agg #[.int .i64 op, .int .i64 cond, .int .i64 rd, .int .i64 rn, .int .i64 rm, .int .i64 imm, .int .i64 mode, .int .i64 list, .bool s], .string ⟨#[100, 110, 109, 115]⟩] w fun e w' => e = .returned (.agg #[.int .i64 op, .int .i64 0, .int .i64 rd, .int .i64 rn, .int .i64 rm, .int .i64 0, .int .i64 mode, .int .i64 0, .bool s]) ∧ Below w.heap.size w w' := by
  go_enter Tryd.func28, Tryd.ntmps28
  go_wp2
  refine wp_loop_rounds 5 ?_
  rw [rounds_succ]
  go_wp2
  rw [rounds_succ]
  go_wp2
  rw [rounds_succ]
  go_wp2
  rw [rounds_succ]
  go_wp2
  rw [rounds_succ]
  go_wp2
  refine bodyPost_ret (v := .agg #[.int .i64 op, .int .i64 0, .int .i64 rd, .int .i64 rn, .int .i64 rm, .int .i64 0, .int .i64 mode, .int .i64 0, .bool s]) (by simp [results, Tryd.f28, go_sem]) rfl ?_
  exact ⟨rfl, three_b _ _ _ _⟩
set_option maxHeartbeats 1000000 in
theorem rbare_dnms_0 (op cond rd rn rm imm mode list : Int) (s : Bool) (w : World) (hm : (mode == 2) = false) : Calls Tryd.prog 28 #[.agg #[.int .i64 op, .int .i64 cond, .int .i64 rd, .int .i64 rn, .int .i64 rm, .int .i64 imm, .int .i64 mode, .int .i64 list, .bool s], .string ⟨#[100, 110, 109, 115]⟩] w fun e w' => e = .returned (.agg #[.int .i64 op, .int .i64 0, .int .i64 rd, .int .i64 rn, .int .i64 0, .int .i64 imm, .int .i64 mode, .int .i64 0, .bool s]) ∧ Below w.heap.size w w' := by
  go_enter Tryd.func28, Tryd.ntmps28
  go_wp2
  refine wp_loop_rounds 5 ?_
  rw [rounds_succ]
  go_wp2
  rw [rounds_succ]
  go_wp2
  rw [rounds_succ]
  go_wp2
  rw [rounds_succ]
  go_wp2
  rw [rounds_succ]
  go_wp2
  refine bodyPost_ret (v := .agg #[.int .i64 op, .int .i64 0, .int .i64 rd, .int .i64 rn, .int .i64 0, .int .i64 imm, .int .i64 mode, .int .i64 0, .bool s]) (by simp [results, Tryd.f28, go_sem]) rfl ?_
  exact ⟨rfl, three_b _ _ _ _⟩
set_option maxHeartbeats 1000000 in
theorem rbare_dms_2 (op cond rd rn rm imm mode list : Int) (s : Bool) (w : World) (hm : (mode == 2) = true) : Calls Tryd.prog 28 #[.agg #[.int .i64 op, .int .i64 cond, .int .i64 rd, .int .i64 rn, .int .i64 rm, .int .i64 imm, .int .i64 mode, .int .i64 list, .bool s], .string ⟨#[100, 109, 115]⟩] w fun e w' => e = .returned (.agg #[.int .i64 op, .int .i64 0, .int .i64 rd, .int .i64 0, .int .i64 rm, .int .i64 0, .int .i64 mode, .int .i64 0, .bool s]) ∧ Below w.heap.size w w' := by
  go_enter Tryd.func28, Tryd.ntmps28
  go_wp2
  refine wp_loop_rounds 4 ?_
  rw [rounds_succ]
  go_wp2
  rw [rounds_succ]
  go_wp2
  rw [rounds_succ]
  go_wp2
  rw [rounds_succ]
  go_wp2
  refine bodyPost_ret (v := .agg #[.int .i64 op, .int .i64 0, .int .i64 rd, .int .i64 0, .int .i64 rm, .int .i64 0, .int .i64 mode, .int .i64 0, .bool s]) (by simp [results, Tryd.f28, go_sem]) rfl ?_
  exact ⟨rfl, three_b _ _ _ _⟩
set_option maxHeartbeats 1000000 in
theorem rbare_dms_0 (op cond rd rn rm imm mode list : Int) (s : Bool) (w : World) (hm : (mode == 2) = false) : Calls Tryd.prog 28 #[.agg #[.int .i64 op, .int .i64 cond, .int .i64 rd, .int .i64 rn, .int .i64 rm, .int .i64 imm, .int .i64 mode, .int .i64 list, .bool s], .string ⟨#[100, 109, 115]⟩] w fun e w' => e = .returned (.agg #[.int .i64 op, .int .i64 0, .int .i64 rd, .int .i64 0, .int .i64 0, .int .i64 imm, .int .i64 mode, .int .i64 0, .bool s]) ∧ Below w.heap.size w w' := by
  go_enter Tryd.func28, Tryd.ntmps28
  go_wp2
  refine wp_loop_rounds 4 ?_
  rw [rounds_succ]
  go_wp2
  rw [rounds_succ]
  go_wp2
  rw [rounds_succ]
  go_wp2
  rw [rounds_succ]
  go_wp2
  refine bodyPost_ret (v := .agg #[.int .i64 op, .int .i64 0, .int .i64 rd, .int .i64 0, .int .i64 0, .int .i64 imm, .int .i64 mode, .int .i64 0, .bool s]) (by simp [results, Tryd.f28, go_sem]) rfl ?_
  exact ⟨rfl, three_b _ _ _ _⟩
set_option maxHeartbeats 1000000 in
theorem rbare_nm_2 (op cond rd rn rm imm mode list : Int) (s : Bool) (w : World) (hm : (mode == 2) = true) : Calls Tryd.prog 28 #[.agg #[.int .i64 op, .int .i64 cond, .int .i64 rd, .int .i64 rn, .int .i64 rm, .int .i64 imm, .int .i64 mode, .int .i64 list, .bool s], .string ⟨#[110, 109]⟩] w fun e w' => e = .returned (.agg #[.int .i64 op, .int .i64 0, .int .i64 0, .int .i64 rn, .int .i64 rm, .int .i64 0, .int .i64 mode, .int .i64 0, .bool false]) ∧ Below w.heap.size w w' := by
  go_enter Tryd.func28, Tryd.ntmps28
  go_wp2
  refine wp_loop_rounds 3 ?_
  rw [rounds_succ]
  go_wp2
  rw [rounds_succ]
  go_wp2
  rw [rounds_succ]
  go_wp2
  refine bodyPost_ret (v := .agg #[.int .i64 op, .int .i64 0, .int .i64 0, .int .i64 rn, .int .i64 rm, .int .i64 0, .int .i64 mode, .int .i64 0, .bool false]) (by simp [results, Tryd.f28, go_sem]) rfl ?_
  exact ⟨rfl, three_b _ _ _ _⟩
set_option maxHeartbeats 1000000 in
theorem rbare_nm_0 (op cond rd rn rm imm mode list : Int) (s : Bool) (w : World) (hm : (mode == 2) = false) : Calls Tryd.prog 28 #[.agg #[.int .i64 op, .int .i64 cond, .int .i64 rd, .int .i64 rn, .int .i64 rm, .int .i64 imm, .int .i64 mode, .int .i64 list, .bool s], .string ⟨#[110, 109]⟩] w fun e w' => e = .returned (.agg #[.int .i64 op, .int .i64 0, .int .i64 0, .int .i64 rn, .int .i64 0, .int .i64 imm, .int .i64 mode, .int .i64 0, .bool false]) ∧ Below w.heap.size w w' := by
  go_enter Tryd.func28, Tryd.ntmps28
  go_wp2
  refine wp_loop_rounds 3 ?_
  rw [rounds_succ]
  go_wp2
  rw [rounds_succ]
  go_wp2
  rw [rounds_succ]
  go_wp2
  refine bodyPost_ret (v := .agg #[.int .i64 op, .int .i64 0, .int .i64 0, .int .i64 rn, .int .i64 0, .int .i64 imm, .int .i64 mode, .int .i64 0, .bool false]) (by simp [results, Tryd.f28, go_sem]) rfl ?_
  exact ⟨rfl, three_b _ _ _ _⟩
set_option maxHeartbeats 1000000 in
theorem rbare_dnm_2 (op cond rd rn rm imm mode list : Int) (s : Bool) (w : World) (hm : (mode == 2) = true) : Calls Tryd.prog 28 #[.agg #[.int .i64 op, .int .i64 cond, .int .i64 rd, .int .i64 rn, .int .i64 rm, .int .i64 imm, .int .i64 mode, .int .i64 list, .bool s], .string ⟨#[100, 110, 109]⟩] w fun e w' => e = .returned (.agg #[.int .i64 op, .int .i64 0, .int .i64 rd, .int .i64 rn, .int .i64 rm, .int .i64 0, .int .i64 mode, .int .i64 0, .bool false]) ∧ Below w.heap.size w w' := by
  go_enter Tryd.func28, Tryd.ntmps28
  go_wp2
  refine wp_loop_rounds 4 ?_
  rw [rounds_succ]
  go_wp2
  rw [rounds_succ]
  go_wp2
  rw [rounds_succ]
  go_wp2
  rw [rounds_succ]
  go_wp2
  refine bodyPost_ret (v := .agg #[.int .i64 op, .int .i64 0, .int .i64 rd, .int .i64 rn, .int .i64 rm, .int .i64 0, .int .i64 mode, .int .i64 0, .bool false]) (by simp [results, Tryd.f28, go_sem]) rfl ?_
  exact ⟨rfl, three_b _ _ _ _⟩
set_option maxHeartbeats 1000000 in
theorem rbare_dnm_0 (op cond rd rn rm imm mode list : Int) (s : Bool) (w : World) (hm : (mode == 2) = false) : Calls Tryd.prog 28 #[.agg #[.int .i64 op, .int .i64 cond, .int .i64 rd, .int .i64 rn, .int .i64 rm, .int .i64 imm, .int .i64 mode, .int .i64 list, .bool s], .string ⟨#[100, 110, 109]⟩] w fun e w' => e = .returned (.agg #[.int .i64 op, .int .i64 0, .int .i64 rd, .int .i64 rn, .int .i64 0, .int .i64 imm, .int .i64 mode, .int .i64 0, .bool false]) ∧ Below w.heap.size w w' := by
  go_enter Tryd.func28, Tryd.ntmps28
  go_wp2
  refine wp_loop_rounds 4 ?_
  rw [rounds_succ]
  go_wp2
  rw [rounds_succ]
  go_wp2
  rw [rounds_succ]
  go_wp2
  rw [rounds_succ]
  go_wp2
  refine bodyPost_ret (v := .agg #[.int .i64 op, .int .i64 0, .int .i64 rd, .int .i64 rn, .int .i64 0, .int .i64 imm, .int .i64 mode, .int .i64 0, .bool false]) (by simp [results, Tryd.f28, go_sem]) rfl ?_
  exact ⟨rfl, three_b _ _ _ _⟩
set_option maxHeartbeats 1000000 in
theorem rbare_dm_2 (op cond rd rn rm imm mode list : Int) (s : Bool) (w : World) (hm : (mode == 2) = true) : Calls Tryd.prog 28 #[.agg #[.int .i64 op, .int .i64 cond, .int .i64 rd, .int .i64 rn, .int .i64 rm, .int .i64 imm, .int .i64 mode, .int .i64 list, .bool s], .string ⟨#[100, 109]⟩] w fun e w' => e = .returned (.agg #[.int .i64 op, .int .i64 0, .int .i64 rd, .int .i64 0, .int .i64 rm, .int .i64 0, .int .i64 mode, .int .i64 0, .bool false]) ∧ Below w.heap.size w w' := by
  go_enter Tryd.func28, Tryd.ntmps28
  go_wp2
  refine wp_loop_rounds 3 ?_
  rw [rounds_succ]
  go_wp2
  rw [rounds_succ]
  go_wp2
  rw [rounds_succ]
  go_wp2
  refine bodyPost_ret (v := .agg #[.int .i64 op, .int .i64 0, .int .i64 rd, .int .i64 0, .int .i64 rm, .int .i64 0, .int .i64 mode, .int .i64 0, .bool false]) (by simp [results, Tryd.f28, go_sem]) rfl ?_
  exact ⟨rfl, three_b _ _ _ _⟩
set_option maxHeartbeats 1000000 in
theorem rbare_dm_0 (op cond rd rn rm imm mode list : Int) (s : Bool) (w : World) (hm : (mode == 2) = false) : Calls Tryd.prog 28 #[.agg #[.int .i64 op, .int .i64 cond, .int .i64 rd, .int .i64 rn, .int .i64 rm, .int .i64 imm, .int .i64 mode, .int .i64 list, .bool s], .string ⟨#[100, 109]⟩] w fun e w' => e = .returned (.agg #[.int .i64 op, .int .i64 0, .int .i64 rd, .int .i64 0, .int .i64 0, .int .i64 imm, .int .i64 mode, .int .i64 0, .bool false]) ∧ Below w.heap.size w w' := by
  go_enter Tryd.func28, Tryd.ntmps28
  go_wp2
  refine wp_loop_rounds 3 ?_
  rw [rounds_succ]
  go_wp2
  rw [rounds_succ]
  go_wp2
  rw [rounds_succ]
  go_wp2
  refine bodyPost_ret (v := .agg #[.int .i64 op, .int .i64 0, .int .i64 rd, .int .i64 0, .int .i64 0, .int .i64 imm, .int .i64 mode, .int .i64 0, .bool false]) (by simp [results, Tryd.f28, go_sem]) rfl ?_
  exact ⟨rfl, three_b _ _ _ _⟩
set_option maxHeartbeats 1000000 in
theorem rbare_nl_1 (op cond rd rn rm imm mode list : Int) (s : Bool) (w : World) : Calls Tryd.prog 28 #[.agg #[.int .i64 op, .int .i64 cond, .int .i64 rd, .int .i64 rn, .int .i64 rm, .int .i64 imm, .int .i64 mode, .int .i64 list, .bool s], .string ⟨#[110, 108]⟩] w fun e w' => e = .returned (.agg #[.int .i64 op, .int .i64 0, .int .i64 0, .int .i64 rn, .int .i64 0, .int .i64 0, .int .i64 0, .int .i64 list, .bool false]) ∧ Below w.heap.size w w' := by
  go_enter Tryd.func28, Tryd.ntmps28
  go_wp2
  refine wp_loop_rounds 3 ?_
  rw [rounds_succ]
  go_wp2
  rw [rounds_succ]
  go_wp2
  rw [rounds_succ]
  go_wp2
  refine bodyPost_ret (v := .agg #[.int .i64 op, .int .i64 0, .int .i64 0, .int .i64 rn, .int .i64 0, .int .i64 0, .int .i64 0, .int .i64 list, .bool false]) (by simp [results, Tryd.f28, go_sem]) rfl ?_
  exact ⟨rfl, three_b _ _ _ _⟩
set_option maxHeartbeats 1000000 in
theorem rbare_l_1 (op cond rd rn rm imm mode list : Int) (s : Bool) (w : World) : Calls Tryd.prog 28 #[.agg #[.int .i64 op, .int .i64 cond, .int .i64 rd, .int .i64 rn, .int .i64 rm, .int .i64 imm, .int .i64 mode, .int .i64 list, .bool s], .string ⟨#[108]⟩] w fun e w' => e = .returned (.agg #[.int .i64 op, .int .i64 0, .int .i64 0, .int .i64 0, .int .i64 0, .int .i64 0, .int .i64 0, .int .i64 list, .bool false]) ∧ Below w.heap.size w w' := by
  go_enter Tryd.func28, Tryd.ntmps28
  go_wp2
  refine wp_loop_rounds 2 ?_
  rw [rounds_succ]
  go_wp2
  rw [rounds_succ]
  go_wp2
  refine bodyPost_ret (v := .agg #[.int .i64 op, .int .i64 0, .int .i64 0, .int .i64 0, .int .i64 0, .int .i64 0, .int .i64 0, .int .i64 list, .bool false]) (by simp [results, Tryd.f28, go_sem]) rfl ?_
  exact ⟨rfl, three_b _ _ _ _⟩
set_option maxHeartbeats 1000000 in
theorem rbare_cm_2 (op cond rd rn rm imm mode list : Int) (s : Bool) (w : World) (hm : (mode == 2) = true) : Calls Tryd.prog 28 #[.agg #[.int .i64 op, .int .i64 cond, .int .i64 rd, .int .i64 rn, .int .i64 rm, .int .i64 imm, .int .i64 mode, .int .i64 list, .bool s], .string ⟨#[99, 109]⟩] w fun e w' => e = .returned (.agg #[.int .i64 op, .int .i64 cond, .int .i64 0, .int .i64 0, .int .i64 rm, .int .i64 0, .int .i64 mode, .int .i64 0, .bool false]) ∧ Below w.heap.size w w' := by
  go_enter Tryd.func28, Tryd.ntmps28
  go_wp2
  refine wp_loop_rounds 3 ?_
  rw [rounds_succ]
  go_wp2
  rw [rounds_succ]
  go_wp2
  rw [rounds_succ]
  go_wp2
  refine bodyPost_ret (v := .agg #[.int .i64 op, .int .i64 cond, .int .i64 0, .int .i64 0, .int .i64 rm, .int .i64 0, .int .i64 mode, .int .i64 0, .bool false]) (by simp [results, Tryd.f28, go_sem]) rfl ?_
  exact ⟨rfl, three_b _ _ _ _⟩
set_option maxHeartbeats 1000000 in
theorem rbare_cm_0 (op cond rd rn rm imm mode list : Int) (s : Bool) (w : World) (hm : (mode == 2) = false) : Calls Tryd.prog 28 #[.agg #[.int .i64 op, .int .i64 cond, .int .i64 rd, .int .i64 rn, .int .i64 rm, .int .i64 imm, .int .i64 mode, .int .i64 list, .bool s], .string ⟨#[99, 109]⟩] w fun e w' => e = .returned (.agg #[.int .i64 op, .int .i64 cond, .int .i64 0, .int .i64 0, .int .i64 0, .int .i64 imm, .int .i64 mode, .int .i64 0, .bool false]) ∧ Below w.heap.size w w' := by
  go_enter Tryd.func28, Tryd.ntmps28
  go_wp2
  refine wp_loop_rounds 3 ?_
  rw [rounds_succ]
  go_wp2
  rw [rounds_succ]
  go_wp2
  rw [rounds_succ]
  go_wp2
  refine bodyPost_ret (v := .agg #[.int .i64 op, .int .i64 cond, .int .i64 0, .int .i64 0, .int .i64 0, .int .i64 imm, .int .i64 mode, .int .i64 0, .bool false]) (by simp [results, Tryd.f28, go_sem]) rfl ?_
  exact ⟨rfl, three_b _ _ _ _⟩
set_option maxHeartbeats 1000000 in
theorem rbare_m_2 (op cond rd rn rm imm mode list : Int) (s : Bool) (w : World) (hm : (mode == 2) = true) : Calls Tryd.prog 28 #[.agg #[.int .i64 op, .int .i64 cond, .int .i64 rd, .int .i64 rn, .int .i64 rm, .int .i64 imm, .int .i64 mode, .int .i64 list, .bool s], .string ⟨#[109]⟩] w fun e w' => e = .returned (.agg #[.int .i64 op, .int .i64 0, .int .i64 0, .int .i64 0, .int .i64 rm, .int .i64 0, .int .i64 mode, .int .i64 0, .bool false]) ∧ Below w.heap.size w w' := by
  go_enter Tryd.func28, Tryd.ntmps28
  go_wp2
  refine wp_loop_rounds 2 ?_
  rw [rounds_succ]
  go_wp2
  rw [rounds_succ]
  go_wp2
  refine bodyPost_ret (v := .agg #[.int .i64 op, .int .i64 0, .int .i64 0, .int .i64 0, .int .i64 rm, .int .i64 0, .int .i64 mode, .int .i64 0, .bool false]) (by simp [results, Tryd.f28, go_sem]) rfl ?_
  exact ⟨rfl, three_b _ _ _ _⟩
set_option maxHeartbeats 1000000 in
theorem rbare_m_0 (op cond rd rn rm imm mode list : Int) (s : Bool) (w : World) (hm : (mode == 2) = false) : Calls Tryd.prog 28 #[.agg #[.int .i64 op, .int .i64 cond, .int .i64 rd, .int .i64 rn, .int .i64 rm, .int .i64 imm, .int .i64 mode, .int .i64 list, .bool s], .string ⟨#[109]⟩] w fun e w' => e = .returned (.agg #[.int .i64 op, .int .i64 0, .int .i64 0, .int .i64 0, .int .i64 0, .int .i64 imm, .int .i64 mode, .int .i64 0, .bool false]) ∧ Below w.heap.size w w' := by
  go_enter Tryd.func28, Tryd.ntmps28
  go_wp2
  refine wp_loop_rounds 2 ?_
  rw [rounds_succ]
  go_wp2
  rw [rounds_succ]
  go_wp2
  refine bodyPost_ret (v := .agg #[.int .i64 op, .int .i64 0, .int .i64 0, .int .i64 0, .int .i64 0, .int .i64 imm, .int .i64 mode, .int .i64 0, .bool false]) (by simp [results, Tryd.f28, go_sem]) rfl ?_
  exact ⟨rfl, three_b _ _ _ _⟩
set_option maxHeartbeats 1000000 in
theorem rbare_none_1 (op cond rd rn rm imm mode list : Int) (s : Bool) (w : World) : Calls Tryd.prog 28 #[.agg #[.int .i64 op, .int .i64 cond, .int .i64 rd, .int .i64 rn, .int .i64 rm, .int .i64 imm, .int .i64 mode, .int .i64 list, .bool s], .string ⟨#[]⟩] w fun e w' => e = .returned (.agg #[.int .i64 op, .int .i64 0, .int .i64 0, .int .i64 0, .int .i64 0, .int .i64 0, .int .i64 0, .int .i64 0, .bool false]) ∧ Below w.heap.size w w' := by
  go_enter Tryd.func28, Tryd.ntmps28
  go_wp2
  refine wp_loop_rounds 1 ?_
  rw [rounds_succ]
  go_wp2
  refine bodyPost_ret (v := .agg #[.int .i64 op, .int .i64 0, .int .i64 0, .int .i64 0, .int .i64 0, .int .i64 0, .int .i64 0, .int .i64 0, .bool false]) (by simp [results, Tryd.f28, go_sem]) rfl ?_
  exact ⟨rfl, three_b _ _ _ _⟩
end Go.Proofs.YtcphhojdfpedkaaDoor
