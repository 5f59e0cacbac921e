/- The document's own Encode is the plain row of each instruction (text by gen_vf.py). No conditions but those that each fact names. -/
import Derived.Test.YtcphhojdfpedkaaDoorVe
import Derived.Test.YtcphhojdfpedkaaDoorVf
namespace Go.Proofs.YtcphhojdfpedkaaDoor
open Go.ChangeShapes Go.WideShapes Go.ChangeAt Go.RowKit
theorem renc_c (op cond rd rn rm imm mode list : Int) (s it : Bool) (w : World) (hw : Nm.Wide list) :
    Calls Tryd.prog 13 #[.agg #[.int .i64 op, .int .i64 cond, .int .i64 rd, .int .i64 rn, .int .i64 rm, .int .i64 imm, .int .i64 mode, .int .i64 list, .bool s], .bool it] w fun e w' => e = .returned (optV (Nm.encI ⟨op, cond, rd, rn, rm, imm, mode, list, s⟩ it)) ∧ Below w.heap.size w w' := by
  cases hok : Nm.okB ⟨op, cond, rd, rn, rm, imm, mode, list, s⟩ with
  | false =>
    rw [show Nm.encI ⟨op, cond, rd, rn, rm, imm, mode, list, s⟩ it = none by unfold Nm.encI; rw [hok]; rfl]
    exact renc_no op cond rd rn rm imm mode list s it w hw hok
  | true =>
    rw [show Nm.encI ⟨op, cond, rd, rn, rm, imm, mode, list, s⟩ it = Nm.rowI ⟨op, cond, rd, rn, rm, imm, mode, list, s⟩ it by unfold Nm.encI; rw [if_pos hok]]
    have h := (Nm.ok_parts hok).1
    dsimp only at h
    rcases (by omega : op = 1 ∨ op = 2 ∨ op = 3 ∨ op = 4 ∨ op = 5 ∨ op = 6 ∨ op = 7 ∨ op = 8 ∨ op = 9 ∨ op = 10 ∨ op = 11 ∨ op = 12 ∨ op = 13 ∨ op = 14 ∨ op = 15 ∨ op = 16 ∨ op = 17 ∨ op = 18 ∨ op = 19 ∨ op = 20 ∨ op = 21 ∨ op = 22 ∨ op = 23 ∨ op = 24 ∨ op = 25 ∨ op = 26 ∨ op = 27 ∨ op = 28 ∨ op = 29 ∨ op = 30 ∨ op = 31 ∨ op = 32 ∨ op = 33 ∨ op = 34 ∨ op = 35 ∨ op = 36 ∨ op = 37 ∨ op = 38 ∨ op = 39 ∨ op = 40 ∨ op = 41 ∨ op = 42 ∨ op = 43 ∨ op = 44 ∨ op = 45) with rfl | rfl | rfl | rfl | rfl | rfl | rfl | rfl | rfl | rfl | rfl | rfl | rfl | rfl | rfl | rfl | rfl | rfl | rfl | rfl | rfl | rfl | rfl | rfl | rfl | rfl | rfl | rfl | rfl | rfl | rfl | rfl | rfl | rfl | rfl | rfl | rfl | rfl | rfl | rfl | rfl | rfl | rfl | rfl | rfl
    · exact renc_two 1 cond rd rn rm imm mode list s it w hw hok rfl rfl rfl rfl rfl _ (fun W => row_1_c cond rd rn rm imm mode list s (s != it) it W hok hw)
    · exact renc_two 2 cond rd rn rm imm mode list s it w hw hok rfl rfl rfl rfl rfl _ (fun W => row_2_c cond rd rn rm imm mode list s (s != it) it W hok hw)
    · exact renc_two 3 cond rd rn rm imm mode list s it w hw hok rfl rfl rfl rfl rfl _ (fun W => row_3_c cond rd rn rm imm mode list s (s != it) it W hok hw)
    · exact renc_two 4 cond rd rn rm imm mode list s it w hw hok rfl rfl rfl rfl rfl _ (fun W => row_4_c cond rd rn rm imm mode list s (s != it) it W hok hw)
    · exact renc_sum5 5 cond rd rn rm imm mode list s it w hw hok rfl _ (fun W => row_5_c cond rd rn rm imm mode list s (s != it) W hok hw)
    · exact renc_two 6 cond rd rn rm imm mode list s it w hw hok rfl rfl rfl rfl rfl _ (fun W => row_6_c cond rd rn rm imm mode list s (s != it) it W hok hw)
    · exact renc_sum7 7 cond rd rn rm imm mode list s it w hw hok rfl rfl _ (fun W => row_7_c cond rd rn rm imm mode list s (s != it) W hok hw)
    · exact renc_two 8 cond rd rn rm imm mode list s it w hw hok rfl rfl rfl rfl rfl _ (fun W => row_8_c cond rd rn rm imm mode list s (s != it) it W hok hw)
    · exact renc_two 9 cond rd rn rm imm mode list s it w hw hok rfl rfl rfl rfl rfl _ (fun W => row_9_c cond rd rn rm imm mode list s (s != it) it W hok hw)
    · exact renc_move10 10 cond rd rn rm imm mode list s it w hw hok rfl rfl rfl _ (fun W => row_10_c cond rd rn rm imm mode list s (s != it) it W hok hw)
    · exact renc_two 11 cond rd rn rm imm mode list s it w hw hok rfl rfl rfl rfl rfl _ (fun W => row_11_c cond rd rn rm imm mode list s (s != it) it W hok hw)
    · exact renc_move12 12 cond rd rn rm imm mode list s it w hw hok rfl rfl rfl rfl _ (fun W => row_12_c cond rd rn rm imm mode list s (s != it) it W hok hw)
    · exact renc_two 13 cond rd rn rm imm mode list s it w hw hok rfl rfl rfl rfl rfl _ (fun W => row_13_c cond rd rn rm imm mode list s (s != it) it W hok hw)
    · exact renc_two 14 cond rd rn rm imm mode list s it w hw hok rfl rfl rfl rfl rfl _ (fun W => row_14_c cond rd rn rm imm mode list s (s != it) it W hok hw)
    · exact renc_r15 15 cond rd rn rm imm mode list s it w hw hok rfl rfl rfl rfl rfl rfl rfl rfl rfl rfl rfl _ (fun W => row_15_c cond rd rn rm imm mode list s it W hok hw)
    · exact renc_shift 16 cond rd rn rm imm mode list s it w hw hok rfl rfl rfl rfl rfl rfl rfl rfl _ (fun W => row_16_c cond rd rn rm imm mode list s (s != it) W hok hw)
    · exact renc_shift 17 cond rd rn rm imm mode list s it w hw hok rfl rfl rfl rfl rfl rfl rfl rfl _ (fun W => row_17_c cond rd rn rm imm mode list s (s != it) W hok hw)
    · exact renc_shift 18 cond rd rn rm imm mode list s it w hw hok rfl rfl rfl rfl rfl rfl rfl rfl _ (fun W => row_18_c cond rd rn rm imm mode list s (s != it) W hok hw)
    · exact renc_shift 19 cond rd rn rm imm mode list s it w hw hok rfl rfl rfl rfl rfl rfl rfl rfl _ (fun W => row_19_c cond rd rn rm imm mode list s (s != it) W hok hw)
    · exact renc_two20 20 cond rd rn rm imm mode list s it w hw hok rfl rfl rfl rfl rfl rfl _ (fun W => row_20_c cond rd rn rm imm mode list s (s != it) it W hok hw)
    · exact renc_r21 21 cond rd rn rm imm mode list s it w hw hok rfl rfl rfl rfl rfl rfl rfl rfl rfl rfl rfl rfl _ (fun W => row_21_c cond rd rn rm imm mode list s it W hok hw)
    · exact renc_r21 22 cond rd rn rm imm mode list s it w hw hok rfl rfl rfl rfl rfl rfl rfl rfl rfl rfl rfl rfl _ (fun W => row_22_c cond rd rn rm imm mode list s it W hok hw)
    · exact renc_r21 23 cond rd rn rm imm mode list s it w hw hok rfl rfl rfl rfl rfl rfl rfl rfl rfl rfl rfl rfl _ (fun W => row_23_c cond rd rn rm imm mode list s it W hok hw)
    · exact renc_r21 24 cond rd rn rm imm mode list s it w hw hok rfl rfl rfl rfl rfl rfl rfl rfl rfl rfl rfl rfl _ (fun W => row_24_c cond rd rn rm imm mode list s it W hok hw)
    · exact renc_load 25 cond rd rn rm imm mode list s it w hw hok rfl rfl rfl rfl rfl rfl rfl rfl rfl rfl _ (fun W => row_25_c cond rd rn rm imm mode list s  W hok hw)
    · exact renc_load 26 cond rd rn rm imm mode list s it w hw hok rfl rfl rfl rfl rfl rfl rfl rfl rfl rfl _ (fun W => row_26_c cond rd rn rm imm mode list s  W hok hw)
    · exact renc_load 27 cond rd rn rm imm mode list s it w hw hok rfl rfl rfl rfl rfl rfl rfl rfl rfl rfl _ (fun W => row_27_c cond rd rn rm imm mode list s  W hok hw)
    · exact renc_load 28 cond rd rn rm imm mode list s it w hw hok rfl rfl rfl rfl rfl rfl rfl rfl rfl rfl _ (fun W => row_28_c cond rd rn rm imm mode list s  W hok hw)
    · exact renc_load 29 cond rd rn rm imm mode list s it w hw hok rfl rfl rfl rfl rfl rfl rfl rfl rfl rfl _ (fun W => row_29_c cond rd rn rm imm mode list s  W hok hw)
    · exact renc_load 30 cond rd rn rm imm mode list s it w hw hok rfl rfl rfl rfl rfl rfl rfl rfl rfl rfl _ (fun W => row_30_c cond rd rn rm imm mode list s  W hok hw)
    · exact renc_r31 31 cond rd rn rm imm mode list s it w hw hok rfl rfl rfl rfl rfl rfl rfl rfl rfl rfl rfl rfl rfl _ (fun W => row_31_c cond rd rn rm imm mode list s it W hok hw)
    · exact renc_r31 32 cond rd rn rm imm mode list s it w hw hok rfl rfl rfl rfl rfl rfl rfl rfl rfl rfl rfl rfl rfl _ (fun W => row_32_c cond rd rn rm imm mode list s it W hok hw)
    · exact renc_r31 33 cond rd rn rm imm mode list s it w hw hok rfl rfl rfl rfl rfl rfl rfl rfl rfl rfl rfl rfl rfl _ (fun W => row_33_c cond rd rn rm imm mode list s it W hok hw)
    · exact renc_r31 34 cond rd rn rm imm mode list s it w hw hok rfl rfl rfl rfl rfl rfl rfl rfl rfl rfl rfl rfl rfl _ (fun W => row_34_c cond rd rn rm imm mode list s it W hok hw)
    · exact renc_b35 35 cond rd rn rm imm mode list s it w hw hok rfl rfl rfl rfl rfl rfl rfl rfl rfl rfl rfl _ (fun W => row_35_c cond rd rn rm imm mode list s it W hok hw)
    · exact renc_r31 36 cond rd rn rm imm mode list s it w hw hok rfl rfl rfl rfl rfl rfl rfl rfl rfl rfl rfl rfl rfl _ (fun W => row_36_c cond rd rn rm imm mode list s it W hok hw)
    · exact renc_b37 37 cond rd rn rm imm mode list s it w hw hok rfl rfl rfl rfl rfl rfl rfl rfl rfl rfl rfl rfl _ (fun W => row_37_c cond rd rn rm imm mode list s it W hok hw)
    · exact renc_b38 38 cond rd rn rm imm mode list s it w hw hok rfl rfl rfl rfl rfl rfl rfl rfl rfl rfl rfl rfl rfl _ (fun W => row_38_c cond rd rn rm imm mode list s it W hok hw)
    · exact renc_r31 39 cond rd rn rm imm mode list s it w hw hok rfl rfl rfl rfl rfl rfl rfl rfl rfl rfl rfl rfl rfl _ (fun W => row_39_c cond rd rn rm imm mode list s it W hok hw)
    · exact renc_r31 40 cond rd rn rm imm mode list s it w hw hok rfl rfl rfl rfl rfl rfl rfl rfl rfl rfl rfl rfl rfl _ (fun W => row_40_c cond rd rn rm imm mode list s it W hok hw)
    · exact renc_r31 41 cond rd rn rm imm mode list s it w hw hok rfl rfl rfl rfl rfl rfl rfl rfl rfl rfl rfl rfl rfl _ (fun W => row_41_c cond rd rn rm imm mode list s it W hok hw)
    · exact renc_r31 42 cond rd rn rm imm mode list s it w hw hok rfl rfl rfl rfl rfl rfl rfl rfl rfl rfl rfl rfl rfl _ (fun W => row_42_c cond rd rn rm imm mode list s it W hok hw)
    · exact renc_r31 43 cond rd rn rm imm mode list s it w hw hok rfl rfl rfl rfl rfl rfl rfl rfl rfl rfl rfl rfl rfl _ (fun W => row_43_c cond rd rn rm imm mode list s it W hok hw)
    · exact renc_r31 44 cond rd rn rm imm mode list s it w hw hok rfl rfl rfl rfl rfl rfl rfl rfl rfl rfl rfl rfl rfl _ (fun W => row_44_c cond rd rn rm imm mode list s it W hok hw)
    · exact renc_r31 45 cond rd rn rm imm mode list s it w hw hok rfl rfl rfl rfl rfl rfl rfl rfl rfl rfl rfl rfl rfl _ (fun W => row_45_c cond rd rn rm imm mode list s it W hok hw)
end Go.Proofs.YtcphhojdfpedkaaDoor
