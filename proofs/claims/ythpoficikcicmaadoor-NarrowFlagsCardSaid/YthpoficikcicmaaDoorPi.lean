/- Encode's search is the document's row for every instruction that may be. No conditions but those that each fact names. -/
import Derived.Test.YthpoficikcicmaaDoorRows
import Derived.Test.YthpoficikcicmaaDoorPo
import Derived.Test.YthpoficikcicmaaDoorPe
import Derived.Test.YthpoficikcicmaaDoorPf
import Derived.Test.YthpoficikcicmaaDoorPg
import Derived.Test.YthpoficikcicmaaDoorPh
namespace Go.Proofs.YthpoficikcicmaaDoor
open Go.ChangeShapes Go.WideShapes Go.ChangeAt Go.RowKit
namespace Pl

theorem enc_all (op cond rd rn rm imm mode list : Int) (s it : Bool) (hok : Nm.okB ⟨op, cond, rd, rn, rm, imm, mode, list, s⟩ = true) (hw : Nm.Wide list) :
    searchP (traitsI cond rd rn rm mode s it) op cond rd rn rm imm list formTab = Nm.rowI ⟨op, cond, rd, rn, rm, imm, mode, list, s⟩ it := by
  have h := (Nm.ok_parts hok).1
  dsimp only at h
  rcases (by omega : op = 1 ∨ op = 2 ∨ op = 3 ∨ op = 4 ∨ op = 5 ∨ op = 6 ∨ op = 7 ∨ op = 8 ∨ op = 9 ∨ op = 10 ∨ op = 11 ∨ op = 12 ∨ op = 13 ∨ op = 14 ∨ op = 15 ∨ op = 16 ∨ op = 17 ∨ op = 18 ∨ op = 19 ∨ op = 20 ∨ op = 21 ∨ op = 22 ∨ op = 23 ∨ op = 24 ∨ op = 25 ∨ op = 26 ∨ op = 27 ∨ op = 28 ∨ op = 29 ∨ op = 30 ∨ op = 31 ∨ op = 32 ∨ op = 33 ∨ op = 34 ∨ op = 35 ∨ op = 36 ∨ op = 37 ∨ op = 38 ∨ op = 39 ∨ op = 40 ∨ op = 41 ∨ op = 42 ∨ op = 43 ∨ op = 44 ∨ op = 45) with rfl | rfl | rfl | rfl | rfl | rfl | rfl | rfl | rfl | rfl | rfl | rfl | rfl | rfl | rfl | rfl | rfl | rfl | rfl | rfl | rfl | rfl | rfl | rfl | rfl | rfl | rfl | rfl | rfl | rfl | rfl | rfl | rfl | rfl | rfl | rfl | rfl | rfl | rfl | rfl | rfl | rfl | rfl | rfl | rfl
  · exact enc_1 cond rd rn rm imm mode list s it hok hw
  · exact enc_2 cond rd rn rm imm mode list s it hok hw
  · exact enc_3 cond rd rn rm imm mode list s it hok hw
  · exact enc_4 cond rd rn rm imm mode list s it hok hw
  · exact enc_5 cond rd rn rm imm mode list s it hok hw
  · exact enc_6 cond rd rn rm imm mode list s it hok hw
  · exact enc_7 cond rd rn rm imm mode list s it hok hw
  · exact enc_8 cond rd rn rm imm mode list s it hok hw
  · exact enc_9 cond rd rn rm imm mode list s it hok hw
  · exact enc_10 cond rd rn rm imm mode list s it hok hw
  · exact enc_11 cond rd rn rm imm mode list s it hok hw
  · exact enc_12 cond rd rn rm imm mode list s it hok hw
  · exact enc_13 cond rd rn rm imm mode list s it hok hw
  · exact enc_14 cond rd rn rm imm mode list s it hok hw
  · exact enc_15 cond rd rn rm imm mode list s it hok hw
  · exact enc_16 cond rd rn rm imm mode list s it hok hw
  · exact enc_17 cond rd rn rm imm mode list s it hok hw
  · exact enc_18 cond rd rn rm imm mode list s it hok hw
  · exact enc_19 cond rd rn rm imm mode list s it hok hw
  · exact enc_20 cond rd rn rm imm mode list s it hok hw
  · exact enc_21 cond rd rn rm imm mode list s it hok hw
  · exact enc_22 cond rd rn rm imm mode list s it hok hw
  · exact enc_23 cond rd rn rm imm mode list s it hok hw
  · exact enc_24 cond rd rn rm imm mode list s it hok hw
  · exact enc_25 cond rd rn rm imm mode list s it hok hw
  · exact enc_26 cond rd rn rm imm mode list s it hok hw
  · exact enc_27 cond rd rn rm imm mode list s it hok hw
  · exact enc_28 cond rd rn rm imm mode list s it hok hw
  · exact enc_29 cond rd rn rm imm mode list s it hok hw
  · exact enc_30 cond rd rn rm imm mode list s it hok hw
  · exact enc_31 cond rd rn rm imm mode list s it hok hw
  · exact enc_32 cond rd rn rm imm mode list s it hok hw
  · exact enc_33 cond rd rn rm imm mode list s it hok hw
  · exact enc_34 cond rd rn rm imm mode list s it hok hw
  · exact enc_35 cond rd rn rm imm mode list s it hok hw
  · exact enc_36 cond rd rn rm imm mode list s it hok hw
  · exact enc_37 cond rd rn rm imm mode list s it hok hw
  · exact enc_38 cond rd rn rm imm mode list s it hok hw
  · exact enc_39 cond rd rn rm imm mode list s it hok hw
  · exact enc_40 cond rd rn rm imm mode list s it hok hw
  · exact enc_41 cond rd rn rm imm mode list s it hok hw
  · exact enc_42 cond rd rn rm imm mode list s it hok hw
  · exact enc_43 cond rd rn rm imm mode list s it hok hw
  · exact enc_44 cond rd rn rm imm mode list s it hok hw
  · exact enc_45 cond rd rn rm imm mode list s it hok hw
theorem enc_is (op cond rd rn rm imm mode list : Int) (s it : Bool) (hw : Nm.Wide list) : encP op cond rd rn rm imm mode list s it = Nm.encI ⟨op, cond, rd, rn, rm, imm, mode, list, s⟩ it := by
  unfold encP Nm.encI
  by_cases hok : Im.checkB op cond rd rn rm imm mode list s = true
  · rw [if_pos hok, if_pos (show Nm.okB ⟨op, cond, rd, rn, rm, imm, mode, list, s⟩ = true from hok)]
    exact enc_all op cond rd rn rm imm mode list s it hok hw
  · rw [if_neg hok, if_neg (show ¬ Nm.okB ⟨op, cond, rd, rn, rm, imm, mode, list, s⟩ = true from hok)]
end Pl
end Go.Proofs.YthpoficikcicmaaDoor
