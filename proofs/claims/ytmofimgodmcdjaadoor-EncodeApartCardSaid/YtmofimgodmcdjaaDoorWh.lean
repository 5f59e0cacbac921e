/- An instruction's two halfwords tell it; two instructions of the same halfwords are the same (text by gen_wh.py). -/
import Derived.Test.YtmofimgodmcdjaaDoorWg
namespace Go.Proofs.YtmofimgodmcdjaaDoor
namespace Wm
open Nm (I)

theorem row_none (F : Int → Option Int) (cond rd rn rm imm mode list : Int) (s it : Bool) (k : Int) (hk : k = 37 ∨ k = 38 ∨ k = 39 ∨ k = 42 ∨ k = 44) : rowW F ⟨k, cond, rd, rn, rm, imm, mode, list, s⟩ it = none := by
  rcases hk with rfl | rfl | rfl | rfl | rfl
  all_goals rfl
theorem wdec_row (E : Int → Int) (F : Int → Option Int) (hF : Finds F E) (i : I) (it : Bool) (a b : Int) (hok : Nm.okB i = true) (hw : Nm.Wide i.list) (he : rowW F i it = some (a, b)) : 59392 ≤ a ∧ a < 65536 ∧ 0 ≤ b ∧ b < 65536 ∧ decW E a b = i := by
  obtain ⟨op, cond, rd, rn, rm, imm, mode, list, s⟩ := i
  have hop : 1 ≤ op ∧ op ≤ 45 := (Nm.ok_parts hok).1
  rcases (by omega : op = 1 ∨ op = 2 ∨ op = 3 ∨ op = 4 ∨ op = 5 ∨ op = 6 ∨ op = 7 ∨ op = 8 ∨ op = 9 ∨ op = 10 ∨ op = 11 ∨ op = 12 ∨ op = 13 ∨ op = 14 ∨ op = 15 ∨ op = 16 ∨ op = 17 ∨ op = 18 ∨ op = 19 ∨ op = 20 ∨ op = 21 ∨ op = 22 ∨ op = 23 ∨ op = 24 ∨ op = 25 ∨ op = 26 ∨ op = 27 ∨ op = 28 ∨ op = 29 ∨ op = 30 ∨ op = 31 ∨ op = 32 ∨ op = 33 ∨ op = 34 ∨ op = 35 ∨ op = 36 ∨ op = 37 ∨ op = 38 ∨ op = 39 ∨ op = 40 ∨ op = 41 ∨ op = 42 ∨ op = 43 ∨ op = 44 ∨ op = 45) with rfl | rfl | rfl | rfl | rfl | rfl | rfl | rfl | rfl | rfl | rfl | rfl | rfl | rfl | rfl | rfl | rfl | rfl | rfl | rfl | rfl | rfl | rfl | rfl | rfl | rfl | rfl | rfl | rfl | rfl | rfl | rfl | rfl | rfl | rfl | rfl | rfl | rfl | rfl | rfl | rfl | rfl | rfl | rfl | rfl
  · exact wdec_1 E F hF cond rd rn rm imm mode list s it a b hok hw he
  · exact wdec_2 E F hF cond rd rn rm imm mode list s it a b hok hw he
  · exact wdec_3 E F hF cond rd rn rm imm mode list s it a b hok hw he
  · exact wdec_4 E F hF cond rd rn rm imm mode list s it a b hok hw he
  · exact wdec_5 E F hF cond rd rn rm imm mode list s it a b hok hw he
  · exact wdec_6 E F hF cond rd rn rm imm mode list s it a b hok hw he
  · exact wdec_7 E F hF cond rd rn rm imm mode list s it a b hok hw he
  · exact wdec_8 E F hF cond rd rn rm imm mode list s it a b hok hw he
  · exact wdec_9 E F hF cond rd rn rm imm mode list s it a b hok hw he
  · exact wdec_10 E F hF cond rd rn rm imm mode list s it a b hok hw he
  · exact wdec_11 E F hF cond rd rn rm imm mode list s it a b hok hw he
  · exact wdec_12 E F hF cond rd rn rm imm mode list s it a b hok hw he
  · exact wdec_13 E F hF cond rd rn rm imm mode list s it a b hok hw he
  · exact wdec_14 E F hF cond rd rn rm imm mode list s it a b hok hw he
  · exact wdec_15 E F hF cond rd rn rm imm mode list s it a b hok hw he
  · exact wdec_16 E F cond rd rn rm imm mode list s it a b hok hw he
  · exact wdec_17 E F cond rd rn rm imm mode list s it a b hok hw he
  · exact wdec_18 E F cond rd rn rm imm mode list s it a b hok hw he
  · exact wdec_19 E F cond rd rn rm imm mode list s it a b hok hw he
  · exact wdec_20 E F cond rd rn rm imm mode list s it a b hok hw he
  · exact wdec_21 E F cond rd rn rm imm mode list s it a b hok hw he
  · exact wdec_22 E F cond rd rn rm imm mode list s it a b hok hw he
  · exact wdec_23 E F cond rd rn rm imm mode list s it a b hok hw he
  · exact wdec_24 E F cond rd rn rm imm mode list s it a b hok hw he
  · exact wdec_25 E F cond rd rn rm imm mode list s it a b hok hw he
  · exact wdec_26 E F cond rd rn rm imm mode list s it a b hok hw he
  · exact wdec_27 E F cond rd rn rm imm mode list s it a b hok hw he
  · exact wdec_28 E F cond rd rn rm imm mode list s it a b hok hw he
  · exact wdec_29 E F cond rd rn rm imm mode list s it a b hok hw he
  · exact wdec_30 E F cond rd rn rm imm mode list s it a b hok hw he
  · exact wdec_31 E F cond rd rn rm imm mode list s it a b hok hw he
  · exact wdec_32 E F cond rd rn rm imm mode list s it a b hok hw he
  · exact wdec_33 E F cond rd rn rm imm mode list s it a b hok hw he
  · exact wdec_34 E F cond rd rn rm imm mode list s it a b hok hw he
  · exact wdec_35 E F cond rd rn rm imm mode list s it a b hok hw he
  · exact wdec_36 E F cond rd rn rm imm mode list s it a b hok hw he
  · rw [row_none F cond rd rn rm imm mode list s it 37 (by decide)] at he
    cases he
  · rw [row_none F cond rd rn rm imm mode list s it 38 (by decide)] at he
    cases he
  · rw [row_none F cond rd rn rm imm mode list s it 39 (by decide)] at he
    cases he
  · exact wdec_40 E F cond rd rn rm imm mode list s it a b hok hw he
  · exact wdec_41 E F cond rd rn rm imm mode list s it a b hok hw he
  · rw [row_none F cond rd rn rm imm mode list s it 42 (by decide)] at he
    cases he
  · exact wdec_43 E F cond rd rn rm imm mode list s it a b hok hw he
  · rw [row_none F cond rd rn rm imm mode list s it 44 (by decide)] at he
    cases he
  · exact wdec_45 E F cond rd rn rm imm mode list s it a b hok hw he
/-- the halfwords of an instruction tell it -/
theorem wdec (E : Int → Int) (F : Int → Option Int) (hF : Finds F E) (i : I) (it : Bool) (a b : Int) (hw : Nm.Wide i.list) (he : encW F i it = some (a, b)) : 59392 ≤ a ∧ a < 65536 ∧ 0 ≤ b ∧ b < 65536 ∧ decW E a b = i := by
  unfold encW at he
  split at he
  case isFalse => cases he
  rename_i hok
  exact wdec_row E F hF i it a b hok hw he
/-- two instructions of the same halfwords are the same, be they in a block or out of one -/
theorem wapart (E : Int → Int) (F : Int → Option Int) (hF : Finds F E) (i j : I) (it jt : Bool) (a b : Int) (hi : Nm.Wide i.list) (hj : Nm.Wide j.list) (hei : encW F i it = some (a, b)) (hej : encW F j jt = some (a, b)) : i = j :=
  (wdec E F hF i it a b hi hei).2.2.2.2.symm.trans (wdec E F hF j jt a b hj hej).2.2.2.2
end Wm
end Go.Proofs.YtmofimgodmcdjaaDoor
