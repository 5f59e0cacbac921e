/- The document's own answer on whether an instruction may be is the table's: operation by operation (text by gen_rc.py). -/
import Derived.Test.YtcphhojdfpedkaaDoorGa
namespace Go.Proofs.YtcphhojdfpedkaaDoor
namespace Rb
open Nm
set_option linter.unusedSimpArgs false in
theorem may_1 (cond rd rn rm imm mode list : Int) (s : Bool) (hw : Wide list) : mayR ⟨1, cond, rd, rn, rm, imm, mode, list, s⟩ = okB ⟨1, cond, rd, rn, rm, imm, mode, list, s⟩ := by
  have hlz : Im.listB (Im.fieldsI 1 mode s) rn list = (list == 0) := list_zero _ _ _ rfl rfl hw
  unfold mayR okB Im.checkB
  dsimp only
  rw [hlz]
  by_cases m0 : mode = 0
  · subst m0
    (simp [Im.fieldsI, one_plain, one_low, one_sp, one_zero, sp_or, Im.lastB, Im.hasB, Im.condB, dataR, restR, lastR, inB, branchR, fieldsS, bareI, take, sameB, Im.setsB]) <;> ac_rfl
  · by_cases m1 : mode = 1
    · subst m1
      (simp [Im.fieldsI, one_plain, one_low, one_sp, one_zero, sp_or, Im.lastB, Im.hasB, Im.condB, dataR, restR, lastR, inB, branchR, fieldsS, bareI, take, sameB, Im.setsB]) <;> ac_rfl
    · by_cases m2 : mode = 2
      · subst m2
        (simp [Im.fieldsI, one_plain, one_low, one_sp, one_zero, sp_or, Im.lastB, Im.hasB, Im.condB, dataR, restR, lastR, inB, branchR, fieldsS, bareI, take, sameB, Im.setsB]) <;> ac_rfl
      · (simp [Im.fieldsI, one_plain, one_low, one_sp, one_zero, sp_or, Im.lastB, Im.hasB, Im.condB, dataR, restR, lastR, inB, branchR, fieldsS, bareI, take, sameB, Im.setsB, m0, m1, m2]) <;> ac_rfl
set_option linter.unusedSimpArgs false in
theorem may_2 (cond rd rn rm imm mode list : Int) (s : Bool) (hw : Wide list) : mayR ⟨2, cond, rd, rn, rm, imm, mode, list, s⟩ = okB ⟨2, cond, rd, rn, rm, imm, mode, list, s⟩ := by
  have hlz : Im.listB (Im.fieldsI 2 mode s) rn list = (list == 0) := list_zero _ _ _ rfl rfl hw
  unfold mayR okB Im.checkB
  dsimp only
  rw [hlz]
  by_cases m0 : mode = 0
  · subst m0
    (simp [Im.fieldsI, one_plain, one_low, one_sp, one_zero, sp_or, Im.lastB, Im.hasB, Im.condB, dataR, restR, lastR, inB, branchR, fieldsS, bareI, take, sameB, Im.setsB]) <;> ac_rfl
  · by_cases m1 : mode = 1
    · subst m1
      (simp [Im.fieldsI, one_plain, one_low, one_sp, one_zero, sp_or, Im.lastB, Im.hasB, Im.condB, dataR, restR, lastR, inB, branchR, fieldsS, bareI, take, sameB, Im.setsB]) <;> ac_rfl
    · by_cases m2 : mode = 2
      · subst m2
        (simp [Im.fieldsI, one_plain, one_low, one_sp, one_zero, sp_or, Im.lastB, Im.hasB, Im.condB, dataR, restR, lastR, inB, branchR, fieldsS, bareI, take, sameB, Im.setsB]) <;> ac_rfl
      · (simp [Im.fieldsI, one_plain, one_low, one_sp, one_zero, sp_or, Im.lastB, Im.hasB, Im.condB, dataR, restR, lastR, inB, branchR, fieldsS, bareI, take, sameB, Im.setsB, m0, m1, m2]) <;> ac_rfl
set_option linter.unusedSimpArgs false in
theorem may_3 (cond rd rn rm imm mode list : Int) (s : Bool) (hw : Wide list) : mayR ⟨3, cond, rd, rn, rm, imm, mode, list, s⟩ = okB ⟨3, cond, rd, rn, rm, imm, mode, list, s⟩ := by
  have hlz : Im.listB (Im.fieldsI 3 mode s) rn list = (list == 0) := list_zero _ _ _ rfl rfl hw
  unfold mayR okB Im.checkB
  dsimp only
  rw [hlz]
  by_cases m0 : mode = 0
  · subst m0
    (simp [Im.fieldsI, one_plain, one_low, one_sp, one_zero, sp_or, Im.lastB, Im.hasB, Im.condB, dataR, restR, lastR, inB, branchR, fieldsS, bareI, take, sameB, Im.setsB]) <;> ac_rfl
  · by_cases m1 : mode = 1
    · subst m1
      (simp [Im.fieldsI, one_plain, one_low, one_sp, one_zero, sp_or, Im.lastB, Im.hasB, Im.condB, dataR, restR, lastR, inB, branchR, fieldsS, bareI, take, sameB, Im.setsB]) <;> ac_rfl
    · by_cases m2 : mode = 2
      · subst m2
        (simp [Im.fieldsI, one_plain, one_low, one_sp, one_zero, sp_or, Im.lastB, Im.hasB, Im.condB, dataR, restR, lastR, inB, branchR, fieldsS, bareI, take, sameB, Im.setsB]) <;> ac_rfl
      · (simp [Im.fieldsI, one_plain, one_low, one_sp, one_zero, sp_or, Im.lastB, Im.hasB, Im.condB, dataR, restR, lastR, inB, branchR, fieldsS, bareI, take, sameB, Im.setsB, m0, m1, m2]) <;> ac_rfl
set_option linter.unusedSimpArgs false in
theorem may_4 (cond rd rn rm imm mode list : Int) (s : Bool) (hw : Wide list) : mayR ⟨4, cond, rd, rn, rm, imm, mode, list, s⟩ = okB ⟨4, cond, rd, rn, rm, imm, mode, list, s⟩ := by
  have hlz : Im.listB (Im.fieldsI 4 mode s) rn list = (list == 0) := list_zero _ _ _ rfl rfl hw
  unfold mayR okB Im.checkB
  dsimp only
  rw [hlz]
  by_cases m0 : mode = 0
  · subst m0
    (simp [Im.fieldsI, one_plain, one_low, one_sp, one_zero, sp_or, Im.lastB, Im.hasB, Im.condB, dataR, restR, lastR, inB, branchR, fieldsS, bareI, take, sameB, Im.setsB]) <;> ac_rfl
  · by_cases m1 : mode = 1
    · subst m1
      (simp [Im.fieldsI, one_plain, one_low, one_sp, one_zero, sp_or, Im.lastB, Im.hasB, Im.condB, dataR, restR, lastR, inB, branchR, fieldsS, bareI, take, sameB, Im.setsB]) <;> ac_rfl
    · by_cases m2 : mode = 2
      · subst m2
        (simp [Im.fieldsI, one_plain, one_low, one_sp, one_zero, sp_or, Im.lastB, Im.hasB, Im.condB, dataR, restR, lastR, inB, branchR, fieldsS, bareI, take, sameB, Im.setsB]) <;> ac_rfl
      · (simp [Im.fieldsI, one_plain, one_low, one_sp, one_zero, sp_or, Im.lastB, Im.hasB, Im.condB, dataR, restR, lastR, inB, branchR, fieldsS, bareI, take, sameB, Im.setsB, m0, m1, m2]) <;> ac_rfl
set_option linter.unusedSimpArgs false in
theorem may_5 (cond rd rn rm imm mode list : Int) (s : Bool) (hw : Wide list) : mayR ⟨5, cond, rd, rn, rm, imm, mode, list, s⟩ = okB ⟨5, cond, rd, rn, rm, imm, mode, list, s⟩ := by
  have hlz : Im.listB (Im.fieldsI 5 mode s) rn list = (list == 0) := list_zero _ _ _ rfl rfl hw
  unfold mayR okB Im.checkB
  dsimp only
  rw [hlz]
  by_cases m0 : mode = 0
  · subst m0
    (simp [Im.fieldsI, one_plain, one_low, one_sp, one_zero, sp_or, Im.lastB, Im.hasB, Im.condB, dataR, restR, lastR, inB, branchR, fieldsS, bareI, take, sameB, Im.setsB]) <;> ac_rfl
  · by_cases m1 : mode = 1
    · subst m1
      (simp [Im.fieldsI, one_plain, one_low, one_sp, one_zero, sp_or, Im.lastB, Im.hasB, Im.condB, dataR, restR, lastR, inB, branchR, fieldsS, bareI, take, sameB, Im.setsB]) <;> ac_rfl
    · by_cases m2 : mode = 2
      · subst m2
        (simp [Im.fieldsI, one_plain, one_low, one_sp, one_zero, sp_or, Im.lastB, Im.hasB, Im.condB, dataR, restR, lastR, inB, branchR, fieldsS, bareI, take, sameB, Im.setsB]) <;> ac_rfl
      · (simp [Im.fieldsI, one_plain, one_low, one_sp, one_zero, sp_or, Im.lastB, Im.hasB, Im.condB, dataR, restR, lastR, inB, branchR, fieldsS, bareI, take, sameB, Im.setsB, m0, m1, m2]) <;> ac_rfl
set_option linter.unusedSimpArgs false in
theorem may_6 (cond rd rn rm imm mode list : Int) (s : Bool) (hw : Wide list) : mayR ⟨6, cond, rd, rn, rm, imm, mode, list, s⟩ = okB ⟨6, cond, rd, rn, rm, imm, mode, list, s⟩ := by
  have hlz : Im.listB (Im.fieldsI 6 mode s) rn list = (list == 0) := list_zero _ _ _ rfl rfl hw
  unfold mayR okB Im.checkB
  dsimp only
  rw [hlz]
  by_cases m0 : mode = 0
  · subst m0
    (simp [Im.fieldsI, one_plain, one_low, one_sp, one_zero, sp_or, Im.lastB, Im.hasB, Im.condB, dataR, restR, lastR, inB, branchR, fieldsS, bareI, take, sameB, Im.setsB]) <;> ac_rfl
  · by_cases m1 : mode = 1
    · subst m1
      (simp [Im.fieldsI, one_plain, one_low, one_sp, one_zero, sp_or, Im.lastB, Im.hasB, Im.condB, dataR, restR, lastR, inB, branchR, fieldsS, bareI, take, sameB, Im.setsB]) <;> ac_rfl
    · by_cases m2 : mode = 2
      · subst m2
        (simp [Im.fieldsI, one_plain, one_low, one_sp, one_zero, sp_or, Im.lastB, Im.hasB, Im.condB, dataR, restR, lastR, inB, branchR, fieldsS, bareI, take, sameB, Im.setsB]) <;> ac_rfl
      · (simp [Im.fieldsI, one_plain, one_low, one_sp, one_zero, sp_or, Im.lastB, Im.hasB, Im.condB, dataR, restR, lastR, inB, branchR, fieldsS, bareI, take, sameB, Im.setsB, m0, m1, m2]) <;> ac_rfl
set_option linter.unusedSimpArgs false in
theorem may_7 (cond rd rn rm imm mode list : Int) (s : Bool) (hw : Wide list) : mayR ⟨7, cond, rd, rn, rm, imm, mode, list, s⟩ = okB ⟨7, cond, rd, rn, rm, imm, mode, list, s⟩ := by
  have hlz : Im.listB (Im.fieldsI 7 mode s) rn list = (list == 0) := list_zero _ _ _ rfl rfl hw
  unfold mayR okB Im.checkB
  dsimp only
  rw [hlz]
  by_cases m0 : mode = 0
  · subst m0
    (simp [Im.fieldsI, one_plain, one_low, one_sp, one_zero, sp_or, Im.lastB, Im.hasB, Im.condB, dataR, restR, lastR, inB, branchR, fieldsS, bareI, take, sameB, Im.setsB]) <;> ac_rfl
  · by_cases m1 : mode = 1
    · subst m1
      (simp [Im.fieldsI, one_plain, one_low, one_sp, one_zero, sp_or, Im.lastB, Im.hasB, Im.condB, dataR, restR, lastR, inB, branchR, fieldsS, bareI, take, sameB, Im.setsB]) <;> ac_rfl
    · by_cases m2 : mode = 2
      · subst m2
        (simp [Im.fieldsI, one_plain, one_low, one_sp, one_zero, sp_or, Im.lastB, Im.hasB, Im.condB, dataR, restR, lastR, inB, branchR, fieldsS, bareI, take, sameB, Im.setsB]) <;> ac_rfl
      · (simp [Im.fieldsI, one_plain, one_low, one_sp, one_zero, sp_or, Im.lastB, Im.hasB, Im.condB, dataR, restR, lastR, inB, branchR, fieldsS, bareI, take, sameB, Im.setsB, m0, m1, m2]) <;> ac_rfl
set_option linter.unusedSimpArgs false in
theorem may_8 (cond rd rn rm imm mode list : Int) (s : Bool) (hw : Wide list) : mayR ⟨8, cond, rd, rn, rm, imm, mode, list, s⟩ = okB ⟨8, cond, rd, rn, rm, imm, mode, list, s⟩ := by
  have hlz : Im.listB (Im.fieldsI 8 mode s) rn list = (list == 0) := list_zero _ _ _ rfl rfl hw
  unfold mayR okB Im.checkB
  dsimp only
  rw [hlz]
  by_cases m0 : mode = 0
  · subst m0
    (simp [Im.fieldsI, one_plain, one_low, one_sp, one_zero, sp_or, Im.lastB, Im.hasB, Im.condB, dataR, restR, lastR, inB, branchR, fieldsS, bareI, take, sameB, Im.setsB]) <;> ac_rfl
  · by_cases m1 : mode = 1
    · subst m1
      (simp [Im.fieldsI, one_plain, one_low, one_sp, one_zero, sp_or, Im.lastB, Im.hasB, Im.condB, dataR, restR, lastR, inB, branchR, fieldsS, bareI, take, sameB, Im.setsB]) <;> ac_rfl
    · by_cases m2 : mode = 2
      · subst m2
        (simp [Im.fieldsI, one_plain, one_low, one_sp, one_zero, sp_or, Im.lastB, Im.hasB, Im.condB, dataR, restR, lastR, inB, branchR, fieldsS, bareI, take, sameB, Im.setsB]) <;> ac_rfl
      · (simp [Im.fieldsI, one_plain, one_low, one_sp, one_zero, sp_or, Im.lastB, Im.hasB, Im.condB, dataR, restR, lastR, inB, branchR, fieldsS, bareI, take, sameB, Im.setsB, m0, m1, m2]) <;> ac_rfl
set_option linter.unusedSimpArgs false in
theorem may_9 (cond rd rn rm imm mode list : Int) (s : Bool) (hw : Wide list) : mayR ⟨9, cond, rd, rn, rm, imm, mode, list, s⟩ = okB ⟨9, cond, rd, rn, rm, imm, mode, list, s⟩ := by
  have hlz : Im.listB (Im.fieldsI 9 mode s) rn list = (list == 0) := list_zero _ _ _ rfl rfl hw
  unfold mayR okB Im.checkB
  dsimp only
  rw [hlz]
  by_cases m0 : mode = 0
  · subst m0
    (simp [Im.fieldsI, one_plain, one_low, one_sp, one_zero, sp_or, Im.lastB, Im.hasB, Im.condB, dataR, restR, lastR, inB, branchR, fieldsS, bareI, take, sameB, Im.setsB]) <;> ac_rfl
  · by_cases m1 : mode = 1
    · subst m1
      (simp [Im.fieldsI, one_plain, one_low, one_sp, one_zero, sp_or, Im.lastB, Im.hasB, Im.condB, dataR, restR, lastR, inB, branchR, fieldsS, bareI, take, sameB, Im.setsB]) <;> ac_rfl
    · by_cases m2 : mode = 2
      · subst m2
        (simp [Im.fieldsI, one_plain, one_low, one_sp, one_zero, sp_or, Im.lastB, Im.hasB, Im.condB, dataR, restR, lastR, inB, branchR, fieldsS, bareI, take, sameB, Im.setsB]) <;> ac_rfl
      · (simp [Im.fieldsI, one_plain, one_low, one_sp, one_zero, sp_or, Im.lastB, Im.hasB, Im.condB, dataR, restR, lastR, inB, branchR, fieldsS, bareI, take, sameB, Im.setsB, m0, m1, m2]) <;> ac_rfl
set_option linter.unusedSimpArgs false in
theorem may_10 (cond rd rn rm imm mode list : Int) (s : Bool) (hw : Wide list) : mayR ⟨10, cond, rd, rn, rm, imm, mode, list, s⟩ = okB ⟨10, cond, rd, rn, rm, imm, mode, list, s⟩ := by
  have hlz : Im.listB (Im.fieldsI 10 mode s) rn list = (list == 0) := by
    refine list_zero _ _ _ ?_ ?_ hw
    · unfold Im.fieldsI; rw [if_neg (by omega), if_pos (by omega)]; split <;> rfl
    · unfold Im.fieldsI; rw [if_neg (by omega), if_pos (by omega)]; split <;> rfl
  unfold mayR okB Im.checkB
  dsimp only
  rw [hlz]
  by_cases m0 : mode = 0
  · subst m0
    (simp [Im.fieldsI, one_plain, one_low, one_sp, one_zero, sp_or, Im.lastB, Im.hasB, Im.condB, dataR, restR, lastR, inB, branchR, fieldsS, bareI, take, sameB, Im.setsB]) <;> ac_rfl
  · by_cases m1 : mode = 1
    · subst m1
      (simp [Im.fieldsI, one_plain, one_low, one_sp, one_zero, sp_or, Im.lastB, Im.hasB, Im.condB, dataR, restR, lastR, inB, branchR, fieldsS, bareI, take, sameB, Im.setsB]) <;> ac_rfl
    · by_cases m2 : mode = 2
      · subst m2
        cases s with
        | true => (simp [Im.fieldsI, one_plain, one_low, one_sp, one_zero, sp_or, Im.lastB, Im.hasB, Im.condB, dataR, restR, lastR, inB, branchR, fieldsS, bareI, take, sameB, Im.setsB]) <;> ac_rfl
        | false => (simp [Im.fieldsI, one_plain, one_low, one_sp, one_zero, sp_or, Im.lastB, Im.hasB, Im.condB, dataR, restR, lastR, inB, branchR, fieldsS, bareI, take, sameB, Im.setsB]) <;> ac_rfl
      · (simp [Im.fieldsI, one_plain, one_low, one_sp, one_zero, sp_or, Im.lastB, Im.hasB, Im.condB, dataR, restR, lastR, inB, branchR, fieldsS, bareI, take, sameB, Im.setsB, m0, m1, m2]) <;> ac_rfl
set_option linter.unusedSimpArgs false in
theorem may_11 (cond rd rn rm imm mode list : Int) (s : Bool) (hw : Wide list) : mayR ⟨11, cond, rd, rn, rm, imm, mode, list, s⟩ = okB ⟨11, cond, rd, rn, rm, imm, mode, list, s⟩ := by
  have hlz : Im.listB (Im.fieldsI 11 mode s) rn list = (list == 0) := list_zero _ _ _ rfl rfl hw
  unfold mayR okB Im.checkB
  dsimp only
  rw [hlz]
  by_cases m0 : mode = 0
  · subst m0
    (simp [Im.fieldsI, one_plain, one_low, one_sp, one_zero, sp_or, Im.lastB, Im.hasB, Im.condB, dataR, restR, lastR, inB, branchR, fieldsS, bareI, take, sameB, Im.setsB]) <;> ac_rfl
  · by_cases m1 : mode = 1
    · subst m1
      (simp [Im.fieldsI, one_plain, one_low, one_sp, one_zero, sp_or, Im.lastB, Im.hasB, Im.condB, dataR, restR, lastR, inB, branchR, fieldsS, bareI, take, sameB, Im.setsB]) <;> ac_rfl
    · by_cases m2 : mode = 2
      · subst m2
        (simp [Im.fieldsI, one_plain, one_low, one_sp, one_zero, sp_or, Im.lastB, Im.hasB, Im.condB, dataR, restR, lastR, inB, branchR, fieldsS, bareI, take, sameB, Im.setsB]) <;> ac_rfl
      · (simp [Im.fieldsI, one_plain, one_low, one_sp, one_zero, sp_or, Im.lastB, Im.hasB, Im.condB, dataR, restR, lastR, inB, branchR, fieldsS, bareI, take, sameB, Im.setsB, m0, m1, m2]) <;> ac_rfl
set_option linter.unusedSimpArgs false in
theorem may_12 (cond rd rn rm imm mode list : Int) (s : Bool) (hw : Wide list) : mayR ⟨12, cond, rd, rn, rm, imm, mode, list, s⟩ = okB ⟨12, cond, rd, rn, rm, imm, mode, list, s⟩ := by
  have hlz : Im.listB (Im.fieldsI 12 mode s) rn list = (list == 0) := list_zero _ _ _ rfl rfl hw
  unfold mayR okB Im.checkB
  dsimp only
  rw [hlz]
  by_cases m0 : mode = 0
  · subst m0
    (simp [Im.fieldsI, one_plain, one_low, one_sp, one_zero, sp_or, Im.lastB, Im.hasB, Im.condB, dataR, restR, lastR, inB, branchR, fieldsS, bareI, take, sameB, Im.setsB]) <;> ac_rfl
  · by_cases m1 : mode = 1
    · subst m1
      (simp [Im.fieldsI, one_plain, one_low, one_sp, one_zero, sp_or, Im.lastB, Im.hasB, Im.condB, dataR, restR, lastR, inB, branchR, fieldsS, bareI, take, sameB, Im.setsB]) <;> ac_rfl
    · by_cases m2 : mode = 2
      · subst m2
        (simp [Im.fieldsI, one_plain, one_low, one_sp, one_zero, sp_or, Im.lastB, Im.hasB, Im.condB, dataR, restR, lastR, inB, branchR, fieldsS, bareI, take, sameB, Im.setsB]) <;> ac_rfl
      · (simp [Im.fieldsI, one_plain, one_low, one_sp, one_zero, sp_or, Im.lastB, Im.hasB, Im.condB, dataR, restR, lastR, inB, branchR, fieldsS, bareI, take, sameB, Im.setsB, m0, m1, m2]) <;> ac_rfl
set_option linter.unusedSimpArgs false in
theorem may_13 (cond rd rn rm imm mode list : Int) (s : Bool) (hw : Wide list) : mayR ⟨13, cond, rd, rn, rm, imm, mode, list, s⟩ = okB ⟨13, cond, rd, rn, rm, imm, mode, list, s⟩ := by
  have hlz : Im.listB (Im.fieldsI 13 mode s) rn list = (list == 0) := list_zero _ _ _ rfl rfl hw
  unfold mayR okB Im.checkB
  dsimp only
  rw [hlz]
  by_cases m0 : mode = 0
  · subst m0
    (simp [Im.fieldsI, one_plain, one_low, one_sp, one_zero, sp_or, Im.lastB, Im.hasB, Im.condB, dataR, restR, lastR, inB, branchR, fieldsS, bareI, take, sameB, Im.setsB]) <;> ac_rfl
  · by_cases m1 : mode = 1
    · subst m1
      (simp [Im.fieldsI, one_plain, one_low, one_sp, one_zero, sp_or, Im.lastB, Im.hasB, Im.condB, dataR, restR, lastR, inB, branchR, fieldsS, bareI, take, sameB, Im.setsB]) <;> ac_rfl
    · by_cases m2 : mode = 2
      · subst m2
        (simp [Im.fieldsI, one_plain, one_low, one_sp, one_zero, sp_or, Im.lastB, Im.hasB, Im.condB, dataR, restR, lastR, inB, branchR, fieldsS, bareI, take, sameB, Im.setsB]) <;> ac_rfl
      · (simp [Im.fieldsI, one_plain, one_low, one_sp, one_zero, sp_or, Im.lastB, Im.hasB, Im.condB, dataR, restR, lastR, inB, branchR, fieldsS, bareI, take, sameB, Im.setsB, m0, m1, m2]) <;> ac_rfl
set_option linter.unusedSimpArgs false in
theorem may_14 (cond rd rn rm imm mode list : Int) (s : Bool) (hw : Wide list) : mayR ⟨14, cond, rd, rn, rm, imm, mode, list, s⟩ = okB ⟨14, cond, rd, rn, rm, imm, mode, list, s⟩ := by
  have hlz : Im.listB (Im.fieldsI 14 mode s) rn list = (list == 0) := list_zero _ _ _ rfl rfl hw
  unfold mayR okB Im.checkB
  dsimp only
  rw [hlz]
  by_cases m0 : mode = 0
  · subst m0
    (simp [Im.fieldsI, one_plain, one_low, one_sp, one_zero, sp_or, Im.lastB, Im.hasB, Im.condB, dataR, restR, lastR, inB, branchR, fieldsS, bareI, take, sameB, Im.setsB]) <;> ac_rfl
  · by_cases m1 : mode = 1
    · subst m1
      (simp [Im.fieldsI, one_plain, one_low, one_sp, one_zero, sp_or, Im.lastB, Im.hasB, Im.condB, dataR, restR, lastR, inB, branchR, fieldsS, bareI, take, sameB, Im.setsB]) <;> ac_rfl
    · by_cases m2 : mode = 2
      · subst m2
        (simp [Im.fieldsI, one_plain, one_low, one_sp, one_zero, sp_or, Im.lastB, Im.hasB, Im.condB, dataR, restR, lastR, inB, branchR, fieldsS, bareI, take, sameB, Im.setsB]) <;> ac_rfl
      · (simp [Im.fieldsI, one_plain, one_low, one_sp, one_zero, sp_or, Im.lastB, Im.hasB, Im.condB, dataR, restR, lastR, inB, branchR, fieldsS, bareI, take, sameB, Im.setsB, m0, m1, m2]) <;> ac_rfl
set_option linter.unusedSimpArgs false in
theorem may_15 (cond rd rn rm imm mode list : Int) (s : Bool) (hw : Wide list) : mayR ⟨15, cond, rd, rn, rm, imm, mode, list, s⟩ = okB ⟨15, cond, rd, rn, rm, imm, mode, list, s⟩ := by
  have hlz : Im.listB (Im.fieldsI 15 mode s) rn list = (list == 0) := list_zero _ _ _ rfl rfl hw
  unfold mayR okB Im.checkB
  dsimp only
  rw [hlz]
  by_cases m0 : mode = 0
  · subst m0
    (simp [Im.fieldsI, one_plain, one_low, one_sp, one_zero, sp_or, Im.lastB, Im.hasB, Im.condB, dataR, restR, lastR, inB, branchR, fieldsS, bareI, take, sameB, Im.setsB]) <;> ac_rfl
  · by_cases m1 : mode = 1
    · subst m1
      (simp [Im.fieldsI, one_plain, one_low, one_sp, one_zero, sp_or, Im.lastB, Im.hasB, Im.condB, dataR, restR, lastR, inB, branchR, fieldsS, bareI, take, sameB, Im.setsB]) <;> ac_rfl
    · by_cases m2 : mode = 2
      · subst m2
        (simp [Im.fieldsI, one_plain, one_low, one_sp, one_zero, sp_or, Im.lastB, Im.hasB, Im.condB, dataR, restR, lastR, inB, branchR, fieldsS, bareI, take, sameB, Im.setsB]) <;> ac_rfl
      · (simp [Im.fieldsI, one_plain, one_low, one_sp, one_zero, sp_or, Im.lastB, Im.hasB, Im.condB, dataR, restR, lastR, inB, branchR, fieldsS, bareI, take, sameB, Im.setsB, m0, m1, m2]) <;> ac_rfl
set_option linter.unusedSimpArgs false in
theorem may_16 (cond rd rn rm imm mode list : Int) (s : Bool) (hw : Wide list) : mayR ⟨16, cond, rd, rn, rm, imm, mode, list, s⟩ = okB ⟨16, cond, rd, rn, rm, imm, mode, list, s⟩ := by
  have hlz : Im.listB (Im.fieldsI 16 mode s) rn list = (list == 0) := list_zero _ _ _ rfl rfl hw
  unfold mayR okB Im.checkB
  dsimp only
  rw [hlz]
  by_cases m0 : mode = 0
  · subst m0
    (simp [Im.fieldsI, one_plain, one_low, one_sp, one_zero, sp_or, Im.lastB, Im.hasB, Im.condB, dataR, restR, lastR, inB, branchR, fieldsS, bareI, take, sameB, Im.setsB]) <;> ac_rfl
  · by_cases m1 : mode = 1
    · subst m1
      (simp [Im.fieldsI, one_plain, one_low, one_sp, one_zero, sp_or, Im.lastB, Im.hasB, Im.condB, dataR, restR, lastR, inB, branchR, fieldsS, bareI, take, sameB, Im.setsB]) <;> ac_rfl
    · by_cases m2 : mode = 2
      · subst m2
        (simp [Im.fieldsI, one_plain, one_low, one_sp, one_zero, sp_or, Im.lastB, Im.hasB, Im.condB, dataR, restR, lastR, inB, branchR, fieldsS, bareI, take, sameB, Im.setsB]) <;> ac_rfl
      · (simp [Im.fieldsI, one_plain, one_low, one_sp, one_zero, sp_or, Im.lastB, Im.hasB, Im.condB, dataR, restR, lastR, inB, branchR, fieldsS, bareI, take, sameB, Im.setsB, m0, m1, m2]) <;> ac_rfl
set_option linter.unusedSimpArgs false in
theorem may_17 (cond rd rn rm imm mode list : Int) (s : Bool) (hw : Wide list) : mayR ⟨17, cond, rd, rn, rm, imm, mode, list, s⟩ = okB ⟨17, cond, rd, rn, rm, imm, mode, list, s⟩ := by
  have hlz : Im.listB (Im.fieldsI 17 mode s) rn list = (list == 0) := list_zero _ _ _ rfl rfl hw
  unfold mayR okB Im.checkB
  dsimp only
  rw [hlz]
  by_cases m0 : mode = 0
  · subst m0
    (simp [Im.fieldsI, one_plain, one_low, one_sp, one_zero, sp_or, Im.lastB, Im.hasB, Im.condB, dataR, restR, lastR, inB, branchR, fieldsS, bareI, take, sameB, Im.setsB]) <;> ac_rfl
  · by_cases m1 : mode = 1
    · subst m1
      (simp [Im.fieldsI, one_plain, one_low, one_sp, one_zero, sp_or, Im.lastB, Im.hasB, Im.condB, dataR, restR, lastR, inB, branchR, fieldsS, bareI, take, sameB, Im.setsB]) <;> ac_rfl
    · by_cases m2 : mode = 2
      · subst m2
        (simp [Im.fieldsI, one_plain, one_low, one_sp, one_zero, sp_or, Im.lastB, Im.hasB, Im.condB, dataR, restR, lastR, inB, branchR, fieldsS, bareI, take, sameB, Im.setsB]) <;> ac_rfl
      · (simp [Im.fieldsI, one_plain, one_low, one_sp, one_zero, sp_or, Im.lastB, Im.hasB, Im.condB, dataR, restR, lastR, inB, branchR, fieldsS, bareI, take, sameB, Im.setsB, m0, m1, m2]) <;> ac_rfl
set_option linter.unusedSimpArgs false in
theorem may_18 (cond rd rn rm imm mode list : Int) (s : Bool) (hw : Wide list) : mayR ⟨18, cond, rd, rn, rm, imm, mode, list, s⟩ = okB ⟨18, cond, rd, rn, rm, imm, mode, list, s⟩ := by
  have hlz : Im.listB (Im.fieldsI 18 mode s) rn list = (list == 0) := list_zero _ _ _ rfl rfl hw
  unfold mayR okB Im.checkB
  dsimp only
  rw [hlz]
  by_cases m0 : mode = 0
  · subst m0
    (simp [Im.fieldsI, one_plain, one_low, one_sp, one_zero, sp_or, Im.lastB, Im.hasB, Im.condB, dataR, restR, lastR, inB, branchR, fieldsS, bareI, take, sameB, Im.setsB]) <;> ac_rfl
  · by_cases m1 : mode = 1
    · subst m1
      (simp [Im.fieldsI, one_plain, one_low, one_sp, one_zero, sp_or, Im.lastB, Im.hasB, Im.condB, dataR, restR, lastR, inB, branchR, fieldsS, bareI, take, sameB, Im.setsB]) <;> ac_rfl
    · by_cases m2 : mode = 2
      · subst m2
        (simp [Im.fieldsI, one_plain, one_low, one_sp, one_zero, sp_or, Im.lastB, Im.hasB, Im.condB, dataR, restR, lastR, inB, branchR, fieldsS, bareI, take, sameB, Im.setsB]) <;> ac_rfl
      · (simp [Im.fieldsI, one_plain, one_low, one_sp, one_zero, sp_or, Im.lastB, Im.hasB, Im.condB, dataR, restR, lastR, inB, branchR, fieldsS, bareI, take, sameB, Im.setsB, m0, m1, m2]) <;> ac_rfl
set_option linter.unusedSimpArgs false in
theorem may_19 (cond rd rn rm imm mode list : Int) (s : Bool) (hw : Wide list) : mayR ⟨19, cond, rd, rn, rm, imm, mode, list, s⟩ = okB ⟨19, cond, rd, rn, rm, imm, mode, list, s⟩ := by
  have hlz : Im.listB (Im.fieldsI 19 mode s) rn list = (list == 0) := list_zero _ _ _ rfl rfl hw
  unfold mayR okB Im.checkB
  dsimp only
  rw [hlz]
  by_cases m0 : mode = 0
  · subst m0
    (simp [Im.fieldsI, one_plain, one_low, one_sp, one_zero, sp_or, Im.lastB, Im.hasB, Im.condB, dataR, restR, lastR, inB, branchR, fieldsS, bareI, take, sameB, Im.setsB]) <;> ac_rfl
  · by_cases m1 : mode = 1
    · subst m1
      (simp [Im.fieldsI, one_plain, one_low, one_sp, one_zero, sp_or, Im.lastB, Im.hasB, Im.condB, dataR, restR, lastR, inB, branchR, fieldsS, bareI, take, sameB, Im.setsB]) <;> ac_rfl
    · by_cases m2 : mode = 2
      · subst m2
        (simp [Im.fieldsI, one_plain, one_low, one_sp, one_zero, sp_or, Im.lastB, Im.hasB, Im.condB, dataR, restR, lastR, inB, branchR, fieldsS, bareI, take, sameB, Im.setsB]) <;> ac_rfl
      · (simp [Im.fieldsI, one_plain, one_low, one_sp, one_zero, sp_or, Im.lastB, Im.hasB, Im.condB, dataR, restR, lastR, inB, branchR, fieldsS, bareI, take, sameB, Im.setsB, m0, m1, m2]) <;> ac_rfl
set_option linter.unusedSimpArgs false in
theorem may_20 (cond rd rn rm imm mode list : Int) (s : Bool) (hw : Wide list) : mayR ⟨20, cond, rd, rn, rm, imm, mode, list, s⟩ = okB ⟨20, cond, rd, rn, rm, imm, mode, list, s⟩ := by
  have hlz : Im.listB (Im.fieldsI 20 mode s) rn list = (list == 0) := list_zero _ _ _ rfl rfl hw
  unfold mayR okB Im.checkB
  dsimp only
  rw [hlz]
  by_cases m0 : mode = 0
  · subst m0
    (simp [Im.fieldsI, one_plain, one_low, one_sp, one_zero, sp_or, Im.lastB, Im.hasB, Im.condB, dataR, restR, lastR, inB, branchR, fieldsS, bareI, take, sameB, Im.setsB]) <;> ac_rfl
  · by_cases m1 : mode = 1
    · subst m1
      (simp [Im.fieldsI, one_plain, one_low, one_sp, one_zero, sp_or, Im.lastB, Im.hasB, Im.condB, dataR, restR, lastR, inB, branchR, fieldsS, bareI, take, sameB, Im.setsB]) <;> ac_rfl
    · by_cases m2 : mode = 2
      · subst m2
        (simp [Im.fieldsI, one_plain, one_low, one_sp, one_zero, sp_or, Im.lastB, Im.hasB, Im.condB, dataR, restR, lastR, inB, branchR, fieldsS, bareI, take, sameB, Im.setsB]) <;> ac_rfl
      · (simp [Im.fieldsI, one_plain, one_low, one_sp, one_zero, sp_or, Im.lastB, Im.hasB, Im.condB, dataR, restR, lastR, inB, branchR, fieldsS, bareI, take, sameB, Im.setsB, m0, m1, m2]) <;> ac_rfl
set_option linter.unusedSimpArgs false in
theorem may_21 (cond rd rn rm imm mode list : Int) (s : Bool) (hw : Wide list) : mayR ⟨21, cond, rd, rn, rm, imm, mode, list, s⟩ = okB ⟨21, cond, rd, rn, rm, imm, mode, list, s⟩ := by
  have hlz : Im.listB (Im.fieldsI 21 mode s) rn list = (list == 0) := list_zero _ _ _ rfl rfl hw
  unfold mayR okB Im.checkB
  dsimp only
  rw [hlz]
  by_cases m0 : mode = 0
  · subst m0
    (simp [Im.fieldsI, one_plain, one_low, one_sp, one_zero, sp_or, Im.lastB, Im.hasB, Im.condB, dataR, restR, lastR, inB, branchR, fieldsS, bareI, take, sameB, Im.setsB]) <;> ac_rfl
  · by_cases m1 : mode = 1
    · subst m1
      (simp [Im.fieldsI, one_plain, one_low, one_sp, one_zero, sp_or, Im.lastB, Im.hasB, Im.condB, dataR, restR, lastR, inB, branchR, fieldsS, bareI, take, sameB, Im.setsB]) <;> ac_rfl
    · by_cases m2 : mode = 2
      · subst m2
        (simp [Im.fieldsI, one_plain, one_low, one_sp, one_zero, sp_or, Im.lastB, Im.hasB, Im.condB, dataR, restR, lastR, inB, branchR, fieldsS, bareI, take, sameB, Im.setsB]) <;> ac_rfl
      · (simp [Im.fieldsI, one_plain, one_low, one_sp, one_zero, sp_or, Im.lastB, Im.hasB, Im.condB, dataR, restR, lastR, inB, branchR, fieldsS, bareI, take, sameB, Im.setsB, m0, m1, m2]) <;> ac_rfl
set_option linter.unusedSimpArgs false in
theorem may_22 (cond rd rn rm imm mode list : Int) (s : Bool) (hw : Wide list) : mayR ⟨22, cond, rd, rn, rm, imm, mode, list, s⟩ = okB ⟨22, cond, rd, rn, rm, imm, mode, list, s⟩ := by
  have hlz : Im.listB (Im.fieldsI 22 mode s) rn list = (list == 0) := list_zero _ _ _ rfl rfl hw
  unfold mayR okB Im.checkB
  dsimp only
  rw [hlz]
  by_cases m0 : mode = 0
  · subst m0
    (simp [Im.fieldsI, one_plain, one_low, one_sp, one_zero, sp_or, Im.lastB, Im.hasB, Im.condB, dataR, restR, lastR, inB, branchR, fieldsS, bareI, take, sameB, Im.setsB]) <;> ac_rfl
  · by_cases m1 : mode = 1
    · subst m1
      (simp [Im.fieldsI, one_plain, one_low, one_sp, one_zero, sp_or, Im.lastB, Im.hasB, Im.condB, dataR, restR, lastR, inB, branchR, fieldsS, bareI, take, sameB, Im.setsB]) <;> ac_rfl
    · by_cases m2 : mode = 2
      · subst m2
        (simp [Im.fieldsI, one_plain, one_low, one_sp, one_zero, sp_or, Im.lastB, Im.hasB, Im.condB, dataR, restR, lastR, inB, branchR, fieldsS, bareI, take, sameB, Im.setsB]) <;> ac_rfl
      · (simp [Im.fieldsI, one_plain, one_low, one_sp, one_zero, sp_or, Im.lastB, Im.hasB, Im.condB, dataR, restR, lastR, inB, branchR, fieldsS, bareI, take, sameB, Im.setsB, m0, m1, m2]) <;> ac_rfl
set_option linter.unusedSimpArgs false in
theorem may_23 (cond rd rn rm imm mode list : Int) (s : Bool) (hw : Wide list) : mayR ⟨23, cond, rd, rn, rm, imm, mode, list, s⟩ = okB ⟨23, cond, rd, rn, rm, imm, mode, list, s⟩ := by
  have hlz : Im.listB (Im.fieldsI 23 mode s) rn list = (list == 0) := list_zero _ _ _ rfl rfl hw
  unfold mayR okB Im.checkB
  dsimp only
  rw [hlz]
  by_cases m0 : mode = 0
  · subst m0
    (simp [Im.fieldsI, one_plain, one_low, one_sp, one_zero, sp_or, Im.lastB, Im.hasB, Im.condB, dataR, restR, lastR, inB, branchR, fieldsS, bareI, take, sameB, Im.setsB]) <;> ac_rfl
  · by_cases m1 : mode = 1
    · subst m1
      (simp [Im.fieldsI, one_plain, one_low, one_sp, one_zero, sp_or, Im.lastB, Im.hasB, Im.condB, dataR, restR, lastR, inB, branchR, fieldsS, bareI, take, sameB, Im.setsB]) <;> ac_rfl
    · by_cases m2 : mode = 2
      · subst m2
        (simp [Im.fieldsI, one_plain, one_low, one_sp, one_zero, sp_or, Im.lastB, Im.hasB, Im.condB, dataR, restR, lastR, inB, branchR, fieldsS, bareI, take, sameB, Im.setsB]) <;> ac_rfl
      · (simp [Im.fieldsI, one_plain, one_low, one_sp, one_zero, sp_or, Im.lastB, Im.hasB, Im.condB, dataR, restR, lastR, inB, branchR, fieldsS, bareI, take, sameB, Im.setsB, m0, m1, m2]) <;> ac_rfl
set_option linter.unusedSimpArgs false in
theorem may_24 (cond rd rn rm imm mode list : Int) (s : Bool) (hw : Wide list) : mayR ⟨24, cond, rd, rn, rm, imm, mode, list, s⟩ = okB ⟨24, cond, rd, rn, rm, imm, mode, list, s⟩ := by
  have hlz : Im.listB (Im.fieldsI 24 mode s) rn list = (list == 0) := list_zero _ _ _ rfl rfl hw
  unfold mayR okB Im.checkB
  dsimp only
  rw [hlz]
  by_cases m0 : mode = 0
  · subst m0
    (simp [Im.fieldsI, one_plain, one_low, one_sp, one_zero, sp_or, Im.lastB, Im.hasB, Im.condB, dataR, restR, lastR, inB, branchR, fieldsS, bareI, take, sameB, Im.setsB]) <;> ac_rfl
  · by_cases m1 : mode = 1
    · subst m1
      (simp [Im.fieldsI, one_plain, one_low, one_sp, one_zero, sp_or, Im.lastB, Im.hasB, Im.condB, dataR, restR, lastR, inB, branchR, fieldsS, bareI, take, sameB, Im.setsB]) <;> ac_rfl
    · by_cases m2 : mode = 2
      · subst m2
        (simp [Im.fieldsI, one_plain, one_low, one_sp, one_zero, sp_or, Im.lastB, Im.hasB, Im.condB, dataR, restR, lastR, inB, branchR, fieldsS, bareI, take, sameB, Im.setsB]) <;> ac_rfl
      · (simp [Im.fieldsI, one_plain, one_low, one_sp, one_zero, sp_or, Im.lastB, Im.hasB, Im.condB, dataR, restR, lastR, inB, branchR, fieldsS, bareI, take, sameB, Im.setsB, m0, m1, m2]) <;> ac_rfl
set_option linter.unusedSimpArgs false in
theorem may_25 (cond rd rn rm imm mode list : Int) (s : Bool) (hw : Wide list) : mayR ⟨25, cond, rd, rn, rm, imm, mode, list, s⟩ = okB ⟨25, cond, rd, rn, rm, imm, mode, list, s⟩ := by
  have hlz : Im.listB (Im.fieldsI 25 mode s) rn list = (list == 0) := list_zero _ _ _ rfl rfl hw
  unfold mayR okB Im.checkB
  dsimp only
  rw [hlz]
  by_cases m0 : mode = 0
  · subst m0
    (simp [Im.fieldsI, one_plain, one_low, one_sp, one_zero, sp_or, Im.lastB, Im.hasB, Im.condB, dataR, restR, lastR, inB, branchR, fieldsS, bareI, take, sameB, Im.setsB]) <;> ac_rfl
  · by_cases m1 : mode = 1
    · subst m1
      (simp [Im.fieldsI, one_plain, one_low, one_sp, one_zero, sp_or, Im.lastB, Im.hasB, Im.condB, dataR, restR, lastR, inB, branchR, fieldsS, bareI, take, sameB, Im.setsB]) <;> ac_rfl
    · by_cases m2 : mode = 2
      · subst m2
        (simp [Im.fieldsI, one_plain, one_low, one_sp, one_zero, sp_or, Im.lastB, Im.hasB, Im.condB, dataR, restR, lastR, inB, branchR, fieldsS, bareI, take, sameB, Im.setsB]) <;> ac_rfl
      · (simp [Im.fieldsI, one_plain, one_low, one_sp, one_zero, sp_or, Im.lastB, Im.hasB, Im.condB, dataR, restR, lastR, inB, branchR, fieldsS, bareI, take, sameB, Im.setsB, m0, m1, m2]) <;> ac_rfl
set_option linter.unusedSimpArgs false in
theorem may_26 (cond rd rn rm imm mode list : Int) (s : Bool) (hw : Wide list) : mayR ⟨26, cond, rd, rn, rm, imm, mode, list, s⟩ = okB ⟨26, cond, rd, rn, rm, imm, mode, list, s⟩ := by
  have hlz : Im.listB (Im.fieldsI 26 mode s) rn list = (list == 0) := list_zero _ _ _ rfl rfl hw
  unfold mayR okB Im.checkB
  dsimp only
  rw [hlz]
  by_cases m0 : mode = 0
  · subst m0
    (simp [Im.fieldsI, one_plain, one_low, one_sp, one_zero, sp_or, Im.lastB, Im.hasB, Im.condB, dataR, restR, lastR, inB, branchR, fieldsS, bareI, take, sameB, Im.setsB]) <;> ac_rfl
  · by_cases m1 : mode = 1
    · subst m1
      (simp [Im.fieldsI, one_plain, one_low, one_sp, one_zero, sp_or, Im.lastB, Im.hasB, Im.condB, dataR, restR, lastR, inB, branchR, fieldsS, bareI, take, sameB, Im.setsB]) <;> ac_rfl
    · by_cases m2 : mode = 2
      · subst m2
        (simp [Im.fieldsI, one_plain, one_low, one_sp, one_zero, sp_or, Im.lastB, Im.hasB, Im.condB, dataR, restR, lastR, inB, branchR, fieldsS, bareI, take, sameB, Im.setsB]) <;> ac_rfl
      · (simp [Im.fieldsI, one_plain, one_low, one_sp, one_zero, sp_or, Im.lastB, Im.hasB, Im.condB, dataR, restR, lastR, inB, branchR, fieldsS, bareI, take, sameB, Im.setsB, m0, m1, m2]) <;> ac_rfl
set_option linter.unusedSimpArgs false in
theorem may_27 (cond rd rn rm imm mode list : Int) (s : Bool) (hw : Wide list) : mayR ⟨27, cond, rd, rn, rm, imm, mode, list, s⟩ = okB ⟨27, cond, rd, rn, rm, imm, mode, list, s⟩ := by
  have hlz : Im.listB (Im.fieldsI 27 mode s) rn list = (list == 0) := list_zero _ _ _ rfl rfl hw
  unfold mayR okB Im.checkB
  dsimp only
  rw [hlz]
  by_cases m0 : mode = 0
  · subst m0
    (simp [Im.fieldsI, one_plain, one_low, one_sp, one_zero, sp_or, Im.lastB, Im.hasB, Im.condB, dataR, restR, lastR, inB, branchR, fieldsS, bareI, take, sameB, Im.setsB]) <;> ac_rfl
  · by_cases m1 : mode = 1
    · subst m1
      (simp [Im.fieldsI, one_plain, one_low, one_sp, one_zero, sp_or, Im.lastB, Im.hasB, Im.condB, dataR, restR, lastR, inB, branchR, fieldsS, bareI, take, sameB, Im.setsB]) <;> ac_rfl
    · by_cases m2 : mode = 2
      · subst m2
        (simp [Im.fieldsI, one_plain, one_low, one_sp, one_zero, sp_or, Im.lastB, Im.hasB, Im.condB, dataR, restR, lastR, inB, branchR, fieldsS, bareI, take, sameB, Im.setsB]) <;> ac_rfl
      · (simp [Im.fieldsI, one_plain, one_low, one_sp, one_zero, sp_or, Im.lastB, Im.hasB, Im.condB, dataR, restR, lastR, inB, branchR, fieldsS, bareI, take, sameB, Im.setsB, m0, m1, m2]) <;> ac_rfl
set_option linter.unusedSimpArgs false in
theorem may_28 (cond rd rn rm imm mode list : Int) (s : Bool) (hw : Wide list) : mayR ⟨28, cond, rd, rn, rm, imm, mode, list, s⟩ = okB ⟨28, cond, rd, rn, rm, imm, mode, list, s⟩ := by
  have hlz : Im.listB (Im.fieldsI 28 mode s) rn list = (list == 0) := list_zero _ _ _ rfl rfl hw
  unfold mayR okB Im.checkB
  dsimp only
  rw [hlz]
  by_cases m0 : mode = 0
  · subst m0
    (simp [Im.fieldsI, one_plain, one_low, one_sp, one_zero, sp_or, Im.lastB, Im.hasB, Im.condB, dataR, restR, lastR, inB, branchR, fieldsS, bareI, take, sameB, Im.setsB]) <;> ac_rfl
  · by_cases m1 : mode = 1
    · subst m1
      (simp [Im.fieldsI, one_plain, one_low, one_sp, one_zero, sp_or, Im.lastB, Im.hasB, Im.condB, dataR, restR, lastR, inB, branchR, fieldsS, bareI, take, sameB, Im.setsB]) <;> ac_rfl
    · by_cases m2 : mode = 2
      · subst m2
        (simp [Im.fieldsI, one_plain, one_low, one_sp, one_zero, sp_or, Im.lastB, Im.hasB, Im.condB, dataR, restR, lastR, inB, branchR, fieldsS, bareI, take, sameB, Im.setsB]) <;> ac_rfl
      · (simp [Im.fieldsI, one_plain, one_low, one_sp, one_zero, sp_or, Im.lastB, Im.hasB, Im.condB, dataR, restR, lastR, inB, branchR, fieldsS, bareI, take, sameB, Im.setsB, m0, m1, m2]) <;> ac_rfl
set_option linter.unusedSimpArgs false in
theorem may_29 (cond rd rn rm imm mode list : Int) (s : Bool) (hw : Wide list) : mayR ⟨29, cond, rd, rn, rm, imm, mode, list, s⟩ = okB ⟨29, cond, rd, rn, rm, imm, mode, list, s⟩ := by
  have hlz : Im.listB (Im.fieldsI 29 mode s) rn list = (list == 0) := list_zero _ _ _ rfl rfl hw
  unfold mayR okB Im.checkB
  dsimp only
  rw [hlz]
  by_cases m0 : mode = 0
  · subst m0
    (simp [Im.fieldsI, one_plain, one_low, one_sp, one_zero, sp_or, Im.lastB, Im.hasB, Im.condB, dataR, restR, lastR, inB, branchR, fieldsS, bareI, take, sameB, Im.setsB]) <;> ac_rfl
  · by_cases m1 : mode = 1
    · subst m1
      (simp [Im.fieldsI, one_plain, one_low, one_sp, one_zero, sp_or, Im.lastB, Im.hasB, Im.condB, dataR, restR, lastR, inB, branchR, fieldsS, bareI, take, sameB, Im.setsB]) <;> ac_rfl
    · by_cases m2 : mode = 2
      · subst m2
        (simp [Im.fieldsI, one_plain, one_low, one_sp, one_zero, sp_or, Im.lastB, Im.hasB, Im.condB, dataR, restR, lastR, inB, branchR, fieldsS, bareI, take, sameB, Im.setsB]) <;> ac_rfl
      · (simp [Im.fieldsI, one_plain, one_low, one_sp, one_zero, sp_or, Im.lastB, Im.hasB, Im.condB, dataR, restR, lastR, inB, branchR, fieldsS, bareI, take, sameB, Im.setsB, m0, m1, m2]) <;> ac_rfl
set_option linter.unusedSimpArgs false in
theorem may_30 (cond rd rn rm imm mode list : Int) (s : Bool) (hw : Wide list) : mayR ⟨30, cond, rd, rn, rm, imm, mode, list, s⟩ = okB ⟨30, cond, rd, rn, rm, imm, mode, list, s⟩ := by
  have hlz : Im.listB (Im.fieldsI 30 mode s) rn list = (list == 0) := list_zero _ _ _ rfl rfl hw
  unfold mayR okB Im.checkB
  dsimp only
  rw [hlz]
  by_cases m0 : mode = 0
  · subst m0
    (simp [Im.fieldsI, one_plain, one_low, one_sp, one_zero, sp_or, Im.lastB, Im.hasB, Im.condB, dataR, restR, lastR, inB, branchR, fieldsS, bareI, take, sameB, Im.setsB]) <;> ac_rfl
  · by_cases m1 : mode = 1
    · subst m1
      (simp [Im.fieldsI, one_plain, one_low, one_sp, one_zero, sp_or, Im.lastB, Im.hasB, Im.condB, dataR, restR, lastR, inB, branchR, fieldsS, bareI, take, sameB, Im.setsB]) <;> ac_rfl
    · by_cases m2 : mode = 2
      · subst m2
        (simp [Im.fieldsI, one_plain, one_low, one_sp, one_zero, sp_or, Im.lastB, Im.hasB, Im.condB, dataR, restR, lastR, inB, branchR, fieldsS, bareI, take, sameB, Im.setsB]) <;> ac_rfl
      · (simp [Im.fieldsI, one_plain, one_low, one_sp, one_zero, sp_or, Im.lastB, Im.hasB, Im.condB, dataR, restR, lastR, inB, branchR, fieldsS, bareI, take, sameB, Im.setsB, m0, m1, m2]) <;> ac_rfl
set_option linter.unusedSimpArgs false in
theorem may_31 (cond rd rn rm imm mode list : Int) (s : Bool) (hw : Wide list) : mayR ⟨31, cond, rd, rn, rm, imm, mode, list, s⟩ = okB ⟨31, cond, rd, rn, rm, imm, mode, list, s⟩ := by
  have hlz := list_31 rn list hw
  unfold mayR okB Im.checkB
  dsimp only
  rw [show Im.fieldsI 31 mode s = ⟨0, 24575, 0, 0, 0, 0, 24575, 2⟩ from rfl, hlz]
  unfold restR
  dsimp only
  generalize popF 16 list.toNat = p
  by_cases m0 : mode = 0
  · subst m0
    (simp [Im.fieldsI, one_plain, one_low, one_sp, one_zero, sp_or, Im.lastB, Im.hasB, Im.condB, dataR, restR, lastR, inB, branchR, fieldsS, bareI, take, sameB, Im.setsB]) <;> ac_rfl
  · by_cases m1 : mode = 1
    · subst m1
      (simp [Im.fieldsI, one_plain, one_low, one_sp, one_zero, sp_or, Im.lastB, Im.hasB, Im.condB, dataR, restR, lastR, inB, branchR, fieldsS, bareI, take, sameB, Im.setsB]) <;> ac_rfl
    · by_cases m2 : mode = 2
      · subst m2
        (simp [Im.fieldsI, one_plain, one_low, one_sp, one_zero, sp_or, Im.lastB, Im.hasB, Im.condB, dataR, restR, lastR, inB, branchR, fieldsS, bareI, take, sameB, Im.setsB]) <;> ac_rfl
      · (simp [Im.fieldsI, one_plain, one_low, one_sp, one_zero, sp_or, Im.lastB, Im.hasB, Im.condB, dataR, restR, lastR, inB, branchR, fieldsS, bareI, take, sameB, Im.setsB, m0, m1, m2]) <;> ac_rfl
set_option linter.unusedSimpArgs false in
theorem may_32 (cond rd rn rm imm mode list : Int) (s : Bool) (hw : Wide list) : mayR ⟨32, cond, rd, rn, rm, imm, mode, list, s⟩ = okB ⟨32, cond, rd, rn, rm, imm, mode, list, s⟩ := by
  have hlz := list_31 rn list hw
  unfold mayR okB Im.checkB
  dsimp only
  rw [show Im.fieldsI 32 mode s = ⟨0, 24575, 0, 0, 0, 0, 24575, 2⟩ from rfl, hlz]
  unfold restR
  dsimp only
  generalize popF 16 list.toNat = p
  by_cases m0 : mode = 0
  · subst m0
    (simp [Im.fieldsI, one_plain, one_low, one_sp, one_zero, sp_or, Im.lastB, Im.hasB, Im.condB, dataR, restR, lastR, inB, branchR, fieldsS, bareI, take, sameB, Im.setsB]) <;> ac_rfl
  · by_cases m1 : mode = 1
    · subst m1
      (simp [Im.fieldsI, one_plain, one_low, one_sp, one_zero, sp_or, Im.lastB, Im.hasB, Im.condB, dataR, restR, lastR, inB, branchR, fieldsS, bareI, take, sameB, Im.setsB]) <;> ac_rfl
    · by_cases m2 : mode = 2
      · subst m2
        (simp [Im.fieldsI, one_plain, one_low, one_sp, one_zero, sp_or, Im.lastB, Im.hasB, Im.condB, dataR, restR, lastR, inB, branchR, fieldsS, bareI, take, sameB, Im.setsB]) <;> ac_rfl
      · (simp [Im.fieldsI, one_plain, one_low, one_sp, one_zero, sp_or, Im.lastB, Im.hasB, Im.condB, dataR, restR, lastR, inB, branchR, fieldsS, bareI, take, sameB, Im.setsB, m0, m1, m2]) <;> ac_rfl
set_option linter.unusedSimpArgs false in
theorem may_33 (cond rd rn rm imm mode list : Int) (s : Bool) (hw : Wide list) : mayR ⟨33, cond, rd, rn, rm, imm, mode, list, s⟩ = okB ⟨33, cond, rd, rn, rm, imm, mode, list, s⟩ := by
  have hlz := list_33 rn list hw
  unfold mayR okB Im.checkB
  dsimp only
  rw [show Im.fieldsI 33 mode s = ⟨0, 0, 0, 0, 0, 0, 24575, 1⟩ from rfl, hlz]
  by_cases m0 : mode = 0
  · subst m0
    (simp [Im.fieldsI, one_plain, one_low, one_sp, one_zero, sp_or, Im.lastB, Im.hasB, Im.condB, dataR, restR, lastR, inB, branchR, fieldsS, bareI, take, sameB, Im.setsB]) <;> ac_rfl
  · by_cases m1 : mode = 1
    · subst m1
      (simp [Im.fieldsI, one_plain, one_low, one_sp, one_zero, sp_or, Im.lastB, Im.hasB, Im.condB, dataR, restR, lastR, inB, branchR, fieldsS, bareI, take, sameB, Im.setsB]) <;> ac_rfl
    · by_cases m2 : mode = 2
      · subst m2
        (simp [Im.fieldsI, one_plain, one_low, one_sp, one_zero, sp_or, Im.lastB, Im.hasB, Im.condB, dataR, restR, lastR, inB, branchR, fieldsS, bareI, take, sameB, Im.setsB]) <;> ac_rfl
      · (simp [Im.fieldsI, one_plain, one_low, one_sp, one_zero, sp_or, Im.lastB, Im.hasB, Im.condB, dataR, restR, lastR, inB, branchR, fieldsS, bareI, take, sameB, Im.setsB, m0, m1, m2]) <;> ac_rfl
set_option linter.unusedSimpArgs false in
theorem may_34 (cond rd rn rm imm mode list : Int) (s : Bool) (hw : Wide list) : mayR ⟨34, cond, rd, rn, rm, imm, mode, list, s⟩ = okB ⟨34, cond, rd, rn, rm, imm, mode, list, s⟩ := by
  have hlz := list_34 rn list hw
  unfold mayR okB Im.checkB
  dsimp only
  rw [show Im.fieldsI 34 mode s = ⟨0, 0, 0, 0, 0, 0, 57343, 1⟩ from rfl, hlz]
  by_cases m0 : mode = 0
  · subst m0
    (simp [Im.fieldsI, one_plain, one_low, one_sp, one_zero, sp_or, Im.lastB, Im.hasB, Im.condB, dataR, restR, lastR, inB, branchR, fieldsS, bareI, take, sameB, Im.setsB]) <;> ac_rfl
  · by_cases m1 : mode = 1
    · subst m1
      (simp [Im.fieldsI, one_plain, one_low, one_sp, one_zero, sp_or, Im.lastB, Im.hasB, Im.condB, dataR, restR, lastR, inB, branchR, fieldsS, bareI, take, sameB, Im.setsB]) <;> ac_rfl
    · by_cases m2 : mode = 2
      · subst m2
        (simp [Im.fieldsI, one_plain, one_low, one_sp, one_zero, sp_or, Im.lastB, Im.hasB, Im.condB, dataR, restR, lastR, inB, branchR, fieldsS, bareI, take, sameB, Im.setsB]) <;> ac_rfl
      · (simp [Im.fieldsI, one_plain, one_low, one_sp, one_zero, sp_or, Im.lastB, Im.hasB, Im.condB, dataR, restR, lastR, inB, branchR, fieldsS, bareI, take, sameB, Im.setsB, m0, m1, m2]) <;> ac_rfl
set_option linter.unusedSimpArgs false in
theorem may_35 (cond rd rn rm imm mode list : Int) (s : Bool) (hw : Wide list) : mayR ⟨35, cond, rd, rn, rm, imm, mode, list, s⟩ = okB ⟨35, cond, rd, rn, rm, imm, mode, list, s⟩ := by
  have hlz : Im.listB (Im.fieldsI 35 mode s) rn list = (list == 0) := list_zero _ _ _ rfl rfl hw
  unfold mayR okB Im.checkB
  dsimp only
  rw [hlz]
  by_cases m0 : mode = 0
  · subst m0
    (simp [Im.fieldsI, one_plain, one_low, one_sp, one_zero, sp_or, Im.lastB, Im.hasB, Im.condB, dataR, restR, lastR, inB, branchR, fieldsS, bareI, take, sameB, Im.setsB]) <;> ac_rfl
  · by_cases m1 : mode = 1
    · subst m1
      (simp [Im.fieldsI, one_plain, one_low, one_sp, one_zero, sp_or, Im.lastB, Im.hasB, Im.condB, dataR, restR, lastR, inB, branchR, fieldsS, bareI, take, sameB, Im.setsB]) <;> ac_rfl
    · by_cases m2 : mode = 2
      · subst m2
        (simp [Im.fieldsI, one_plain, one_low, one_sp, one_zero, sp_or, Im.lastB, Im.hasB, Im.condB, dataR, restR, lastR, inB, branchR, fieldsS, bareI, take, sameB, Im.setsB]) <;> ac_rfl
      · (simp [Im.fieldsI, one_plain, one_low, one_sp, one_zero, sp_or, Im.lastB, Im.hasB, Im.condB, dataR, restR, lastR, inB, branchR, fieldsS, bareI, take, sameB, Im.setsB, m0, m1, m2]) <;> ac_rfl
set_option linter.unusedSimpArgs false in
theorem may_36 (cond rd rn rm imm mode list : Int) (s : Bool) (hw : Wide list) : mayR ⟨36, cond, rd, rn, rm, imm, mode, list, s⟩ = okB ⟨36, cond, rd, rn, rm, imm, mode, list, s⟩ := by
  have hlz : Im.listB (Im.fieldsI 36 mode s) rn list = (list == 0) := list_zero _ _ _ rfl rfl hw
  unfold mayR okB Im.checkB
  dsimp only
  rw [hlz]
  by_cases m0 : mode = 0
  · subst m0
    (simp [Im.fieldsI, one_plain, one_low, one_sp, one_zero, sp_or, Im.lastB, Im.hasB, Im.condB, dataR, restR, lastR, inB, branchR, fieldsS, bareI, take, sameB, Im.setsB]) <;> ac_rfl
  · by_cases m1 : mode = 1
    · subst m1
      (simp [Im.fieldsI, one_plain, one_low, one_sp, one_zero, sp_or, Im.lastB, Im.hasB, Im.condB, dataR, restR, lastR, inB, branchR, fieldsS, bareI, take, sameB, Im.setsB]) <;> ac_rfl
    · by_cases m2 : mode = 2
      · subst m2
        (simp [Im.fieldsI, one_plain, one_low, one_sp, one_zero, sp_or, Im.lastB, Im.hasB, Im.condB, dataR, restR, lastR, inB, branchR, fieldsS, bareI, take, sameB, Im.setsB]) <;> ac_rfl
      · (simp [Im.fieldsI, one_plain, one_low, one_sp, one_zero, sp_or, Im.lastB, Im.hasB, Im.condB, dataR, restR, lastR, inB, branchR, fieldsS, bareI, take, sameB, Im.setsB, m0, m1, m2]) <;> ac_rfl
set_option linter.unusedSimpArgs false in
theorem may_37 (cond rd rn rm imm mode list : Int) (s : Bool) (hw : Wide list) : mayR ⟨37, cond, rd, rn, rm, imm, mode, list, s⟩ = okB ⟨37, cond, rd, rn, rm, imm, mode, list, s⟩ := by
  have hlz : Im.listB (Im.fieldsI 37 mode s) rn list = (list == 0) := list_zero _ _ _ rfl rfl hw
  unfold mayR okB Im.checkB
  dsimp only
  rw [hlz]
  by_cases m0 : mode = 0
  · subst m0
    (simp [Im.fieldsI, one_plain, one_low, one_sp, one_zero, sp_or, Im.lastB, Im.hasB, Im.condB, dataR, restR, lastR, inB, branchR, fieldsS, bareI, take, sameB, Im.setsB]) <;> ac_rfl
  · by_cases m1 : mode = 1
    · subst m1
      (simp [Im.fieldsI, one_plain, one_low, one_sp, one_zero, sp_or, Im.lastB, Im.hasB, Im.condB, dataR, restR, lastR, inB, branchR, fieldsS, bareI, take, sameB, Im.setsB]) <;> ac_rfl
    · by_cases m2 : mode = 2
      · subst m2
        (simp [Im.fieldsI, one_plain, one_low, one_sp, one_zero, sp_or, Im.lastB, Im.hasB, Im.condB, dataR, restR, lastR, inB, branchR, fieldsS, bareI, take, sameB, Im.setsB]) <;> ac_rfl
      · (simp [Im.fieldsI, one_plain, one_low, one_sp, one_zero, sp_or, Im.lastB, Im.hasB, Im.condB, dataR, restR, lastR, inB, branchR, fieldsS, bareI, take, sameB, Im.setsB, m0, m1, m2]) <;> ac_rfl
set_option linter.unusedSimpArgs false in
theorem may_38 (cond rd rn rm imm mode list : Int) (s : Bool) (hw : Wide list) : mayR ⟨38, cond, rd, rn, rm, imm, mode, list, s⟩ = okB ⟨38, cond, rd, rn, rm, imm, mode, list, s⟩ := by
  have hlz : Im.listB (Im.fieldsI 38 mode s) rn list = (list == 0) := list_zero _ _ _ rfl rfl hw
  unfold mayR okB Im.checkB
  dsimp only
  rw [hlz]
  by_cases m0 : mode = 0
  · subst m0
    (simp [Im.fieldsI, one_plain, one_low, one_sp, one_zero, sp_or, Im.lastB, Im.hasB, Im.condB, dataR, restR, lastR, inB, branchR, fieldsS, bareI, take, sameB, Im.setsB]) <;> ac_rfl
  · by_cases m1 : mode = 1
    · subst m1
      (simp [Im.fieldsI, one_plain, one_low, one_sp, one_zero, sp_or, Im.lastB, Im.hasB, Im.condB, dataR, restR, lastR, inB, branchR, fieldsS, bareI, take, sameB, Im.setsB]) <;> ac_rfl
    · by_cases m2 : mode = 2
      · subst m2
        (simp [Im.fieldsI, one_plain, one_low, one_sp, one_zero, sp_or, Im.lastB, Im.hasB, Im.condB, dataR, restR, lastR, inB, branchR, fieldsS, bareI, take, sameB, Im.setsB]) <;> ac_rfl
      · (simp [Im.fieldsI, one_plain, one_low, one_sp, one_zero, sp_or, Im.lastB, Im.hasB, Im.condB, dataR, restR, lastR, inB, branchR, fieldsS, bareI, take, sameB, Im.setsB, m0, m1, m2]) <;> ac_rfl
set_option linter.unusedSimpArgs false in
theorem may_39 (cond rd rn rm imm mode list : Int) (s : Bool) (hw : Wide list) : mayR ⟨39, cond, rd, rn, rm, imm, mode, list, s⟩ = okB ⟨39, cond, rd, rn, rm, imm, mode, list, s⟩ := by
  have hlz : Im.listB (Im.fieldsI 39 mode s) rn list = (list == 0) := list_zero _ _ _ rfl rfl hw
  unfold mayR okB Im.checkB
  dsimp only
  rw [hlz]
  by_cases m0 : mode = 0
  · subst m0
    (simp [Im.fieldsI, one_plain, one_low, one_sp, one_zero, sp_or, Im.lastB, Im.hasB, Im.condB, dataR, restR, lastR, inB, branchR, fieldsS, bareI, take, sameB, Im.setsB]) <;> ac_rfl
  · by_cases m1 : mode = 1
    · subst m1
      (simp [Im.fieldsI, one_plain, one_low, one_sp, one_zero, sp_or, Im.lastB, Im.hasB, Im.condB, dataR, restR, lastR, inB, branchR, fieldsS, bareI, take, sameB, Im.setsB]) <;> ac_rfl
    · by_cases m2 : mode = 2
      · subst m2
        (simp [Im.fieldsI, one_plain, one_low, one_sp, one_zero, sp_or, Im.lastB, Im.hasB, Im.condB, dataR, restR, lastR, inB, branchR, fieldsS, bareI, take, sameB, Im.setsB]) <;> ac_rfl
      · (simp [Im.fieldsI, one_plain, one_low, one_sp, one_zero, sp_or, Im.lastB, Im.hasB, Im.condB, dataR, restR, lastR, inB, branchR, fieldsS, bareI, take, sameB, Im.setsB, m0, m1, m2]) <;> ac_rfl
set_option linter.unusedSimpArgs false in
theorem may_40 (cond rd rn rm imm mode list : Int) (s : Bool) (hw : Wide list) : mayR ⟨40, cond, rd, rn, rm, imm, mode, list, s⟩ = okB ⟨40, cond, rd, rn, rm, imm, mode, list, s⟩ := by
  have hlz : Im.listB (Im.fieldsI 40 mode s) rn list = (list == 0) := list_zero _ _ _ rfl rfl hw
  unfold mayR okB Im.checkB
  dsimp only
  rw [hlz]
  by_cases m0 : mode = 0
  · subst m0
    (simp [Im.fieldsI, one_plain, one_low, one_sp, one_zero, sp_or, Im.lastB, Im.hasB, Im.condB, dataR, restR, lastR, inB, branchR, fieldsS, bareI, take, sameB, Im.setsB]) <;> ac_rfl
  · by_cases m1 : mode = 1
    · subst m1
      (simp [Im.fieldsI, one_plain, one_low, one_sp, one_zero, sp_or, Im.lastB, Im.hasB, Im.condB, dataR, restR, lastR, inB, branchR, fieldsS, bareI, take, sameB, Im.setsB]) <;> ac_rfl
    · by_cases m2 : mode = 2
      · subst m2
        (simp [Im.fieldsI, one_plain, one_low, one_sp, one_zero, sp_or, Im.lastB, Im.hasB, Im.condB, dataR, restR, lastR, inB, branchR, fieldsS, bareI, take, sameB, Im.setsB]) <;> ac_rfl
      · (simp [Im.fieldsI, one_plain, one_low, one_sp, one_zero, sp_or, Im.lastB, Im.hasB, Im.condB, dataR, restR, lastR, inB, branchR, fieldsS, bareI, take, sameB, Im.setsB, m0, m1, m2]) <;> ac_rfl
set_option linter.unusedSimpArgs false in
theorem may_41 (cond rd rn rm imm mode list : Int) (s : Bool) (hw : Wide list) : mayR ⟨41, cond, rd, rn, rm, imm, mode, list, s⟩ = okB ⟨41, cond, rd, rn, rm, imm, mode, list, s⟩ := by
  have hlz : Im.listB (Im.fieldsI 41 mode s) rn list = (list == 0) := list_zero _ _ _ rfl rfl hw
  unfold mayR okB Im.checkB
  dsimp only
  rw [hlz]
  by_cases m0 : mode = 0
  · subst m0
    (simp [Im.fieldsI, one_plain, one_low, one_sp, one_zero, sp_or, Im.lastB, Im.hasB, Im.condB, dataR, restR, lastR, inB, branchR, fieldsS, bareI, take, sameB, Im.setsB]) <;> ac_rfl
  · by_cases m1 : mode = 1
    · subst m1
      (simp [Im.fieldsI, one_plain, one_low, one_sp, one_zero, sp_or, Im.lastB, Im.hasB, Im.condB, dataR, restR, lastR, inB, branchR, fieldsS, bareI, take, sameB, Im.setsB]) <;> ac_rfl
    · by_cases m2 : mode = 2
      · subst m2
        (simp [Im.fieldsI, one_plain, one_low, one_sp, one_zero, sp_or, Im.lastB, Im.hasB, Im.condB, dataR, restR, lastR, inB, branchR, fieldsS, bareI, take, sameB, Im.setsB]) <;> ac_rfl
      · (simp [Im.fieldsI, one_plain, one_low, one_sp, one_zero, sp_or, Im.lastB, Im.hasB, Im.condB, dataR, restR, lastR, inB, branchR, fieldsS, bareI, take, sameB, Im.setsB, m0, m1, m2]) <;> ac_rfl
set_option linter.unusedSimpArgs false in
theorem may_42 (cond rd rn rm imm mode list : Int) (s : Bool) (hw : Wide list) : mayR ⟨42, cond, rd, rn, rm, imm, mode, list, s⟩ = okB ⟨42, cond, rd, rn, rm, imm, mode, list, s⟩ := by
  have hlz : Im.listB (Im.fieldsI 42 mode s) rn list = (list == 0) := list_zero _ _ _ rfl rfl hw
  unfold mayR okB Im.checkB
  dsimp only
  rw [hlz]
  by_cases m0 : mode = 0
  · subst m0
    (simp [Im.fieldsI, one_plain, one_low, one_sp, one_zero, sp_or, Im.lastB, Im.hasB, Im.condB, dataR, restR, lastR, inB, branchR, fieldsS, bareI, take, sameB, Im.setsB]) <;> ac_rfl
  · by_cases m1 : mode = 1
    · subst m1
      cases hq : Cm.condsI cond imm with
      | nil => (simp [Im.fieldsI, one_plain, one_low, one_sp, one_zero, sp_or, Im.lastB, Im.hasB, Im.condB, dataR, restR, lastR, inB, branchR, fieldsS, bareI, take, sameB, hq, Im.setsB]) <;> ac_rfl
      | cons x r =>
        have hb := conds_is (c := cond) (m := imm) (by rw [hq]; simp)
        (simp [Im.fieldsI, one_plain, one_low, one_sp, one_zero, sp_or, Im.lastB, Im.hasB, Im.condB, dataR, restR, lastR, inB, branchR, fieldsS, bareI, take, sameB, hq, hb.2.2.1, hb.2.2.2, Im.setsB]) <;> ac_rfl
    · by_cases m2 : mode = 2
      · subst m2
        (simp [Im.fieldsI, one_plain, one_low, one_sp, one_zero, sp_or, Im.lastB, Im.hasB, Im.condB, dataR, restR, lastR, inB, branchR, fieldsS, bareI, take, sameB, Im.setsB]) <;> ac_rfl
      · (simp [Im.fieldsI, one_plain, one_low, one_sp, one_zero, sp_or, Im.lastB, Im.hasB, Im.condB, dataR, restR, lastR, inB, branchR, fieldsS, bareI, take, sameB, Im.setsB, m0, m1, m2]) <;> ac_rfl
set_option linter.unusedSimpArgs false in
theorem may_43 (cond rd rn rm imm mode list : Int) (s : Bool) (hw : Wide list) : mayR ⟨43, cond, rd, rn, rm, imm, mode, list, s⟩ = okB ⟨43, cond, rd, rn, rm, imm, mode, list, s⟩ := by
  have hlz : Im.listB (Im.fieldsI 43 mode s) rn list = (list == 0) := list_zero _ _ _ rfl rfl hw
  unfold mayR okB Im.checkB
  dsimp only
  rw [hlz]
  by_cases m0 : mode = 0
  · subst m0
    (simp [Im.fieldsI, one_plain, one_low, one_sp, one_zero, sp_or, Im.lastB, Im.hasB, Im.condB, dataR, restR, lastR, inB, branchR, fieldsS, bareI, take, sameB, Im.setsB]) <;> ac_rfl
  · by_cases m1 : mode = 1
    · subst m1
      (simp [Im.fieldsI, one_plain, one_low, one_sp, one_zero, sp_or, Im.lastB, Im.hasB, Im.condB, dataR, restR, lastR, inB, branchR, fieldsS, bareI, take, sameB, Im.setsB]) <;> ac_rfl
    · by_cases m2 : mode = 2
      · subst m2
        (simp [Im.fieldsI, one_plain, one_low, one_sp, one_zero, sp_or, Im.lastB, Im.hasB, Im.condB, dataR, restR, lastR, inB, branchR, fieldsS, bareI, take, sameB, Im.setsB]) <;> ac_rfl
      · (simp [Im.fieldsI, one_plain, one_low, one_sp, one_zero, sp_or, Im.lastB, Im.hasB, Im.condB, dataR, restR, lastR, inB, branchR, fieldsS, bareI, take, sameB, Im.setsB, m0, m1, m2]) <;> ac_rfl
set_option linter.unusedSimpArgs false in
theorem may_44 (cond rd rn rm imm mode list : Int) (s : Bool) (hw : Wide list) : mayR ⟨44, cond, rd, rn, rm, imm, mode, list, s⟩ = okB ⟨44, cond, rd, rn, rm, imm, mode, list, s⟩ := by
  have hlz : Im.listB (Im.fieldsI 44 mode s) rn list = (list == 0) := list_zero _ _ _ rfl rfl hw
  unfold mayR okB Im.checkB
  dsimp only
  rw [hlz]
  by_cases m0 : mode = 0
  · subst m0
    (simp [Im.fieldsI, one_plain, one_low, one_sp, one_zero, sp_or, Im.lastB, Im.hasB, Im.condB, dataR, restR, lastR, inB, branchR, fieldsS, bareI, take, sameB, Im.setsB]) <;> ac_rfl
  · by_cases m1 : mode = 1
    · subst m1
      (simp [Im.fieldsI, one_plain, one_low, one_sp, one_zero, sp_or, Im.lastB, Im.hasB, Im.condB, dataR, restR, lastR, inB, branchR, fieldsS, bareI, take, sameB, Im.setsB]) <;> ac_rfl
    · by_cases m2 : mode = 2
      · subst m2
        (simp [Im.fieldsI, one_plain, one_low, one_sp, one_zero, sp_or, Im.lastB, Im.hasB, Im.condB, dataR, restR, lastR, inB, branchR, fieldsS, bareI, take, sameB, Im.setsB]) <;> ac_rfl
      · (simp [Im.fieldsI, one_plain, one_low, one_sp, one_zero, sp_or, Im.lastB, Im.hasB, Im.condB, dataR, restR, lastR, inB, branchR, fieldsS, bareI, take, sameB, Im.setsB, m0, m1, m2]) <;> ac_rfl
set_option linter.unusedSimpArgs false in
theorem may_45 (cond rd rn rm imm mode list : Int) (s : Bool) (hw : Wide list) : mayR ⟨45, cond, rd, rn, rm, imm, mode, list, s⟩ = okB ⟨45, cond, rd, rn, rm, imm, mode, list, s⟩ := by
  have hlz : Im.listB (Im.fieldsI 45 mode s) rn list = (list == 0) := list_zero _ _ _ rfl rfl hw
  unfold mayR okB Im.checkB
  dsimp only
  rw [hlz]
  by_cases m0 : mode = 0
  · subst m0
    (simp [Im.fieldsI, one_plain, one_low, one_sp, one_zero, sp_or, Im.lastB, Im.hasB, Im.condB, dataR, restR, lastR, inB, branchR, fieldsS, bareI, take, sameB, Im.setsB]) <;> ac_rfl
  · by_cases m1 : mode = 1
    · subst m1
      (simp [Im.fieldsI, one_plain, one_low, one_sp, one_zero, sp_or, Im.lastB, Im.hasB, Im.condB, dataR, restR, lastR, inB, branchR, fieldsS, bareI, take, sameB, Im.setsB]) <;> ac_rfl
    · by_cases m2 : mode = 2
      · subst m2
        (simp [Im.fieldsI, one_plain, one_low, one_sp, one_zero, sp_or, Im.lastB, Im.hasB, Im.condB, dataR, restR, lastR, inB, branchR, fieldsS, bareI, take, sameB, Im.setsB]) <;> ac_rfl
      · (simp [Im.fieldsI, one_plain, one_low, one_sp, one_zero, sp_or, Im.lastB, Im.hasB, Im.condB, dataR, restR, lastR, inB, branchR, fieldsS, bareI, take, sameB, Im.setsB, m0, m1, m2]) <;> ac_rfl
theorem may_is (i : I) (hw : Wide i.list) : mayR i = okB i := by
  obtain ⟨op, cond, rd, rn, rm, imm, mode, list, s⟩ := i
  by_cases h : 1 ≤ op ∧ op ≤ 45
  · rcases (by omega : op = 1 ∨ op = 2 ∨ op = 3 ∨ op = 4 ∨ op = 5 ∨ op = 6 ∨ op = 7 ∨ op = 8 ∨ op = 9 ∨ op = 10 ∨ op = 11 ∨ op = 12 ∨ op = 13 ∨ op = 14 ∨ op = 15 ∨ op = 16 ∨ op = 17 ∨ op = 18 ∨ op = 19 ∨ op = 20 ∨ op = 21 ∨ op = 22 ∨ op = 23 ∨ op = 24 ∨ op = 25 ∨ op = 26 ∨ op = 27 ∨ op = 28 ∨ op = 29 ∨ op = 30 ∨ op = 31 ∨ op = 32 ∨ op = 33 ∨ op = 34 ∨ op = 35 ∨ op = 36 ∨ op = 37 ∨ op = 38 ∨ op = 39 ∨ op = 40 ∨ op = 41 ∨ op = 42 ∨ op = 43 ∨ op = 44 ∨ op = 45) with rfl | rfl | rfl | rfl | rfl | rfl | rfl | rfl | rfl | rfl | rfl | rfl | rfl | rfl | rfl | rfl | rfl | rfl | rfl | rfl | rfl | rfl | rfl | rfl | rfl | rfl | rfl | rfl | rfl | rfl | rfl | rfl | rfl | rfl | rfl | rfl | rfl | rfl | rfl | rfl | rfl | rfl | rfl | rfl | rfl
    · exact may_1 _ _ _ _ _ _ _ _ hw
    · exact may_2 _ _ _ _ _ _ _ _ hw
    · exact may_3 _ _ _ _ _ _ _ _ hw
    · exact may_4 _ _ _ _ _ _ _ _ hw
    · exact may_5 _ _ _ _ _ _ _ _ hw
    · exact may_6 _ _ _ _ _ _ _ _ hw
    · exact may_7 _ _ _ _ _ _ _ _ hw
    · exact may_8 _ _ _ _ _ _ _ _ hw
    · exact may_9 _ _ _ _ _ _ _ _ hw
    · exact may_10 _ _ _ _ _ _ _ _ hw
    · exact may_11 _ _ _ _ _ _ _ _ hw
    · exact may_12 _ _ _ _ _ _ _ _ hw
    · exact may_13 _ _ _ _ _ _ _ _ hw
    · exact may_14 _ _ _ _ _ _ _ _ hw
    · exact may_15 _ _ _ _ _ _ _ _ hw
    · exact may_16 _ _ _ _ _ _ _ _ hw
    · exact may_17 _ _ _ _ _ _ _ _ hw
    · exact may_18 _ _ _ _ _ _ _ _ hw
    · exact may_19 _ _ _ _ _ _ _ _ hw
    · exact may_20 _ _ _ _ _ _ _ _ hw
    · exact may_21 _ _ _ _ _ _ _ _ hw
    · exact may_22 _ _ _ _ _ _ _ _ hw
    · exact may_23 _ _ _ _ _ _ _ _ hw
    · exact may_24 _ _ _ _ _ _ _ _ hw
    · exact may_25 _ _ _ _ _ _ _ _ hw
    · exact may_26 _ _ _ _ _ _ _ _ hw
    · exact may_27 _ _ _ _ _ _ _ _ hw
    · exact may_28 _ _ _ _ _ _ _ _ hw
    · exact may_29 _ _ _ _ _ _ _ _ hw
    · exact may_30 _ _ _ _ _ _ _ _ hw
    · exact may_31 _ _ _ _ _ _ _ _ hw
    · exact may_32 _ _ _ _ _ _ _ _ hw
    · exact may_33 _ _ _ _ _ _ _ _ hw
    · exact may_34 _ _ _ _ _ _ _ _ hw
    · exact may_35 _ _ _ _ _ _ _ _ hw
    · exact may_36 _ _ _ _ _ _ _ _ hw
    · exact may_37 _ _ _ _ _ _ _ _ hw
    · exact may_38 _ _ _ _ _ _ _ _ hw
    · exact may_39 _ _ _ _ _ _ _ _ hw
    · exact may_40 _ _ _ _ _ _ _ _ hw
    · exact may_41 _ _ _ _ _ _ _ _ hw
    · exact may_42 _ _ _ _ _ _ _ _ hw
    · exact may_43 _ _ _ _ _ _ _ _ hw
    · exact may_44 _ _ _ _ _ _ _ _ hw
    · exact may_45 _ _ _ _ _ _ _ _ hw
  · have h1 : okB ⟨op, cond, rd, rn, rm, imm, mode, list, s⟩ = false := by unfold okB Im.checkB; rw [decide_eq_false h]; simp
    rw [h1]
    unfold mayR
    dsimp only
    by_cases h0 : 1 ≤ op
    · rw [decide_eq_false (by omega : ¬ op ≤ 45)]; simp
    · rw [decide_eq_false h0]; simp
end Rb
end Go.Proofs.YtcphhojdfpedkaaDoor
