/- Contract of the document's own Check. -/
import Derived.Test.YtcphhojdfpedkaaDoorQb
import Derived.Test.YtcphhojdfpedkaaDoorQd
import Derived.Test.YtcphhojdfpedkaaDoorQr
import Derived.Test.YtcphhojdfpedkaaDoorRc
import Derived.Deep.RegionHeld3
namespace Go.Proofs.YtcphhojdfpedkaaDoor
open Go.ChangeShapes Go.WideShapes Go.ChangeAt Go.RowKit
theorem rbare_c (op cond rd rn rm imm mode list : Int) (s : Bool) (w : World) (h : 1 ≤ op ∧ op ≤ 45) :
    Calls Tryd.prog 28 #[.agg #[.int .i64 op, .int .i64 cond, .int .i64 rd, .int .i64 rn, .int .i64 rm, .int .i64 imm, .int .i64 mode, .int .i64 list, .bool s], .string ⟨(Rb.fieldsS op).toArray⟩] w
      fun e w' => e = .returned (IV (Rb.bareI ⟨op, cond, rd, rn, rm, imm, mode, list, s⟩ (Rb.fieldsS op))) ∧ Below w.heap.size w w' := by
  by_cases hm : mode = 2
  · have hm' : (mode == 2) = true := by simp [hm]
    have ht : ∀ x, Rb.take ⟨op, cond, rd, rn, rm, imm, mode, list, s⟩ x 109 = ⟨x.op, x.cond, x.rd, x.rn, rm, x.imm, mode, x.list, x.s⟩ := fun x => by
      unfold Rb.take; rw [if_neg (by decide), if_neg (by decide), if_neg (by decide), if_pos rfl, if_pos hm]
    rcases (by omega : op = 1 ∨ op = 2 ∨ op = 3 ∨ op = 4 ∨ op = 5 ∨ op = 6 ∨ op = 7 ∨ op = 8 ∨ op = 9 ∨ op = 10 ∨ op = 11 ∨ op = 12 ∨ op = 13 ∨ op = 14 ∨ op = 15 ∨ op = 16 ∨ op = 17 ∨ op = 18 ∨ op = 19 ∨ op = 20 ∨ op = 21 ∨ op = 22 ∨ op = 23 ∨ op = 24 ∨ op = 25 ∨ op = 26 ∨ op = 27 ∨ op = 28 ∨ op = 29 ∨ op = 30 ∨ op = 31 ∨ op = 32 ∨ op = 33 ∨ op = 34 ∨ op = 35 ∨ op = 36 ∨ op = 37 ∨ op = 38 ∨ op = 39 ∨ op = 40 ∨ op = 41 ∨ op = 42 ∨ op = 43 ∨ op = 44 ∨ op = 45) with rfl | rfl | rfl | rfl | rfl | rfl | rfl | rfl | rfl | rfl | rfl | rfl | rfl | rfl | rfl | rfl | rfl | rfl | rfl | rfl | rfl | rfl | rfl | rfl | rfl | rfl | rfl | rfl | rfl | rfl | rfl | rfl | rfl | rfl | rfl | rfl | rfl | rfl | rfl | rfl | rfl | rfl | rfl | rfl | rfl
    · have hb : Rb.bareI ⟨1, cond, rd, rn, rm, imm, mode, list, s⟩ (Rb.fieldsS 1) = ⟨1, 0, rd, rn, rm, 0, mode, 0, s⟩ := by
        show List.foldl _ _ [100, 110, 109, 115] = _
        simp only [List.foldl, ht] <;> rfl
      rw [hb]
      exact rbare_dnms_2 1 cond rd rn rm imm mode list s w hm'
    · have hb : Rb.bareI ⟨2, cond, rd, rn, rm, imm, mode, list, s⟩ (Rb.fieldsS 2) = ⟨2, 0, rd, rn, rm, 0, mode, 0, s⟩ := by
        show List.foldl _ _ [100, 110, 109, 115] = _
        simp only [List.foldl, ht] <;> rfl
      rw [hb]
      exact rbare_dnms_2 2 cond rd rn rm imm mode list s w hm'
    · have hb : Rb.bareI ⟨3, cond, rd, rn, rm, imm, mode, list, s⟩ (Rb.fieldsS 3) = ⟨3, 0, rd, rn, rm, 0, mode, 0, s⟩ := by
        show List.foldl _ _ [100, 110, 109, 115] = _
        simp only [List.foldl, ht] <;> rfl
      rw [hb]
      exact rbare_dnms_2 3 cond rd rn rm imm mode list s w hm'
    · have hb : Rb.bareI ⟨4, cond, rd, rn, rm, imm, mode, list, s⟩ (Rb.fieldsS 4) = ⟨4, 0, rd, rn, rm, 0, mode, 0, s⟩ := by
        show List.foldl _ _ [100, 110, 109, 115] = _
        simp only [List.foldl, ht] <;> rfl
      rw [hb]
      exact rbare_dnms_2 4 cond rd rn rm imm mode list s w hm'
    · have hb : Rb.bareI ⟨5, cond, rd, rn, rm, imm, mode, list, s⟩ (Rb.fieldsS 5) = ⟨5, 0, rd, rn, rm, 0, mode, 0, s⟩ := by
        show List.foldl _ _ [100, 110, 109, 115] = _
        simp only [List.foldl, ht] <;> rfl
      rw [hb]
      exact rbare_dnms_2 5 cond rd rn rm imm mode list s w hm'
    · have hb : Rb.bareI ⟨6, cond, rd, rn, rm, imm, mode, list, s⟩ (Rb.fieldsS 6) = ⟨6, 0, rd, rn, rm, 0, mode, 0, s⟩ := by
        show List.foldl _ _ [100, 110, 109, 115] = _
        simp only [List.foldl, ht] <;> rfl
      rw [hb]
      exact rbare_dnms_2 6 cond rd rn rm imm mode list s w hm'
    · have hb : Rb.bareI ⟨7, cond, rd, rn, rm, imm, mode, list, s⟩ (Rb.fieldsS 7) = ⟨7, 0, rd, rn, rm, 0, mode, 0, s⟩ := by
        show List.foldl _ _ [100, 110, 109, 115] = _
        simp only [List.foldl, ht] <;> rfl
      rw [hb]
      exact rbare_dnms_2 7 cond rd rn rm imm mode list s w hm'
    · have hb : Rb.bareI ⟨8, cond, rd, rn, rm, imm, mode, list, s⟩ (Rb.fieldsS 8) = ⟨8, 0, rd, rn, rm, 0, mode, 0, s⟩ := by
        show List.foldl _ _ [100, 110, 109, 115] = _
        simp only [List.foldl, ht] <;> rfl
      rw [hb]
      exact rbare_dnms_2 8 cond rd rn rm imm mode list s w hm'
    · have hb : Rb.bareI ⟨9, cond, rd, rn, rm, imm, mode, list, s⟩ (Rb.fieldsS 9) = ⟨9, 0, rd, rn, rm, 0, mode, 0, s⟩ := by
        show List.foldl _ _ [100, 110, 109, 115] = _
        simp only [List.foldl, ht] <;> rfl
      rw [hb]
      exact rbare_dnms_2 9 cond rd rn rm imm mode list s w hm'
    · have hb : Rb.bareI ⟨10, cond, rd, rn, rm, imm, mode, list, s⟩ (Rb.fieldsS 10) = ⟨10, 0, rd, 0, rm, 0, mode, 0, s⟩ := by
        show List.foldl _ _ [100, 109, 115] = _
        simp only [List.foldl, ht] <;> rfl
      rw [hb]
      exact rbare_dms_2 10 cond rd rn rm imm mode list s w hm'
    · have hb : Rb.bareI ⟨11, cond, rd, rn, rm, imm, mode, list, s⟩ (Rb.fieldsS 11) = ⟨11, 0, rd, 0, rm, 0, mode, 0, s⟩ := by
        show List.foldl _ _ [100, 109, 115] = _
        simp only [List.foldl, ht] <;> rfl
      rw [hb]
      exact rbare_dms_2 11 cond rd rn rm imm mode list s w hm'
    · have hb : Rb.bareI ⟨12, cond, rd, rn, rm, imm, mode, list, s⟩ (Rb.fieldsS 12) = ⟨12, 0, 0, rn, rm, 0, mode, 0, false⟩ := by
        show List.foldl _ _ [110, 109] = _
        simp only [List.foldl, ht] <;> rfl
      rw [hb]
      exact rbare_nm_2 12 cond rd rn rm imm mode list s w hm'
    · have hb : Rb.bareI ⟨13, cond, rd, rn, rm, imm, mode, list, s⟩ (Rb.fieldsS 13) = ⟨13, 0, 0, rn, rm, 0, mode, 0, false⟩ := by
        show List.foldl _ _ [110, 109] = _
        simp only [List.foldl, ht] <;> rfl
      rw [hb]
      exact rbare_nm_2 13 cond rd rn rm imm mode list s w hm'
    · have hb : Rb.bareI ⟨14, cond, rd, rn, rm, imm, mode, list, s⟩ (Rb.fieldsS 14) = ⟨14, 0, 0, rn, rm, 0, mode, 0, false⟩ := by
        show List.foldl _ _ [110, 109] = _
        simp only [List.foldl, ht] <;> rfl
      rw [hb]
      exact rbare_nm_2 14 cond rd rn rm imm mode list s w hm'
    · have hb : Rb.bareI ⟨15, cond, rd, rn, rm, imm, mode, list, s⟩ (Rb.fieldsS 15) = ⟨15, 0, 0, rn, rm, 0, mode, 0, false⟩ := by
        show List.foldl _ _ [110, 109] = _
        simp only [List.foldl, ht] <;> rfl
      rw [hb]
      exact rbare_nm_2 15 cond rd rn rm imm mode list s w hm'
    · have hb : Rb.bareI ⟨16, cond, rd, rn, rm, imm, mode, list, s⟩ (Rb.fieldsS 16) = ⟨16, 0, rd, rn, rm, 0, mode, 0, s⟩ := by
        show List.foldl _ _ [100, 110, 109, 115] = _
        simp only [List.foldl, ht] <;> rfl
      rw [hb]
      exact rbare_dnms_2 16 cond rd rn rm imm mode list s w hm'
    · have hb : Rb.bareI ⟨17, cond, rd, rn, rm, imm, mode, list, s⟩ (Rb.fieldsS 17) = ⟨17, 0, rd, rn, rm, 0, mode, 0, s⟩ := by
        show List.foldl _ _ [100, 110, 109, 115] = _
        simp only [List.foldl, ht] <;> rfl
      rw [hb]
      exact rbare_dnms_2 17 cond rd rn rm imm mode list s w hm'
    · have hb : Rb.bareI ⟨18, cond, rd, rn, rm, imm, mode, list, s⟩ (Rb.fieldsS 18) = ⟨18, 0, rd, rn, rm, 0, mode, 0, s⟩ := by
        show List.foldl _ _ [100, 110, 109, 115] = _
        simp only [List.foldl, ht] <;> rfl
      rw [hb]
      exact rbare_dnms_2 18 cond rd rn rm imm mode list s w hm'
    · have hb : Rb.bareI ⟨19, cond, rd, rn, rm, imm, mode, list, s⟩ (Rb.fieldsS 19) = ⟨19, 0, rd, rn, rm, 0, mode, 0, s⟩ := by
        show List.foldl _ _ [100, 110, 109, 115] = _
        simp only [List.foldl, ht] <;> rfl
      rw [hb]
      exact rbare_dnms_2 19 cond rd rn rm imm mode list s w hm'
    · have hb : Rb.bareI ⟨20, cond, rd, rn, rm, imm, mode, list, s⟩ (Rb.fieldsS 20) = ⟨20, 0, rd, rn, rm, 0, mode, 0, false⟩ := by
        show List.foldl _ _ [100, 110, 109] = _
        simp only [List.foldl, ht] <;> rfl
      rw [hb]
      exact rbare_dnm_2 20 cond rd rn rm imm mode list s w hm'
    · have hb : Rb.bareI ⟨21, cond, rd, rn, rm, imm, mode, list, s⟩ (Rb.fieldsS 21) = ⟨21, 0, rd, rn, rm, 0, mode, 0, false⟩ := by
        show List.foldl _ _ [100, 110, 109] = _
        simp only [List.foldl, ht] <;> rfl
      rw [hb]
      exact rbare_dnm_2 21 cond rd rn rm imm mode list s w hm'
    · have hb : Rb.bareI ⟨22, cond, rd, rn, rm, imm, mode, list, s⟩ (Rb.fieldsS 22) = ⟨22, 0, rd, rn, rm, 0, mode, 0, false⟩ := by
        show List.foldl _ _ [100, 110, 109] = _
        simp only [List.foldl, ht] <;> rfl
      rw [hb]
      exact rbare_dnm_2 22 cond rd rn rm imm mode list s w hm'
    · have hb : Rb.bareI ⟨23, cond, rd, rn, rm, imm, mode, list, s⟩ (Rb.fieldsS 23) = ⟨23, 0, rd, 0, rm, 0, mode, 0, false⟩ := by
        show List.foldl _ _ [100, 109] = _
        simp only [List.foldl, ht] <;> rfl
      rw [hb]
      exact rbare_dm_2 23 cond rd rn rm imm mode list s w hm'
    · have hb : Rb.bareI ⟨24, cond, rd, rn, rm, imm, mode, list, s⟩ (Rb.fieldsS 24) = ⟨24, 0, rd, 0, rm, 0, mode, 0, false⟩ := by
        show List.foldl _ _ [100, 109] = _
        simp only [List.foldl, ht] <;> rfl
      rw [hb]
      exact rbare_dm_2 24 cond rd rn rm imm mode list s w hm'
    · have hb : Rb.bareI ⟨25, cond, rd, rn, rm, imm, mode, list, s⟩ (Rb.fieldsS 25) = ⟨25, 0, rd, rn, rm, 0, mode, 0, false⟩ := by
        show List.foldl _ _ [100, 110, 109] = _
        simp only [List.foldl, ht] <;> rfl
      rw [hb]
      exact rbare_dnm_2 25 cond rd rn rm imm mode list s w hm'
    · have hb : Rb.bareI ⟨26, cond, rd, rn, rm, imm, mode, list, s⟩ (Rb.fieldsS 26) = ⟨26, 0, rd, rn, rm, 0, mode, 0, false⟩ := by
        show List.foldl _ _ [100, 110, 109] = _
        simp only [List.foldl, ht] <;> rfl
      rw [hb]
      exact rbare_dnm_2 26 cond rd rn rm imm mode list s w hm'
    · have hb : Rb.bareI ⟨27, cond, rd, rn, rm, imm, mode, list, s⟩ (Rb.fieldsS 27) = ⟨27, 0, rd, rn, rm, 0, mode, 0, false⟩ := by
        show List.foldl _ _ [100, 110, 109] = _
        simp only [List.foldl, ht] <;> rfl
      rw [hb]
      exact rbare_dnm_2 27 cond rd rn rm imm mode list s w hm'
    · have hb : Rb.bareI ⟨28, cond, rd, rn, rm, imm, mode, list, s⟩ (Rb.fieldsS 28) = ⟨28, 0, rd, rn, rm, 0, mode, 0, false⟩ := by
        show List.foldl _ _ [100, 110, 109] = _
        simp only [List.foldl, ht] <;> rfl
      rw [hb]
      exact rbare_dnm_2 28 cond rd rn rm imm mode list s w hm'
    · have hb : Rb.bareI ⟨29, cond, rd, rn, rm, imm, mode, list, s⟩ (Rb.fieldsS 29) = ⟨29, 0, rd, rn, rm, 0, mode, 0, false⟩ := by
        show List.foldl _ _ [100, 110, 109] = _
        simp only [List.foldl, ht] <;> rfl
      rw [hb]
      exact rbare_dnm_2 29 cond rd rn rm imm mode list s w hm'
    · have hb : Rb.bareI ⟨30, cond, rd, rn, rm, imm, mode, list, s⟩ (Rb.fieldsS 30) = ⟨30, 0, rd, rn, rm, 0, mode, 0, false⟩ := by
        show List.foldl _ _ [100, 110, 109] = _
        simp only [List.foldl, ht] <;> rfl
      rw [hb]
      exact rbare_dnm_2 30 cond rd rn rm imm mode list s w hm'
    · exact rbare_nl_1 31 cond rd rn rm imm mode list s w
    · exact rbare_nl_1 32 cond rd rn rm imm mode list s w
    · exact rbare_l_1 33 cond rd rn rm imm mode list s w
    · exact rbare_l_1 34 cond rd rn rm imm mode list s w
    · have hb : Rb.bareI ⟨35, cond, rd, rn, rm, imm, mode, list, s⟩ (Rb.fieldsS 35) = ⟨35, cond, 0, 0, rm, 0, mode, 0, false⟩ := by
        show List.foldl _ _ [99, 109] = _
        simp only [List.foldl, ht] <;> rfl
      rw [hb]
      exact rbare_cm_2 35 cond rd rn rm imm mode list s w hm'
    · have hb : Rb.bareI ⟨36, cond, rd, rn, rm, imm, mode, list, s⟩ (Rb.fieldsS 36) = ⟨36, 0, 0, 0, rm, 0, mode, 0, false⟩ := by
        show List.foldl _ _ [109] = _
        simp only [List.foldl, ht] <;> rfl
      rw [hb]
      exact rbare_m_2 36 cond rd rn rm imm mode list s w hm'
    · have hb : Rb.bareI ⟨37, cond, rd, rn, rm, imm, mode, list, s⟩ (Rb.fieldsS 37) = ⟨37, 0, 0, rn, rm, 0, mode, 0, false⟩ := by
        show List.foldl _ _ [110, 109] = _
        simp only [List.foldl, ht] <;> rfl
      rw [hb]
      exact rbare_nm_2 37 cond rd rn rm imm mode list s w hm'
    · have hb : Rb.bareI ⟨38, cond, rd, rn, rm, imm, mode, list, s⟩ (Rb.fieldsS 38) = ⟨38, 0, 0, rn, rm, 0, mode, 0, false⟩ := by
        show List.foldl _ _ [110, 109] = _
        simp only [List.foldl, ht] <;> rfl
      rw [hb]
      exact rbare_nm_2 38 cond rd rn rm imm mode list s w hm'
    · have hb : Rb.bareI ⟨39, cond, rd, rn, rm, imm, mode, list, s⟩ (Rb.fieldsS 39) = ⟨39, 0, 0, 0, rm, 0, mode, 0, false⟩ := by
        show List.foldl _ _ [109] = _
        simp only [List.foldl, ht] <;> rfl
      rw [hb]
      exact rbare_m_2 39 cond rd rn rm imm mode list s w hm'
    · have hb : Rb.bareI ⟨40, cond, rd, rn, rm, imm, mode, list, s⟩ (Rb.fieldsS 40) = ⟨40, 0, rd, 0, rm, 0, mode, 0, false⟩ := by
        show List.foldl _ _ [100, 109] = _
        simp only [List.foldl, ht] <;> rfl
      rw [hb]
      exact rbare_dm_2 40 cond rd rn rm imm mode list s w hm'
    · have hb : Rb.bareI ⟨41, cond, rd, rn, rm, imm, mode, list, s⟩ (Rb.fieldsS 41) = ⟨41, 0, rd, 0, rm, 0, mode, 0, false⟩ := by
        show List.foldl _ _ [100, 109] = _
        simp only [List.foldl, ht] <;> rfl
      rw [hb]
      exact rbare_dm_2 41 cond rd rn rm imm mode list s w hm'
    · have hb : Rb.bareI ⟨42, cond, rd, rn, rm, imm, mode, list, s⟩ (Rb.fieldsS 42) = ⟨42, cond, 0, 0, rm, 0, mode, 0, false⟩ := by
        show List.foldl _ _ [99, 109] = _
        simp only [List.foldl, ht] <;> rfl
      rw [hb]
      exact rbare_cm_2 42 cond rd rn rm imm mode list s w hm'
    · exact rbare_none_1 43 cond rd rn rm imm mode list s w
    · have hb : Rb.bareI ⟨44, cond, rd, rn, rm, imm, mode, list, s⟩ (Rb.fieldsS 44) = ⟨44, 0, 0, 0, rm, 0, mode, 0, false⟩ := by
        show List.foldl _ _ [109] = _
        simp only [List.foldl, ht] <;> rfl
      rw [hb]
      exact rbare_m_2 44 cond rd rn rm imm mode list s w hm'
    · have hb : Rb.bareI ⟨45, cond, rd, rn, rm, imm, mode, list, s⟩ (Rb.fieldsS 45) = ⟨45, 0, 0, rn, rm, 0, mode, 0, false⟩ := by
        show List.foldl _ _ [110, 109] = _
        simp only [List.foldl, ht] <;> rfl
      rw [hb]
      exact rbare_nm_2 45 cond rd rn rm imm mode list s w hm'
  · have hm' : (mode == 2) = false := by simp [hm]
    have ht : ∀ x, Rb.take ⟨op, cond, rd, rn, rm, imm, mode, list, s⟩ x 109 = ⟨x.op, x.cond, x.rd, x.rn, x.rm, imm, mode, x.list, x.s⟩ := fun x => by
      unfold Rb.take; rw [if_neg (by decide), if_neg (by decide), if_neg (by decide), if_pos rfl, if_neg hm]
    rcases (by omega : op = 1 ∨ op = 2 ∨ op = 3 ∨ op = 4 ∨ op = 5 ∨ op = 6 ∨ op = 7 ∨ op = 8 ∨ op = 9 ∨ op = 10 ∨ op = 11 ∨ op = 12 ∨ op = 13 ∨ op = 14 ∨ op = 15 ∨ op = 16 ∨ op = 17 ∨ op = 18 ∨ op = 19 ∨ op = 20 ∨ op = 21 ∨ op = 22 ∨ op = 23 ∨ op = 24 ∨ op = 25 ∨ op = 26 ∨ op = 27 ∨ op = 28 ∨ op = 29 ∨ op = 30 ∨ op = 31 ∨ op = 32 ∨ op = 33 ∨ op = 34 ∨ op = 35 ∨ op = 36 ∨ op = 37 ∨ op = 38 ∨ op = 39 ∨ op = 40 ∨ op = 41 ∨ op = 42 ∨ op = 43 ∨ op = 44 ∨ op = 45) with rfl | rfl | rfl | rfl | rfl | rfl | rfl | rfl | rfl | rfl | rfl | rfl | rfl | rfl | rfl | rfl | rfl | rfl | rfl | rfl | rfl | rfl | rfl | rfl | rfl | rfl | rfl | rfl | rfl | rfl | rfl | rfl | rfl | rfl | rfl | rfl | rfl | rfl | rfl | rfl | rfl | rfl | rfl | rfl | rfl
    · have hb : Rb.bareI ⟨1, cond, rd, rn, rm, imm, mode, list, s⟩ (Rb.fieldsS 1) = ⟨1, 0, rd, rn, 0, imm, mode, 0, s⟩ := by
        show List.foldl _ _ [100, 110, 109, 115] = _
        simp only [List.foldl, ht] <;> rfl
      rw [hb]
      exact rbare_dnms_0 1 cond rd rn rm imm mode list s w hm'
    · have hb : Rb.bareI ⟨2, cond, rd, rn, rm, imm, mode, list, s⟩ (Rb.fieldsS 2) = ⟨2, 0, rd, rn, 0, imm, mode, 0, s⟩ := by
        show List.foldl _ _ [100, 110, 109, 115] = _
        simp only [List.foldl, ht] <;> rfl
      rw [hb]
      exact rbare_dnms_0 2 cond rd rn rm imm mode list s w hm'
    · have hb : Rb.bareI ⟨3, cond, rd, rn, rm, imm, mode, list, s⟩ (Rb.fieldsS 3) = ⟨3, 0, rd, rn, 0, imm, mode, 0, s⟩ := by
        show List.foldl _ _ [100, 110, 109, 115] = _
        simp only [List.foldl, ht] <;> rfl
      rw [hb]
      exact rbare_dnms_0 3 cond rd rn rm imm mode list s w hm'
    · have hb : Rb.bareI ⟨4, cond, rd, rn, rm, imm, mode, list, s⟩ (Rb.fieldsS 4) = ⟨4, 0, rd, rn, 0, imm, mode, 0, s⟩ := by
        show List.foldl _ _ [100, 110, 109, 115] = _
        simp only [List.foldl, ht] <;> rfl
      rw [hb]
      exact rbare_dnms_0 4 cond rd rn rm imm mode list s w hm'
    · have hb : Rb.bareI ⟨5, cond, rd, rn, rm, imm, mode, list, s⟩ (Rb.fieldsS 5) = ⟨5, 0, rd, rn, 0, imm, mode, 0, s⟩ := by
        show List.foldl _ _ [100, 110, 109, 115] = _
        simp only [List.foldl, ht] <;> rfl
      rw [hb]
      exact rbare_dnms_0 5 cond rd rn rm imm mode list s w hm'
    · have hb : Rb.bareI ⟨6, cond, rd, rn, rm, imm, mode, list, s⟩ (Rb.fieldsS 6) = ⟨6, 0, rd, rn, 0, imm, mode, 0, s⟩ := by
        show List.foldl _ _ [100, 110, 109, 115] = _
        simp only [List.foldl, ht] <;> rfl
      rw [hb]
      exact rbare_dnms_0 6 cond rd rn rm imm mode list s w hm'
    · have hb : Rb.bareI ⟨7, cond, rd, rn, rm, imm, mode, list, s⟩ (Rb.fieldsS 7) = ⟨7, 0, rd, rn, 0, imm, mode, 0, s⟩ := by
        show List.foldl _ _ [100, 110, 109, 115] = _
        simp only [List.foldl, ht] <;> rfl
      rw [hb]
      exact rbare_dnms_0 7 cond rd rn rm imm mode list s w hm'
    · have hb : Rb.bareI ⟨8, cond, rd, rn, rm, imm, mode, list, s⟩ (Rb.fieldsS 8) = ⟨8, 0, rd, rn, 0, imm, mode, 0, s⟩ := by
        show List.foldl _ _ [100, 110, 109, 115] = _
        simp only [List.foldl, ht] <;> rfl
      rw [hb]
      exact rbare_dnms_0 8 cond rd rn rm imm mode list s w hm'
    · have hb : Rb.bareI ⟨9, cond, rd, rn, rm, imm, mode, list, s⟩ (Rb.fieldsS 9) = ⟨9, 0, rd, rn, 0, imm, mode, 0, s⟩ := by
        show List.foldl _ _ [100, 110, 109, 115] = _
        simp only [List.foldl, ht] <;> rfl
      rw [hb]
      exact rbare_dnms_0 9 cond rd rn rm imm mode list s w hm'
    · have hb : Rb.bareI ⟨10, cond, rd, rn, rm, imm, mode, list, s⟩ (Rb.fieldsS 10) = ⟨10, 0, rd, 0, 0, imm, mode, 0, s⟩ := by
        show List.foldl _ _ [100, 109, 115] = _
        simp only [List.foldl, ht] <;> rfl
      rw [hb]
      exact rbare_dms_0 10 cond rd rn rm imm mode list s w hm'
    · have hb : Rb.bareI ⟨11, cond, rd, rn, rm, imm, mode, list, s⟩ (Rb.fieldsS 11) = ⟨11, 0, rd, 0, 0, imm, mode, 0, s⟩ := by
        show List.foldl _ _ [100, 109, 115] = _
        simp only [List.foldl, ht] <;> rfl
      rw [hb]
      exact rbare_dms_0 11 cond rd rn rm imm mode list s w hm'
    · have hb : Rb.bareI ⟨12, cond, rd, rn, rm, imm, mode, list, s⟩ (Rb.fieldsS 12) = ⟨12, 0, 0, rn, 0, imm, mode, 0, false⟩ := by
        show List.foldl _ _ [110, 109] = _
        simp only [List.foldl, ht] <;> rfl
      rw [hb]
      exact rbare_nm_0 12 cond rd rn rm imm mode list s w hm'
    · have hb : Rb.bareI ⟨13, cond, rd, rn, rm, imm, mode, list, s⟩ (Rb.fieldsS 13) = ⟨13, 0, 0, rn, 0, imm, mode, 0, false⟩ := by
        show List.foldl _ _ [110, 109] = _
        simp only [List.foldl, ht] <;> rfl
      rw [hb]
      exact rbare_nm_0 13 cond rd rn rm imm mode list s w hm'
    · have hb : Rb.bareI ⟨14, cond, rd, rn, rm, imm, mode, list, s⟩ (Rb.fieldsS 14) = ⟨14, 0, 0, rn, 0, imm, mode, 0, false⟩ := by
        show List.foldl _ _ [110, 109] = _
        simp only [List.foldl, ht] <;> rfl
      rw [hb]
      exact rbare_nm_0 14 cond rd rn rm imm mode list s w hm'
    · have hb : Rb.bareI ⟨15, cond, rd, rn, rm, imm, mode, list, s⟩ (Rb.fieldsS 15) = ⟨15, 0, 0, rn, 0, imm, mode, 0, false⟩ := by
        show List.foldl _ _ [110, 109] = _
        simp only [List.foldl, ht] <;> rfl
      rw [hb]
      exact rbare_nm_0 15 cond rd rn rm imm mode list s w hm'
    · have hb : Rb.bareI ⟨16, cond, rd, rn, rm, imm, mode, list, s⟩ (Rb.fieldsS 16) = ⟨16, 0, rd, rn, 0, imm, mode, 0, s⟩ := by
        show List.foldl _ _ [100, 110, 109, 115] = _
        simp only [List.foldl, ht] <;> rfl
      rw [hb]
      exact rbare_dnms_0 16 cond rd rn rm imm mode list s w hm'
    · have hb : Rb.bareI ⟨17, cond, rd, rn, rm, imm, mode, list, s⟩ (Rb.fieldsS 17) = ⟨17, 0, rd, rn, 0, imm, mode, 0, s⟩ := by
        show List.foldl _ _ [100, 110, 109, 115] = _
        simp only [List.foldl, ht] <;> rfl
      rw [hb]
      exact rbare_dnms_0 17 cond rd rn rm imm mode list s w hm'
    · have hb : Rb.bareI ⟨18, cond, rd, rn, rm, imm, mode, list, s⟩ (Rb.fieldsS 18) = ⟨18, 0, rd, rn, 0, imm, mode, 0, s⟩ := by
        show List.foldl _ _ [100, 110, 109, 115] = _
        simp only [List.foldl, ht] <;> rfl
      rw [hb]
      exact rbare_dnms_0 18 cond rd rn rm imm mode list s w hm'
    · have hb : Rb.bareI ⟨19, cond, rd, rn, rm, imm, mode, list, s⟩ (Rb.fieldsS 19) = ⟨19, 0, rd, rn, 0, imm, mode, 0, s⟩ := by
        show List.foldl _ _ [100, 110, 109, 115] = _
        simp only [List.foldl, ht] <;> rfl
      rw [hb]
      exact rbare_dnms_0 19 cond rd rn rm imm mode list s w hm'
    · have hb : Rb.bareI ⟨20, cond, rd, rn, rm, imm, mode, list, s⟩ (Rb.fieldsS 20) = ⟨20, 0, rd, rn, 0, imm, mode, 0, false⟩ := by
        show List.foldl _ _ [100, 110, 109] = _
        simp only [List.foldl, ht] <;> rfl
      rw [hb]
      exact rbare_dnm_0 20 cond rd rn rm imm mode list s w hm'
    · have hb : Rb.bareI ⟨21, cond, rd, rn, rm, imm, mode, list, s⟩ (Rb.fieldsS 21) = ⟨21, 0, rd, rn, 0, imm, mode, 0, false⟩ := by
        show List.foldl _ _ [100, 110, 109] = _
        simp only [List.foldl, ht] <;> rfl
      rw [hb]
      exact rbare_dnm_0 21 cond rd rn rm imm mode list s w hm'
    · have hb : Rb.bareI ⟨22, cond, rd, rn, rm, imm, mode, list, s⟩ (Rb.fieldsS 22) = ⟨22, 0, rd, rn, 0, imm, mode, 0, false⟩ := by
        show List.foldl _ _ [100, 110, 109] = _
        simp only [List.foldl, ht] <;> rfl
      rw [hb]
      exact rbare_dnm_0 22 cond rd rn rm imm mode list s w hm'
    · have hb : Rb.bareI ⟨23, cond, rd, rn, rm, imm, mode, list, s⟩ (Rb.fieldsS 23) = ⟨23, 0, rd, 0, 0, imm, mode, 0, false⟩ := by
        show List.foldl _ _ [100, 109] = _
        simp only [List.foldl, ht] <;> rfl
      rw [hb]
      exact rbare_dm_0 23 cond rd rn rm imm mode list s w hm'
    · have hb : Rb.bareI ⟨24, cond, rd, rn, rm, imm, mode, list, s⟩ (Rb.fieldsS 24) = ⟨24, 0, rd, 0, 0, imm, mode, 0, false⟩ := by
        show List.foldl _ _ [100, 109] = _
        simp only [List.foldl, ht] <;> rfl
      rw [hb]
      exact rbare_dm_0 24 cond rd rn rm imm mode list s w hm'
    · have hb : Rb.bareI ⟨25, cond, rd, rn, rm, imm, mode, list, s⟩ (Rb.fieldsS 25) = ⟨25, 0, rd, rn, 0, imm, mode, 0, false⟩ := by
        show List.foldl _ _ [100, 110, 109] = _
        simp only [List.foldl, ht] <;> rfl
      rw [hb]
      exact rbare_dnm_0 25 cond rd rn rm imm mode list s w hm'
    · have hb : Rb.bareI ⟨26, cond, rd, rn, rm, imm, mode, list, s⟩ (Rb.fieldsS 26) = ⟨26, 0, rd, rn, 0, imm, mode, 0, false⟩ := by
        show List.foldl _ _ [100, 110, 109] = _
        simp only [List.foldl, ht] <;> rfl
      rw [hb]
      exact rbare_dnm_0 26 cond rd rn rm imm mode list s w hm'
    · have hb : Rb.bareI ⟨27, cond, rd, rn, rm, imm, mode, list, s⟩ (Rb.fieldsS 27) = ⟨27, 0, rd, rn, 0, imm, mode, 0, false⟩ := by
        show List.foldl _ _ [100, 110, 109] = _
        simp only [List.foldl, ht] <;> rfl
      rw [hb]
      exact rbare_dnm_0 27 cond rd rn rm imm mode list s w hm'
    · have hb : Rb.bareI ⟨28, cond, rd, rn, rm, imm, mode, list, s⟩ (Rb.fieldsS 28) = ⟨28, 0, rd, rn, 0, imm, mode, 0, false⟩ := by
        show List.foldl _ _ [100, 110, 109] = _
        simp only [List.foldl, ht] <;> rfl
      rw [hb]
      exact rbare_dnm_0 28 cond rd rn rm imm mode list s w hm'
    · have hb : Rb.bareI ⟨29, cond, rd, rn, rm, imm, mode, list, s⟩ (Rb.fieldsS 29) = ⟨29, 0, rd, rn, 0, imm, mode, 0, false⟩ := by
        show List.foldl _ _ [100, 110, 109] = _
        simp only [List.foldl, ht] <;> rfl
      rw [hb]
      exact rbare_dnm_0 29 cond rd rn rm imm mode list s w hm'
    · have hb : Rb.bareI ⟨30, cond, rd, rn, rm, imm, mode, list, s⟩ (Rb.fieldsS 30) = ⟨30, 0, rd, rn, 0, imm, mode, 0, false⟩ := by
        show List.foldl _ _ [100, 110, 109] = _
        simp only [List.foldl, ht] <;> rfl
      rw [hb]
      exact rbare_dnm_0 30 cond rd rn rm imm mode list s w hm'
    · exact rbare_nl_1 31 cond rd rn rm imm mode list s w
    · exact rbare_nl_1 32 cond rd rn rm imm mode list s w
    · exact rbare_l_1 33 cond rd rn rm imm mode list s w
    · exact rbare_l_1 34 cond rd rn rm imm mode list s w
    · have hb : Rb.bareI ⟨35, cond, rd, rn, rm, imm, mode, list, s⟩ (Rb.fieldsS 35) = ⟨35, cond, 0, 0, 0, imm, mode, 0, false⟩ := by
        show List.foldl _ _ [99, 109] = _
        simp only [List.foldl, ht] <;> rfl
      rw [hb]
      exact rbare_cm_0 35 cond rd rn rm imm mode list s w hm'
    · have hb : Rb.bareI ⟨36, cond, rd, rn, rm, imm, mode, list, s⟩ (Rb.fieldsS 36) = ⟨36, 0, 0, 0, 0, imm, mode, 0, false⟩ := by
        show List.foldl _ _ [109] = _
        simp only [List.foldl, ht] <;> rfl
      rw [hb]
      exact rbare_m_0 36 cond rd rn rm imm mode list s w hm'
    · have hb : Rb.bareI ⟨37, cond, rd, rn, rm, imm, mode, list, s⟩ (Rb.fieldsS 37) = ⟨37, 0, 0, rn, 0, imm, mode, 0, false⟩ := by
        show List.foldl _ _ [110, 109] = _
        simp only [List.foldl, ht] <;> rfl
      rw [hb]
      exact rbare_nm_0 37 cond rd rn rm imm mode list s w hm'
    · have hb : Rb.bareI ⟨38, cond, rd, rn, rm, imm, mode, list, s⟩ (Rb.fieldsS 38) = ⟨38, 0, 0, rn, 0, imm, mode, 0, false⟩ := by
        show List.foldl _ _ [110, 109] = _
        simp only [List.foldl, ht] <;> rfl
      rw [hb]
      exact rbare_nm_0 38 cond rd rn rm imm mode list s w hm'
    · have hb : Rb.bareI ⟨39, cond, rd, rn, rm, imm, mode, list, s⟩ (Rb.fieldsS 39) = ⟨39, 0, 0, 0, 0, imm, mode, 0, false⟩ := by
        show List.foldl _ _ [109] = _
        simp only [List.foldl, ht] <;> rfl
      rw [hb]
      exact rbare_m_0 39 cond rd rn rm imm mode list s w hm'
    · have hb : Rb.bareI ⟨40, cond, rd, rn, rm, imm, mode, list, s⟩ (Rb.fieldsS 40) = ⟨40, 0, rd, 0, 0, imm, mode, 0, false⟩ := by
        show List.foldl _ _ [100, 109] = _
        simp only [List.foldl, ht] <;> rfl
      rw [hb]
      exact rbare_dm_0 40 cond rd rn rm imm mode list s w hm'
    · have hb : Rb.bareI ⟨41, cond, rd, rn, rm, imm, mode, list, s⟩ (Rb.fieldsS 41) = ⟨41, 0, rd, 0, 0, imm, mode, 0, false⟩ := by
        show List.foldl _ _ [100, 109] = _
        simp only [List.foldl, ht] <;> rfl
      rw [hb]
      exact rbare_dm_0 41 cond rd rn rm imm mode list s w hm'
    · have hb : Rb.bareI ⟨42, cond, rd, rn, rm, imm, mode, list, s⟩ (Rb.fieldsS 42) = ⟨42, cond, 0, 0, 0, imm, mode, 0, false⟩ := by
        show List.foldl _ _ [99, 109] = _
        simp only [List.foldl, ht] <;> rfl
      rw [hb]
      exact rbare_cm_0 42 cond rd rn rm imm mode list s w hm'
    · exact rbare_none_1 43 cond rd rn rm imm mode list s w
    · have hb : Rb.bareI ⟨44, cond, rd, rn, rm, imm, mode, list, s⟩ (Rb.fieldsS 44) = ⟨44, 0, 0, 0, 0, imm, mode, 0, false⟩ := by
        show List.foldl _ _ [109] = _
        simp only [List.foldl, ht] <;> rfl
      rw [hb]
      exact rbare_m_0 44 cond rd rn rm imm mode list s w hm'
    · have hb : Rb.bareI ⟨45, cond, rd, rn, rm, imm, mode, list, s⟩ (Rb.fieldsS 45) = ⟨45, 0, 0, rn, 0, imm, mode, 0, false⟩ := by
        show List.foldl _ _ [110, 109] = _
        simp only [List.foldl, ht] <;> rfl
      rw [hb]
      exact rbare_nm_0 45 cond rd rn rm imm mode list s w hm'
structure Box (w : World) (op cond rd rn rm imm mode list : Int) (s : Bool) (W : World) : Prop where
  bel : Below w.heap.size w W
  c : ∀ j, W.cell? ⟨w.heap.size, j, none⟩ = (#[.int .i64 op, .int .i64 cond, .int .i64 rd, .int .i64 rn, .int .i64 rm, .int .i64 imm, .int .i64 mode, .int .i64 list, .bool s] : Array Value)[j]?
  lt : w.heap.size < W.heap.size
theorem Box.step {w W W' : World} {op cond rd rn rm imm mode list : Int} {s : Bool} (h : Box w op cond rd rn rm imm mode list s W) (hb : Below W.heap.size W W') : Box w op cond rd rn rm imm mode list s W' :=
  ⟨h.bel.trans (hb.mono h.bel.size), fun j => (hb.cell (p := ⟨w.heap.size, j, none⟩) h.lt).trans (h.c j), Nat.lt_of_lt_of_le h.lt hb.size⟩
theorem Box.start (w : World) (op cond rd rn rm imm mode list : Int) (s : Bool) (t : TypeId) : Box w op cond rd rn rm imm mode list s (w.alloc (.cells #[.int .i64 op, .int .i64 cond, .int .i64 rd, .int .i64 rn, .int .i64 rm, .int .i64 imm, .int .i64 mode, .int .i64 list, .bool s] t)) :=
  ⟨one_b _ _, fun j => World.cell?_alloc_new w _ t j, by simp⟩
theorem Box.drewn {w W : World} {op cond rd rn rm imm mode list : Int} {s : Bool} (h : Box w op cond rd rn rm imm mode list s W) (m : Nat) : Box w op cond rd rn rm imm mode list s (W.drewN m) := h.step (below_drewN (Below.refl _ _) _)
theorem Box.drew {w W : World} {op cond rd rn rm imm mode list : Int} {s : Bool} (h : Box w op cond rd rn rm imm mode list s W) : Box w op cond rd rn rm imm mode list s W.drew := h.drewn 1
def HeldQ (w : World) (op cond rd rn rm imm mode list : Int) (s : Bool) (W : World) : Prop := W.cell? ⟨w.heap.size, 0, none⟩ = some (.int .i64 op) ∧ W.cell? ⟨w.heap.size, 1, none⟩ = some (.int .i64 cond) ∧ W.cell? ⟨w.heap.size, 2, none⟩ = some (.int .i64 rd) ∧ W.cell? ⟨w.heap.size, 3, none⟩ = some (.int .i64 rn) ∧ W.cell? ⟨w.heap.size, 4, none⟩ = some (.int .i64 rm) ∧ W.cell? ⟨w.heap.size, 5, none⟩ = some (.int .i64 imm) ∧ W.cell? ⟨w.heap.size, 6, none⟩ = some (.int .i64 mode) ∧ W.cell? ⟨w.heap.size, 7, none⟩ = some (.int .i64 list) ∧ W.cell? ⟨w.heap.size, 8, none⟩ = some (.bool s) ∧ Box w op cond rd rn rm imm mode list s W
theorem Box.held {w W : World} {op cond rd rn rm imm mode list : Int} {s : Bool} (h : Box w op cond rd rn rm imm mode list s W) : HeldQ w op cond rd rn rm imm mode list s W := ⟨h.c 0, h.c 1, h.c 2, h.c 3, h.c 4, h.c 5, h.c 6, h.c 7, h.c 8, h⟩
set_option maxHeartbeats 4000000 in
theorem rcheck_diff0 (op cond rd rn rm imm mode list : Int) (s : Bool) (x0 : Int) (x1 : Int) (x2 : Int) (x3 : Int) (x4 : Int) (x5 : Int) (x6 : Int) (x7 : Int) (x8 : Bool) (w : World) (h1 : 1 ≤ op) (h2 : op ≤ 45) (p : ByteArray) (hF : ∀ W, Calls Tryd.prog 29 #[.int .i64 op] W fun e w' => e = .returned (.string p) ∧ ∃ n, w' = W.drewN n) (hG : ∀ W, Calls Tryd.prog 28 #[.agg #[.int .i64 op, .int .i64 cond, .int .i64 rd, .int .i64 rn, .int .i64 rm, .int .i64 imm, .int .i64 mode, .int .i64 list, .bool s], .string p] W fun e w' => e = .returned (.agg #[.int .i64 x0, .int .i64 x1, .int .i64 x2, .int .i64 x3, .int .i64 x4, .int .i64 x5, .int .i64 x6, .int .i64 x7, .bool x8]) ∧ Below W.heap.size W w') (hne : ¬ op = x0) :
    Calls Tryd.prog 14 #[.agg #[.int .i64 op, .int .i64 cond, .int .i64 rd, .int .i64 rn, .int .i64 rm, .int .i64 imm, .int .i64 mode, .int .i64 list, .bool s]] w fun e w' => e = .returned (.int .i64 6) ∧ Below w.heap.size w w' := by
  have HB := Lib.hid (Box.start w op cond rd rn rm imm mode list s 23)
  have hb : (op == x0) = false := by simp [hne]
  have g1 : decide (op < 1) = false := by simp; omega
  have g2 : decide (45 < op) = false := by simp; omega
  go_enter Tryd.func14, Tryd.ntmps14
  go_wp2_with fail
  go_region_held3 (fun w' => w'.cell? ⟨w.heap.size, 0, none⟩ = some (.int .i64 op) ∧ w'.cell? ⟨w.heap.size, 1, none⟩ = some (.int .i64 cond) ∧ w'.cell? ⟨w.heap.size, 2, none⟩ = some (.int .i64 rd) ∧ w'.cell? ⟨w.heap.size, 3, none⟩ = some (.int .i64 rn) ∧ w'.cell? ⟨w.heap.size, 4, none⟩ = some (.int .i64 rm) ∧ w'.cell? ⟨w.heap.size, 5, none⟩ = some (.int .i64 imm) ∧ w'.cell? ⟨w.heap.size, 6, none⟩ = some (.int .i64 mode) ∧ w'.cell? ⟨w.heap.size, 7, none⟩ = some (.int .i64 list) ∧ w'.cell? ⟨w.heap.size, 8, none⟩ = some (.bool s) ∧ Box w op cond rd rn rm imm mode list s w')
    (first
      | (exact HB.out.drew.held)
      | (go_split_ands; exact (Box.drewn (by assumption) _).held)
      | (go_split_ands; exact (Box.other (by assumption) _).held)
      | (go_split_ands; exact (Box.step (by assumption) hbel).held))
    (first
      | (go_at_call 29; refine (hF _).mono ?_; rintro e w' ⟨rfl, n1, rfl⟩)
      | (go_at_call 28; refine (hG _).mono ?_; rintro e w' ⟨rfl, hbel⟩))
  all_goals
    go_split_ands
    go_wp2
    go_ret
    exact ⟨rfl, (Box.bel (by assumption))⟩
set_option maxHeartbeats 4000000 in
theorem rcheck_diff1 (op cond rd rn rm imm mode list : Int) (s : Bool) (x1 : Int) (x2 : Int) (x3 : Int) (x4 : Int) (x5 : Int) (x6 : Int) (x7 : Int) (x8 : Bool) (w : World) (h1 : 1 ≤ op) (h2 : op ≤ 45) (p : ByteArray) (hF : ∀ W, Calls Tryd.prog 29 #[.int .i64 op] W fun e w' => e = .returned (.string p) ∧ ∃ n, w' = W.drewN n) (hG : ∀ W, Calls Tryd.prog 28 #[.agg #[.int .i64 op, .int .i64 cond, .int .i64 rd, .int .i64 rn, .int .i64 rm, .int .i64 imm, .int .i64 mode, .int .i64 list, .bool s], .string p] W fun e w' => e = .returned (.agg #[.int .i64 op, .int .i64 x1, .int .i64 x2, .int .i64 x3, .int .i64 x4, .int .i64 x5, .int .i64 x6, .int .i64 x7, .bool x8]) ∧ Below W.heap.size W w') (hne : ¬ cond = x1) :
    Calls Tryd.prog 14 #[.agg #[.int .i64 op, .int .i64 cond, .int .i64 rd, .int .i64 rn, .int .i64 rm, .int .i64 imm, .int .i64 mode, .int .i64 list, .bool s]] w fun e w' => e = .returned (.int .i64 6) ∧ Below w.heap.size w w' := by
  have HB := Lib.hid (Box.start w op cond rd rn rm imm mode list s 23)
  have hb : (cond == x1) = false := by simp [hne]
  have g1 : decide (op < 1) = false := by simp; omega
  have g2 : decide (45 < op) = false := by simp; omega
  go_enter Tryd.func14, Tryd.ntmps14
  go_wp2_with fail
  go_region_held3 (fun w' => w'.cell? ⟨w.heap.size, 0, none⟩ = some (.int .i64 op) ∧ w'.cell? ⟨w.heap.size, 1, none⟩ = some (.int .i64 cond) ∧ w'.cell? ⟨w.heap.size, 2, none⟩ = some (.int .i64 rd) ∧ w'.cell? ⟨w.heap.size, 3, none⟩ = some (.int .i64 rn) ∧ w'.cell? ⟨w.heap.size, 4, none⟩ = some (.int .i64 rm) ∧ w'.cell? ⟨w.heap.size, 5, none⟩ = some (.int .i64 imm) ∧ w'.cell? ⟨w.heap.size, 6, none⟩ = some (.int .i64 mode) ∧ w'.cell? ⟨w.heap.size, 7, none⟩ = some (.int .i64 list) ∧ w'.cell? ⟨w.heap.size, 8, none⟩ = some (.bool s) ∧ Box w op cond rd rn rm imm mode list s w')
    (first
      | (exact HB.out.drew.held)
      | (go_split_ands; exact (Box.drewn (by assumption) _).held)
      | (go_split_ands; exact (Box.other (by assumption) _).held)
      | (go_split_ands; exact (Box.step (by assumption) hbel).held))
    (first
      | (go_at_call 29; refine (hF _).mono ?_; rintro e w' ⟨rfl, n1, rfl⟩)
      | (go_at_call 28; refine (hG _).mono ?_; rintro e w' ⟨rfl, hbel⟩))
  all_goals
    go_split_ands
    go_wp2
    go_ret
    exact ⟨rfl, (Box.bel (by assumption))⟩
set_option maxHeartbeats 4000000 in
theorem rcheck_diff2 (op cond rd rn rm imm mode list : Int) (s : Bool) (x2 : Int) (x3 : Int) (x4 : Int) (x5 : Int) (x6 : Int) (x7 : Int) (x8 : Bool) (w : World) (h1 : 1 ≤ op) (h2 : op ≤ 45) (p : ByteArray) (hF : ∀ W, Calls Tryd.prog 29 #[.int .i64 op] W fun e w' => e = .returned (.string p) ∧ ∃ n, w' = W.drewN n) (hG : ∀ W, Calls Tryd.prog 28 #[.agg #[.int .i64 op, .int .i64 cond, .int .i64 rd, .int .i64 rn, .int .i64 rm, .int .i64 imm, .int .i64 mode, .int .i64 list, .bool s], .string p] W fun e w' => e = .returned (.agg #[.int .i64 op, .int .i64 cond, .int .i64 x2, .int .i64 x3, .int .i64 x4, .int .i64 x5, .int .i64 x6, .int .i64 x7, .bool x8]) ∧ Below W.heap.size W w') (hne : ¬ rd = x2) :
    Calls Tryd.prog 14 #[.agg #[.int .i64 op, .int .i64 cond, .int .i64 rd, .int .i64 rn, .int .i64 rm, .int .i64 imm, .int .i64 mode, .int .i64 list, .bool s]] w fun e w' => e = .returned (.int .i64 6) ∧ Below w.heap.size w w' := by
  have HB := Lib.hid (Box.start w op cond rd rn rm imm mode list s 23)
  have hb : (rd == x2) = false := by simp [hne]
  have g1 : decide (op < 1) = false := by simp; omega
  have g2 : decide (45 < op) = false := by simp; omega
  go_enter Tryd.func14, Tryd.ntmps14
  go_wp2_with fail
  go_region_held3 (fun w' => w'.cell? ⟨w.heap.size, 0, none⟩ = some (.int .i64 op) ∧ w'.cell? ⟨w.heap.size, 1, none⟩ = some (.int .i64 cond) ∧ w'.cell? ⟨w.heap.size, 2, none⟩ = some (.int .i64 rd) ∧ w'.cell? ⟨w.heap.size, 3, none⟩ = some (.int .i64 rn) ∧ w'.cell? ⟨w.heap.size, 4, none⟩ = some (.int .i64 rm) ∧ w'.cell? ⟨w.heap.size, 5, none⟩ = some (.int .i64 imm) ∧ w'.cell? ⟨w.heap.size, 6, none⟩ = some (.int .i64 mode) ∧ w'.cell? ⟨w.heap.size, 7, none⟩ = some (.int .i64 list) ∧ w'.cell? ⟨w.heap.size, 8, none⟩ = some (.bool s) ∧ Box w op cond rd rn rm imm mode list s w')
    (first
      | (exact HB.out.drew.held)
      | (go_split_ands; exact (Box.drewn (by assumption) _).held)
      | (go_split_ands; exact (Box.other (by assumption) _).held)
      | (go_split_ands; exact (Box.step (by assumption) hbel).held))
    (first
      | (go_at_call 29; refine (hF _).mono ?_; rintro e w' ⟨rfl, n1, rfl⟩)
      | (go_at_call 28; refine (hG _).mono ?_; rintro e w' ⟨rfl, hbel⟩))
  all_goals
    go_split_ands
    go_wp2
    go_ret
    exact ⟨rfl, (Box.bel (by assumption))⟩
set_option maxHeartbeats 4000000 in
theorem rcheck_diff3 (op cond rd rn rm imm mode list : Int) (s : Bool) (x3 : Int) (x4 : Int) (x5 : Int) (x6 : Int) (x7 : Int) (x8 : Bool) (w : World) (h1 : 1 ≤ op) (h2 : op ≤ 45) (p : ByteArray) (hF : ∀ W, Calls Tryd.prog 29 #[.int .i64 op] W fun e w' => e = .returned (.string p) ∧ ∃ n, w' = W.drewN n) (hG : ∀ W, Calls Tryd.prog 28 #[.agg #[.int .i64 op, .int .i64 cond, .int .i64 rd, .int .i64 rn, .int .i64 rm, .int .i64 imm, .int .i64 mode, .int .i64 list, .bool s], .string p] W fun e w' => e = .returned (.agg #[.int .i64 op, .int .i64 cond, .int .i64 rd, .int .i64 x3, .int .i64 x4, .int .i64 x5, .int .i64 x6, .int .i64 x7, .bool x8]) ∧ Below W.heap.size W w') (hne : ¬ rn = x3) :
    Calls Tryd.prog 14 #[.agg #[.int .i64 op, .int .i64 cond, .int .i64 rd, .int .i64 rn, .int .i64 rm, .int .i64 imm, .int .i64 mode, .int .i64 list, .bool s]] w fun e w' => e = .returned (.int .i64 6) ∧ Below w.heap.size w w' := by
  have HB := Lib.hid (Box.start w op cond rd rn rm imm mode list s 23)
  have hb : (rn == x3) = false := by simp [hne]
  have g1 : decide (op < 1) = false := by simp; omega
  have g2 : decide (45 < op) = false := by simp; omega
  go_enter Tryd.func14, Tryd.ntmps14
  go_wp2_with fail
  go_region_held3 (fun w' => w'.cell? ⟨w.heap.size, 0, none⟩ = some (.int .i64 op) ∧ w'.cell? ⟨w.heap.size, 1, none⟩ = some (.int .i64 cond) ∧ w'.cell? ⟨w.heap.size, 2, none⟩ = some (.int .i64 rd) ∧ w'.cell? ⟨w.heap.size, 3, none⟩ = some (.int .i64 rn) ∧ w'.cell? ⟨w.heap.size, 4, none⟩ = some (.int .i64 rm) ∧ w'.cell? ⟨w.heap.size, 5, none⟩ = some (.int .i64 imm) ∧ w'.cell? ⟨w.heap.size, 6, none⟩ = some (.int .i64 mode) ∧ w'.cell? ⟨w.heap.size, 7, none⟩ = some (.int .i64 list) ∧ w'.cell? ⟨w.heap.size, 8, none⟩ = some (.bool s) ∧ Box w op cond rd rn rm imm mode list s w')
    (first
      | (exact HB.out.drew.held)
      | (go_split_ands; exact (Box.drewn (by assumption) _).held)
      | (go_split_ands; exact (Box.other (by assumption) _).held)
      | (go_split_ands; exact (Box.step (by assumption) hbel).held))
    (first
      | (go_at_call 29; refine (hF _).mono ?_; rintro e w' ⟨rfl, n1, rfl⟩)
      | (go_at_call 28; refine (hG _).mono ?_; rintro e w' ⟨rfl, hbel⟩))
  all_goals
    go_split_ands
    go_wp2
    go_ret
    exact ⟨rfl, (Box.bel (by assumption))⟩
set_option maxHeartbeats 4000000 in
theorem rcheck_diff4 (op cond rd rn rm imm mode list : Int) (s : Bool) (x4 : Int) (x5 : Int) (x6 : Int) (x7 : Int) (x8 : Bool) (w : World) (h1 : 1 ≤ op) (h2 : op ≤ 45) (p : ByteArray) (hF : ∀ W, Calls Tryd.prog 29 #[.int .i64 op] W fun e w' => e = .returned (.string p) ∧ ∃ n, w' = W.drewN n) (hG : ∀ W, Calls Tryd.prog 28 #[.agg #[.int .i64 op, .int .i64 cond, .int .i64 rd, .int .i64 rn, .int .i64 rm, .int .i64 imm, .int .i64 mode, .int .i64 list, .bool s], .string p] W fun e w' => e = .returned (.agg #[.int .i64 op, .int .i64 cond, .int .i64 rd, .int .i64 rn, .int .i64 x4, .int .i64 x5, .int .i64 x6, .int .i64 x7, .bool x8]) ∧ Below W.heap.size W w') (hne : ¬ rm = x4) :
    Calls Tryd.prog 14 #[.agg #[.int .i64 op, .int .i64 cond, .int .i64 rd, .int .i64 rn, .int .i64 rm, .int .i64 imm, .int .i64 mode, .int .i64 list, .bool s]] w fun e w' => e = .returned (.int .i64 6) ∧ Below w.heap.size w w' := by
  have HB := Lib.hid (Box.start w op cond rd rn rm imm mode list s 23)
  have hb : (rm == x4) = false := by simp [hne]
  have g1 : decide (op < 1) = false := by simp; omega
  have g2 : decide (45 < op) = false := by simp; omega
  go_enter Tryd.func14, Tryd.ntmps14
  go_wp2_with fail
  go_region_held3 (fun w' => w'.cell? ⟨w.heap.size, 0, none⟩ = some (.int .i64 op) ∧ w'.cell? ⟨w.heap.size, 1, none⟩ = some (.int .i64 cond) ∧ w'.cell? ⟨w.heap.size, 2, none⟩ = some (.int .i64 rd) ∧ w'.cell? ⟨w.heap.size, 3, none⟩ = some (.int .i64 rn) ∧ w'.cell? ⟨w.heap.size, 4, none⟩ = some (.int .i64 rm) ∧ w'.cell? ⟨w.heap.size, 5, none⟩ = some (.int .i64 imm) ∧ w'.cell? ⟨w.heap.size, 6, none⟩ = some (.int .i64 mode) ∧ w'.cell? ⟨w.heap.size, 7, none⟩ = some (.int .i64 list) ∧ w'.cell? ⟨w.heap.size, 8, none⟩ = some (.bool s) ∧ Box w op cond rd rn rm imm mode list s w')
    (first
      | (exact HB.out.drew.held)
      | (go_split_ands; exact (Box.drewn (by assumption) _).held)
      | (go_split_ands; exact (Box.other (by assumption) _).held)
      | (go_split_ands; exact (Box.step (by assumption) hbel).held))
    (first
      | (go_at_call 29; refine (hF _).mono ?_; rintro e w' ⟨rfl, n1, rfl⟩)
      | (go_at_call 28; refine (hG _).mono ?_; rintro e w' ⟨rfl, hbel⟩))
  all_goals
    go_split_ands
    go_wp2
    go_ret
    exact ⟨rfl, (Box.bel (by assumption))⟩
set_option maxHeartbeats 4000000 in
theorem rcheck_diff5 (op cond rd rn rm imm mode list : Int) (s : Bool) (x5 : Int) (x6 : Int) (x7 : Int) (x8 : Bool) (w : World) (h1 : 1 ≤ op) (h2 : op ≤ 45) (p : ByteArray) (hF : ∀ W, Calls Tryd.prog 29 #[.int .i64 op] W fun e w' => e = .returned (.string p) ∧ ∃ n, w' = W.drewN n) (hG : ∀ W, Calls Tryd.prog 28 #[.agg #[.int .i64 op, .int .i64 cond, .int .i64 rd, .int .i64 rn, .int .i64 rm, .int .i64 imm, .int .i64 mode, .int .i64 list, .bool s], .string p] W fun e w' => e = .returned (.agg #[.int .i64 op, .int .i64 cond, .int .i64 rd, .int .i64 rn, .int .i64 rm, .int .i64 x5, .int .i64 x6, .int .i64 x7, .bool x8]) ∧ Below W.heap.size W w') (hne : ¬ imm = x5) :
    Calls Tryd.prog 14 #[.agg #[.int .i64 op, .int .i64 cond, .int .i64 rd, .int .i64 rn, .int .i64 rm, .int .i64 imm, .int .i64 mode, .int .i64 list, .bool s]] w fun e w' => e = .returned (.int .i64 6) ∧ Below w.heap.size w w' := by
  have HB := Lib.hid (Box.start w op cond rd rn rm imm mode list s 23)
  have hb : (imm == x5) = false := by simp [hne]
  have g1 : decide (op < 1) = false := by simp; omega
  have g2 : decide (45 < op) = false := by simp; omega
  go_enter Tryd.func14, Tryd.ntmps14
  go_wp2_with fail
  go_region_held3 (fun w' => w'.cell? ⟨w.heap.size, 0, none⟩ = some (.int .i64 op) ∧ w'.cell? ⟨w.heap.size, 1, none⟩ = some (.int .i64 cond) ∧ w'.cell? ⟨w.heap.size, 2, none⟩ = some (.int .i64 rd) ∧ w'.cell? ⟨w.heap.size, 3, none⟩ = some (.int .i64 rn) ∧ w'.cell? ⟨w.heap.size, 4, none⟩ = some (.int .i64 rm) ∧ w'.cell? ⟨w.heap.size, 5, none⟩ = some (.int .i64 imm) ∧ w'.cell? ⟨w.heap.size, 6, none⟩ = some (.int .i64 mode) ∧ w'.cell? ⟨w.heap.size, 7, none⟩ = some (.int .i64 list) ∧ w'.cell? ⟨w.heap.size, 8, none⟩ = some (.bool s) ∧ Box w op cond rd rn rm imm mode list s w')
    (first
      | (exact HB.out.drew.held)
      | (go_split_ands; exact (Box.drewn (by assumption) _).held)
      | (go_split_ands; exact (Box.other (by assumption) _).held)
      | (go_split_ands; exact (Box.step (by assumption) hbel).held))
    (first
      | (go_at_call 29; refine (hF _).mono ?_; rintro e w' ⟨rfl, n1, rfl⟩)
      | (go_at_call 28; refine (hG _).mono ?_; rintro e w' ⟨rfl, hbel⟩))
  all_goals
    go_split_ands
    go_wp2
    go_ret
    exact ⟨rfl, (Box.bel (by assumption))⟩
set_option maxHeartbeats 4000000 in
theorem rcheck_diff6 (op cond rd rn rm imm mode list : Int) (s : Bool) (x6 : Int) (x7 : Int) (x8 : Bool) (w : World) (h1 : 1 ≤ op) (h2 : op ≤ 45) (p : ByteArray) (hF : ∀ W, Calls Tryd.prog 29 #[.int .i64 op] W fun e w' => e = .returned (.string p) ∧ ∃ n, w' = W.drewN n) (hG : ∀ W, Calls Tryd.prog 28 #[.agg #[.int .i64 op, .int .i64 cond, .int .i64 rd, .int .i64 rn, .int .i64 rm, .int .i64 imm, .int .i64 mode, .int .i64 list, .bool s], .string p] W fun e w' => e = .returned (.agg #[.int .i64 op, .int .i64 cond, .int .i64 rd, .int .i64 rn, .int .i64 rm, .int .i64 imm, .int .i64 x6, .int .i64 x7, .bool x8]) ∧ Below W.heap.size W w') (hne : ¬ mode = x6) :
    Calls Tryd.prog 14 #[.agg #[.int .i64 op, .int .i64 cond, .int .i64 rd, .int .i64 rn, .int .i64 rm, .int .i64 imm, .int .i64 mode, .int .i64 list, .bool s]] w fun e w' => e = .returned (.int .i64 6) ∧ Below w.heap.size w w' := by
  have HB := Lib.hid (Box.start w op cond rd rn rm imm mode list s 23)
  have hb : (mode == x6) = false := by simp [hne]
  have g1 : decide (op < 1) = false := by simp; omega
  have g2 : decide (45 < op) = false := by simp; omega
  go_enter Tryd.func14, Tryd.ntmps14
  go_wp2_with fail
  go_region_held3 (fun w' => w'.cell? ⟨w.heap.size, 0, none⟩ = some (.int .i64 op) ∧ w'.cell? ⟨w.heap.size, 1, none⟩ = some (.int .i64 cond) ∧ w'.cell? ⟨w.heap.size, 2, none⟩ = some (.int .i64 rd) ∧ w'.cell? ⟨w.heap.size, 3, none⟩ = some (.int .i64 rn) ∧ w'.cell? ⟨w.heap.size, 4, none⟩ = some (.int .i64 rm) ∧ w'.cell? ⟨w.heap.size, 5, none⟩ = some (.int .i64 imm) ∧ w'.cell? ⟨w.heap.size, 6, none⟩ = some (.int .i64 mode) ∧ w'.cell? ⟨w.heap.size, 7, none⟩ = some (.int .i64 list) ∧ w'.cell? ⟨w.heap.size, 8, none⟩ = some (.bool s) ∧ Box w op cond rd rn rm imm mode list s w')
    (first
      | (exact HB.out.drew.held)
      | (go_split_ands; exact (Box.drewn (by assumption) _).held)
      | (go_split_ands; exact (Box.other (by assumption) _).held)
      | (go_split_ands; exact (Box.step (by assumption) hbel).held))
    (first
      | (go_at_call 29; refine (hF _).mono ?_; rintro e w' ⟨rfl, n1, rfl⟩)
      | (go_at_call 28; refine (hG _).mono ?_; rintro e w' ⟨rfl, hbel⟩))
  all_goals
    go_split_ands
    go_wp2
    go_ret
    exact ⟨rfl, (Box.bel (by assumption))⟩
set_option maxHeartbeats 4000000 in
theorem rcheck_diff7 (op cond rd rn rm imm mode list : Int) (s : Bool) (x7 : Int) (x8 : Bool) (w : World) (h1 : 1 ≤ op) (h2 : op ≤ 45) (p : ByteArray) (hF : ∀ W, Calls Tryd.prog 29 #[.int .i64 op] W fun e w' => e = .returned (.string p) ∧ ∃ n, w' = W.drewN n) (hG : ∀ W, Calls Tryd.prog 28 #[.agg #[.int .i64 op, .int .i64 cond, .int .i64 rd, .int .i64 rn, .int .i64 rm, .int .i64 imm, .int .i64 mode, .int .i64 list, .bool s], .string p] W fun e w' => e = .returned (.agg #[.int .i64 op, .int .i64 cond, .int .i64 rd, .int .i64 rn, .int .i64 rm, .int .i64 imm, .int .i64 mode, .int .i64 x7, .bool x8]) ∧ Below W.heap.size W w') (hne : ¬ list = x7) :
    Calls Tryd.prog 14 #[.agg #[.int .i64 op, .int .i64 cond, .int .i64 rd, .int .i64 rn, .int .i64 rm, .int .i64 imm, .int .i64 mode, .int .i64 list, .bool s]] w fun e w' => e = .returned (.int .i64 6) ∧ Below w.heap.size w w' := by
  have HB := Lib.hid (Box.start w op cond rd rn rm imm mode list s 23)
  have hb : (list == x7) = false := by simp [hne]
  have g1 : decide (op < 1) = false := by simp; omega
  have g2 : decide (45 < op) = false := by simp; omega
  go_enter Tryd.func14, Tryd.ntmps14
  go_wp2_with fail
  go_region_held3 (fun w' => w'.cell? ⟨w.heap.size, 0, none⟩ = some (.int .i64 op) ∧ w'.cell? ⟨w.heap.size, 1, none⟩ = some (.int .i64 cond) ∧ w'.cell? ⟨w.heap.size, 2, none⟩ = some (.int .i64 rd) ∧ w'.cell? ⟨w.heap.size, 3, none⟩ = some (.int .i64 rn) ∧ w'.cell? ⟨w.heap.size, 4, none⟩ = some (.int .i64 rm) ∧ w'.cell? ⟨w.heap.size, 5, none⟩ = some (.int .i64 imm) ∧ w'.cell? ⟨w.heap.size, 6, none⟩ = some (.int .i64 mode) ∧ w'.cell? ⟨w.heap.size, 7, none⟩ = some (.int .i64 list) ∧ w'.cell? ⟨w.heap.size, 8, none⟩ = some (.bool s) ∧ Box w op cond rd rn rm imm mode list s w')
    (first
      | (exact HB.out.drew.held)
      | (go_split_ands; exact (Box.drewn (by assumption) _).held)
      | (go_split_ands; exact (Box.other (by assumption) _).held)
      | (go_split_ands; exact (Box.step (by assumption) hbel).held))
    (first
      | (go_at_call 29; refine (hF _).mono ?_; rintro e w' ⟨rfl, n1, rfl⟩)
      | (go_at_call 28; refine (hG _).mono ?_; rintro e w' ⟨rfl, hbel⟩))
  all_goals
    go_split_ands
    go_wp2
    go_ret
    exact ⟨rfl, (Box.bel (by assumption))⟩
set_option maxHeartbeats 4000000 in
theorem rcheck_diff8 (op cond rd rn rm imm mode list : Int) (s : Bool) (x8 : Bool) (w : World) (h1 : 1 ≤ op) (h2 : op ≤ 45) (p : ByteArray) (hF : ∀ W, Calls Tryd.prog 29 #[.int .i64 op] W fun e w' => e = .returned (.string p) ∧ ∃ n, w' = W.drewN n) (hG : ∀ W, Calls Tryd.prog 28 #[.agg #[.int .i64 op, .int .i64 cond, .int .i64 rd, .int .i64 rn, .int .i64 rm, .int .i64 imm, .int .i64 mode, .int .i64 list, .bool s], .string p] W fun e w' => e = .returned (.agg #[.int .i64 op, .int .i64 cond, .int .i64 rd, .int .i64 rn, .int .i64 rm, .int .i64 imm, .int .i64 mode, .int .i64 list, .bool x8]) ∧ Below W.heap.size W w') (hne : ¬ s = x8) :
    Calls Tryd.prog 14 #[.agg #[.int .i64 op, .int .i64 cond, .int .i64 rd, .int .i64 rn, .int .i64 rm, .int .i64 imm, .int .i64 mode, .int .i64 list, .bool s]] w fun e w' => e = .returned (.int .i64 6) ∧ Below w.heap.size w w' := by
  have HB := Lib.hid (Box.start w op cond rd rn rm imm mode list s 23)
  have hb : (s == x8) = false := by simp [hne]
  have g1 : decide (op < 1) = false := by simp; omega
  have g2 : decide (45 < op) = false := by simp; omega
  go_enter Tryd.func14, Tryd.ntmps14
  go_wp2_with fail
  go_region_held3 (fun w' => w'.cell? ⟨w.heap.size, 0, none⟩ = some (.int .i64 op) ∧ w'.cell? ⟨w.heap.size, 1, none⟩ = some (.int .i64 cond) ∧ w'.cell? ⟨w.heap.size, 2, none⟩ = some (.int .i64 rd) ∧ w'.cell? ⟨w.heap.size, 3, none⟩ = some (.int .i64 rn) ∧ w'.cell? ⟨w.heap.size, 4, none⟩ = some (.int .i64 rm) ∧ w'.cell? ⟨w.heap.size, 5, none⟩ = some (.int .i64 imm) ∧ w'.cell? ⟨w.heap.size, 6, none⟩ = some (.int .i64 mode) ∧ w'.cell? ⟨w.heap.size, 7, none⟩ = some (.int .i64 list) ∧ w'.cell? ⟨w.heap.size, 8, none⟩ = some (.bool s) ∧ Box w op cond rd rn rm imm mode list s w')
    (first
      | (exact HB.out.drew.held)
      | (go_split_ands; exact (Box.drewn (by assumption) _).held)
      | (go_split_ands; exact (Box.other (by assumption) _).held)
      | (go_split_ands; exact (Box.step (by assumption) hbel).held))
    (first
      | (go_at_call 29; refine (hF _).mono ?_; rintro e w' ⟨rfl, n1, rfl⟩)
      | (go_at_call 28; refine (hG _).mono ?_; rintro e w' ⟨rfl, hbel⟩))
  all_goals
    go_split_ands
    go_wp2
    go_ret
    exact ⟨rfl, (Box.bel (by assumption))⟩
set_option maxHeartbeats 4000000 in
theorem rcheck_same (op cond rd rn rm imm mode list : Int) (s : Bool) (w : World) (h1 : 1 ≤ op) (h2 : op ≤ 45) (p : ByteArray) (hF : ∀ W, Calls Tryd.prog 29 #[.int .i64 op] W fun e w' => e = .returned (.string p) ∧ ∃ n, w' = W.drewN n) (hG : ∀ W, Calls Tryd.prog 28 #[.agg #[.int .i64 op, .int .i64 cond, .int .i64 rd, .int .i64 rn, .int .i64 rm, .int .i64 imm, .int .i64 mode, .int .i64 list, .bool s], .string p] W fun e w' => e = .returned (.agg #[.int .i64 op, .int .i64 cond, .int .i64 rd, .int .i64 rn, .int .i64 rm, .int .i64 imm, .int .i64 mode, .int .i64 list, .bool s]) ∧ Below W.heap.size W w') :
    Calls Tryd.prog 14 #[.agg #[.int .i64 op, .int .i64 cond, .int .i64 rd, .int .i64 rn, .int .i64 rm, .int .i64 imm, .int .i64 mode, .int .i64 list, .bool s]] w fun e w' => e = .returned (.int .i64 (Im.errI (if op ≤ 24 then Rb.dataR ⟨op, cond, rd, rn, rm, imm, mode, list, s⟩ else Rb.restR ⟨op, cond, rd, rn, rm, imm, mode, list, s⟩))) ∧ Below w.heap.size w w' := by
  have HB := Lib.hid (Box.start w op cond rd rn rm imm mode list s 23)
  have g1 : decide (op < 1) = false := by simp; omega
  have g2 : decide (45 < op) = false := by simp; omega
  go_enter Tryd.func14, Tryd.ntmps14
  go_wp2_with fail
  go_region_held3 (fun w' => w'.cell? ⟨w.heap.size, 0, none⟩ = some (.int .i64 op) ∧ w'.cell? ⟨w.heap.size, 1, none⟩ = some (.int .i64 cond) ∧ w'.cell? ⟨w.heap.size, 2, none⟩ = some (.int .i64 rd) ∧ w'.cell? ⟨w.heap.size, 3, none⟩ = some (.int .i64 rn) ∧ w'.cell? ⟨w.heap.size, 4, none⟩ = some (.int .i64 rm) ∧ w'.cell? ⟨w.heap.size, 5, none⟩ = some (.int .i64 imm) ∧ w'.cell? ⟨w.heap.size, 6, none⟩ = some (.int .i64 mode) ∧ w'.cell? ⟨w.heap.size, 7, none⟩ = some (.int .i64 list) ∧ w'.cell? ⟨w.heap.size, 8, none⟩ = some (.bool s) ∧ Box w op cond rd rn rm imm mode list s w')
    (first
      | (exact HB.out.drew.held)
      | (go_split_ands; exact (Box.drewn (by assumption) _).held)
      | (go_split_ands; exact (Box.other (by assumption) _).held)
      | (go_split_ands; exact (Box.step (by assumption) hbel).held))
    (first
      | (go_at_call 29; refine (hF _).mono ?_; rintro e w' ⟨rfl, n1, rfl⟩)
      | (go_at_call 28; refine (hG _).mono ?_; rintro e w' ⟨rfl, hbel⟩))
  all_goals
    go_split_ands
    have HX := Lib.hid (Box.step (op := op) (cond := cond) (rd := rd) (rn := rn) (rm := rm) (imm := imm) (mode := mode) (list := list) (s := s) (by assumption) (Below.refl _ _))
    by_cases h24 : op ≤ 24
    · have hd : decide (op ≤ 24) = true := by simp [h24]
      have H24 := Lib.hid h24
      go_wp2_with fail
      refine (rdata_c op cond rd rn rm imm mode list s _ ⟨h1, h24⟩).mono ?_
      rintro e w5 ⟨rfl, hb⟩
      have HY := Lib.hid (HX.out.step hb)
      clear hb HX
      cases hv : Rb.dataR ⟨op, cond, rd, rn, rm, imm, mode, list, s⟩ with
      | false =>
        go_wp2
        go_ret
        exact ⟨ret_int (by first | rfl | (rw [if_pos H24.out, hv]; rfl)), HY.out.bel⟩
      | true =>
        go_wp2
        go_ret
        exact ⟨ret_int (by first | rfl | (rw [if_pos H24.out, hv]; rfl)), HY.out.bel⟩
    · have hd : decide (op ≤ 24) = false := by simp; omega
      have H24 := Lib.hid h24
      go_wp2_with fail
      refine (rrest_c op cond rd rn rm imm mode list s _ (by omega)).mono ?_
      rintro e w5 ⟨rfl, hb⟩
      have HY := Lib.hid (HX.out.step hb)
      clear hb HX
      cases hv : Rb.restR ⟨op, cond, rd, rn, rm, imm, mode, list, s⟩ with
      | false =>
        go_wp2
        go_ret
        exact ⟨ret_int (by first | rfl | (rw [if_neg (by have := H24.out; omega), hv]; rfl)), HY.out.bel⟩
      | true =>
        go_wp2
        go_ret
        exact ⟨ret_int (by first | rfl | (rw [if_neg (by have := H24.out; omega), hv]; rfl)), HY.out.bel⟩
theorem rcheck_lo (op cond rd rn rm imm mode list : Int) (s : Bool) (w : World) (h : op < 1) :
    Calls Tryd.prog 14 #[.agg #[.int .i64 op, .int .i64 cond, .int .i64 rd, .int .i64 rn, .int .i64 rm, .int .i64 imm, .int .i64 mode, .int .i64 list, .bool s]] w fun e w' => e = .returned (.int .i64 6) ∧ Below w.heap.size w w' := by
  have g1 : decide (op < 1) = true := by simp; omega
  go_enter Tryd.func14, Tryd.ntmps14
  go_wp2_with fail
  go_quiet (fail)
  go_wp2
  go_ret
  exact ⟨rfl, below_drewN (one_b _ _) _⟩
theorem rcheck_hi (op cond rd rn rm imm mode list : Int) (s : Bool) (w : World) (h : 45 < op) :
    Calls Tryd.prog 14 #[.agg #[.int .i64 op, .int .i64 cond, .int .i64 rd, .int .i64 rn, .int .i64 rm, .int .i64 imm, .int .i64 mode, .int .i64 list, .bool s]] w fun e w' => e = .returned (.int .i64 6) ∧ Below w.heap.size w w' := by
  have g1 : decide (op < 1) = false := by simp; omega
  have g2 : decide (45 < op) = true := by simp; omega
  go_enter Tryd.func14, Tryd.ntmps14
  go_wp2_with fail
  go_quiet (fail)
  go_wp2
  go_ret
  exact ⟨rfl, below_drewN (one_b _ _) _⟩
theorem rcheck_c (op cond rd rn rm imm mode list : Int) (s : Bool) (w : World) (hw : Nm.Wide list) :
    Calls Tryd.prog 14 #[.agg #[.int .i64 op, .int .i64 cond, .int .i64 rd, .int .i64 rn, .int .i64 rm, .int .i64 imm, .int .i64 mode, .int .i64 list, .bool s]] w fun e w' => e = .returned (.int .i64 (Im.errI (Nm.okB ⟨op, cond, rd, rn, rm, imm, mode, list, s⟩))) ∧ Below w.heap.size w w' := by
  by_cases h : 1 ≤ op ∧ op ≤ 45
  · rw [← Rb.may_is ⟨op, cond, rd, rn, rm, imm, mode, list, s⟩ hw]
    have hF := fun W => rfields_c op h W
    have hG := fun W => rbare_c op cond rd rn rm imm mode list s W h
    have hM : Rb.mayR ⟨op, cond, rd, rn, rm, imm, mode, list, s⟩ = (Rb.sameB ⟨op, cond, rd, rn, rm, imm, mode, list, s⟩ (Rb.bareI ⟨op, cond, rd, rn, rm, imm, mode, list, s⟩ (Rb.fieldsS op)) && (if op ≤ 24 then Rb.dataR ⟨op, cond, rd, rn, rm, imm, mode, list, s⟩ else Rb.restR ⟨op, cond, rd, rn, rm, imm, mode, list, s⟩)) := by
      unfold Rb.mayR
      dsimp only
      rw [decide_eq_true h.1, decide_eq_true h.2]
      rfl
    rw [hM]
    clear hM
    generalize Rb.fieldsS op = fs at hF hG ⊢
    obtain ⟨p, ep⟩ : ∃ p : ByteArray, (⟨fs.toArray⟩ : ByteArray) = p := ⟨_, rfl⟩
    rw [ep] at hF hG
    generalize Rb.bareI ⟨op, cond, rd, rn, rm, imm, mode, list, s⟩ fs = x at hG ⊢
    obtain ⟨x0, x1, x2, x3, x4, x5, x6, x7, x8⟩ := x
    simp only [IV] at hG
    clear ep
    by_cases e0 : op = x0
    · subst e0
      by_cases e1 : cond = x1
      · subst e1
        by_cases e2 : rd = x2
        · subst e2
          by_cases e3 : rn = x3
          · subst e3
            by_cases e4 : rm = x4
            · subst e4
              by_cases e5 : imm = x5
              · subst e5
                by_cases e6 : mode = x6
                · subst e6
                  by_cases e7 : list = x7
                  · subst e7
                    by_cases e8 : s = x8
                    · subst e8
                      rw [show ∀ i : Nm.I, Rb.sameB i i = true from fun i => by simp [Rb.sameB], Bool.true_and]
                      exact rcheck_same op cond rd rn rm imm mode list s w h.1 h.2 p hF hG
                    · rw [show Rb.sameB ⟨op, cond, rd, rn, rm, imm, mode, list, s⟩ ⟨op, cond, rd, rn, rm, imm, mode, list, x8⟩ = false by simp [Rb.sameB, e8], Bool.false_and]
                      exact rcheck_diff8 op cond rd rn rm imm mode list s x8 w h.1 h.2 p hF hG e8
                  · rw [show Rb.sameB ⟨op, cond, rd, rn, rm, imm, mode, list, s⟩ ⟨op, cond, rd, rn, rm, imm, mode, x7, x8⟩ = false by simp [Rb.sameB, e7], Bool.false_and]
                    exact rcheck_diff7 op cond rd rn rm imm mode list s x7 x8 w h.1 h.2 p hF hG e7
                · rw [show Rb.sameB ⟨op, cond, rd, rn, rm, imm, mode, list, s⟩ ⟨op, cond, rd, rn, rm, imm, x6, x7, x8⟩ = false by simp [Rb.sameB, e6], Bool.false_and]
                  exact rcheck_diff6 op cond rd rn rm imm mode list s x6 x7 x8 w h.1 h.2 p hF hG e6
              · rw [show Rb.sameB ⟨op, cond, rd, rn, rm, imm, mode, list, s⟩ ⟨op, cond, rd, rn, rm, x5, x6, x7, x8⟩ = false by simp [Rb.sameB, e5], Bool.false_and]
                exact rcheck_diff5 op cond rd rn rm imm mode list s x5 x6 x7 x8 w h.1 h.2 p hF hG e5
            · rw [show Rb.sameB ⟨op, cond, rd, rn, rm, imm, mode, list, s⟩ ⟨op, cond, rd, rn, x4, x5, x6, x7, x8⟩ = false by simp [Rb.sameB, e4], Bool.false_and]
              exact rcheck_diff4 op cond rd rn rm imm mode list s x4 x5 x6 x7 x8 w h.1 h.2 p hF hG e4
          · rw [show Rb.sameB ⟨op, cond, rd, rn, rm, imm, mode, list, s⟩ ⟨op, cond, rd, x3, x4, x5, x6, x7, x8⟩ = false by simp [Rb.sameB, e3], Bool.false_and]
            exact rcheck_diff3 op cond rd rn rm imm mode list s x3 x4 x5 x6 x7 x8 w h.1 h.2 p hF hG e3
        · rw [show Rb.sameB ⟨op, cond, rd, rn, rm, imm, mode, list, s⟩ ⟨op, cond, x2, x3, x4, x5, x6, x7, x8⟩ = false by simp [Rb.sameB, e2], Bool.false_and]
          exact rcheck_diff2 op cond rd rn rm imm mode list s x2 x3 x4 x5 x6 x7 x8 w h.1 h.2 p hF hG e2
      · rw [show Rb.sameB ⟨op, cond, rd, rn, rm, imm, mode, list, s⟩ ⟨op, x1, x2, x3, x4, x5, x6, x7, x8⟩ = false by simp [Rb.sameB, e1], Bool.false_and]
        exact rcheck_diff1 op cond rd rn rm imm mode list s x1 x2 x3 x4 x5 x6 x7 x8 w h.1 h.2 p hF hG e1
    · rw [show Rb.sameB ⟨op, cond, rd, rn, rm, imm, mode, list, s⟩ ⟨x0, x1, x2, x3, x4, x5, x6, x7, x8⟩ = false by simp [Rb.sameB, e0], Bool.false_and]
      exact rcheck_diff0 op cond rd rn rm imm mode list s x0 x1 x2 x3 x4 x5 x6 x7 x8 w h.1 h.2 p hF hG e0
  · have h0 : Nm.okB ⟨op, cond, rd, rn, rm, imm, mode, list, s⟩ = false := by
      unfold Nm.okB Im.checkB
      rw [decide_eq_false h]
      simp
    rw [h0]
    by_cases h1 : op < 1
    · exact rcheck_lo op cond rd rn rm imm mode list s w h1
    · exact rcheck_hi op cond rd rn rm imm mode list s w (by omega)
end Go.Proofs.YtcphhojdfpedkaaDoor
