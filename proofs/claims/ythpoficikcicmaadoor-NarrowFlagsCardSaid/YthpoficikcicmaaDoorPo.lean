/- Encode's search is the document's row, operation by operation (text by gen_pe.py). No conditions but those that each fact names. -/
import Derived.Test.YthpoficikcicmaaDoorRows
import Derived.Test.YthpoficikcicmaaDoorPd
namespace Go.Proofs.YthpoficikcicmaaDoor
open Go.ChangeShapes Go.WideShapes Go.ChangeAt Go.RowKit
namespace Pl

set_option linter.unusedSimpArgs false in
set_option maxHeartbeats 4000000 in
theorem enc_35 (cond rd rn rm imm mode list : Int) (s it : Bool) (hok : Nm.okB ⟨35, cond, rd, rn, rm, imm, mode, list, s⟩ = true) (hw : Nm.Wide list) :
    searchP (traitsI cond rd rn rm mode s it) 35 cond rd rn rm imm list formTab = Nm.rowI ⟨35, cond, rd, rn, rm, imm, mode, list, s⟩ it := by
  obtain ⟨_, h1, h2, h3, h4, h5, h6⟩ := Nm.ok_parts hok
  clear hok
  have h3' := Nm.last_cases h3
  clear h3
  dsimp only at h1 h2 h3' h4 h5 h6
  rw [search_c, show formTab.flatMap (candsOf 35) = cands 35 from rfl, cands_35]
  unfold Nm.rowI Nm.branchI Nm.fits1 Nm.fits2
  dsimp only
  have hl := Nm.list_most h4 0 (by decide) rfl hw
  have hc : 0 ≤ cond ∧ cond ≤ 14 := by simpa [Im.condB] using h5
  obtain rfl : false = s := Nm.flag_off h6 (by decide)
  clear h4 h5 h6 hw
  rcases h3' with ⟨rfl, q1, q2, rfl, rfl⟩ | ⟨rfl, q1, q2, q3, q4, rfl⟩ | ⟨rfl, q1, q2, rfl⟩
  · have FF : Im.fieldsI 35 0 false = ⟨0, 0, 0, -16777216, 16777214, 2, 0, 0⟩ := rfl
    rw [FF] at h1 h2 q1 q2
    dsimp only at h1 h2 q1 q2
    exfalso; omega
  · have FF : Im.fieldsI 35 1 false = ⟨0, 0, 0, -16777216, 16777214, 2, 0, 0⟩ := rfl
    rw [FF] at h1 h2 q1 q2 q3 q4
    dsimp only at h1 h2 q1 q2 q3 q4
    have hd : rd = 0 := Nm.one_none h1
    have hn : rn = 0 := Nm.one_none h2
    have he := tmod_even q4
    clear h1 h2
    obtain ⟨x, hx⟩ : ∃ x, imm % 4294967296 = x := ⟨_, rfl⟩
    simp only [searchC]
    rw [fillB_25_0 cond rd rn 0 imm list x hx (by omega) (by omega) (by omega) (by omega) (by omega) (by omega) (by omega) (by omega) (by omega) (by omega), fillB_26_0 cond rd rn 0 imm list x hx (by omega) (by omega) (by omega) (by omega) (by omega) (by omega) (by omega) (by omega) (by omega) (by omega)]
    cases it
    all_goals (try simp only [searchC, show row_25.asks = 2052 from rfl, asks_2052, show row_26.asks = 1024 from rfl, asks_1024, orI_ite2, orI_some, orI_nil, orI_none, z7_iff, Nm.opt, Nm.low, Nm.up, Bool.and_eq_true, Bool.or_eq_true, beq_iff_eq, decide_eq_true_eq, Bool.not_eq_true', bne_self_eq_false, Bool.false_eq_true, Bool.true_eq_false, Bool.not_true, Bool.not_false, bne_iff_ne, ne_eq, not_true_eq_false, not_false_eq_true, reduceCtorEq, true_and, and_true, false_and, and_false, if_true, if_false, ite_self, Int.reduceEq, Int.reduceBEq, Int.reduceLE, Int.reduceLT, Int.reduceSub, Int.reduceMul, true_or, or_true, or_false, false_or, and_self, Bool.bne_false, Bool.bne_true, Bool.false_bne, Bool.true_bne, Bool.not_eq_eq_eq_not, bne_self_eq_false])
    all_goals (repeat' split)
    all_goals first | rfl | (exfalso; omega) | (apply congrArg some; omega)
  · have FF : Im.fieldsI 35 2 false = ⟨0, 0, 0, -16777216, 16777214, 2, 0, 0⟩ := rfl
    rw [FF] at h1 h2 q1 q2
    dsimp only at h1 h2 q1 q2
    exfalso; omega
set_option linter.unusedSimpArgs false in
set_option maxHeartbeats 4000000 in
theorem enc_37 (cond rd rn rm imm mode list : Int) (s it : Bool) (hok : Nm.okB ⟨37, cond, rd, rn, rm, imm, mode, list, s⟩ = true) (hw : Nm.Wide list) :
    searchP (traitsI cond rd rn rm mode s it) 37 cond rd rn rm imm list formTab = Nm.rowI ⟨37, cond, rd, rn, rm, imm, mode, list, s⟩ it := by
  obtain ⟨_, h1, h2, h3, h4, h5, h6⟩ := Nm.ok_parts hok
  clear hok
  have h3' := Nm.last_cases h3
  clear h3
  dsimp only at h1 h2 h3' h4 h5 h6
  rw [search_c, show formTab.flatMap (candsOf 37) = cands 37 from rfl, cands_37]
  unfold Nm.rowI Nm.branchI Nm.fits1 Nm.fits2
  dsimp only
  have hl := Nm.list_most h4 0 (by decide) rfl hw
  have hc : cond = 0 := by simpa [Im.condB] using h5
  obtain rfl : false = s := Nm.flag_off h6 (by decide)
  clear h4 h5 h6 hw
  rcases h3' with ⟨rfl, q1, q2, rfl, rfl⟩ | ⟨rfl, q1, q2, q3, q4, rfl⟩ | ⟨rfl, q1, q2, rfl⟩
  · have FF : Im.fieldsI 37 0 false = ⟨0, 255, 0, 0, 126, 2, 0, 0⟩ := rfl
    rw [FF] at h1 h2 q1 q2
    dsimp only at h1 h2 q1 q2
    exfalso; omega
  · have FF : Im.fieldsI 37 1 false = ⟨0, 255, 0, 0, 126, 2, 0, 0⟩ := rfl
    rw [FF] at h1 h2 q1 q2 q3 q4
    dsimp only at h1 h2 q1 q2 q3 q4
    have hd : rd = 0 := Nm.one_none h1
    have hn := Nm.one_in h2 (by decide)
    have hn7 := Nm.low_of h2
    have he := tmod_even q4
    clear h1 h2
    obtain ⟨x, hx⟩ : ∃ x, imm % 4294967296 = x := ⟨_, rfl⟩
    simp only [searchC]
    rw [fillB_27_0 cond rd rn 0 imm list x hx (by omega) (by omega) (by omega) (by omega) (by omega) (by omega) (by omega) (by omega) (by omega) (by omega)]
    cases it
    all_goals (try simp only [searchC, show row_27.asks = 4 from rfl, asks_4, orI_ite2, orI_some, orI_nil, orI_none, z7_iff, Nm.opt, Nm.low, Nm.up, Bool.and_eq_true, Bool.or_eq_true, beq_iff_eq, decide_eq_true_eq, Bool.not_eq_true', bne_self_eq_false, Bool.false_eq_true, Bool.true_eq_false, Bool.not_true, Bool.not_false, bne_iff_ne, ne_eq, not_true_eq_false, not_false_eq_true, reduceCtorEq, true_and, and_true, false_and, and_false, if_true, if_false, ite_self, Int.reduceEq, Int.reduceBEq, Int.reduceLE, Int.reduceLT, Int.reduceSub, Int.reduceMul, true_or, or_true, or_false, false_or, and_self, Bool.bne_false, Bool.bne_true, Bool.false_bne, Bool.true_bne, Bool.not_eq_eq_eq_not, bne_self_eq_false])
    all_goals (repeat' split)
    all_goals first | rfl | (exfalso; omega) | (apply congrArg some; omega)
  · have FF : Im.fieldsI 37 2 false = ⟨0, 255, 0, 0, 126, 2, 0, 0⟩ := rfl
    rw [FF] at h1 h2 q1 q2
    dsimp only at h1 h2 q1 q2
    exfalso; omega
set_option linter.unusedSimpArgs false in
set_option maxHeartbeats 4000000 in
theorem enc_38 (cond rd rn rm imm mode list : Int) (s it : Bool) (hok : Nm.okB ⟨38, cond, rd, rn, rm, imm, mode, list, s⟩ = true) (hw : Nm.Wide list) :
    searchP (traitsI cond rd rn rm mode s it) 38 cond rd rn rm imm list formTab = Nm.rowI ⟨38, cond, rd, rn, rm, imm, mode, list, s⟩ it := by
  obtain ⟨_, h1, h2, h3, h4, h5, h6⟩ := Nm.ok_parts hok
  clear hok
  have h3' := Nm.last_cases h3
  clear h3
  dsimp only at h1 h2 h3' h4 h5 h6
  rw [search_c, show formTab.flatMap (candsOf 38) = cands 38 from rfl, cands_38]
  unfold Nm.rowI Nm.branchI Nm.fits1 Nm.fits2
  dsimp only
  have hl := Nm.list_most h4 0 (by decide) rfl hw
  have hc : cond = 0 := by simpa [Im.condB] using h5
  obtain rfl : false = s := Nm.flag_off h6 (by decide)
  clear h4 h5 h6 hw
  rcases h3' with ⟨rfl, q1, q2, rfl, rfl⟩ | ⟨rfl, q1, q2, q3, q4, rfl⟩ | ⟨rfl, q1, q2, rfl⟩
  · have FF : Im.fieldsI 38 0 false = ⟨0, 255, 0, 0, 126, 2, 0, 0⟩ := rfl
    rw [FF] at h1 h2 q1 q2
    dsimp only at h1 h2 q1 q2
    exfalso; omega
  · have FF : Im.fieldsI 38 1 false = ⟨0, 255, 0, 0, 126, 2, 0, 0⟩ := rfl
    rw [FF] at h1 h2 q1 q2 q3 q4
    dsimp only at h1 h2 q1 q2 q3 q4
    have hd : rd = 0 := Nm.one_none h1
    have hn := Nm.one_in h2 (by decide)
    have hn7 := Nm.low_of h2
    have he := tmod_even q4
    clear h1 h2
    obtain ⟨x, hx⟩ : ∃ x, imm % 4294967296 = x := ⟨_, rfl⟩
    simp only [searchC]
    rw [fillB_27_1 cond rd rn 0 imm list x hx (by omega) (by omega) (by omega) (by omega) (by omega) (by omega) (by omega) (by omega) (by omega) (by omega)]
    cases it
    all_goals (try simp only [searchC, show row_27.asks = 4 from rfl, asks_4, orI_ite2, orI_some, orI_nil, orI_none, z7_iff, Nm.opt, Nm.low, Nm.up, Bool.and_eq_true, Bool.or_eq_true, beq_iff_eq, decide_eq_true_eq, Bool.not_eq_true', bne_self_eq_false, Bool.false_eq_true, Bool.true_eq_false, Bool.not_true, Bool.not_false, bne_iff_ne, ne_eq, not_true_eq_false, not_false_eq_true, reduceCtorEq, true_and, and_true, false_and, and_false, if_true, if_false, ite_self, Int.reduceEq, Int.reduceBEq, Int.reduceLE, Int.reduceLT, Int.reduceSub, Int.reduceMul, true_or, or_true, or_false, false_or, and_self, Bool.bne_false, Bool.bne_true, Bool.false_bne, Bool.true_bne, Bool.not_eq_eq_eq_not, bne_self_eq_false])
    all_goals (repeat' split)
    all_goals first | rfl | (exfalso; omega) | (apply congrArg some; omega)
  · have FF : Im.fieldsI 38 2 false = ⟨0, 255, 0, 0, 126, 2, 0, 0⟩ := rfl
    rw [FF] at h1 h2 q1 q2
    dsimp only at h1 h2 q1 q2
    exfalso; omega
end Pl
end Go.Proofs.YthpoficikcicmaaDoor
