/- Encode's search is the document's row, operation by operation (text by gen_pe.py). No conditions but those that each fact names. -/
import Derived.Test.YthpoficikcicmaaDoorRows
import Derived.Test.YthpoficikcicmaaDoorPd
namespace Go.Proofs.YthpoficikcicmaaDoor
open Go.ChangeShapes Go.WideShapes Go.ChangeAt Go.RowKit
namespace Pl

set_option linter.unusedSimpArgs false in
set_option maxHeartbeats 4000000 in
theorem enc_15 (cond rd rn rm imm mode list : Int) (s it : Bool) (hok : Nm.okB ⟨15, cond, rd, rn, rm, imm, mode, list, s⟩ = true) (hw : Nm.Wide list) :
    searchP (traitsI cond rd rn rm mode s it) 15 cond rd rn rm imm list formTab = Nm.rowI ⟨15, cond, rd, rn, rm, imm, mode, list, s⟩ it := by
  obtain ⟨_, h1, h2, h3, h4, h5, h6⟩ := Nm.ok_parts hok
  clear hok
  have h3' := Nm.last_cases h3
  clear h3
  dsimp only at h1 h2 h3' h4 h5 h6
  rw [search_c, show formTab.flatMap (candsOf 15) = cands 15 from rfl, cands_15]
  unfold Nm.rowI Nm.restI
  dsimp only
  have hl := Nm.list_most h4 0 (by decide) rfl hw
  have hc : cond = 0 := by simpa [Im.condB] using h5
  obtain rfl : false = s := Nm.flag_off h6 (by decide)
  clear h4 h5 h6 hw
  rcases h3' with ⟨rfl, q1, q2, rfl, rfl⟩ | ⟨rfl, q1, q2, q3, q4, rfl⟩ | ⟨rfl, q1, q2, rfl⟩
  · have FF : Im.fieldsI 15 0 false = ⟨0, 24575, 24575, 0, 4294967295, 1, 0, 0⟩ := rfl
    rw [FF] at h1 h2 q1 q2
    dsimp only at h1 h2 q1 q2
    exfalso; omega
  · have FF : Im.fieldsI 15 1 false = ⟨0, 24575, 24575, 0, 4294967295, 1, 0, 0⟩ := rfl
    rw [FF] at h1 h2 q1 q2 q3 q4
    dsimp only at h1 h2 q1 q2 q3 q4
    have hd : rd = 0 := Nm.one_none h1
    have hn := Nm.one_in h2 (by decide)
    clear h1 h2
    obtain ⟨x, hx⟩ : ∃ x, imm % 4294967296 = x := ⟨_, rfl⟩
    simp only [searchC]
    cases it
    all_goals (try simp only [searchC, orI_nil, orI_ite2, orI_some, orI_nil, orI_none, z7_iff, Nm.opt, Nm.low, Nm.up, Bool.and_eq_true, Bool.or_eq_true, beq_iff_eq, decide_eq_true_eq, Bool.not_eq_true', bne_self_eq_false, Bool.false_eq_true, Bool.true_eq_false, Bool.not_true, Bool.not_false, bne_iff_ne, ne_eq, not_true_eq_false, not_false_eq_true, reduceCtorEq, true_and, and_true, false_and, and_false, if_true, if_false, ite_self, Int.reduceEq, Int.reduceBEq, Int.reduceLE, Int.reduceLT, Int.reduceSub, Int.reduceMul, true_or, or_true, or_false, false_or, and_self, Bool.bne_false, Bool.bne_true, Bool.false_bne, Bool.true_bne, Bool.not_eq_eq_eq_not, bne_self_eq_false])
    all_goals (repeat' split)
    all_goals first | rfl | (exfalso; omega) | (apply congrArg some; omega)
  · have FF : Im.fieldsI 15 2 false = ⟨0, 24575, 24575, 0, 4294967295, 1, 0, 0⟩ := rfl
    rw [FF] at h1 h2 q1 q2
    dsimp only at h1 h2 q1 q2
    have hd : rd = 0 := Nm.one_none h1
    have hn := Nm.one_in h2 (by decide)
    have hm := Nm.one_in q2 (by decide)
    clear h1 h2
    obtain ⟨x, hx⟩ : ∃ x, (0 : Int) % 4294967296 = x := ⟨_, rfl⟩
    simp only [searchC]
    cases it
    all_goals (try simp only [searchC, orI_nil, orI_ite2, orI_some, orI_nil, orI_none, z7_iff, Nm.opt, Nm.low, Nm.up, Bool.and_eq_true, Bool.or_eq_true, beq_iff_eq, decide_eq_true_eq, Bool.not_eq_true', bne_self_eq_false, Bool.false_eq_true, Bool.true_eq_false, Bool.not_true, Bool.not_false, bne_iff_ne, ne_eq, not_true_eq_false, not_false_eq_true, reduceCtorEq, true_and, and_true, false_and, and_false, if_true, if_false, ite_self, Int.reduceEq, Int.reduceBEq, Int.reduceLE, Int.reduceLT, Int.reduceSub, Int.reduceMul, true_or, or_true, or_false, false_or, and_self, Bool.bne_false, Bool.bne_true, Bool.false_bne, Bool.true_bne, Bool.not_eq_eq_eq_not, bne_self_eq_false])
    all_goals (repeat' split)
    all_goals first | rfl | (exfalso; omega) | (apply congrArg some; omega)
set_option linter.unusedSimpArgs false in
set_option maxHeartbeats 4000000 in
theorem enc_21 (cond rd rn rm imm mode list : Int) (s it : Bool) (hok : Nm.okB ⟨21, cond, rd, rn, rm, imm, mode, list, s⟩ = true) (hw : Nm.Wide list) :
    searchP (traitsI cond rd rn rm mode s it) 21 cond rd rn rm imm list formTab = Nm.rowI ⟨21, cond, rd, rn, rm, imm, mode, list, s⟩ it := by
  obtain ⟨_, h1, h2, h3, h4, h5, h6⟩ := Nm.ok_parts hok
  clear hok
  have h3' := Nm.last_cases h3
  clear h3
  dsimp only at h1 h2 h3' h4 h5 h6
  rw [search_c, show formTab.flatMap (candsOf 21) = cands 21 from rfl, cands_21]
  unfold Nm.rowI Nm.restI
  dsimp only
  have hl := Nm.list_most h4 0 (by decide) rfl hw
  have hc : cond = 0 := by simpa [Im.condB] using h5
  obtain rfl : false = s := Nm.flag_off h6 (by decide)
  clear h4 h5 h6 hw
  rcases h3' with ⟨rfl, q1, q2, rfl, rfl⟩ | ⟨rfl, q1, q2, q3, q4, rfl⟩ | ⟨rfl, q1, q2, rfl⟩
  · have FF : Im.fieldsI 21 0 false = ⟨24575, 24575, 24575, 0, 0, 0, 0, 0⟩ := rfl
    rw [FF] at h1 h2 q1 q2
    dsimp only at h1 h2 q1 q2
    exfalso; omega
  · have FF : Im.fieldsI 21 1 false = ⟨24575, 24575, 24575, 0, 0, 0, 0, 0⟩ := rfl
    rw [FF] at h1 h2 q1 q2 q3 q4
    dsimp only at h1 h2 q1 q2 q3 q4
    exfalso; omega
  · have FF : Im.fieldsI 21 2 false = ⟨24575, 24575, 24575, 0, 0, 0, 0, 0⟩ := rfl
    rw [FF] at h1 h2 q1 q2
    dsimp only at h1 h2 q1 q2
    have hd := Nm.one_in h1 (by decide)
    have hn := Nm.one_in h2 (by decide)
    have hm := Nm.one_in q2 (by decide)
    clear h1 h2
    obtain ⟨x, hx⟩ : ∃ x, (0 : Int) % 4294967296 = x := ⟨_, rfl⟩
    simp only [searchC]
    cases it
    all_goals (try simp only [searchC, orI_nil, orI_ite2, orI_some, orI_nil, orI_none, z7_iff, Nm.opt, Nm.low, Nm.up, Bool.and_eq_true, Bool.or_eq_true, beq_iff_eq, decide_eq_true_eq, Bool.not_eq_true', bne_self_eq_false, Bool.false_eq_true, Bool.true_eq_false, Bool.not_true, Bool.not_false, bne_iff_ne, ne_eq, not_true_eq_false, not_false_eq_true, reduceCtorEq, true_and, and_true, false_and, and_false, if_true, if_false, ite_self, Int.reduceEq, Int.reduceBEq, Int.reduceLE, Int.reduceLT, Int.reduceSub, Int.reduceMul, true_or, or_true, or_false, false_or, and_self, Bool.bne_false, Bool.bne_true, Bool.false_bne, Bool.true_bne, Bool.not_eq_eq_eq_not, bne_self_eq_false])
    all_goals (repeat' split)
    all_goals first | rfl | (exfalso; omega) | (apply congrArg some; omega)
set_option linter.unusedSimpArgs false in
set_option maxHeartbeats 4000000 in
theorem enc_22 (cond rd rn rm imm mode list : Int) (s it : Bool) (hok : Nm.okB ⟨22, cond, rd, rn, rm, imm, mode, list, s⟩ = true) (hw : Nm.Wide list) :
    searchP (traitsI cond rd rn rm mode s it) 22 cond rd rn rm imm list formTab = Nm.rowI ⟨22, cond, rd, rn, rm, imm, mode, list, s⟩ it := by
  obtain ⟨_, h1, h2, h3, h4, h5, h6⟩ := Nm.ok_parts hok
  clear hok
  have h3' := Nm.last_cases h3
  clear h3
  dsimp only at h1 h2 h3' h4 h5 h6
  rw [search_c, show formTab.flatMap (candsOf 22) = cands 22 from rfl, cands_22]
  unfold Nm.rowI Nm.restI
  dsimp only
  have hl := Nm.list_most h4 0 (by decide) rfl hw
  have hc : cond = 0 := by simpa [Im.condB] using h5
  obtain rfl : false = s := Nm.flag_off h6 (by decide)
  clear h4 h5 h6 hw
  rcases h3' with ⟨rfl, q1, q2, rfl, rfl⟩ | ⟨rfl, q1, q2, q3, q4, rfl⟩ | ⟨rfl, q1, q2, rfl⟩
  · have FF : Im.fieldsI 22 0 false = ⟨24575, 24575, 24575, 0, 0, 0, 0, 0⟩ := rfl
    rw [FF] at h1 h2 q1 q2
    dsimp only at h1 h2 q1 q2
    exfalso; omega
  · have FF : Im.fieldsI 22 1 false = ⟨24575, 24575, 24575, 0, 0, 0, 0, 0⟩ := rfl
    rw [FF] at h1 h2 q1 q2 q3 q4
    dsimp only at h1 h2 q1 q2 q3 q4
    exfalso; omega
  · have FF : Im.fieldsI 22 2 false = ⟨24575, 24575, 24575, 0, 0, 0, 0, 0⟩ := rfl
    rw [FF] at h1 h2 q1 q2
    dsimp only at h1 h2 q1 q2
    have hd := Nm.one_in h1 (by decide)
    have hn := Nm.one_in h2 (by decide)
    have hm := Nm.one_in q2 (by decide)
    clear h1 h2
    obtain ⟨x, hx⟩ : ∃ x, (0 : Int) % 4294967296 = x := ⟨_, rfl⟩
    simp only [searchC]
    cases it
    all_goals (try simp only [searchC, orI_nil, orI_ite2, orI_some, orI_nil, orI_none, z7_iff, Nm.opt, Nm.low, Nm.up, Bool.and_eq_true, Bool.or_eq_true, beq_iff_eq, decide_eq_true_eq, Bool.not_eq_true', bne_self_eq_false, Bool.false_eq_true, Bool.true_eq_false, Bool.not_true, Bool.not_false, bne_iff_ne, ne_eq, not_true_eq_false, not_false_eq_true, reduceCtorEq, true_and, and_true, false_and, and_false, if_true, if_false, ite_self, Int.reduceEq, Int.reduceBEq, Int.reduceLE, Int.reduceLT, Int.reduceSub, Int.reduceMul, true_or, or_true, or_false, false_or, and_self, Bool.bne_false, Bool.bne_true, Bool.false_bne, Bool.true_bne, Bool.not_eq_eq_eq_not, bne_self_eq_false])
    all_goals (repeat' split)
    all_goals first | rfl | (exfalso; omega) | (apply congrArg some; omega)
set_option linter.unusedSimpArgs false in
set_option maxHeartbeats 4000000 in
theorem enc_23 (cond rd rn rm imm mode list : Int) (s it : Bool) (hok : Nm.okB ⟨23, cond, rd, rn, rm, imm, mode, list, s⟩ = true) (hw : Nm.Wide list) :
    searchP (traitsI cond rd rn rm mode s it) 23 cond rd rn rm imm list formTab = Nm.rowI ⟨23, cond, rd, rn, rm, imm, mode, list, s⟩ it := by
  obtain ⟨_, h1, h2, h3, h4, h5, h6⟩ := Nm.ok_parts hok
  clear hok
  have h3' := Nm.last_cases h3
  clear h3
  dsimp only at h1 h2 h3' h4 h5 h6
  rw [search_c, show formTab.flatMap (candsOf 23) = cands 23 from rfl, cands_23]
  unfold Nm.rowI Nm.restI
  dsimp only
  have hl := Nm.list_most h4 0 (by decide) rfl hw
  have hc : cond = 0 := by simpa [Im.condB] using h5
  obtain rfl : false = s := Nm.flag_off h6 (by decide)
  clear h4 h5 h6 hw
  rcases h3' with ⟨rfl, q1, q2, rfl, rfl⟩ | ⟨rfl, q1, q2, q3, q4, rfl⟩ | ⟨rfl, q1, q2, rfl⟩
  · have FF : Im.fieldsI 23 0 false = ⟨24575, 0, 0, 0, 65535, 1, 0, 0⟩ := rfl
    rw [FF] at h1 h2 q1 q2
    dsimp only at h1 h2 q1 q2
    exfalso; omega
  · have FF : Im.fieldsI 23 1 false = ⟨24575, 0, 0, 0, 65535, 1, 0, 0⟩ := rfl
    rw [FF] at h1 h2 q1 q2 q3 q4
    dsimp only at h1 h2 q1 q2 q3 q4
    have hd := Nm.one_in h1 (by decide)
    have hn : rn = 0 := Nm.one_none h2
    clear h1 h2
    obtain ⟨x, hx⟩ : ∃ x, imm % 4294967296 = x := ⟨_, rfl⟩
    simp only [searchC]
    cases it
    all_goals (try simp only [searchC, orI_nil, orI_ite2, orI_some, orI_nil, orI_none, z7_iff, Nm.opt, Nm.low, Nm.up, Bool.and_eq_true, Bool.or_eq_true, beq_iff_eq, decide_eq_true_eq, Bool.not_eq_true', bne_self_eq_false, Bool.false_eq_true, Bool.true_eq_false, Bool.not_true, Bool.not_false, bne_iff_ne, ne_eq, not_true_eq_false, not_false_eq_true, reduceCtorEq, true_and, and_true, false_and, and_false, if_true, if_false, ite_self, Int.reduceEq, Int.reduceBEq, Int.reduceLE, Int.reduceLT, Int.reduceSub, Int.reduceMul, true_or, or_true, or_false, false_or, and_self, Bool.bne_false, Bool.bne_true, Bool.false_bne, Bool.true_bne, Bool.not_eq_eq_eq_not, bne_self_eq_false])
    all_goals (repeat' split)
    all_goals first | rfl | (exfalso; omega) | (apply congrArg some; omega)
  · have FF : Im.fieldsI 23 2 false = ⟨24575, 0, 0, 0, 65535, 1, 0, 0⟩ := rfl
    rw [FF] at h1 h2 q1 q2
    dsimp only at h1 h2 q1 q2
    exfalso; omega
set_option linter.unusedSimpArgs false in
set_option maxHeartbeats 4000000 in
theorem enc_24 (cond rd rn rm imm mode list : Int) (s it : Bool) (hok : Nm.okB ⟨24, cond, rd, rn, rm, imm, mode, list, s⟩ = true) (hw : Nm.Wide list) :
    searchP (traitsI cond rd rn rm mode s it) 24 cond rd rn rm imm list formTab = Nm.rowI ⟨24, cond, rd, rn, rm, imm, mode, list, s⟩ it := by
  obtain ⟨_, h1, h2, h3, h4, h5, h6⟩ := Nm.ok_parts hok
  clear hok
  have h3' := Nm.last_cases h3
  clear h3
  dsimp only at h1 h2 h3' h4 h5 h6
  rw [search_c, show formTab.flatMap (candsOf 24) = cands 24 from rfl, cands_24]
  unfold Nm.rowI Nm.restI
  dsimp only
  have hl := Nm.list_most h4 0 (by decide) rfl hw
  have hc : cond = 0 := by simpa [Im.condB] using h5
  obtain rfl : false = s := Nm.flag_off h6 (by decide)
  clear h4 h5 h6 hw
  rcases h3' with ⟨rfl, q1, q2, rfl, rfl⟩ | ⟨rfl, q1, q2, q3, q4, rfl⟩ | ⟨rfl, q1, q2, rfl⟩
  · have FF : Im.fieldsI 24 0 false = ⟨24575, 0, 0, 0, 65535, 1, 0, 0⟩ := rfl
    rw [FF] at h1 h2 q1 q2
    dsimp only at h1 h2 q1 q2
    exfalso; omega
  · have FF : Im.fieldsI 24 1 false = ⟨24575, 0, 0, 0, 65535, 1, 0, 0⟩ := rfl
    rw [FF] at h1 h2 q1 q2 q3 q4
    dsimp only at h1 h2 q1 q2 q3 q4
    have hd := Nm.one_in h1 (by decide)
    have hn : rn = 0 := Nm.one_none h2
    clear h1 h2
    obtain ⟨x, hx⟩ : ∃ x, imm % 4294967296 = x := ⟨_, rfl⟩
    simp only [searchC]
    cases it
    all_goals (try simp only [searchC, orI_nil, orI_ite2, orI_some, orI_nil, orI_none, z7_iff, Nm.opt, Nm.low, Nm.up, Bool.and_eq_true, Bool.or_eq_true, beq_iff_eq, decide_eq_true_eq, Bool.not_eq_true', bne_self_eq_false, Bool.false_eq_true, Bool.true_eq_false, Bool.not_true, Bool.not_false, bne_iff_ne, ne_eq, not_true_eq_false, not_false_eq_true, reduceCtorEq, true_and, and_true, false_and, and_false, if_true, if_false, ite_self, Int.reduceEq, Int.reduceBEq, Int.reduceLE, Int.reduceLT, Int.reduceSub, Int.reduceMul, true_or, or_true, or_false, false_or, and_self, Bool.bne_false, Bool.bne_true, Bool.false_bne, Bool.true_bne, Bool.not_eq_eq_eq_not, bne_self_eq_false])
    all_goals (repeat' split)
    all_goals first | rfl | (exfalso; omega) | (apply congrArg some; omega)
  · have FF : Im.fieldsI 24 2 false = ⟨24575, 0, 0, 0, 65535, 1, 0, 0⟩ := rfl
    rw [FF] at h1 h2 q1 q2
    dsimp only at h1 h2 q1 q2
    exfalso; omega
set_option linter.unusedSimpArgs false in
set_option maxHeartbeats 4000000 in
theorem enc_31 (cond rd rn rm imm mode list : Int) (s it : Bool) (hok : Nm.okB ⟨31, cond, rd, rn, rm, imm, mode, list, s⟩ = true) (hw : Nm.Wide list) :
    searchP (traitsI cond rd rn rm mode s it) 31 cond rd rn rm imm list formTab = Nm.rowI ⟨31, cond, rd, rn, rm, imm, mode, list, s⟩ it := by
  obtain ⟨_, h1, h2, h3, h4, h5, h6⟩ := Nm.ok_parts hok
  clear hok
  have h3' := Nm.last_cases h3
  clear h3
  dsimp only at h1 h2 h3' h4 h5 h6
  rw [search_c, show formTab.flatMap (candsOf 31) = cands 31 from rfl, cands_31]
  unfold Nm.rowI Nm.restI
  dsimp only
  have hl := Nm.list_most h4 24575 (by decide) rfl hw
  have hc : cond = 0 := by simpa [Im.condB] using h5
  obtain rfl : false = s := Nm.flag_off h6 (by decide)
  clear h4 h5 h6 hw
  rcases h3' with ⟨rfl, q1, q2, rfl, rfl⟩ | ⟨rfl, q1, q2, q3, q4, rfl⟩ | ⟨rfl, q1, q2, rfl⟩
  · have FF : Im.fieldsI 31 0 false = ⟨0, 24575, 0, 0, 0, 0, 24575, 2⟩ := rfl
    rw [FF] at h1 h2 q1 q2
    dsimp only at h1 h2 q1 q2
    have hd : rd = 0 := Nm.one_none h1
    have hn := Nm.one_in h2 (by decide)
    clear h1 h2
    obtain ⟨x, hx⟩ : ∃ x, (0 : Int) % 4294967296 = x := ⟨_, rfl⟩
    simp only [searchC]
    rw [fill_22_1 cond rd rn 0 0 list x hx (by omega) (by omega) (by omega) (by omega) (by omega) (by omega) (by omega) (by omega) (by omega) (by omega)]
    cases it
    all_goals (try simp only [searchC, show row_22.asks = 0 from rfl, asks_0, orI_ite2, orI_some, orI_nil, orI_none, z7_iff, Nm.opt, Nm.low, Nm.up, Bool.and_eq_true, Bool.or_eq_true, beq_iff_eq, decide_eq_true_eq, Bool.not_eq_true', bne_self_eq_false, Bool.false_eq_true, Bool.true_eq_false, Bool.not_true, Bool.not_false, bne_iff_ne, ne_eq, not_true_eq_false, not_false_eq_true, reduceCtorEq, true_and, and_true, false_and, and_false, if_true, if_false, ite_self, Int.reduceEq, Int.reduceBEq, Int.reduceLE, Int.reduceLT, Int.reduceSub, Int.reduceMul, true_or, or_true, or_false, false_or, and_self, Bool.bne_false, Bool.bne_true, Bool.false_bne, Bool.true_bne, Bool.not_eq_eq_eq_not, bne_self_eq_false])
    all_goals (repeat' split)
    all_goals first | rfl | (exfalso; omega) | (apply congrArg some; omega)
  · have FF : Im.fieldsI 31 1 false = ⟨0, 24575, 0, 0, 0, 0, 24575, 2⟩ := rfl
    rw [FF] at h1 h2 q1 q2 q3 q4
    dsimp only at h1 h2 q1 q2 q3 q4
    exfalso; omega
  · have FF : Im.fieldsI 31 2 false = ⟨0, 24575, 0, 0, 0, 0, 24575, 2⟩ := rfl
    rw [FF] at h1 h2 q1 q2
    dsimp only at h1 h2 q1 q2
    exfalso; omega
set_option linter.unusedSimpArgs false in
set_option maxHeartbeats 4000000 in
theorem enc_32 (cond rd rn rm imm mode list : Int) (s it : Bool) (hok : Nm.okB ⟨32, cond, rd, rn, rm, imm, mode, list, s⟩ = true) (hw : Nm.Wide list) :
    searchP (traitsI cond rd rn rm mode s it) 32 cond rd rn rm imm list formTab = Nm.rowI ⟨32, cond, rd, rn, rm, imm, mode, list, s⟩ it := by
  obtain ⟨_, h1, h2, h3, h4, h5, h6⟩ := Nm.ok_parts hok
  clear hok
  have h3' := Nm.last_cases h3
  clear h3
  dsimp only at h1 h2 h3' h4 h5 h6
  rw [search_c, show formTab.flatMap (candsOf 32) = cands 32 from rfl, cands_32]
  unfold Nm.rowI Nm.restI
  dsimp only
  have hl := Nm.list_most h4 24575 (by decide) rfl hw
  have hc : cond = 0 := by simpa [Im.condB] using h5
  obtain rfl : false = s := Nm.flag_off h6 (by decide)
  clear h4 h5 h6 hw
  rcases h3' with ⟨rfl, q1, q2, rfl, rfl⟩ | ⟨rfl, q1, q2, q3, q4, rfl⟩ | ⟨rfl, q1, q2, rfl⟩
  · have FF : Im.fieldsI 32 0 false = ⟨0, 24575, 0, 0, 0, 0, 24575, 2⟩ := rfl
    rw [FF] at h1 h2 q1 q2
    dsimp only at h1 h2 q1 q2
    have hd : rd = 0 := Nm.one_none h1
    have hn := Nm.one_in h2 (by decide)
    clear h1 h2
    obtain ⟨x, hx⟩ : ∃ x, (0 : Int) % 4294967296 = x := ⟨_, rfl⟩
    simp only [searchC]
    rw [fill_22_0 cond rd rn 0 0 list x hx (by omega) (by omega) (by omega) (by omega) (by omega) (by omega) (by omega) (by omega) (by omega) (by omega)]
    cases it
    all_goals (try simp only [searchC, show row_22.asks = 0 from rfl, asks_0, orI_ite2, orI_some, orI_nil, orI_none, z7_iff, Nm.opt, Nm.low, Nm.up, Bool.and_eq_true, Bool.or_eq_true, beq_iff_eq, decide_eq_true_eq, Bool.not_eq_true', bne_self_eq_false, Bool.false_eq_true, Bool.true_eq_false, Bool.not_true, Bool.not_false, bne_iff_ne, ne_eq, not_true_eq_false, not_false_eq_true, reduceCtorEq, true_and, and_true, false_and, and_false, if_true, if_false, ite_self, Int.reduceEq, Int.reduceBEq, Int.reduceLE, Int.reduceLT, Int.reduceSub, Int.reduceMul, true_or, or_true, or_false, false_or, and_self, Bool.bne_false, Bool.bne_true, Bool.false_bne, Bool.true_bne, Bool.not_eq_eq_eq_not, bne_self_eq_false])
    all_goals (repeat' split)
    all_goals first | rfl | (exfalso; omega) | (apply congrArg some; omega)
  · have FF : Im.fieldsI 32 1 false = ⟨0, 24575, 0, 0, 0, 0, 24575, 2⟩ := rfl
    rw [FF] at h1 h2 q1 q2 q3 q4
    dsimp only at h1 h2 q1 q2 q3 q4
    exfalso; omega
  · have FF : Im.fieldsI 32 2 false = ⟨0, 24575, 0, 0, 0, 0, 24575, 2⟩ := rfl
    rw [FF] at h1 h2 q1 q2
    dsimp only at h1 h2 q1 q2
    exfalso; omega
set_option linter.unusedSimpArgs false in
set_option maxHeartbeats 4000000 in
theorem enc_33 (cond rd rn rm imm mode list : Int) (s it : Bool) (hok : Nm.okB ⟨33, cond, rd, rn, rm, imm, mode, list, s⟩ = true) (hw : Nm.Wide list) :
    searchP (traitsI cond rd rn rm mode s it) 33 cond rd rn rm imm list formTab = Nm.rowI ⟨33, cond, rd, rn, rm, imm, mode, list, s⟩ it := by
  obtain ⟨_, h1, h2, h3, h4, h5, h6⟩ := Nm.ok_parts hok
  clear hok
  have h3' := Nm.last_cases h3
  clear h3
  dsimp only at h1 h2 h3' h4 h5 h6
  rw [search_c, show formTab.flatMap (candsOf 33) = cands 33 from rfl, cands_33]
  unfold Nm.rowI Nm.restI
  dsimp only
  have hl := Nm.list_most h4 24575 (by decide) rfl hw
  have hc : cond = 0 := by simpa [Im.condB] using h5
  obtain rfl : false = s := Nm.flag_off h6 (by decide)
  clear h4 h5 h6 hw
  rcases h3' with ⟨rfl, q1, q2, rfl, rfl⟩ | ⟨rfl, q1, q2, q3, q4, rfl⟩ | ⟨rfl, q1, q2, rfl⟩
  · have FF : Im.fieldsI 33 0 false = ⟨0, 0, 0, 0, 0, 0, 24575, 1⟩ := rfl
    rw [FF] at h1 h2 q1 q2
    dsimp only at h1 h2 q1 q2
    have hd : rd = 0 := Nm.one_none h1
    have hn : rn = 0 := Nm.one_none h2
    clear h1 h2
    obtain ⟨x, hx⟩ : ∃ x, (0 : Int) % 4294967296 = x := ⟨_, rfl⟩
    simp only [searchC]
    rw [fill_23_0 cond rd rn 0 0 list x hx (by omega) (by omega) (by omega) (by omega) (by omega) (by omega) (by omega) (by omega) (by omega) (by omega)]
    cases it
    all_goals (try simp only [searchC, show row_23.asks = 0 from rfl, asks_0, orI_ite2, orI_some, orI_nil, orI_none, z7_iff, Nm.opt, Nm.low, Nm.up, Bool.and_eq_true, Bool.or_eq_true, beq_iff_eq, decide_eq_true_eq, Bool.not_eq_true', bne_self_eq_false, Bool.false_eq_true, Bool.true_eq_false, Bool.not_true, Bool.not_false, bne_iff_ne, ne_eq, not_true_eq_false, not_false_eq_true, reduceCtorEq, true_and, and_true, false_and, and_false, if_true, if_false, ite_self, Int.reduceEq, Int.reduceBEq, Int.reduceLE, Int.reduceLT, Int.reduceSub, Int.reduceMul, true_or, or_true, or_false, false_or, and_self, Bool.bne_false, Bool.bne_true, Bool.false_bne, Bool.true_bne, Bool.not_eq_eq_eq_not, bne_self_eq_false])
    all_goals (repeat' split)
    all_goals first | rfl | (exfalso; omega) | (apply congrArg some; omega)
  · have FF : Im.fieldsI 33 1 false = ⟨0, 0, 0, 0, 0, 0, 24575, 1⟩ := rfl
    rw [FF] at h1 h2 q1 q2 q3 q4
    dsimp only at h1 h2 q1 q2 q3 q4
    exfalso; omega
  · have FF : Im.fieldsI 33 2 false = ⟨0, 0, 0, 0, 0, 0, 24575, 1⟩ := rfl
    rw [FF] at h1 h2 q1 q2
    dsimp only at h1 h2 q1 q2
    exfalso; omega
set_option linter.unusedSimpArgs false in
set_option maxHeartbeats 4000000 in
theorem enc_34 (cond rd rn rm imm mode list : Int) (s it : Bool) (hok : Nm.okB ⟨34, cond, rd, rn, rm, imm, mode, list, s⟩ = true) (hw : Nm.Wide list) :
    searchP (traitsI cond rd rn rm mode s it) 34 cond rd rn rm imm list formTab = Nm.rowI ⟨34, cond, rd, rn, rm, imm, mode, list, s⟩ it := by
  obtain ⟨_, h1, h2, h3, h4, h5, h6⟩ := Nm.ok_parts hok
  clear hok
  have h3' := Nm.last_cases h3
  clear h3
  dsimp only at h1 h2 h3' h4 h5 h6
  rw [search_c, show formTab.flatMap (candsOf 34) = cands 34 from rfl, cands_34]
  unfold Nm.rowI Nm.restI
  dsimp only
  have hl := Nm.list_most h4 57343 (by decide) rfl hw
  have hc : cond = 0 := by simpa [Im.condB] using h5
  obtain rfl : false = s := Nm.flag_off h6 (by decide)
  clear h4 h5 h6 hw
  rcases h3' with ⟨rfl, q1, q2, rfl, rfl⟩ | ⟨rfl, q1, q2, q3, q4, rfl⟩ | ⟨rfl, q1, q2, rfl⟩
  · have FF : Im.fieldsI 34 0 false = ⟨0, 0, 0, 0, 0, 0, 57343, 1⟩ := rfl
    rw [FF] at h1 h2 q1 q2
    dsimp only at h1 h2 q1 q2
    have hd : rd = 0 := Nm.one_none h1
    have hn : rn = 0 := Nm.one_none h2
    clear h1 h2
    obtain ⟨x, hx⟩ : ∃ x, (0 : Int) % 4294967296 = x := ⟨_, rfl⟩
    simp only [searchC]
    rw [fill_24_0 cond rd rn 0 0 list x hx (by omega) (by omega) (by omega) (by omega) (by omega) (by omega) (by omega) (by omega) (by omega) (by omega)]
    cases it
    all_goals (try simp only [searchC, show row_24.asks = 0 from rfl, asks_0, orI_ite2, orI_some, orI_nil, orI_none, z7_iff, Nm.opt, Nm.low, Nm.up, Bool.and_eq_true, Bool.or_eq_true, beq_iff_eq, decide_eq_true_eq, Bool.not_eq_true', bne_self_eq_false, Bool.false_eq_true, Bool.true_eq_false, Bool.not_true, Bool.not_false, bne_iff_ne, ne_eq, not_true_eq_false, not_false_eq_true, reduceCtorEq, true_and, and_true, false_and, and_false, if_true, if_false, ite_self, Int.reduceEq, Int.reduceBEq, Int.reduceLE, Int.reduceLT, Int.reduceSub, Int.reduceMul, true_or, or_true, or_false, false_or, and_self, Bool.bne_false, Bool.bne_true, Bool.false_bne, Bool.true_bne, Bool.not_eq_eq_eq_not, bne_self_eq_false])
    all_goals (repeat' split)
    all_goals first | rfl | (exfalso; omega) | (apply congrArg some; omega)
  · have FF : Im.fieldsI 34 1 false = ⟨0, 0, 0, 0, 0, 0, 57343, 1⟩ := rfl
    rw [FF] at h1 h2 q1 q2 q3 q4
    dsimp only at h1 h2 q1 q2 q3 q4
    exfalso; omega
  · have FF : Im.fieldsI 34 2 false = ⟨0, 0, 0, 0, 0, 0, 57343, 1⟩ := rfl
    rw [FF] at h1 h2 q1 q2
    dsimp only at h1 h2 q1 q2
    exfalso; omega
set_option linter.unusedSimpArgs false in
set_option maxHeartbeats 4000000 in
theorem enc_36 (cond rd rn rm imm mode list : Int) (s it : Bool) (hok : Nm.okB ⟨36, cond, rd, rn, rm, imm, mode, list, s⟩ = true) (hw : Nm.Wide list) :
    searchP (traitsI cond rd rn rm mode s it) 36 cond rd rn rm imm list formTab = Nm.rowI ⟨36, cond, rd, rn, rm, imm, mode, list, s⟩ it := by
  obtain ⟨_, h1, h2, h3, h4, h5, h6⟩ := Nm.ok_parts hok
  clear hok
  have h3' := Nm.last_cases h3
  clear h3
  dsimp only at h1 h2 h3' h4 h5 h6
  rw [search_c, show formTab.flatMap (candsOf 36) = cands 36 from rfl, cands_36]
  unfold Nm.rowI Nm.restI
  dsimp only
  have hl := Nm.list_most h4 0 (by decide) rfl hw
  have hc : cond = 0 := by simpa [Im.condB] using h5
  obtain rfl : false = s := Nm.flag_off h6 (by decide)
  clear h4 h5 h6 hw
  rcases h3' with ⟨rfl, q1, q2, rfl, rfl⟩ | ⟨rfl, q1, q2, q3, q4, rfl⟩ | ⟨rfl, q1, q2, rfl⟩
  · have FF : Im.fieldsI 36 0 false = ⟨0, 0, 0, -16777216, 16777214, 2, 0, 0⟩ := rfl
    rw [FF] at h1 h2 q1 q2
    dsimp only at h1 h2 q1 q2
    exfalso; omega
  · have FF : Im.fieldsI 36 1 false = ⟨0, 0, 0, -16777216, 16777214, 2, 0, 0⟩ := rfl
    rw [FF] at h1 h2 q1 q2 q3 q4
    dsimp only at h1 h2 q1 q2 q3 q4
    have hd : rd = 0 := Nm.one_none h1
    have hn : rn = 0 := Nm.one_none h2
    have he := tmod_even q4
    clear h1 h2
    obtain ⟨x, hx⟩ : ∃ x, imm % 4294967296 = x := ⟨_, rfl⟩
    simp only [searchC]
    cases it
    all_goals (try simp only [searchC, orI_nil, orI_ite2, orI_some, orI_nil, orI_none, z7_iff, Nm.opt, Nm.low, Nm.up, Bool.and_eq_true, Bool.or_eq_true, beq_iff_eq, decide_eq_true_eq, Bool.not_eq_true', bne_self_eq_false, Bool.false_eq_true, Bool.true_eq_false, Bool.not_true, Bool.not_false, bne_iff_ne, ne_eq, not_true_eq_false, not_false_eq_true, reduceCtorEq, true_and, and_true, false_and, and_false, if_true, if_false, ite_self, Int.reduceEq, Int.reduceBEq, Int.reduceLE, Int.reduceLT, Int.reduceSub, Int.reduceMul, true_or, or_true, or_false, false_or, and_self, Bool.bne_false, Bool.bne_true, Bool.false_bne, Bool.true_bne, Bool.not_eq_eq_eq_not, bne_self_eq_false])
    all_goals (repeat' split)
    all_goals first | rfl | (exfalso; omega) | (apply congrArg some; omega)
  · have FF : Im.fieldsI 36 2 false = ⟨0, 0, 0, -16777216, 16777214, 2, 0, 0⟩ := rfl
    rw [FF] at h1 h2 q1 q2
    dsimp only at h1 h2 q1 q2
    exfalso; omega
set_option linter.unusedSimpArgs false in
set_option maxHeartbeats 4000000 in
theorem enc_39 (cond rd rn rm imm mode list : Int) (s it : Bool) (hok : Nm.okB ⟨39, cond, rd, rn, rm, imm, mode, list, s⟩ = true) (hw : Nm.Wide list) :
    searchP (traitsI cond rd rn rm mode s it) 39 cond rd rn rm imm list formTab = Nm.rowI ⟨39, cond, rd, rn, rm, imm, mode, list, s⟩ it := by
  obtain ⟨_, h1, h2, h3, h4, h5, h6⟩ := Nm.ok_parts hok
  clear hok
  have h3' := Nm.last_cases h3
  clear h3
  dsimp only at h1 h2 h3' h4 h5 h6
  rw [search_c, show formTab.flatMap (candsOf 39) = cands 39 from rfl, cands_39]
  unfold Nm.rowI Nm.restI
  dsimp only
  have hl := Nm.list_most h4 0 (by decide) rfl hw
  have hc : cond = 0 := by simpa [Im.condB] using h5
  obtain rfl : false = s := Nm.flag_off h6 (by decide)
  clear h4 h5 h6 hw
  rcases h3' with ⟨rfl, q1, q2, rfl, rfl⟩ | ⟨rfl, q1, q2, q3, q4, rfl⟩ | ⟨rfl, q1, q2, rfl⟩
  · have FF : Im.fieldsI 39 0 false = ⟨0, 0, 32767, 0, 0, 0, 0, 0⟩ := rfl
    rw [FF] at h1 h2 q1 q2
    dsimp only at h1 h2 q1 q2
    exfalso; omega
  · have FF : Im.fieldsI 39 1 false = ⟨0, 0, 32767, 0, 0, 0, 0, 0⟩ := rfl
    rw [FF] at h1 h2 q1 q2 q3 q4
    dsimp only at h1 h2 q1 q2 q3 q4
    exfalso; omega
  · have FF : Im.fieldsI 39 2 false = ⟨0, 0, 32767, 0, 0, 0, 0, 0⟩ := rfl
    rw [FF] at h1 h2 q1 q2
    dsimp only at h1 h2 q1 q2
    have hd : rd = 0 := Nm.one_none h1
    have hn : rn = 0 := Nm.one_none h2
    have hm := Nm.one_in q2 (by decide)
    clear h1 h2
    obtain ⟨x, hx⟩ : ∃ x, (0 : Int) % 4294967296 = x := ⟨_, rfl⟩
    simp only [searchC]
    rw [fill_28_0 cond rd rn rm 0 list x hx (by omega) (by omega) (by omega) (by omega) (by omega) (by omega) (by omega) (by omega) (by omega) (by omega)]
    cases it
    all_goals (try simp only [searchC, show row_28.asks = 0 from rfl, asks_0, orI_ite2, orI_some, orI_nil, orI_none, z7_iff, Nm.opt, Nm.low, Nm.up, Bool.and_eq_true, Bool.or_eq_true, beq_iff_eq, decide_eq_true_eq, Bool.not_eq_true', bne_self_eq_false, Bool.false_eq_true, Bool.true_eq_false, Bool.not_true, Bool.not_false, bne_iff_ne, ne_eq, not_true_eq_false, not_false_eq_true, reduceCtorEq, true_and, and_true, false_and, and_false, if_true, if_false, ite_self, Int.reduceEq, Int.reduceBEq, Int.reduceLE, Int.reduceLT, Int.reduceSub, Int.reduceMul, true_or, or_true, or_false, false_or, and_self, Bool.bne_false, Bool.bne_true, Bool.false_bne, Bool.true_bne, Bool.not_eq_eq_eq_not, bne_self_eq_false])
    all_goals (repeat' split)
    all_goals first | rfl | (exfalso; omega) | (apply congrArg some; omega)
set_option linter.unusedSimpArgs false in
set_option maxHeartbeats 4000000 in
theorem enc_40 (cond rd rn rm imm mode list : Int) (s it : Bool) (hok : Nm.okB ⟨40, cond, rd, rn, rm, imm, mode, list, s⟩ = true) (hw : Nm.Wide list) :
    searchP (traitsI cond rd rn rm mode s it) 40 cond rd rn rm imm list formTab = Nm.rowI ⟨40, cond, rd, rn, rm, imm, mode, list, s⟩ it := by
  obtain ⟨_, h1, h2, h3, h4, h5, h6⟩ := Nm.ok_parts hok
  clear hok
  have h3' := Nm.last_cases h3
  clear h3
  dsimp only at h1 h2 h3' h4 h5 h6
  rw [search_c, show formTab.flatMap (candsOf 40) = cands 40 from rfl, cands_40]
  unfold Nm.rowI Nm.restI
  dsimp only
  have hl := Nm.list_most h4 0 (by decide) rfl hw
  have hc : cond = 0 := by simpa [Im.condB] using h5
  obtain rfl : false = s := Nm.flag_off h6 (by decide)
  clear h4 h5 h6 hw
  rcases h3' with ⟨rfl, q1, q2, rfl, rfl⟩ | ⟨rfl, q1, q2, q3, q4, rfl⟩ | ⟨rfl, q1, q2, rfl⟩
  · have FF : Im.fieldsI 40 0 false = ⟨24575, 0, 0, -4095, 4095, 1, 0, 0⟩ := rfl
    rw [FF] at h1 h2 q1 q2
    dsimp only at h1 h2 q1 q2
    exfalso; omega
  · have FF : Im.fieldsI 40 1 false = ⟨24575, 0, 0, -4095, 4095, 1, 0, 0⟩ := rfl
    rw [FF] at h1 h2 q1 q2 q3 q4
    dsimp only at h1 h2 q1 q2 q3 q4
    have hd := Nm.one_in h1 (by decide)
    have hn : rn = 0 := Nm.one_none h2
    clear h1 h2
    obtain ⟨x, hx⟩ : ∃ x, imm % 4294967296 = x := ⟨_, rfl⟩
    simp only [searchC]
    rw [fill_29_0 cond rd rn 0 imm list x hx (by omega) (by omega) (by omega) (by omega) (by omega) (by omega) (by omega) (by omega) (by omega) (by omega)]
    cases it
    all_goals (try simp only [searchC, show row_29.asks = 0 from rfl, asks_0, orI_ite2, orI_some, orI_nil, orI_none, z7_iff, Nm.opt, Nm.low, Nm.up, Bool.and_eq_true, Bool.or_eq_true, beq_iff_eq, decide_eq_true_eq, Bool.not_eq_true', bne_self_eq_false, Bool.false_eq_true, Bool.true_eq_false, Bool.not_true, Bool.not_false, bne_iff_ne, ne_eq, not_true_eq_false, not_false_eq_true, reduceCtorEq, true_and, and_true, false_and, and_false, if_true, if_false, ite_self, Int.reduceEq, Int.reduceBEq, Int.reduceLE, Int.reduceLT, Int.reduceSub, Int.reduceMul, true_or, or_true, or_false, false_or, and_self, Bool.bne_false, Bool.bne_true, Bool.false_bne, Bool.true_bne, Bool.not_eq_eq_eq_not, bne_self_eq_false])
    all_goals (repeat' split)
    all_goals first | rfl | (exfalso; omega) | (apply congrArg some; omega)
  · have FF : Im.fieldsI 40 2 false = ⟨24575, 0, 0, -4095, 4095, 1, 0, 0⟩ := rfl
    rw [FF] at h1 h2 q1 q2
    dsimp only at h1 h2 q1 q2
    exfalso; omega
set_option linter.unusedSimpArgs false in
set_option maxHeartbeats 4000000 in
theorem enc_41 (cond rd rn rm imm mode list : Int) (s it : Bool) (hok : Nm.okB ⟨41, cond, rd, rn, rm, imm, mode, list, s⟩ = true) (hw : Nm.Wide list) :
    searchP (traitsI cond rd rn rm mode s it) 41 cond rd rn rm imm list formTab = Nm.rowI ⟨41, cond, rd, rn, rm, imm, mode, list, s⟩ it := by
  obtain ⟨_, h1, h2, h3, h4, h5, h6⟩ := Nm.ok_parts hok
  clear hok
  have h3' := Nm.last_cases h3
  clear h3
  dsimp only at h1 h2 h3' h4 h5 h6
  rw [search_c, show formTab.flatMap (candsOf 41) = cands 41 from rfl, cands_41]
  unfold Nm.rowI Nm.restI
  dsimp only
  have hl := Nm.list_most h4 0 (by decide) rfl hw
  have hc : cond = 0 := by simpa [Im.condB] using h5
  obtain rfl : false = s := Nm.flag_off h6 (by decide)
  clear h4 h5 h6 hw
  rcases h3' with ⟨rfl, q1, q2, rfl, rfl⟩ | ⟨rfl, q1, q2, q3, q4, rfl⟩ | ⟨rfl, q1, q2, rfl⟩
  · have FF : Im.fieldsI 41 0 false = ⟨24575, 0, 0, -4095, 4095, 1, 0, 0⟩ := rfl
    rw [FF] at h1 h2 q1 q2
    dsimp only at h1 h2 q1 q2
    exfalso; omega
  · have FF : Im.fieldsI 41 1 false = ⟨24575, 0, 0, -4095, 4095, 1, 0, 0⟩ := rfl
    rw [FF] at h1 h2 q1 q2 q3 q4
    dsimp only at h1 h2 q1 q2 q3 q4
    have hd := Nm.one_in h1 (by decide)
    have hn : rn = 0 := Nm.one_none h2
    clear h1 h2
    obtain ⟨x, hx⟩ : ∃ x, imm % 4294967296 = x := ⟨_, rfl⟩
    simp only [searchC]
    rw [fill_29_1 cond rd rn 0 imm list x hx (by omega) (by omega) (by omega) (by omega) (by omega) (by omega) (by omega) (by omega) (by omega) (by omega)]
    cases it
    all_goals (try simp only [searchC, show row_29.asks = 0 from rfl, asks_0, orI_ite2, orI_some, orI_nil, orI_none, z7_iff, Nm.opt, Nm.low, Nm.up, Bool.and_eq_true, Bool.or_eq_true, beq_iff_eq, decide_eq_true_eq, Bool.not_eq_true', bne_self_eq_false, Bool.false_eq_true, Bool.true_eq_false, Bool.not_true, Bool.not_false, bne_iff_ne, ne_eq, not_true_eq_false, not_false_eq_true, reduceCtorEq, true_and, and_true, false_and, and_false, if_true, if_false, ite_self, Int.reduceEq, Int.reduceBEq, Int.reduceLE, Int.reduceLT, Int.reduceSub, Int.reduceMul, true_or, or_true, or_false, false_or, and_self, Bool.bne_false, Bool.bne_true, Bool.false_bne, Bool.true_bne, Bool.not_eq_eq_eq_not, bne_self_eq_false])
    all_goals (repeat' split)
    all_goals first | rfl | (exfalso; omega) | (apply congrArg some; omega)
  · have FF : Im.fieldsI 41 2 false = ⟨24575, 0, 0, -4095, 4095, 1, 0, 0⟩ := rfl
    rw [FF] at h1 h2 q1 q2
    dsimp only at h1 h2 q1 q2
    exfalso; omega
set_option linter.unusedSimpArgs false in
set_option maxHeartbeats 4000000 in
theorem enc_42 (cond rd rn rm imm mode list : Int) (s it : Bool) (hok : Nm.okB ⟨42, cond, rd, rn, rm, imm, mode, list, s⟩ = true) (hw : Nm.Wide list) :
    searchP (traitsI cond rd rn rm mode s it) 42 cond rd rn rm imm list formTab = Nm.rowI ⟨42, cond, rd, rn, rm, imm, mode, list, s⟩ it := by
  obtain ⟨_, h1, h2, h3, h4, h5, h6⟩ := Nm.ok_parts hok
  clear hok
  have h3' := Nm.last_cases h3
  clear h3
  dsimp only at h1 h2 h3' h4 h5 h6
  rw [search_c, show formTab.flatMap (candsOf 42) = cands 42 from rfl, cands_42]
  unfold Nm.rowI Nm.restI
  dsimp only
  have hl := Nm.list_most h4 0 (by decide) rfl hw
  have hc := Nm.conds_is (c := cond) (m := imm) (by simpa [Im.condB] using h5)
  obtain rfl : false = s := Nm.flag_off h6 (by decide)
  clear h4 h5 h6 hw
  rcases h3' with ⟨rfl, q1, q2, rfl, rfl⟩ | ⟨rfl, q1, q2, q3, q4, rfl⟩ | ⟨rfl, q1, q2, rfl⟩
  · have FF : Im.fieldsI 42 0 false = ⟨0, 0, 0, 1, 15, 1, 0, 0⟩ := rfl
    rw [FF] at h1 h2 q1 q2
    dsimp only at h1 h2 q1 q2
    exfalso; omega
  · have FF : Im.fieldsI 42 1 false = ⟨0, 0, 0, 1, 15, 1, 0, 0⟩ := rfl
    rw [FF] at h1 h2 q1 q2 q3 q4
    dsimp only at h1 h2 q1 q2 q3 q4
    have hd : rd = 0 := Nm.one_none h1
    have hn : rn = 0 := Nm.one_none h2
    clear h1 h2
    obtain ⟨x, hx⟩ : ∃ x, imm % 4294967296 = x := ⟨_, rfl⟩
    simp only [searchC]
    rw [fill_30_0 cond rd rn 0 imm list x hx (by omega) (by omega) (by omega) (by omega) (by omega) (by omega) (by omega) (by omega) (by omega) (by omega)]
    cases it
    all_goals (try simp only [searchC, show row_30.asks = 4 from rfl, asks_4, orI_ite2, orI_some, orI_nil, orI_none, z7_iff, Nm.opt, Nm.low, Nm.up, Bool.and_eq_true, Bool.or_eq_true, beq_iff_eq, decide_eq_true_eq, Bool.not_eq_true', bne_self_eq_false, Bool.false_eq_true, Bool.true_eq_false, Bool.not_true, Bool.not_false, bne_iff_ne, ne_eq, not_true_eq_false, not_false_eq_true, reduceCtorEq, true_and, and_true, false_and, and_false, if_true, if_false, ite_self, Int.reduceEq, Int.reduceBEq, Int.reduceLE, Int.reduceLT, Int.reduceSub, Int.reduceMul, true_or, or_true, or_false, false_or, and_self, Bool.bne_false, Bool.bne_true, Bool.false_bne, Bool.true_bne, Bool.not_eq_eq_eq_not, bne_self_eq_false])
    all_goals (repeat' split)
    all_goals first | rfl | (exfalso; omega) | (apply congrArg some; omega)
  · have FF : Im.fieldsI 42 2 false = ⟨0, 0, 0, 1, 15, 1, 0, 0⟩ := rfl
    rw [FF] at h1 h2 q1 q2
    dsimp only at h1 h2 q1 q2
    exfalso; omega
set_option linter.unusedSimpArgs false in
set_option maxHeartbeats 4000000 in
theorem enc_43 (cond rd rn rm imm mode list : Int) (s it : Bool) (hok : Nm.okB ⟨43, cond, rd, rn, rm, imm, mode, list, s⟩ = true) (hw : Nm.Wide list) :
    searchP (traitsI cond rd rn rm mode s it) 43 cond rd rn rm imm list formTab = Nm.rowI ⟨43, cond, rd, rn, rm, imm, mode, list, s⟩ it := by
  obtain ⟨_, h1, h2, h3, h4, h5, h6⟩ := Nm.ok_parts hok
  clear hok
  have h3' := Nm.last_cases h3
  clear h3
  dsimp only at h1 h2 h3' h4 h5 h6
  rw [search_c, show formTab.flatMap (candsOf 43) = cands 43 from rfl, cands_43]
  unfold Nm.rowI Nm.restI
  dsimp only
  have hl := Nm.list_most h4 0 (by decide) rfl hw
  have hc : cond = 0 := by simpa [Im.condB] using h5
  obtain rfl : false = s := Nm.flag_off h6 (by decide)
  clear h4 h5 h6 hw
  rcases h3' with ⟨rfl, q1, q2, rfl, rfl⟩ | ⟨rfl, q1, q2, q3, q4, rfl⟩ | ⟨rfl, q1, q2, rfl⟩
  · have FF : Im.fieldsI 43 0 false = ⟨0, 0, 0, 0, 0, 0, 0, 0⟩ := rfl
    rw [FF] at h1 h2 q1 q2
    dsimp only at h1 h2 q1 q2
    have hd : rd = 0 := Nm.one_none h1
    have hn : rn = 0 := Nm.one_none h2
    clear h1 h2
    obtain ⟨x, hx⟩ : ∃ x, (0 : Int) % 4294967296 = x := ⟨_, rfl⟩
    simp only [searchC]
    rw [fill_31_0 cond rd rn 0 0 list x hx (by omega) (by omega) (by omega) (by omega) (by omega) (by omega) (by omega) (by omega) (by omega) (by omega)]
    cases it
    all_goals (try simp only [searchC, show row_31.asks = 0 from rfl, asks_0, orI_ite2, orI_some, orI_nil, orI_none, z7_iff, Nm.opt, Nm.low, Nm.up, Bool.and_eq_true, Bool.or_eq_true, beq_iff_eq, decide_eq_true_eq, Bool.not_eq_true', bne_self_eq_false, Bool.false_eq_true, Bool.true_eq_false, Bool.not_true, Bool.not_false, bne_iff_ne, ne_eq, not_true_eq_false, not_false_eq_true, reduceCtorEq, true_and, and_true, false_and, and_false, if_true, if_false, ite_self, Int.reduceEq, Int.reduceBEq, Int.reduceLE, Int.reduceLT, Int.reduceSub, Int.reduceMul, true_or, or_true, or_false, false_or, and_self, Bool.bne_false, Bool.bne_true, Bool.false_bne, Bool.true_bne, Bool.not_eq_eq_eq_not, bne_self_eq_false])
    all_goals (repeat' split)
    all_goals first | rfl | (exfalso; omega) | (apply congrArg some; omega)
  · have FF : Im.fieldsI 43 1 false = ⟨0, 0, 0, 0, 0, 0, 0, 0⟩ := rfl
    rw [FF] at h1 h2 q1 q2 q3 q4
    dsimp only at h1 h2 q1 q2 q3 q4
    exfalso; omega
  · have FF : Im.fieldsI 43 2 false = ⟨0, 0, 0, 0, 0, 0, 0, 0⟩ := rfl
    rw [FF] at h1 h2 q1 q2
    dsimp only at h1 h2 q1 q2
    exfalso; omega
set_option linter.unusedSimpArgs false in
set_option maxHeartbeats 4000000 in
theorem enc_44 (cond rd rn rm imm mode list : Int) (s it : Bool) (hok : Nm.okB ⟨44, cond, rd, rn, rm, imm, mode, list, s⟩ = true) (hw : Nm.Wide list) :
    searchP (traitsI cond rd rn rm mode s it) 44 cond rd rn rm imm list formTab = Nm.rowI ⟨44, cond, rd, rn, rm, imm, mode, list, s⟩ it := by
  obtain ⟨_, h1, h2, h3, h4, h5, h6⟩ := Nm.ok_parts hok
  clear hok
  have h3' := Nm.last_cases h3
  clear h3
  dsimp only at h1 h2 h3' h4 h5 h6
  rw [search_c, show formTab.flatMap (candsOf 44) = cands 44 from rfl, cands_44]
  unfold Nm.rowI Nm.restI
  dsimp only
  have hl := Nm.list_most h4 0 (by decide) rfl hw
  have hc : cond = 0 := by simpa [Im.condB] using h5
  obtain rfl : false = s := Nm.flag_off h6 (by decide)
  clear h4 h5 h6 hw
  rcases h3' with ⟨rfl, q1, q2, rfl, rfl⟩ | ⟨rfl, q1, q2, q3, q4, rfl⟩ | ⟨rfl, q1, q2, rfl⟩
  · have FF : Im.fieldsI 44 0 false = ⟨0, 0, 0, 0, 255, 1, 0, 0⟩ := rfl
    rw [FF] at h1 h2 q1 q2
    dsimp only at h1 h2 q1 q2
    exfalso; omega
  · have FF : Im.fieldsI 44 1 false = ⟨0, 0, 0, 0, 255, 1, 0, 0⟩ := rfl
    rw [FF] at h1 h2 q1 q2 q3 q4
    dsimp only at h1 h2 q1 q2 q3 q4
    have hd : rd = 0 := Nm.one_none h1
    have hn : rn = 0 := Nm.one_none h2
    clear h1 h2
    obtain ⟨x, hx⟩ : ∃ x, imm % 4294967296 = x := ⟨_, rfl⟩
    simp only [searchC]
    rw [fill_32_0 cond rd rn 0 imm list x hx (by omega) (by omega) (by omega) (by omega) (by omega) (by omega) (by omega) (by omega) (by omega) (by omega)]
    cases it
    all_goals (try simp only [searchC, show row_32.asks = 0 from rfl, asks_0, orI_ite2, orI_some, orI_nil, orI_none, z7_iff, Nm.opt, Nm.low, Nm.up, Bool.and_eq_true, Bool.or_eq_true, beq_iff_eq, decide_eq_true_eq, Bool.not_eq_true', bne_self_eq_false, Bool.false_eq_true, Bool.true_eq_false, Bool.not_true, Bool.not_false, bne_iff_ne, ne_eq, not_true_eq_false, not_false_eq_true, reduceCtorEq, true_and, and_true, false_and, and_false, if_true, if_false, ite_self, Int.reduceEq, Int.reduceBEq, Int.reduceLE, Int.reduceLT, Int.reduceSub, Int.reduceMul, true_or, or_true, or_false, false_or, and_self, Bool.bne_false, Bool.bne_true, Bool.false_bne, Bool.true_bne, Bool.not_eq_eq_eq_not, bne_self_eq_false])
    all_goals (repeat' split)
    all_goals first | rfl | (exfalso; omega) | (apply congrArg some; omega)
  · have FF : Im.fieldsI 44 2 false = ⟨0, 0, 0, 0, 255, 1, 0, 0⟩ := rfl
    rw [FF] at h1 h2 q1 q2
    dsimp only at h1 h2 q1 q2
    exfalso; omega
set_option linter.unusedSimpArgs false in
set_option maxHeartbeats 4000000 in
theorem enc_45 (cond rd rn rm imm mode list : Int) (s it : Bool) (hok : Nm.okB ⟨45, cond, rd, rn, rm, imm, mode, list, s⟩ = true) (hw : Nm.Wide list) :
    searchP (traitsI cond rd rn rm mode s it) 45 cond rd rn rm imm list formTab = Nm.rowI ⟨45, cond, rd, rn, rm, imm, mode, list, s⟩ it := by
  obtain ⟨_, h1, h2, h3, h4, h5, h6⟩ := Nm.ok_parts hok
  clear hok
  have h3' := Nm.last_cases h3
  clear h3
  dsimp only at h1 h2 h3' h4 h5 h6
  rw [search_c, show formTab.flatMap (candsOf 45) = cands 45 from rfl, cands_45]
  unfold Nm.rowI Nm.restI
  dsimp only
  have hl := Nm.list_most h4 0 (by decide) rfl hw
  have hc : cond = 0 := by simpa [Im.condB] using h5
  obtain rfl : false = s := Nm.flag_off h6 (by decide)
  clear h4 h5 h6 hw
  rcases h3' with ⟨rfl, q1, q2, rfl, rfl⟩ | ⟨rfl, q1, q2, q3, q4, rfl⟩ | ⟨rfl, q1, q2, rfl⟩
  · have FF : Im.fieldsI 45 0 false = ⟨0, 24575, 24575, 0, 0, 0, 0, 0⟩ := rfl
    rw [FF] at h1 h2 q1 q2
    dsimp only at h1 h2 q1 q2
    exfalso; omega
  · have FF : Im.fieldsI 45 1 false = ⟨0, 24575, 24575, 0, 0, 0, 0, 0⟩ := rfl
    rw [FF] at h1 h2 q1 q2 q3 q4
    dsimp only at h1 h2 q1 q2 q3 q4
    exfalso; omega
  · have FF : Im.fieldsI 45 2 false = ⟨0, 24575, 24575, 0, 0, 0, 0, 0⟩ := rfl
    rw [FF] at h1 h2 q1 q2
    dsimp only at h1 h2 q1 q2
    have hd : rd = 0 := Nm.one_none h1
    have hn := Nm.one_in h2 (by decide)
    have hm := Nm.one_in q2 (by decide)
    clear h1 h2
    obtain ⟨x, hx⟩ : ∃ x, (0 : Int) % 4294967296 = x := ⟨_, rfl⟩
    simp only [searchC]
    cases it
    all_goals (try simp only [searchC, orI_nil, orI_ite2, orI_some, orI_nil, orI_none, z7_iff, Nm.opt, Nm.low, Nm.up, Bool.and_eq_true, Bool.or_eq_true, beq_iff_eq, decide_eq_true_eq, Bool.not_eq_true', bne_self_eq_false, Bool.false_eq_true, Bool.true_eq_false, Bool.not_true, Bool.not_false, bne_iff_ne, ne_eq, not_true_eq_false, not_false_eq_true, reduceCtorEq, true_and, and_true, false_and, and_false, if_true, if_false, ite_self, Int.reduceEq, Int.reduceBEq, Int.reduceLE, Int.reduceLT, Int.reduceSub, Int.reduceMul, true_or, or_true, or_false, false_or, and_self, Bool.bne_false, Bool.bne_true, Bool.false_bne, Bool.true_bne, Bool.not_eq_eq_eq_not, bne_self_eq_false])
    all_goals (repeat' split)
    all_goals first | rfl | (exfalso; omega) | (apply congrArg some; omega)
end Pl
end Go.Proofs.YthpoficikcicmaaDoor
