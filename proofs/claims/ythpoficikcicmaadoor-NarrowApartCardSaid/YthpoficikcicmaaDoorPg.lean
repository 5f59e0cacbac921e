/- Encode's search is the document's row, operation by operation (text by gen_pe.py). No conditions but those that each fact names. -/
import Derived.Test.YthpoficikcicmaaDoorRows
import Derived.Test.YthpoficikcicmaaDoorPd
namespace Go.Proofs.YthpoficikcicmaaDoor
open Go.ChangeShapes Go.WideShapes Go.ChangeAt Go.RowKit
namespace Pl

set_option linter.unusedSimpArgs false in
set_option maxHeartbeats 4000000 in
theorem enc_16 (cond rd rn rm imm mode list : Int) (s it : Bool) (hok : Nm.okB ⟨16, cond, rd, rn, rm, imm, mode, list, s⟩ = true) (hw : Nm.Wide list) :
    searchP (traitsI cond rd rn rm mode s it) 16 cond rd rn rm imm list formTab = Nm.rowI ⟨16, cond, rd, rn, rm, imm, mode, list, s⟩ it := by
  obtain ⟨_, h1, h2, h3, h4, h5, h6⟩ := Nm.ok_parts hok
  clear hok
  have h3' := Nm.last_cases h3
  clear h3
  dsimp only at h1 h2 h3' h4 h5 h6
  rw [search_c, show formTab.flatMap (candsOf 16) = cands 16 from rfl, cands_16]
  unfold Nm.rowI Nm.shiftI
  dsimp only
  have hl := Nm.list_most h4 0 (by decide) rfl hw
  have hc : cond = 0 := by simpa [Im.condB] using h5
  clear h4 h5 h6 hw
  rcases h3' with ⟨rfl, q1, q2, rfl, rfl⟩ | ⟨rfl, q1, q2, q3, q4, rfl⟩ | ⟨rfl, q1, q2, rfl⟩
  · have FF : Im.fieldsI 16 0 s = ⟨24575, 24575, 24575, 1, 31, 1, 0, 0⟩ := rfl
    rw [FF] at h1 h2 q1 q2
    dsimp only at h1 h2 q1 q2
    exfalso; omega
  · have FF : Im.fieldsI 16 1 s = ⟨24575, 24575, 24575, 1, 31, 1, 0, 0⟩ := rfl
    rw [FF] at h1 h2 q1 q2 q3 q4
    dsimp only at h1 h2 q1 q2 q3 q4
    have hd := Nm.one_in h1 (by decide)
    have hn := Nm.one_in h2 (by decide)
    clear h1 h2
    obtain ⟨x, hx⟩ : ∃ x, imm % 4294967296 = x := ⟨_, rfl⟩
    simp only [searchC]
    rw [fill_15_0 cond rd rn 0 imm list x hx (by omega) (by omega) (by omega) (by omega) (by omega) (by omega) (by omega) (by omega) (by omega) (by omega), fill_16_0 cond rd rn 0 imm list x hx (by omega) (by omega) (by omega) (by omega) (by omega) (by omega) (by omega) (by omega) (by omega) (by omega)]
    cases s <;> cases it
    all_goals (try simp only [searchC, show row_15.asks = 65 from rfl, asks_65, show row_16.asks = 194 from rfl, asks_194, orI_ite2, orI_some, orI_nil, orI_none, z7_iff, Nm.opt, Nm.low, Nm.up, Bool.and_eq_true, Bool.or_eq_true, beq_iff_eq, decide_eq_true_eq, Bool.not_eq_true', bne_self_eq_false, Bool.false_eq_true, Bool.true_eq_false, Bool.not_true, Bool.not_false, bne_iff_ne, ne_eq, not_true_eq_false, not_false_eq_true, reduceCtorEq, true_and, and_true, false_and, and_false, if_true, if_false, ite_self, Int.reduceEq, Int.reduceBEq, Int.reduceLE, Int.reduceLT, Int.reduceSub, Int.reduceMul, true_or, or_true, or_false, false_or, and_self, Bool.bne_false, Bool.bne_true, Bool.false_bne, Bool.true_bne, Bool.not_eq_eq_eq_not, bne_self_eq_false])
    all_goals (repeat' split)
    all_goals first | rfl | (exfalso; omega) | (apply congrArg some; omega)
  · have FF : Im.fieldsI 16 2 s = ⟨24575, 24575, 24575, 1, 31, 1, 0, 0⟩ := rfl
    rw [FF] at h1 h2 q1 q2
    dsimp only at h1 h2 q1 q2
    have hd := Nm.one_in h1 (by decide)
    have hn := Nm.one_in h2 (by decide)
    have hm := Nm.one_in q2 (by decide)
    clear h1 h2
    obtain ⟨x, hx⟩ : ∃ x, (0 : Int) % 4294967296 = x := ⟨_, rfl⟩
    simp only [searchC]
    rw [fill_15_0 cond rd rn rm 0 list x hx (by omega) (by omega) (by omega) (by omega) (by omega) (by omega) (by omega) (by omega) (by omega) (by omega), fill_16_0 cond rd rn rm 0 list x hx (by omega) (by omega) (by omega) (by omega) (by omega) (by omega) (by omega) (by omega) (by omega) (by omega)]
    cases s <;> cases it
    all_goals (try simp only [searchC, show row_15.asks = 65 from rfl, asks_65, show row_16.asks = 194 from rfl, asks_194, orI_ite2, orI_some, orI_nil, orI_none, z7_iff, Nm.opt, Nm.low, Nm.up, Bool.and_eq_true, Bool.or_eq_true, beq_iff_eq, decide_eq_true_eq, Bool.not_eq_true', bne_self_eq_false, Bool.false_eq_true, Bool.true_eq_false, Bool.not_true, Bool.not_false, bne_iff_ne, ne_eq, not_true_eq_false, not_false_eq_true, reduceCtorEq, true_and, and_true, false_and, and_false, if_true, if_false, ite_self, Int.reduceEq, Int.reduceBEq, Int.reduceLE, Int.reduceLT, Int.reduceSub, Int.reduceMul, true_or, or_true, or_false, false_or, and_self, Bool.bne_false, Bool.bne_true, Bool.false_bne, Bool.true_bne, Bool.not_eq_eq_eq_not, bne_self_eq_false])
    all_goals (repeat' split)
    all_goals first | rfl | (exfalso; omega) | (apply congrArg some; omega)
set_option linter.unusedSimpArgs false in
set_option maxHeartbeats 4000000 in
theorem enc_17 (cond rd rn rm imm mode list : Int) (s it : Bool) (hok : Nm.okB ⟨17, cond, rd, rn, rm, imm, mode, list, s⟩ = true) (hw : Nm.Wide list) :
    searchP (traitsI cond rd rn rm mode s it) 17 cond rd rn rm imm list formTab = Nm.rowI ⟨17, cond, rd, rn, rm, imm, mode, list, s⟩ it := by
  obtain ⟨_, h1, h2, h3, h4, h5, h6⟩ := Nm.ok_parts hok
  clear hok
  have h3' := Nm.last_cases h3
  clear h3
  dsimp only at h1 h2 h3' h4 h5 h6
  rw [search_c, show formTab.flatMap (candsOf 17) = cands 17 from rfl, cands_17]
  unfold Nm.rowI Nm.shiftI
  dsimp only
  have hl := Nm.list_most h4 0 (by decide) rfl hw
  have hc : cond = 0 := by simpa [Im.condB] using h5
  clear h4 h5 h6 hw
  rcases h3' with ⟨rfl, q1, q2, rfl, rfl⟩ | ⟨rfl, q1, q2, q3, q4, rfl⟩ | ⟨rfl, q1, q2, rfl⟩
  · have FF : Im.fieldsI 17 0 s = ⟨24575, 24575, 24575, 1, 32, 1, 0, 0⟩ := rfl
    rw [FF] at h1 h2 q1 q2
    dsimp only at h1 h2 q1 q2
    exfalso; omega
  · have FF : Im.fieldsI 17 1 s = ⟨24575, 24575, 24575, 1, 32, 1, 0, 0⟩ := rfl
    rw [FF] at h1 h2 q1 q2 q3 q4
    dsimp only at h1 h2 q1 q2 q3 q4
    have hd := Nm.one_in h1 (by decide)
    have hn := Nm.one_in h2 (by decide)
    clear h1 h2
    obtain ⟨x, hx⟩ : ∃ x, imm % 4294967296 = x := ⟨_, rfl⟩
    simp only [searchC]
    rw [fill_15_1 cond rd rn 0 imm list x hx (by omega) (by omega) (by omega) (by omega) (by omega) (by omega) (by omega) (by omega) (by omega) (by omega), fill_16_1 cond rd rn 0 imm list x hx (by omega) (by omega) (by omega) (by omega) (by omega) (by omega) (by omega) (by omega) (by omega) (by omega)]
    cases s <;> cases it
    all_goals (try simp only [searchC, show row_15.asks = 65 from rfl, asks_65, show row_16.asks = 194 from rfl, asks_194, orI_ite2, orI_some, orI_nil, orI_none, z7_iff, Nm.opt, Nm.low, Nm.up, Bool.and_eq_true, Bool.or_eq_true, beq_iff_eq, decide_eq_true_eq, Bool.not_eq_true', bne_self_eq_false, Bool.false_eq_true, Bool.true_eq_false, Bool.not_true, Bool.not_false, bne_iff_ne, ne_eq, not_true_eq_false, not_false_eq_true, reduceCtorEq, true_and, and_true, false_and, and_false, if_true, if_false, ite_self, Int.reduceEq, Int.reduceBEq, Int.reduceLE, Int.reduceLT, Int.reduceSub, Int.reduceMul, true_or, or_true, or_false, false_or, and_self, Bool.bne_false, Bool.bne_true, Bool.false_bne, Bool.true_bne, Bool.not_eq_eq_eq_not, bne_self_eq_false])
    all_goals (repeat' split)
    all_goals first | rfl | (exfalso; omega) | (apply congrArg some; omega)
  · have FF : Im.fieldsI 17 2 s = ⟨24575, 24575, 24575, 1, 32, 1, 0, 0⟩ := rfl
    rw [FF] at h1 h2 q1 q2
    dsimp only at h1 h2 q1 q2
    have hd := Nm.one_in h1 (by decide)
    have hn := Nm.one_in h2 (by decide)
    have hm := Nm.one_in q2 (by decide)
    clear h1 h2
    obtain ⟨x, hx⟩ : ∃ x, (0 : Int) % 4294967296 = x := ⟨_, rfl⟩
    simp only [searchC]
    rw [fill_15_1 cond rd rn rm 0 list x hx (by omega) (by omega) (by omega) (by omega) (by omega) (by omega) (by omega) (by omega) (by omega) (by omega), fill_16_1 cond rd rn rm 0 list x hx (by omega) (by omega) (by omega) (by omega) (by omega) (by omega) (by omega) (by omega) (by omega) (by omega)]
    cases s <;> cases it
    all_goals (try simp only [searchC, show row_15.asks = 65 from rfl, asks_65, show row_16.asks = 194 from rfl, asks_194, orI_ite2, orI_some, orI_nil, orI_none, z7_iff, Nm.opt, Nm.low, Nm.up, Bool.and_eq_true, Bool.or_eq_true, beq_iff_eq, decide_eq_true_eq, Bool.not_eq_true', bne_self_eq_false, Bool.false_eq_true, Bool.true_eq_false, Bool.not_true, Bool.not_false, bne_iff_ne, ne_eq, not_true_eq_false, not_false_eq_true, reduceCtorEq, true_and, and_true, false_and, and_false, if_true, if_false, ite_self, Int.reduceEq, Int.reduceBEq, Int.reduceLE, Int.reduceLT, Int.reduceSub, Int.reduceMul, true_or, or_true, or_false, false_or, and_self, Bool.bne_false, Bool.bne_true, Bool.false_bne, Bool.true_bne, Bool.not_eq_eq_eq_not, bne_self_eq_false])
    all_goals (repeat' split)
    all_goals first | rfl | (exfalso; omega) | (apply congrArg some; omega)
set_option linter.unusedSimpArgs false in
set_option maxHeartbeats 4000000 in
theorem enc_18 (cond rd rn rm imm mode list : Int) (s it : Bool) (hok : Nm.okB ⟨18, cond, rd, rn, rm, imm, mode, list, s⟩ = true) (hw : Nm.Wide list) :
    searchP (traitsI cond rd rn rm mode s it) 18 cond rd rn rm imm list formTab = Nm.rowI ⟨18, cond, rd, rn, rm, imm, mode, list, s⟩ it := by
  obtain ⟨_, h1, h2, h3, h4, h5, h6⟩ := Nm.ok_parts hok
  clear hok
  have h3' := Nm.last_cases h3
  clear h3
  dsimp only at h1 h2 h3' h4 h5 h6
  rw [search_c, show formTab.flatMap (candsOf 18) = cands 18 from rfl, cands_18]
  unfold Nm.rowI Nm.shiftI
  dsimp only
  have hl := Nm.list_most h4 0 (by decide) rfl hw
  have hc : cond = 0 := by simpa [Im.condB] using h5
  clear h4 h5 h6 hw
  rcases h3' with ⟨rfl, q1, q2, rfl, rfl⟩ | ⟨rfl, q1, q2, q3, q4, rfl⟩ | ⟨rfl, q1, q2, rfl⟩
  · have FF : Im.fieldsI 18 0 s = ⟨24575, 24575, 24575, 1, 32, 1, 0, 0⟩ := rfl
    rw [FF] at h1 h2 q1 q2
    dsimp only at h1 h2 q1 q2
    exfalso; omega
  · have FF : Im.fieldsI 18 1 s = ⟨24575, 24575, 24575, 1, 32, 1, 0, 0⟩ := rfl
    rw [FF] at h1 h2 q1 q2 q3 q4
    dsimp only at h1 h2 q1 q2 q3 q4
    have hd := Nm.one_in h1 (by decide)
    have hn := Nm.one_in h2 (by decide)
    clear h1 h2
    obtain ⟨x, hx⟩ : ∃ x, imm % 4294967296 = x := ⟨_, rfl⟩
    simp only [searchC]
    rw [fill_15_2 cond rd rn 0 imm list x hx (by omega) (by omega) (by omega) (by omega) (by omega) (by omega) (by omega) (by omega) (by omega) (by omega), fill_16_2 cond rd rn 0 imm list x hx (by omega) (by omega) (by omega) (by omega) (by omega) (by omega) (by omega) (by omega) (by omega) (by omega)]
    cases s <;> cases it
    all_goals (try simp only [searchC, show row_15.asks = 65 from rfl, asks_65, show row_16.asks = 194 from rfl, asks_194, orI_ite2, orI_some, orI_nil, orI_none, z7_iff, Nm.opt, Nm.low, Nm.up, Bool.and_eq_true, Bool.or_eq_true, beq_iff_eq, decide_eq_true_eq, Bool.not_eq_true', bne_self_eq_false, Bool.false_eq_true, Bool.true_eq_false, Bool.not_true, Bool.not_false, bne_iff_ne, ne_eq, not_true_eq_false, not_false_eq_true, reduceCtorEq, true_and, and_true, false_and, and_false, if_true, if_false, ite_self, Int.reduceEq, Int.reduceBEq, Int.reduceLE, Int.reduceLT, Int.reduceSub, Int.reduceMul, true_or, or_true, or_false, false_or, and_self, Bool.bne_false, Bool.bne_true, Bool.false_bne, Bool.true_bne, Bool.not_eq_eq_eq_not, bne_self_eq_false])
    all_goals (repeat' split)
    all_goals first | rfl | (exfalso; omega) | (apply congrArg some; omega)
  · have FF : Im.fieldsI 18 2 s = ⟨24575, 24575, 24575, 1, 32, 1, 0, 0⟩ := rfl
    rw [FF] at h1 h2 q1 q2
    dsimp only at h1 h2 q1 q2
    have hd := Nm.one_in h1 (by decide)
    have hn := Nm.one_in h2 (by decide)
    have hm := Nm.one_in q2 (by decide)
    clear h1 h2
    obtain ⟨x, hx⟩ : ∃ x, (0 : Int) % 4294967296 = x := ⟨_, rfl⟩
    simp only [searchC]
    rw [fill_15_2 cond rd rn rm 0 list x hx (by omega) (by omega) (by omega) (by omega) (by omega) (by omega) (by omega) (by omega) (by omega) (by omega), fill_16_2 cond rd rn rm 0 list x hx (by omega) (by omega) (by omega) (by omega) (by omega) (by omega) (by omega) (by omega) (by omega) (by omega)]
    cases s <;> cases it
    all_goals (try simp only [searchC, show row_15.asks = 65 from rfl, asks_65, show row_16.asks = 194 from rfl, asks_194, orI_ite2, orI_some, orI_nil, orI_none, z7_iff, Nm.opt, Nm.low, Nm.up, Bool.and_eq_true, Bool.or_eq_true, beq_iff_eq, decide_eq_true_eq, Bool.not_eq_true', bne_self_eq_false, Bool.false_eq_true, Bool.true_eq_false, Bool.not_true, Bool.not_false, bne_iff_ne, ne_eq, not_true_eq_false, not_false_eq_true, reduceCtorEq, true_and, and_true, false_and, and_false, if_true, if_false, ite_self, Int.reduceEq, Int.reduceBEq, Int.reduceLE, Int.reduceLT, Int.reduceSub, Int.reduceMul, true_or, or_true, or_false, false_or, and_self, Bool.bne_false, Bool.bne_true, Bool.false_bne, Bool.true_bne, Bool.not_eq_eq_eq_not, bne_self_eq_false])
    all_goals (repeat' split)
    all_goals first | rfl | (exfalso; omega) | (apply congrArg some; omega)
set_option linter.unusedSimpArgs false in
set_option maxHeartbeats 4000000 in
theorem enc_19 (cond rd rn rm imm mode list : Int) (s it : Bool) (hok : Nm.okB ⟨19, cond, rd, rn, rm, imm, mode, list, s⟩ = true) (hw : Nm.Wide list) :
    searchP (traitsI cond rd rn rm mode s it) 19 cond rd rn rm imm list formTab = Nm.rowI ⟨19, cond, rd, rn, rm, imm, mode, list, s⟩ it := by
  obtain ⟨_, h1, h2, h3, h4, h5, h6⟩ := Nm.ok_parts hok
  clear hok
  have h3' := Nm.last_cases h3
  clear h3
  dsimp only at h1 h2 h3' h4 h5 h6
  rw [search_c, show formTab.flatMap (candsOf 19) = cands 19 from rfl, cands_19]
  unfold Nm.rowI Nm.shiftI
  dsimp only
  have hl := Nm.list_most h4 0 (by decide) rfl hw
  have hc : cond = 0 := by simpa [Im.condB] using h5
  clear h4 h5 h6 hw
  rcases h3' with ⟨rfl, q1, q2, rfl, rfl⟩ | ⟨rfl, q1, q2, q3, q4, rfl⟩ | ⟨rfl, q1, q2, rfl⟩
  · have FF : Im.fieldsI 19 0 s = ⟨24575, 24575, 24575, 1, 31, 1, 0, 0⟩ := rfl
    rw [FF] at h1 h2 q1 q2
    dsimp only at h1 h2 q1 q2
    exfalso; omega
  · have FF : Im.fieldsI 19 1 s = ⟨24575, 24575, 24575, 1, 31, 1, 0, 0⟩ := rfl
    rw [FF] at h1 h2 q1 q2 q3 q4
    dsimp only at h1 h2 q1 q2 q3 q4
    have hd := Nm.one_in h1 (by decide)
    have hn := Nm.one_in h2 (by decide)
    clear h1 h2
    obtain ⟨x, hx⟩ : ∃ x, imm % 4294967296 = x := ⟨_, rfl⟩
    simp only [searchC]
    rw [fill_16_3 cond rd rn 0 imm list x hx (by omega) (by omega) (by omega) (by omega) (by omega) (by omega) (by omega) (by omega) (by omega) (by omega)]
    cases s <;> cases it
    all_goals (try simp only [searchC, show row_16.asks = 194 from rfl, asks_194, orI_ite2, orI_some, orI_nil, orI_none, z7_iff, Nm.opt, Nm.low, Nm.up, Bool.and_eq_true, Bool.or_eq_true, beq_iff_eq, decide_eq_true_eq, Bool.not_eq_true', bne_self_eq_false, Bool.false_eq_true, Bool.true_eq_false, Bool.not_true, Bool.not_false, bne_iff_ne, ne_eq, not_true_eq_false, not_false_eq_true, reduceCtorEq, true_and, and_true, false_and, and_false, if_true, if_false, ite_self, Int.reduceEq, Int.reduceBEq, Int.reduceLE, Int.reduceLT, Int.reduceSub, Int.reduceMul, true_or, or_true, or_false, false_or, and_self, Bool.bne_false, Bool.bne_true, Bool.false_bne, Bool.true_bne, Bool.not_eq_eq_eq_not, bne_self_eq_false])
    all_goals (repeat' split)
    all_goals first | rfl | (exfalso; omega) | (apply congrArg some; omega)
  · have FF : Im.fieldsI 19 2 s = ⟨24575, 24575, 24575, 1, 31, 1, 0, 0⟩ := rfl
    rw [FF] at h1 h2 q1 q2
    dsimp only at h1 h2 q1 q2
    have hd := Nm.one_in h1 (by decide)
    have hn := Nm.one_in h2 (by decide)
    have hm := Nm.one_in q2 (by decide)
    clear h1 h2
    obtain ⟨x, hx⟩ : ∃ x, (0 : Int) % 4294967296 = x := ⟨_, rfl⟩
    simp only [searchC]
    rw [fill_16_3 cond rd rn rm 0 list x hx (by omega) (by omega) (by omega) (by omega) (by omega) (by omega) (by omega) (by omega) (by omega) (by omega)]
    cases s <;> cases it
    all_goals (try simp only [searchC, show row_16.asks = 194 from rfl, asks_194, orI_ite2, orI_some, orI_nil, orI_none, z7_iff, Nm.opt, Nm.low, Nm.up, Bool.and_eq_true, Bool.or_eq_true, beq_iff_eq, decide_eq_true_eq, Bool.not_eq_true', bne_self_eq_false, Bool.false_eq_true, Bool.true_eq_false, Bool.not_true, Bool.not_false, bne_iff_ne, ne_eq, not_true_eq_false, not_false_eq_true, reduceCtorEq, true_and, and_true, false_and, and_false, if_true, if_false, ite_self, Int.reduceEq, Int.reduceBEq, Int.reduceLE, Int.reduceLT, Int.reduceSub, Int.reduceMul, true_or, or_true, or_false, false_or, and_self, Bool.bne_false, Bool.bne_true, Bool.false_bne, Bool.true_bne, Bool.not_eq_eq_eq_not, bne_self_eq_false])
    all_goals (repeat' split)
    all_goals first | rfl | (exfalso; omega) | (apply congrArg some; omega)
set_option linter.unusedSimpArgs false in
set_option maxHeartbeats 4000000 in
theorem enc_25 (cond rd rn rm imm mode list : Int) (s it : Bool) (hok : Nm.okB ⟨25, cond, rd, rn, rm, imm, mode, list, s⟩ = true) (hw : Nm.Wide list) :
    searchP (traitsI cond rd rn rm mode s it) 25 cond rd rn rm imm list formTab = Nm.rowI ⟨25, cond, rd, rn, rm, imm, mode, list, s⟩ it := by
  obtain ⟨_, h1, h2, h3, h4, h5, h6⟩ := Nm.ok_parts hok
  clear hok
  have h3' := Nm.last_cases h3
  clear h3
  dsimp only at h1 h2 h3' h4 h5 h6
  rw [search_c, show formTab.flatMap (candsOf 25) = cands 25 from rfl, cands_25]
  unfold Nm.rowI Nm.loadI Nm.regB Nm.immB Nm.byB
  dsimp only
  have hl := Nm.list_most h4 0 (by decide) rfl hw
  have hc : cond = 0 := by simpa [Im.condB] using h5
  obtain rfl : false = s := Nm.flag_off h6 (by decide)
  clear h4 h5 h6 hw
  rcases h3' with ⟨rfl, q1, q2, rfl, rfl⟩ | ⟨rfl, q1, q2, q3, q4, rfl⟩ | ⟨rfl, q1, q2, rfl⟩
  · have FF : Im.fieldsI 25 0 false = ⟨24575, 32767, 24575, 0, 4095, 1, 0, 0⟩ := rfl
    rw [FF] at h1 h2 q1 q2
    dsimp only at h1 h2 q1 q2
    exfalso; omega
  · have FF : Im.fieldsI 25 1 false = ⟨24575, 32767, 24575, 0, 4095, 1, 0, 0⟩ := rfl
    rw [FF] at h1 h2 q1 q2 q3 q4
    dsimp only at h1 h2 q1 q2 q3 q4
    have hd := Nm.one_in h1 (by decide)
    have hn := Nm.one_in h2 (by decide)
    clear h1 h2
    obtain ⟨x, hx⟩ : ∃ x, imm % 4294967296 = x := ⟨_, rfl⟩
    simp only [searchC]
    rw [fill_17_1 cond rd rn 0 imm list x hx (by omega) (by omega) (by omega) (by omega) (by omega) (by omega) (by omega) (by omega) (by omega) (by omega), fill_20_1 cond rd rn 0 imm list x hx (by omega) (by omega) (by omega) (by omega) (by omega) (by omega) (by omega) (by omega) (by omega) (by omega), fill_21_3 cond rd rn 0 imm list x hx (by omega) (by omega) (by omega) (by omega) (by omega) (by omega) (by omega) (by omega) (by omega) (by omega)]
    cases it
    all_goals (try simp only [searchC, show row_17.asks = 1 from rfl, asks_1, show row_20.asks = 513 from rfl, asks_513, show row_21.asks = 2 from rfl, asks_2, orI_ite2, orI_some, orI_nil, orI_none, z7_iff, Nm.opt, Nm.low, Nm.up, Bool.and_eq_true, Bool.or_eq_true, beq_iff_eq, decide_eq_true_eq, Bool.not_eq_true', bne_self_eq_false, Bool.false_eq_true, Bool.true_eq_false, Bool.not_true, Bool.not_false, bne_iff_ne, ne_eq, not_true_eq_false, not_false_eq_true, reduceCtorEq, true_and, and_true, false_and, and_false, if_true, if_false, ite_self, Int.reduceEq, Int.reduceBEq, Int.reduceLE, Int.reduceLT, Int.reduceSub, Int.reduceMul, true_or, or_true, or_false, false_or, and_self, Bool.bne_false, Bool.bne_true, Bool.false_bne, Bool.true_bne, Bool.not_eq_eq_eq_not, bne_self_eq_false])
    all_goals (repeat' split)
    all_goals first | rfl | (exfalso; omega) | (apply congrArg some; omega)
  · have FF : Im.fieldsI 25 2 false = ⟨24575, 32767, 24575, 0, 4095, 1, 0, 0⟩ := rfl
    rw [FF] at h1 h2 q1 q2
    dsimp only at h1 h2 q1 q2
    have hd := Nm.one_in h1 (by decide)
    have hn := Nm.one_in h2 (by decide)
    have hm := Nm.one_in q2 (by decide)
    clear h1 h2
    obtain ⟨x, hx⟩ : ∃ x, (0 : Int) % 4294967296 = x := ⟨_, rfl⟩
    simp only [searchC]
    rw [fill_17_1 cond rd rn rm 0 list x hx (by omega) (by omega) (by omega) (by omega) (by omega) (by omega) (by omega) (by omega) (by omega) (by omega), fill_20_1 cond rd rn rm 0 list x hx (by omega) (by omega) (by omega) (by omega) (by omega) (by omega) (by omega) (by omega) (by omega) (by omega), fill_21_3 cond rd rn rm 0 list x hx (by omega) (by omega) (by omega) (by omega) (by omega) (by omega) (by omega) (by omega) (by omega) (by omega)]
    cases it
    all_goals (try simp only [searchC, show row_17.asks = 1 from rfl, asks_1, show row_20.asks = 513 from rfl, asks_513, show row_21.asks = 2 from rfl, asks_2, orI_ite2, orI_some, orI_nil, orI_none, z7_iff, Nm.opt, Nm.low, Nm.up, Bool.and_eq_true, Bool.or_eq_true, beq_iff_eq, decide_eq_true_eq, Bool.not_eq_true', bne_self_eq_false, Bool.false_eq_true, Bool.true_eq_false, Bool.not_true, Bool.not_false, bne_iff_ne, ne_eq, not_true_eq_false, not_false_eq_true, reduceCtorEq, true_and, and_true, false_and, and_false, if_true, if_false, ite_self, Int.reduceEq, Int.reduceBEq, Int.reduceLE, Int.reduceLT, Int.reduceSub, Int.reduceMul, true_or, or_true, or_false, false_or, and_self, Bool.bne_false, Bool.bne_true, Bool.false_bne, Bool.true_bne, Bool.not_eq_eq_eq_not, bne_self_eq_false])
    all_goals (repeat' split)
    all_goals first | rfl | (exfalso; omega) | (apply congrArg some; omega)
set_option linter.unusedSimpArgs false in
set_option maxHeartbeats 4000000 in
theorem enc_26 (cond rd rn rm imm mode list : Int) (s it : Bool) (hok : Nm.okB ⟨26, cond, rd, rn, rm, imm, mode, list, s⟩ = true) (hw : Nm.Wide list) :
    searchP (traitsI cond rd rn rm mode s it) 26 cond rd rn rm imm list formTab = Nm.rowI ⟨26, cond, rd, rn, rm, imm, mode, list, s⟩ it := by
  obtain ⟨_, h1, h2, h3, h4, h5, h6⟩ := Nm.ok_parts hok
  clear hok
  have h3' := Nm.last_cases h3
  clear h3
  dsimp only at h1 h2 h3' h4 h5 h6
  rw [search_c, show formTab.flatMap (candsOf 26) = cands 26 from rfl, cands_26]
  unfold Nm.rowI Nm.loadI Nm.regB Nm.immB Nm.byB
  dsimp only
  have hl := Nm.list_most h4 0 (by decide) rfl hw
  have hc : cond = 0 := by simpa [Im.condB] using h5
  obtain rfl : false = s := Nm.flag_off h6 (by decide)
  clear h4 h5 h6 hw
  rcases h3' with ⟨rfl, q1, q2, rfl, rfl⟩ | ⟨rfl, q1, q2, q3, q4, rfl⟩ | ⟨rfl, q1, q2, rfl⟩
  · have FF : Im.fieldsI 26 0 false = ⟨24575, 32767, 24575, 0, 4095, 1, 0, 0⟩ := rfl
    rw [FF] at h1 h2 q1 q2
    dsimp only at h1 h2 q1 q2
    exfalso; omega
  · have FF : Im.fieldsI 26 1 false = ⟨24575, 32767, 24575, 0, 4095, 1, 0, 0⟩ := rfl
    rw [FF] at h1 h2 q1 q2 q3 q4
    dsimp only at h1 h2 q1 q2 q3 q4
    have hd := Nm.one_in h1 (by decide)
    have hn := Nm.one_in h2 (by decide)
    clear h1 h2
    obtain ⟨x, hx⟩ : ∃ x, imm % 4294967296 = x := ⟨_, rfl⟩
    simp only [searchC]
    rw [fill_18_1 cond rd rn 0 imm list x hx (by omega) (by omega) (by omega) (by omega) (by omega) (by omega) (by omega) (by omega) (by omega) (by omega), fill_21_5 cond rd rn 0 imm list x hx (by omega) (by omega) (by omega) (by omega) (by omega) (by omega) (by omega) (by omega) (by omega) (by omega)]
    cases it
    all_goals (try simp only [searchC, show row_18.asks = 1 from rfl, asks_1, show row_21.asks = 2 from rfl, asks_2, orI_ite2, orI_some, orI_nil, orI_none, z7_iff, Nm.opt, Nm.low, Nm.up, Bool.and_eq_true, Bool.or_eq_true, beq_iff_eq, decide_eq_true_eq, Bool.not_eq_true', bne_self_eq_false, Bool.false_eq_true, Bool.true_eq_false, Bool.not_true, Bool.not_false, bne_iff_ne, ne_eq, not_true_eq_false, not_false_eq_true, reduceCtorEq, true_and, and_true, false_and, and_false, if_true, if_false, ite_self, Int.reduceEq, Int.reduceBEq, Int.reduceLE, Int.reduceLT, Int.reduceSub, Int.reduceMul, true_or, or_true, or_false, false_or, and_self, Bool.bne_false, Bool.bne_true, Bool.false_bne, Bool.true_bne, Bool.not_eq_eq_eq_not, bne_self_eq_false])
    all_goals (repeat' split)
    all_goals first | rfl | (exfalso; omega) | (apply congrArg some; omega)
  · have FF : Im.fieldsI 26 2 false = ⟨24575, 32767, 24575, 0, 4095, 1, 0, 0⟩ := rfl
    rw [FF] at h1 h2 q1 q2
    dsimp only at h1 h2 q1 q2
    have hd := Nm.one_in h1 (by decide)
    have hn := Nm.one_in h2 (by decide)
    have hm := Nm.one_in q2 (by decide)
    clear h1 h2
    obtain ⟨x, hx⟩ : ∃ x, (0 : Int) % 4294967296 = x := ⟨_, rfl⟩
    simp only [searchC]
    rw [fill_18_1 cond rd rn rm 0 list x hx (by omega) (by omega) (by omega) (by omega) (by omega) (by omega) (by omega) (by omega) (by omega) (by omega), fill_21_5 cond rd rn rm 0 list x hx (by omega) (by omega) (by omega) (by omega) (by omega) (by omega) (by omega) (by omega) (by omega) (by omega)]
    cases it
    all_goals (try simp only [searchC, show row_18.asks = 1 from rfl, asks_1, show row_21.asks = 2 from rfl, asks_2, orI_ite2, orI_some, orI_nil, orI_none, z7_iff, Nm.opt, Nm.low, Nm.up, Bool.and_eq_true, Bool.or_eq_true, beq_iff_eq, decide_eq_true_eq, Bool.not_eq_true', bne_self_eq_false, Bool.false_eq_true, Bool.true_eq_false, Bool.not_true, Bool.not_false, bne_iff_ne, ne_eq, not_true_eq_false, not_false_eq_true, reduceCtorEq, true_and, and_true, false_and, and_false, if_true, if_false, ite_self, Int.reduceEq, Int.reduceBEq, Int.reduceLE, Int.reduceLT, Int.reduceSub, Int.reduceMul, true_or, or_true, or_false, false_or, and_self, Bool.bne_false, Bool.bne_true, Bool.false_bne, Bool.true_bne, Bool.not_eq_eq_eq_not, bne_self_eq_false])
    all_goals (repeat' split)
    all_goals first | rfl | (exfalso; omega) | (apply congrArg some; omega)
set_option linter.unusedSimpArgs false in
set_option maxHeartbeats 4000000 in
theorem enc_27 (cond rd rn rm imm mode list : Int) (s it : Bool) (hok : Nm.okB ⟨27, cond, rd, rn, rm, imm, mode, list, s⟩ = true) (hw : Nm.Wide list) :
    searchP (traitsI cond rd rn rm mode s it) 27 cond rd rn rm imm list formTab = Nm.rowI ⟨27, cond, rd, rn, rm, imm, mode, list, s⟩ it := by
  obtain ⟨_, h1, h2, h3, h4, h5, h6⟩ := Nm.ok_parts hok
  clear hok
  have h3' := Nm.last_cases h3
  clear h3
  dsimp only at h1 h2 h3' h4 h5 h6
  rw [search_c, show formTab.flatMap (candsOf 27) = cands 27 from rfl, cands_27]
  unfold Nm.rowI Nm.loadI Nm.regB Nm.immB Nm.byB
  dsimp only
  have hl := Nm.list_most h4 0 (by decide) rfl hw
  have hc : cond = 0 := by simpa [Im.condB] using h5
  obtain rfl : false = s := Nm.flag_off h6 (by decide)
  clear h4 h5 h6 hw
  rcases h3' with ⟨rfl, q1, q2, rfl, rfl⟩ | ⟨rfl, q1, q2, q3, q4, rfl⟩ | ⟨rfl, q1, q2, rfl⟩
  · have FF : Im.fieldsI 27 0 false = ⟨24575, 32767, 24575, 0, 4095, 1, 0, 0⟩ := rfl
    rw [FF] at h1 h2 q1 q2
    dsimp only at h1 h2 q1 q2
    exfalso; omega
  · have FF : Im.fieldsI 27 1 false = ⟨24575, 32767, 24575, 0, 4095, 1, 0, 0⟩ := rfl
    rw [FF] at h1 h2 q1 q2 q3 q4
    dsimp only at h1 h2 q1 q2 q3 q4
    have hd := Nm.one_in h1 (by decide)
    have hn := Nm.one_in h2 (by decide)
    clear h1 h2
    obtain ⟨x, hx⟩ : ∃ x, imm % 4294967296 = x := ⟨_, rfl⟩
    simp only [searchC]
    rw [fill_19_1 cond rd rn 0 imm list x hx (by omega) (by omega) (by omega) (by omega) (by omega) (by omega) (by omega) (by omega) (by omega) (by omega), fill_21_4 cond rd rn 0 imm list x hx (by omega) (by omega) (by omega) (by omega) (by omega) (by omega) (by omega) (by omega) (by omega) (by omega)]
    cases it
    all_goals (try simp only [searchC, show row_19.asks = 1 from rfl, asks_1, show row_21.asks = 2 from rfl, asks_2, orI_ite2, orI_some, orI_nil, orI_none, z7_iff, Nm.opt, Nm.low, Nm.up, Bool.and_eq_true, Bool.or_eq_true, beq_iff_eq, decide_eq_true_eq, Bool.not_eq_true', bne_self_eq_false, Bool.false_eq_true, Bool.true_eq_false, Bool.not_true, Bool.not_false, bne_iff_ne, ne_eq, not_true_eq_false, not_false_eq_true, reduceCtorEq, true_and, and_true, false_and, and_false, if_true, if_false, ite_self, Int.reduceEq, Int.reduceBEq, Int.reduceLE, Int.reduceLT, Int.reduceSub, Int.reduceMul, true_or, or_true, or_false, false_or, and_self, Bool.bne_false, Bool.bne_true, Bool.false_bne, Bool.true_bne, Bool.not_eq_eq_eq_not, bne_self_eq_false])
    all_goals (repeat' split)
    all_goals first | rfl | (exfalso; omega) | (apply congrArg some; omega)
  · have FF : Im.fieldsI 27 2 false = ⟨24575, 32767, 24575, 0, 4095, 1, 0, 0⟩ := rfl
    rw [FF] at h1 h2 q1 q2
    dsimp only at h1 h2 q1 q2
    have hd := Nm.one_in h1 (by decide)
    have hn := Nm.one_in h2 (by decide)
    have hm := Nm.one_in q2 (by decide)
    clear h1 h2
    obtain ⟨x, hx⟩ : ∃ x, (0 : Int) % 4294967296 = x := ⟨_, rfl⟩
    simp only [searchC]
    rw [fill_19_1 cond rd rn rm 0 list x hx (by omega) (by omega) (by omega) (by omega) (by omega) (by omega) (by omega) (by omega) (by omega) (by omega), fill_21_4 cond rd rn rm 0 list x hx (by omega) (by omega) (by omega) (by omega) (by omega) (by omega) (by omega) (by omega) (by omega) (by omega)]
    cases it
    all_goals (try simp only [searchC, show row_19.asks = 1 from rfl, asks_1, show row_21.asks = 2 from rfl, asks_2, orI_ite2, orI_some, orI_nil, orI_none, z7_iff, Nm.opt, Nm.low, Nm.up, Bool.and_eq_true, Bool.or_eq_true, beq_iff_eq, decide_eq_true_eq, Bool.not_eq_true', bne_self_eq_false, Bool.false_eq_true, Bool.true_eq_false, Bool.not_true, Bool.not_false, bne_iff_ne, ne_eq, not_true_eq_false, not_false_eq_true, reduceCtorEq, true_and, and_true, false_and, and_false, if_true, if_false, ite_self, Int.reduceEq, Int.reduceBEq, Int.reduceLE, Int.reduceLT, Int.reduceSub, Int.reduceMul, true_or, or_true, or_false, false_or, and_self, Bool.bne_false, Bool.bne_true, Bool.false_bne, Bool.true_bne, Bool.not_eq_eq_eq_not, bne_self_eq_false])
    all_goals (repeat' split)
    all_goals first | rfl | (exfalso; omega) | (apply congrArg some; omega)
set_option linter.unusedSimpArgs false in
set_option maxHeartbeats 4000000 in
theorem enc_28 (cond rd rn rm imm mode list : Int) (s it : Bool) (hok : Nm.okB ⟨28, cond, rd, rn, rm, imm, mode, list, s⟩ = true) (hw : Nm.Wide list) :
    searchP (traitsI cond rd rn rm mode s it) 28 cond rd rn rm imm list formTab = Nm.rowI ⟨28, cond, rd, rn, rm, imm, mode, list, s⟩ it := by
  obtain ⟨_, h1, h2, h3, h4, h5, h6⟩ := Nm.ok_parts hok
  clear hok
  have h3' := Nm.last_cases h3
  clear h3
  dsimp only at h1 h2 h3' h4 h5 h6
  rw [search_c, show formTab.flatMap (candsOf 28) = cands 28 from rfl, cands_28]
  unfold Nm.rowI Nm.loadI Nm.regB Nm.immB Nm.byB
  dsimp only
  have hl := Nm.list_most h4 0 (by decide) rfl hw
  have hc : cond = 0 := by simpa [Im.condB] using h5
  obtain rfl : false = s := Nm.flag_off h6 (by decide)
  clear h4 h5 h6 hw
  rcases h3' with ⟨rfl, q1, q2, rfl, rfl⟩ | ⟨rfl, q1, q2, q3, q4, rfl⟩ | ⟨rfl, q1, q2, rfl⟩
  · have FF : Im.fieldsI 28 0 false = ⟨24575, 32767, 24575, 0, 4095, 1, 0, 0⟩ := rfl
    rw [FF] at h1 h2 q1 q2
    dsimp only at h1 h2 q1 q2
    exfalso; omega
  · have FF : Im.fieldsI 28 1 false = ⟨24575, 32767, 24575, 0, 4095, 1, 0, 0⟩ := rfl
    rw [FF] at h1 h2 q1 q2 q3 q4
    dsimp only at h1 h2 q1 q2 q3 q4
    have hd := Nm.one_in h1 (by decide)
    have hn := Nm.one_in h2 (by decide)
    clear h1 h2
    obtain ⟨x, hx⟩ : ∃ x, imm % 4294967296 = x := ⟨_, rfl⟩
    simp only [searchC]
    rw [fill_17_0 cond rd rn 0 imm list x hx (by omega) (by omega) (by omega) (by omega) (by omega) (by omega) (by omega) (by omega) (by omega) (by omega), fill_20_0 cond rd rn 0 imm list x hx (by omega) (by omega) (by omega) (by omega) (by omega) (by omega) (by omega) (by omega) (by omega) (by omega), fill_21_0 cond rd rn 0 imm list x hx (by omega) (by omega) (by omega) (by omega) (by omega) (by omega) (by omega) (by omega) (by omega) (by omega)]
    cases it
    all_goals (try simp only [searchC, show row_17.asks = 1 from rfl, asks_1, show row_20.asks = 513 from rfl, asks_513, show row_21.asks = 2 from rfl, asks_2, orI_ite2, orI_some, orI_nil, orI_none, z7_iff, Nm.opt, Nm.low, Nm.up, Bool.and_eq_true, Bool.or_eq_true, beq_iff_eq, decide_eq_true_eq, Bool.not_eq_true', bne_self_eq_false, Bool.false_eq_true, Bool.true_eq_false, Bool.not_true, Bool.not_false, bne_iff_ne, ne_eq, not_true_eq_false, not_false_eq_true, reduceCtorEq, true_and, and_true, false_and, and_false, if_true, if_false, ite_self, Int.reduceEq, Int.reduceBEq, Int.reduceLE, Int.reduceLT, Int.reduceSub, Int.reduceMul, true_or, or_true, or_false, false_or, and_self, Bool.bne_false, Bool.bne_true, Bool.false_bne, Bool.true_bne, Bool.not_eq_eq_eq_not, bne_self_eq_false])
    all_goals (repeat' split)
    all_goals first | rfl | (exfalso; omega) | (apply congrArg some; omega)
  · have FF : Im.fieldsI 28 2 false = ⟨24575, 32767, 24575, 0, 4095, 1, 0, 0⟩ := rfl
    rw [FF] at h1 h2 q1 q2
    dsimp only at h1 h2 q1 q2
    have hd := Nm.one_in h1 (by decide)
    have hn := Nm.one_in h2 (by decide)
    have hm := Nm.one_in q2 (by decide)
    clear h1 h2
    obtain ⟨x, hx⟩ : ∃ x, (0 : Int) % 4294967296 = x := ⟨_, rfl⟩
    simp only [searchC]
    rw [fill_17_0 cond rd rn rm 0 list x hx (by omega) (by omega) (by omega) (by omega) (by omega) (by omega) (by omega) (by omega) (by omega) (by omega), fill_20_0 cond rd rn rm 0 list x hx (by omega) (by omega) (by omega) (by omega) (by omega) (by omega) (by omega) (by omega) (by omega) (by omega), fill_21_0 cond rd rn rm 0 list x hx (by omega) (by omega) (by omega) (by omega) (by omega) (by omega) (by omega) (by omega) (by omega) (by omega)]
    cases it
    all_goals (try simp only [searchC, show row_17.asks = 1 from rfl, asks_1, show row_20.asks = 513 from rfl, asks_513, show row_21.asks = 2 from rfl, asks_2, orI_ite2, orI_some, orI_nil, orI_none, z7_iff, Nm.opt, Nm.low, Nm.up, Bool.and_eq_true, Bool.or_eq_true, beq_iff_eq, decide_eq_true_eq, Bool.not_eq_true', bne_self_eq_false, Bool.false_eq_true, Bool.true_eq_false, Bool.not_true, Bool.not_false, bne_iff_ne, ne_eq, not_true_eq_false, not_false_eq_true, reduceCtorEq, true_and, and_true, false_and, and_false, if_true, if_false, ite_self, Int.reduceEq, Int.reduceBEq, Int.reduceLE, Int.reduceLT, Int.reduceSub, Int.reduceMul, true_or, or_true, or_false, false_or, and_self, Bool.bne_false, Bool.bne_true, Bool.false_bne, Bool.true_bne, Bool.not_eq_eq_eq_not, bne_self_eq_false])
    all_goals (repeat' split)
    all_goals first | rfl | (exfalso; omega) | (apply congrArg some; omega)
set_option linter.unusedSimpArgs false in
set_option maxHeartbeats 4000000 in
theorem enc_29 (cond rd rn rm imm mode list : Int) (s it : Bool) (hok : Nm.okB ⟨29, cond, rd, rn, rm, imm, mode, list, s⟩ = true) (hw : Nm.Wide list) :
    searchP (traitsI cond rd rn rm mode s it) 29 cond rd rn rm imm list formTab = Nm.rowI ⟨29, cond, rd, rn, rm, imm, mode, list, s⟩ it := by
  obtain ⟨_, h1, h2, h3, h4, h5, h6⟩ := Nm.ok_parts hok
  clear hok
  have h3' := Nm.last_cases h3
  clear h3
  dsimp only at h1 h2 h3' h4 h5 h6
  rw [search_c, show formTab.flatMap (candsOf 29) = cands 29 from rfl, cands_29]
  unfold Nm.rowI Nm.loadI Nm.regB Nm.immB Nm.byB
  dsimp only
  have hl := Nm.list_most h4 0 (by decide) rfl hw
  have hc : cond = 0 := by simpa [Im.condB] using h5
  obtain rfl : false = s := Nm.flag_off h6 (by decide)
  clear h4 h5 h6 hw
  rcases h3' with ⟨rfl, q1, q2, rfl, rfl⟩ | ⟨rfl, q1, q2, q3, q4, rfl⟩ | ⟨rfl, q1, q2, rfl⟩
  · have FF : Im.fieldsI 29 0 false = ⟨24575, 32767, 24575, 0, 4095, 1, 0, 0⟩ := rfl
    rw [FF] at h1 h2 q1 q2
    dsimp only at h1 h2 q1 q2
    exfalso; omega
  · have FF : Im.fieldsI 29 1 false = ⟨24575, 32767, 24575, 0, 4095, 1, 0, 0⟩ := rfl
    rw [FF] at h1 h2 q1 q2 q3 q4
    dsimp only at h1 h2 q1 q2 q3 q4
    have hd := Nm.one_in h1 (by decide)
    have hn := Nm.one_in h2 (by decide)
    clear h1 h2
    obtain ⟨x, hx⟩ : ∃ x, imm % 4294967296 = x := ⟨_, rfl⟩
    simp only [searchC]
    rw [fill_18_0 cond rd rn 0 imm list x hx (by omega) (by omega) (by omega) (by omega) (by omega) (by omega) (by omega) (by omega) (by omega) (by omega), fill_21_2 cond rd rn 0 imm list x hx (by omega) (by omega) (by omega) (by omega) (by omega) (by omega) (by omega) (by omega) (by omega) (by omega)]
    cases it
    all_goals (try simp only [searchC, show row_18.asks = 1 from rfl, asks_1, show row_21.asks = 2 from rfl, asks_2, orI_ite2, orI_some, orI_nil, orI_none, z7_iff, Nm.opt, Nm.low, Nm.up, Bool.and_eq_true, Bool.or_eq_true, beq_iff_eq, decide_eq_true_eq, Bool.not_eq_true', bne_self_eq_false, Bool.false_eq_true, Bool.true_eq_false, Bool.not_true, Bool.not_false, bne_iff_ne, ne_eq, not_true_eq_false, not_false_eq_true, reduceCtorEq, true_and, and_true, false_and, and_false, if_true, if_false, ite_self, Int.reduceEq, Int.reduceBEq, Int.reduceLE, Int.reduceLT, Int.reduceSub, Int.reduceMul, true_or, or_true, or_false, false_or, and_self, Bool.bne_false, Bool.bne_true, Bool.false_bne, Bool.true_bne, Bool.not_eq_eq_eq_not, bne_self_eq_false])
    all_goals (repeat' split)
    all_goals first | rfl | (exfalso; omega) | (apply congrArg some; omega)
  · have FF : Im.fieldsI 29 2 false = ⟨24575, 32767, 24575, 0, 4095, 1, 0, 0⟩ := rfl
    rw [FF] at h1 h2 q1 q2
    dsimp only at h1 h2 q1 q2
    have hd := Nm.one_in h1 (by decide)
    have hn := Nm.one_in h2 (by decide)
    have hm := Nm.one_in q2 (by decide)
    clear h1 h2
    obtain ⟨x, hx⟩ : ∃ x, (0 : Int) % 4294967296 = x := ⟨_, rfl⟩
    simp only [searchC]
    rw [fill_18_0 cond rd rn rm 0 list x hx (by omega) (by omega) (by omega) (by omega) (by omega) (by omega) (by omega) (by omega) (by omega) (by omega), fill_21_2 cond rd rn rm 0 list x hx (by omega) (by omega) (by omega) (by omega) (by omega) (by omega) (by omega) (by omega) (by omega) (by omega)]
    cases it
    all_goals (try simp only [searchC, show row_18.asks = 1 from rfl, asks_1, show row_21.asks = 2 from rfl, asks_2, orI_ite2, orI_some, orI_nil, orI_none, z7_iff, Nm.opt, Nm.low, Nm.up, Bool.and_eq_true, Bool.or_eq_true, beq_iff_eq, decide_eq_true_eq, Bool.not_eq_true', bne_self_eq_false, Bool.false_eq_true, Bool.true_eq_false, Bool.not_true, Bool.not_false, bne_iff_ne, ne_eq, not_true_eq_false, not_false_eq_true, reduceCtorEq, true_and, and_true, false_and, and_false, if_true, if_false, ite_self, Int.reduceEq, Int.reduceBEq, Int.reduceLE, Int.reduceLT, Int.reduceSub, Int.reduceMul, true_or, or_true, or_false, false_or, and_self, Bool.bne_false, Bool.bne_true, Bool.false_bne, Bool.true_bne, Bool.not_eq_eq_eq_not, bne_self_eq_false])
    all_goals (repeat' split)
    all_goals first | rfl | (exfalso; omega) | (apply congrArg some; omega)
set_option linter.unusedSimpArgs false in
set_option maxHeartbeats 4000000 in
theorem enc_30 (cond rd rn rm imm mode list : Int) (s it : Bool) (hok : Nm.okB ⟨30, cond, rd, rn, rm, imm, mode, list, s⟩ = true) (hw : Nm.Wide list) :
    searchP (traitsI cond rd rn rm mode s it) 30 cond rd rn rm imm list formTab = Nm.rowI ⟨30, cond, rd, rn, rm, imm, mode, list, s⟩ it := by
  obtain ⟨_, h1, h2, h3, h4, h5, h6⟩ := Nm.ok_parts hok
  clear hok
  have h3' := Nm.last_cases h3
  clear h3
  dsimp only at h1 h2 h3' h4 h5 h6
  rw [search_c, show formTab.flatMap (candsOf 30) = cands 30 from rfl, cands_30]
  unfold Nm.rowI Nm.loadI Nm.regB Nm.immB Nm.byB
  dsimp only
  have hl := Nm.list_most h4 0 (by decide) rfl hw
  have hc : cond = 0 := by simpa [Im.condB] using h5
  obtain rfl : false = s := Nm.flag_off h6 (by decide)
  clear h4 h5 h6 hw
  rcases h3' with ⟨rfl, q1, q2, rfl, rfl⟩ | ⟨rfl, q1, q2, q3, q4, rfl⟩ | ⟨rfl, q1, q2, rfl⟩
  · have FF : Im.fieldsI 30 0 false = ⟨24575, 32767, 24575, 0, 4095, 1, 0, 0⟩ := rfl
    rw [FF] at h1 h2 q1 q2
    dsimp only at h1 h2 q1 q2
    exfalso; omega
  · have FF : Im.fieldsI 30 1 false = ⟨24575, 32767, 24575, 0, 4095, 1, 0, 0⟩ := rfl
    rw [FF] at h1 h2 q1 q2 q3 q4
    dsimp only at h1 h2 q1 q2 q3 q4
    have hd := Nm.one_in h1 (by decide)
    have hn := Nm.one_in h2 (by decide)
    clear h1 h2
    obtain ⟨x, hx⟩ : ∃ x, imm % 4294967296 = x := ⟨_, rfl⟩
    simp only [searchC]
    rw [fill_19_0 cond rd rn 0 imm list x hx (by omega) (by omega) (by omega) (by omega) (by omega) (by omega) (by omega) (by omega) (by omega) (by omega), fill_21_1 cond rd rn 0 imm list x hx (by omega) (by omega) (by omega) (by omega) (by omega) (by omega) (by omega) (by omega) (by omega) (by omega)]
    cases it
    all_goals (try simp only [searchC, show row_19.asks = 1 from rfl, asks_1, show row_21.asks = 2 from rfl, asks_2, orI_ite2, orI_some, orI_nil, orI_none, z7_iff, Nm.opt, Nm.low, Nm.up, Bool.and_eq_true, Bool.or_eq_true, beq_iff_eq, decide_eq_true_eq, Bool.not_eq_true', bne_self_eq_false, Bool.false_eq_true, Bool.true_eq_false, Bool.not_true, Bool.not_false, bne_iff_ne, ne_eq, not_true_eq_false, not_false_eq_true, reduceCtorEq, true_and, and_true, false_and, and_false, if_true, if_false, ite_self, Int.reduceEq, Int.reduceBEq, Int.reduceLE, Int.reduceLT, Int.reduceSub, Int.reduceMul, true_or, or_true, or_false, false_or, and_self, Bool.bne_false, Bool.bne_true, Bool.false_bne, Bool.true_bne, Bool.not_eq_eq_eq_not, bne_self_eq_false])
    all_goals (repeat' split)
    all_goals first | rfl | (exfalso; omega) | (apply congrArg some; omega)
  · have FF : Im.fieldsI 30 2 false = ⟨24575, 32767, 24575, 0, 4095, 1, 0, 0⟩ := rfl
    rw [FF] at h1 h2 q1 q2
    dsimp only at h1 h2 q1 q2
    have hd := Nm.one_in h1 (by decide)
    have hn := Nm.one_in h2 (by decide)
    have hm := Nm.one_in q2 (by decide)
    clear h1 h2
    obtain ⟨x, hx⟩ : ∃ x, (0 : Int) % 4294967296 = x := ⟨_, rfl⟩
    simp only [searchC]
    rw [fill_19_0 cond rd rn rm 0 list x hx (by omega) (by omega) (by omega) (by omega) (by omega) (by omega) (by omega) (by omega) (by omega) (by omega), fill_21_1 cond rd rn rm 0 list x hx (by omega) (by omega) (by omega) (by omega) (by omega) (by omega) (by omega) (by omega) (by omega) (by omega)]
    cases it
    all_goals (try simp only [searchC, show row_19.asks = 1 from rfl, asks_1, show row_21.asks = 2 from rfl, asks_2, orI_ite2, orI_some, orI_nil, orI_none, z7_iff, Nm.opt, Nm.low, Nm.up, Bool.and_eq_true, Bool.or_eq_true, beq_iff_eq, decide_eq_true_eq, Bool.not_eq_true', bne_self_eq_false, Bool.false_eq_true, Bool.true_eq_false, Bool.not_true, Bool.not_false, bne_iff_ne, ne_eq, not_true_eq_false, not_false_eq_true, reduceCtorEq, true_and, and_true, false_and, and_false, if_true, if_false, ite_self, Int.reduceEq, Int.reduceBEq, Int.reduceLE, Int.reduceLT, Int.reduceSub, Int.reduceMul, true_or, or_true, or_false, false_or, and_self, Bool.bne_false, Bool.bne_true, Bool.false_bne, Bool.true_bne, Bool.not_eq_eq_eq_not, bne_self_eq_false])
    all_goals (repeat' split)
    all_goals first | rfl | (exfalso; omega) | (apply congrArg some; omega)
end Pl
end Go.Proofs.YthpoficikcicmaaDoor
