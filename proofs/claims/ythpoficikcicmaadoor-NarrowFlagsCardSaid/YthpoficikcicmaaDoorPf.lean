/- Encode's search is the document's row, operation by operation (text by gen_pe.py). No conditions but those that each fact names. -/
import Derived.Test.YthpoficikcicmaaDoorRows
import Derived.Test.YthpoficikcicmaaDoorPd
namespace Go.Proofs.YthpoficikcicmaaDoor
open Go.ChangeShapes Go.WideShapes Go.ChangeAt Go.RowKit
namespace Pl

set_option linter.unusedSimpArgs false in
set_option maxHeartbeats 4000000 in
theorem enc_5 (cond rd rn rm imm mode list : Int) (s it : Bool) (hok : Nm.okB ⟨5, cond, rd, rn, rm, imm, mode, list, s⟩ = true) (hw : Nm.Wide list) :
    searchP (traitsI cond rd rn rm mode s it) 5 cond rd rn rm imm list formTab = Nm.rowI ⟨5, cond, rd, rn, rm, imm, mode, list, s⟩ it := by
  obtain ⟨_, h1, h2, h3, h4, h5, h6⟩ := Nm.ok_parts hok
  clear hok
  have h3' := Nm.last_cases h3
  clear h3
  dsimp only at h1 h2 h3' h4 h5 h6
  rw [search_c, show formTab.flatMap (candsOf 5) = cands 5 from rfl, cands_5]
  unfold Nm.rowI Nm.sumI Nm.subI
  dsimp only
  have hl := Nm.list_most h4 0 (by decide) rfl hw
  have hc : cond = 0 := by simpa [Im.condB] using h5
  clear h4 h5 h6 hw
  rcases h3' with ⟨rfl, q1, q2, rfl, rfl⟩ | ⟨rfl, q1, q2, q3, q4, rfl⟩ | ⟨rfl, q1, q2, rfl⟩
  · have FF : Im.fieldsI 5 0 s = ⟨24575, 24575, 24575, 0, 4294967295, 1, 0, 0⟩ := rfl
    rw [FF] at h1 h2 q1 q2
    dsimp only at h1 h2 q1 q2
    exfalso; omega
  · have FF : Im.fieldsI 5 1 s = ⟨24575, 24575, 24575, 0, 4294967295, 1, 0, 0⟩ := rfl
    rw [FF] at h1 h2 q1 q2 q3 q4
    dsimp only at h1 h2 q1 q2 q3 q4
    have hd := Nm.one_in h1 (by decide)
    have hn := Nm.one_in h2 (by decide)
    clear h1 h2
    obtain ⟨x, hx⟩ : ∃ x, imm % 4294967296 = x := ⟨_, rfl⟩
    simp only [searchC]
    rw [fill_11_0 cond rd rn 0 imm list x hx (by omega) (by omega) (by omega) (by omega) (by omega) (by omega) (by omega) (by omega) (by omega) (by omega), fill_12_0 cond rd rn 0 imm list x hx (by omega) (by omega) (by omega) (by omega) (by omega) (by omega) (by omega) (by omega) (by omega) (by omega), fill_13_0 cond rd rn 0 imm list x hx (by omega) (by omega) (by omega) (by omega) (by omega) (by omega) (by omega) (by omega) (by omega) (by omega), fill_14_0 cond rd rn 0 imm list x hx (by omega) (by omega) (by omega) (by omega) (by omega) (by omega) (by omega) (by omega) (by omega) (by omega)]
    cases s <;> cases it
    all_goals (try simp only [searchC, show row_11.asks = 66 from rfl, asks_66, show row_12.asks = 162 from rfl, asks_162, show row_13.asks = 65 from rfl, asks_65, show row_14.asks = 193 from rfl, asks_193, orI_ite2, orI_some, orI_nil, orI_none, z7_iff, Nm.opt, Nm.low, Nm.up, Bool.and_eq_true, Bool.or_eq_true, beq_iff_eq, decide_eq_true_eq, Bool.not_eq_true', bne_self_eq_false, Bool.false_eq_true, Bool.true_eq_false, Bool.not_true, Bool.not_false, bne_iff_ne, ne_eq, not_true_eq_false, not_false_eq_true, reduceCtorEq, true_and, and_true, false_and, and_false, if_true, if_false, ite_self, Int.reduceEq, Int.reduceBEq, Int.reduceLE, Int.reduceLT, Int.reduceSub, Int.reduceMul, true_or, or_true, or_false, false_or, and_self, Bool.bne_false, Bool.bne_true, Bool.false_bne, Bool.true_bne, Bool.not_eq_eq_eq_not, bne_self_eq_false])
    all_goals (repeat' split)
    all_goals first | rfl | (exfalso; omega) | (apply congrArg some; omega)
  · have FF : Im.fieldsI 5 2 s = ⟨24575, 24575, 24575, 0, 4294967295, 1, 0, 0⟩ := rfl
    rw [FF] at h1 h2 q1 q2
    dsimp only at h1 h2 q1 q2
    have hd := Nm.one_in h1 (by decide)
    have hn := Nm.one_in h2 (by decide)
    have hm := Nm.one_in q2 (by decide)
    clear h1 h2
    obtain ⟨x, hx⟩ : ∃ x, (0 : Int) % 4294967296 = x := ⟨_, rfl⟩
    simp only [searchC]
    rw [fill_11_0 cond rd rn rm 0 list x hx (by omega) (by omega) (by omega) (by omega) (by omega) (by omega) (by omega) (by omega) (by omega) (by omega), fill_12_0 cond rd rn rm 0 list x hx (by omega) (by omega) (by omega) (by omega) (by omega) (by omega) (by omega) (by omega) (by omega) (by omega), fill_13_0 cond rd rn rm 0 list x hx (by omega) (by omega) (by omega) (by omega) (by omega) (by omega) (by omega) (by omega) (by omega) (by omega), fill_14_0 cond rd rn rm 0 list x hx (by omega) (by omega) (by omega) (by omega) (by omega) (by omega) (by omega) (by omega) (by omega) (by omega)]
    cases s <;> cases it
    all_goals (try simp only [searchC, show row_11.asks = 66 from rfl, asks_66, show row_12.asks = 162 from rfl, asks_162, show row_13.asks = 65 from rfl, asks_65, show row_14.asks = 193 from rfl, asks_193, orI_ite2, orI_some, orI_nil, orI_none, z7_iff, Nm.opt, Nm.low, Nm.up, Bool.and_eq_true, Bool.or_eq_true, beq_iff_eq, decide_eq_true_eq, Bool.not_eq_true', bne_self_eq_false, Bool.false_eq_true, Bool.true_eq_false, Bool.not_true, Bool.not_false, bne_iff_ne, ne_eq, not_true_eq_false, not_false_eq_true, reduceCtorEq, true_and, and_true, false_and, and_false, if_true, if_false, ite_self, Int.reduceEq, Int.reduceBEq, Int.reduceLE, Int.reduceLT, Int.reduceSub, Int.reduceMul, true_or, or_true, or_false, false_or, and_self, Bool.bne_false, Bool.bne_true, Bool.false_bne, Bool.true_bne, Bool.not_eq_eq_eq_not, bne_self_eq_false])
    all_goals (repeat' split)
    all_goals first | rfl | (exfalso; omega) | (apply congrArg some; omega)
set_option linter.unusedSimpArgs false in
set_option maxHeartbeats 4000000 in
theorem enc_7 (cond rd rn rm imm mode list : Int) (s it : Bool) (hok : Nm.okB ⟨7, cond, rd, rn, rm, imm, mode, list, s⟩ = true) (hw : Nm.Wide list) :
    searchP (traitsI cond rd rn rm mode s it) 7 cond rd rn rm imm list formTab = Nm.rowI ⟨7, cond, rd, rn, rm, imm, mode, list, s⟩ it := by
  obtain ⟨_, h1, h2, h3, h4, h5, h6⟩ := Nm.ok_parts hok
  clear hok
  have h3' := Nm.last_cases h3
  clear h3
  dsimp only at h1 h2 h3' h4 h5 h6
  rw [search_c, show formTab.flatMap (candsOf 7) = cands 7 from rfl, cands_7]
  unfold Nm.rowI Nm.sumI Nm.subI
  dsimp only
  have hl := Nm.list_most h4 0 (by decide) rfl hw
  have hc : cond = 0 := by simpa [Im.condB] using h5
  clear h4 h5 h6 hw
  rcases h3' with ⟨rfl, q1, q2, rfl, rfl⟩ | ⟨rfl, q1, q2, q3, q4, rfl⟩ | ⟨rfl, q1, q2, rfl⟩
  · have FF : Im.fieldsI 7 0 s = ⟨24575, 24575, 24575, 0, 4294967295, 1, 0, 0⟩ := rfl
    rw [FF] at h1 h2 q1 q2
    dsimp only at h1 h2 q1 q2
    exfalso; omega
  · have FF : Im.fieldsI 7 1 s = ⟨24575, 24575, 24575, 0, 4294967295, 1, 0, 0⟩ := rfl
    rw [FF] at h1 h2 q1 q2 q3 q4
    dsimp only at h1 h2 q1 q2 q3 q4
    have hd := Nm.one_in h1 (by decide)
    have hn := Nm.one_in h2 (by decide)
    clear h1 h2
    obtain ⟨x, hx⟩ : ∃ x, imm % 4294967296 = x := ⟨_, rfl⟩
    simp only [searchC]
    rw [fill_11_1 cond rd rn 0 imm list x hx (by omega) (by omega) (by omega) (by omega) (by omega) (by omega) (by omega) (by omega) (by omega) (by omega), fill_13_1 cond rd rn 0 imm list x hx (by omega) (by omega) (by omega) (by omega) (by omega) (by omega) (by omega) (by omega) (by omega) (by omega), fill_14_1 cond rd rn 0 imm list x hx (by omega) (by omega) (by omega) (by omega) (by omega) (by omega) (by omega) (by omega) (by omega) (by omega)]
    cases s <;> cases it
    all_goals (try simp only [searchC, show row_11.asks = 66 from rfl, asks_66, show row_13.asks = 65 from rfl, asks_65, show row_14.asks = 193 from rfl, asks_193, orI_ite2, orI_some, orI_nil, orI_none, z7_iff, Nm.opt, Nm.low, Nm.up, Bool.and_eq_true, Bool.or_eq_true, beq_iff_eq, decide_eq_true_eq, Bool.not_eq_true', bne_self_eq_false, Bool.false_eq_true, Bool.true_eq_false, Bool.not_true, Bool.not_false, bne_iff_ne, ne_eq, not_true_eq_false, not_false_eq_true, reduceCtorEq, true_and, and_true, false_and, and_false, if_true, if_false, ite_self, Int.reduceEq, Int.reduceBEq, Int.reduceLE, Int.reduceLT, Int.reduceSub, Int.reduceMul, true_or, or_true, or_false, false_or, and_self, Bool.bne_false, Bool.bne_true, Bool.false_bne, Bool.true_bne, Bool.not_eq_eq_eq_not, bne_self_eq_false])
    all_goals (repeat' split)
    all_goals first | rfl | (exfalso; omega) | (apply congrArg some; omega)
  · have FF : Im.fieldsI 7 2 s = ⟨24575, 24575, 24575, 0, 4294967295, 1, 0, 0⟩ := rfl
    rw [FF] at h1 h2 q1 q2
    dsimp only at h1 h2 q1 q2
    have hd := Nm.one_in h1 (by decide)
    have hn := Nm.one_in h2 (by decide)
    have hm := Nm.one_in q2 (by decide)
    clear h1 h2
    obtain ⟨x, hx⟩ : ∃ x, (0 : Int) % 4294967296 = x := ⟨_, rfl⟩
    simp only [searchC]
    rw [fill_11_1 cond rd rn rm 0 list x hx (by omega) (by omega) (by omega) (by omega) (by omega) (by omega) (by omega) (by omega) (by omega) (by omega), fill_13_1 cond rd rn rm 0 list x hx (by omega) (by omega) (by omega) (by omega) (by omega) (by omega) (by omega) (by omega) (by omega) (by omega), fill_14_1 cond rd rn rm 0 list x hx (by omega) (by omega) (by omega) (by omega) (by omega) (by omega) (by omega) (by omega) (by omega) (by omega)]
    cases s <;> cases it
    all_goals (try simp only [searchC, show row_11.asks = 66 from rfl, asks_66, show row_13.asks = 65 from rfl, asks_65, show row_14.asks = 193 from rfl, asks_193, orI_ite2, orI_some, orI_nil, orI_none, z7_iff, Nm.opt, Nm.low, Nm.up, Bool.and_eq_true, Bool.or_eq_true, beq_iff_eq, decide_eq_true_eq, Bool.not_eq_true', bne_self_eq_false, Bool.false_eq_true, Bool.true_eq_false, Bool.not_true, Bool.not_false, bne_iff_ne, ne_eq, not_true_eq_false, not_false_eq_true, reduceCtorEq, true_and, and_true, false_and, and_false, if_true, if_false, ite_self, Int.reduceEq, Int.reduceBEq, Int.reduceLE, Int.reduceLT, Int.reduceSub, Int.reduceMul, true_or, or_true, or_false, false_or, and_self, Bool.bne_false, Bool.bne_true, Bool.false_bne, Bool.true_bne, Bool.not_eq_eq_eq_not, bne_self_eq_false])
    all_goals (repeat' split)
    all_goals first | rfl | (exfalso; omega) | (apply congrArg some; omega)
set_option linter.unusedSimpArgs false in
set_option maxHeartbeats 4000000 in
theorem enc_10 (cond rd rn rm imm mode list : Int) (s it : Bool) (hok : Nm.okB ⟨10, cond, rd, rn, rm, imm, mode, list, s⟩ = true) (hw : Nm.Wide list) :
    searchP (traitsI cond rd rn rm mode s it) 10 cond rd rn rm imm list formTab = Nm.rowI ⟨10, cond, rd, rn, rm, imm, mode, list, s⟩ it := by
  obtain ⟨_, h1, h2, h3, h4, h5, h6⟩ := Nm.ok_parts hok
  clear hok
  have h3' := Nm.last_cases h3
  clear h3
  dsimp only at h1 h2 h3' h4 h5 h6
  rw [search_c, show formTab.flatMap (candsOf 10) = cands 10 from rfl, cands_10]
  unfold Nm.rowI Nm.moveI
  dsimp only
  have hl : 0 ≤ list ∧ list ≤ 0 := by
    rcases h3' with ⟨rfl, q⟩ | ⟨rfl, q⟩ | ⟨rfl, q⟩ <;> cases s <;> exact Nm.list_most h4 0 (by decide) rfl hw
  have hc : cond = 0 := by simpa [Im.condB] using h5
  clear h4 h5 h6 hw
  rcases h3' with ⟨rfl, q1, q2, rfl, rfl⟩ | ⟨rfl, q1, q2, q3, q4, rfl⟩ | ⟨rfl, q1, q2, rfl⟩
  · cases s
    · have FF : Im.fieldsI 10 0 false = ⟨24575, 0, 24575, 0, 4294967295, 1, 0, 0⟩ := rfl
      rw [FF] at h1 h2 q1 q2
      dsimp only at h1 h2 q1 q2
      exfalso; omega
    · have FF : Im.fieldsI 10 0 true = ⟨24575, 0, 24575, 0, 4294967295, 1, 0, 0⟩ := rfl
      rw [FF] at h1 h2 q1 q2
      dsimp only at h1 h2 q1 q2
      exfalso; omega
  · cases s
    · have FF : Im.fieldsI 10 1 false = ⟨24575, 0, 24575, 0, 4294967295, 1, 0, 0⟩ := rfl
      rw [FF] at h1 h2 q1 q2 q3 q4
      dsimp only at h1 h2 q1 q2 q3 q4
      have hd := Nm.one_in h1 (by decide)
      have hn : rn = 0 := Nm.one_none h2
      clear h1 h2
      obtain ⟨x, hx⟩ : ∃ x, imm % 4294967296 = x := ⟨_, rfl⟩
      simp only [searchC]
      rw [fill_8_0 cond rd rn 0 imm list x hx (by omega) (by omega) (by omega) (by omega) (by omega) (by omega) (by omega) (by omega) (by omega) (by omega), fill_9_0 cond rd rn 0 imm list x hx (by omega) (by omega) (by omega) (by omega) (by omega) (by omega) (by omega) (by omega) (by omega) (by omega), fill_10_0 cond rd rn 0 imm list x hx (by omega) (by omega) (by omega) (by omega) (by omega) (by omega) (by omega) (by omega) (by omega) (by omega)]
      cases it
      all_goals (try simp only [searchC, show row_8.asks = 65 from rfl, asks_65, show row_9.asks = 22 from rfl, asks_22, show row_10.asks = 34 from rfl, asks_34, orI_ite2, orI_some, orI_nil, orI_none, z7_iff, Nm.opt, Nm.low, Nm.up, Bool.and_eq_true, Bool.or_eq_true, beq_iff_eq, decide_eq_true_eq, Bool.not_eq_true', bne_self_eq_false, Bool.false_eq_true, Bool.true_eq_false, Bool.not_true, Bool.not_false, bne_iff_ne, ne_eq, not_true_eq_false, not_false_eq_true, reduceCtorEq, true_and, and_true, false_and, and_false, if_true, if_false, ite_self, Int.reduceEq, Int.reduceBEq, Int.reduceLE, Int.reduceLT, Int.reduceSub, Int.reduceMul, true_or, or_true, or_false, false_or, and_self, Bool.bne_false, Bool.bne_true, Bool.false_bne, Bool.true_bne, Bool.not_eq_eq_eq_not, bne_self_eq_false])
      all_goals (repeat' split)
      all_goals first | rfl | (exfalso; omega) | (apply congrArg some; omega)
    · have FF : Im.fieldsI 10 1 true = ⟨24575, 0, 24575, 0, 4294967295, 1, 0, 0⟩ := rfl
      rw [FF] at h1 h2 q1 q2 q3 q4
      dsimp only at h1 h2 q1 q2 q3 q4
      have hd := Nm.one_in h1 (by decide)
      have hn : rn = 0 := Nm.one_none h2
      clear h1 h2
      obtain ⟨x, hx⟩ : ∃ x, imm % 4294967296 = x := ⟨_, rfl⟩
      simp only [searchC]
      rw [fill_8_0 cond rd rn 0 imm list x hx (by omega) (by omega) (by omega) (by omega) (by omega) (by omega) (by omega) (by omega) (by omega) (by omega), fill_9_0 cond rd rn 0 imm list x hx (by omega) (by omega) (by omega) (by omega) (by omega) (by omega) (by omega) (by omega) (by omega) (by omega), fill_10_0 cond rd rn 0 imm list x hx (by omega) (by omega) (by omega) (by omega) (by omega) (by omega) (by omega) (by omega) (by omega) (by omega)]
      cases it
      all_goals (try simp only [searchC, show row_8.asks = 65 from rfl, asks_65, show row_9.asks = 22 from rfl, asks_22, show row_10.asks = 34 from rfl, asks_34, orI_ite2, orI_some, orI_nil, orI_none, z7_iff, Nm.opt, Nm.low, Nm.up, Bool.and_eq_true, Bool.or_eq_true, beq_iff_eq, decide_eq_true_eq, Bool.not_eq_true', bne_self_eq_false, Bool.false_eq_true, Bool.true_eq_false, Bool.not_true, Bool.not_false, bne_iff_ne, ne_eq, not_true_eq_false, not_false_eq_true, reduceCtorEq, true_and, and_true, false_and, and_false, if_true, if_false, ite_self, Int.reduceEq, Int.reduceBEq, Int.reduceLE, Int.reduceLT, Int.reduceSub, Int.reduceMul, true_or, or_true, or_false, false_or, and_self, Bool.bne_false, Bool.bne_true, Bool.false_bne, Bool.true_bne, Bool.not_eq_eq_eq_not, bne_self_eq_false])
      all_goals (repeat' split)
      all_goals first | rfl | (exfalso; omega) | (apply congrArg some; omega)
  · cases s
    · have FF : Im.fieldsI 10 2 false = ⟨32767, 0, 32767, 0, 0, 0, 0, 0⟩ := rfl
      rw [FF] at h1 h2 q1 q2
      dsimp only at h1 h2 q1 q2
      have hd := Nm.one_in h1 (by decide)
      have hn : rn = 0 := Nm.one_none h2
      have hm := Nm.one_in q2 (by decide)
      clear h1 h2
      obtain ⟨x, hx⟩ : ∃ x, (0 : Int) % 4294967296 = x := ⟨_, rfl⟩
      simp only [searchC]
      rw [fill_8_0 cond rd rn rm 0 list x hx (by omega) (by omega) (by omega) (by omega) (by omega) (by omega) (by omega) (by omega) (by omega) (by omega), fill_9_0 cond rd rn rm 0 list x hx (by omega) (by omega) (by omega) (by omega) (by omega) (by omega) (by omega) (by omega) (by omega) (by omega), fill_10_0 cond rd rn rm 0 list x hx (by omega) (by omega) (by omega) (by omega) (by omega) (by omega) (by omega) (by omega) (by omega) (by omega)]
      cases it
      all_goals (try simp only [searchC, show row_8.asks = 65 from rfl, asks_65, show row_9.asks = 22 from rfl, asks_22, show row_10.asks = 34 from rfl, asks_34, orI_ite2, orI_some, orI_nil, orI_none, z7_iff, Nm.opt, Nm.low, Nm.up, Bool.and_eq_true, Bool.or_eq_true, beq_iff_eq, decide_eq_true_eq, Bool.not_eq_true', bne_self_eq_false, Bool.false_eq_true, Bool.true_eq_false, Bool.not_true, Bool.not_false, bne_iff_ne, ne_eq, not_true_eq_false, not_false_eq_true, reduceCtorEq, true_and, and_true, false_and, and_false, if_true, if_false, ite_self, Int.reduceEq, Int.reduceBEq, Int.reduceLE, Int.reduceLT, Int.reduceSub, Int.reduceMul, true_or, or_true, or_false, false_or, and_self, Bool.bne_false, Bool.bne_true, Bool.false_bne, Bool.true_bne, Bool.not_eq_eq_eq_not, bne_self_eq_false])
      all_goals (repeat' split)
      all_goals first | rfl | (exfalso; omega) | (apply congrArg some; omega)
    · have FF : Im.fieldsI 10 2 true = ⟨24575, 0, 24575, 0, 4294967295, 1, 0, 0⟩ := rfl
      rw [FF] at h1 h2 q1 q2
      dsimp only at h1 h2 q1 q2
      have hd := Nm.one_in h1 (by decide)
      have hn : rn = 0 := Nm.one_none h2
      have hm := Nm.one_in q2 (by decide)
      clear h1 h2
      obtain ⟨x, hx⟩ : ∃ x, (0 : Int) % 4294967296 = x := ⟨_, rfl⟩
      simp only [searchC]
      rw [fill_8_0 cond rd rn rm 0 list x hx (by omega) (by omega) (by omega) (by omega) (by omega) (by omega) (by omega) (by omega) (by omega) (by omega), fill_9_0 cond rd rn rm 0 list x hx (by omega) (by omega) (by omega) (by omega) (by omega) (by omega) (by omega) (by omega) (by omega) (by omega), fill_10_0 cond rd rn rm 0 list x hx (by omega) (by omega) (by omega) (by omega) (by omega) (by omega) (by omega) (by omega) (by omega) (by omega)]
      cases it
      all_goals (try simp only [searchC, show row_8.asks = 65 from rfl, asks_65, show row_9.asks = 22 from rfl, asks_22, show row_10.asks = 34 from rfl, asks_34, orI_ite2, orI_some, orI_nil, orI_none, z7_iff, Nm.opt, Nm.low, Nm.up, Bool.and_eq_true, Bool.or_eq_true, beq_iff_eq, decide_eq_true_eq, Bool.not_eq_true', bne_self_eq_false, Bool.false_eq_true, Bool.true_eq_false, Bool.not_true, Bool.not_false, bne_iff_ne, ne_eq, not_true_eq_false, not_false_eq_true, reduceCtorEq, true_and, and_true, false_and, and_false, if_true, if_false, ite_self, Int.reduceEq, Int.reduceBEq, Int.reduceLE, Int.reduceLT, Int.reduceSub, Int.reduceMul, true_or, or_true, or_false, false_or, and_self, Bool.bne_false, Bool.bne_true, Bool.false_bne, Bool.true_bne, Bool.not_eq_eq_eq_not, bne_self_eq_false])
      all_goals (repeat' split)
      all_goals first | rfl | (exfalso; omega) | (apply congrArg some; omega)
set_option linter.unusedSimpArgs false in
set_option maxHeartbeats 4000000 in
theorem enc_12 (cond rd rn rm imm mode list : Int) (s it : Bool) (hok : Nm.okB ⟨12, cond, rd, rn, rm, imm, mode, list, s⟩ = true) (hw : Nm.Wide list) :
    searchP (traitsI cond rd rn rm mode s it) 12 cond rd rn rm imm list formTab = Nm.rowI ⟨12, cond, rd, rn, rm, imm, mode, list, s⟩ it := by
  obtain ⟨_, h1, h2, h3, h4, h5, h6⟩ := Nm.ok_parts hok
  clear hok
  have h3' := Nm.last_cases h3
  clear h3
  dsimp only at h1 h2 h3' h4 h5 h6
  rw [search_c, show formTab.flatMap (candsOf 12) = cands 12 from rfl, cands_12]
  unfold Nm.rowI Nm.moveI
  dsimp only
  have hl := Nm.list_most h4 0 (by decide) rfl hw
  have hc : cond = 0 := by simpa [Im.condB] using h5
  obtain rfl : false = s := Nm.flag_off h6 (by decide)
  clear h4 h5 h6 hw
  rcases h3' with ⟨rfl, q1, q2, rfl, rfl⟩ | ⟨rfl, q1, q2, q3, q4, rfl⟩ | ⟨rfl, q1, q2, rfl⟩
  · have FF : Im.fieldsI 12 0 false = ⟨0, 24575, 24575, 0, 4294967295, 1, 0, 0⟩ := rfl
    rw [FF] at h1 h2 q1 q2
    dsimp only at h1 h2 q1 q2
    exfalso; omega
  · have FF : Im.fieldsI 12 1 false = ⟨0, 24575, 24575, 0, 4294967295, 1, 0, 0⟩ := rfl
    rw [FF] at h1 h2 q1 q2 q3 q4
    dsimp only at h1 h2 q1 q2 q3 q4
    have hd : rd = 0 := Nm.one_none h1
    have hn := Nm.one_in h2 (by decide)
    clear h1 h2
    obtain ⟨x, hx⟩ : ∃ x, imm % 4294967296 = x := ⟨_, rfl⟩
    simp only [searchC]
    rw [fill_5_0 cond rd rn 0 imm list x hx (by omega) (by omega) (by omega) (by omega) (by omega) (by omega) (by omega) (by omega) (by omega) (by omega), fill_6_0 cond rd rn 0 imm list x hx (by omega) (by omega) (by omega) (by omega) (by omega) (by omega) (by omega) (by omega) (by omega) (by omega), fill_7_0 cond rd rn 0 imm list x hx (by omega) (by omega) (by omega) (by omega) (by omega) (by omega) (by omega) (by omega) (by omega) (by omega)]
    cases it
    all_goals (try simp only [searchC, show row_5.asks = 2 from rfl, asks_2, show row_6.asks = 2 from rfl, asks_2, show row_7.asks = 1 from rfl, asks_1, orI_ite2, orI_some, orI_nil, orI_none, z7_iff, Nm.opt, Nm.low, Nm.up, Bool.and_eq_true, Bool.or_eq_true, beq_iff_eq, decide_eq_true_eq, Bool.not_eq_true', bne_self_eq_false, Bool.false_eq_true, Bool.true_eq_false, Bool.not_true, Bool.not_false, bne_iff_ne, ne_eq, not_true_eq_false, not_false_eq_true, reduceCtorEq, true_and, and_true, false_and, and_false, if_true, if_false, ite_self, Int.reduceEq, Int.reduceBEq, Int.reduceLE, Int.reduceLT, Int.reduceSub, Int.reduceMul, true_or, or_true, or_false, false_or, and_self, Bool.bne_false, Bool.bne_true, Bool.false_bne, Bool.true_bne, Bool.not_eq_eq_eq_not, bne_self_eq_false])
    all_goals (repeat' split)
    all_goals first | rfl | (exfalso; omega) | (apply congrArg some; omega)
  · have FF : Im.fieldsI 12 2 false = ⟨0, 24575, 24575, 0, 4294967295, 1, 0, 0⟩ := rfl
    rw [FF] at h1 h2 q1 q2
    dsimp only at h1 h2 q1 q2
    have hd : rd = 0 := Nm.one_none h1
    have hn := Nm.one_in h2 (by decide)
    have hm := Nm.one_in q2 (by decide)
    clear h1 h2
    obtain ⟨x, hx⟩ : ∃ x, (0 : Int) % 4294967296 = x := ⟨_, rfl⟩
    simp only [searchC]
    rw [fill_5_0 cond rd rn rm 0 list x hx (by omega) (by omega) (by omega) (by omega) (by omega) (by omega) (by omega) (by omega) (by omega) (by omega), fill_6_0 cond rd rn rm 0 list x hx (by omega) (by omega) (by omega) (by omega) (by omega) (by omega) (by omega) (by omega) (by omega) (by omega), fill_7_0 cond rd rn rm 0 list x hx (by omega) (by omega) (by omega) (by omega) (by omega) (by omega) (by omega) (by omega) (by omega) (by omega)]
    cases it
    all_goals (try simp only [searchC, show row_5.asks = 2 from rfl, asks_2, show row_6.asks = 2 from rfl, asks_2, show row_7.asks = 1 from rfl, asks_1, orI_ite2, orI_some, orI_nil, orI_none, z7_iff, Nm.opt, Nm.low, Nm.up, Bool.and_eq_true, Bool.or_eq_true, beq_iff_eq, decide_eq_true_eq, Bool.not_eq_true', bne_self_eq_false, Bool.false_eq_true, Bool.true_eq_false, Bool.not_true, Bool.not_false, bne_iff_ne, ne_eq, not_true_eq_false, not_false_eq_true, reduceCtorEq, true_and, and_true, false_and, and_false, if_true, if_false, ite_self, Int.reduceEq, Int.reduceBEq, Int.reduceLE, Int.reduceLT, Int.reduceSub, Int.reduceMul, true_or, or_true, or_false, false_or, and_self, Bool.bne_false, Bool.bne_true, Bool.false_bne, Bool.true_bne, Bool.not_eq_eq_eq_not, bne_self_eq_false])
    all_goals (repeat' split)
    all_goals first | rfl | (exfalso; omega) | (apply congrArg some; omega)
end Pl
end Go.Proofs.YthpoficikcicmaaDoor
