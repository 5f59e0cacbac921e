/- Encode's search is the document's row, operation by operation (text by gen_pe.py). No conditions but those that each fact names. Encode's search is the document's row, operation by operation (text by gen_pe.py). No conditions but those that each fact names. Encode's search is the document's row, operation by operation (text by gen_pe.py). No conditions but those that each fact names. Encode's search is the document's row, operation by operation (text by gen_pe.py). No conditions but those that each fact names. Encode's search is the document's row, operation by operation (text by gen_pe.py). No conditions but those that each fact names. Encode's search is the document's row for every instruction that may be. No conditions but those that each fact names. -/
import Derived.Test.YtmofimgodmcdjaaDoorRows
import Derived.Test.YtmofimgodmcdjaaDoorGp

namespace Go.Proofs.YtmofimgodmcdjaaDoor
open Go.ChangeShapes Go.WideShapes Go.ChangeAt Go.RowKit
namespace Pl

set_option linter.unusedSimpArgs false in
set_option maxHeartbeats 4000000 in
theorem enc_35 (cond rd rn rm imm mode list : Int) (s it : Bool) (hok : Nm.okB ⟨35, cond, rd, rn, rm, imm, mode, list, s⟩ = true) (hw : Nm.Wide list) :
    searchP (traitsI cond rd rn rm mode s it) 35 cond rd rn rm imm list formTab = Nm.rowI ⟨35, cond, rd, rn, rm, imm, mode, list, s⟩ it := by
  obtain ⟨_, h1, h2, h3, h4, h5, h6⟩ := Nm.ok_parts hok
  clear hok
  have h3' := Nm.last_cases h3
  clear h3
  dsimp only at h1 h2 h3' h4 h5 h6
  rw [search_c, show formTab.flatMap (candsOf 35) = cands 35 from rfl, cands_35]
  unfold Nm.rowI Nm.branchI Nm.fits1 Nm.fits2
  dsimp only
  have hl := Nm.list_most h4 0 (by decide) rfl hw
  have hc : 0 ≤ cond ∧ cond ≤ 14 := by simpa [Im.condB] using h5
  obtain rfl : false = s := Nm.flag_off h6 (by decide)
  clear h4 h5 h6 hw
  rcases h3' with ⟨rfl, q1, q2, rfl, rfl⟩ | ⟨rfl, q1, q2, q3, q4, rfl⟩ | ⟨rfl, q1, q2, rfl⟩
  · have FF : Im.fieldsI 35 0 false = ⟨0, 0, 0, -16777216, 16777214, 2, 0, 0⟩ := rfl
    rw [FF] at h1 h2 q1 q2
    dsimp only at h1 h2 q1 q2
    exfalso; omega
  · have FF : Im.fieldsI 35 1 false = ⟨0, 0, 0, -16777216, 16777214, 2, 0, 0⟩ := rfl
    rw [FF] at h1 h2 q1 q2 q3 q4
    dsimp only at h1 h2 q1 q2 q3 q4
    have hd : rd = 0 := Nm.one_none h1
    have hn : rn = 0 := Nm.one_none h2
    have he := tmod_even q4
    clear h1 h2
    obtain ⟨x, hx⟩ : ∃ x, imm % 4294967296 = x := ⟨_, rfl⟩
    simp only [searchC]
    rw [fillB_25_0 cond rd rn 0 imm list x hx (by omega) (by omega) (by omega) (by omega) (by omega) (by omega) (by omega) (by omega) (by omega) (by omega), fillB_26_0 cond rd rn 0 imm list x hx (by omega) (by omega) (by omega) (by omega) (by omega) (by omega) (by omega) (by omega) (by omega) (by omega)]
    cases it
    all_goals (try simp only [searchC, show row_25.asks = 2052 from rfl, asks_2052, show row_26.asks = 1024 from rfl, asks_1024, orI_ite2, orI_some, orI_nil, orI_none, z7_iff, Nm.opt, Nm.low, Nm.up, Bool.and_eq_true, Bool.or_eq_true, beq_iff_eq, decide_eq_true_eq, Bool.not_eq_true', bne_self_eq_false, Bool.false_eq_true, Bool.true_eq_false, Bool.not_true, Bool.not_false, bne_iff_ne, ne_eq, not_true_eq_false, not_false_eq_true, reduceCtorEq, true_and, and_true, false_and, and_false, if_true, if_false, ite_self, Int.reduceEq, Int.reduceBEq, Int.reduceLE, Int.reduceLT, Int.reduceSub, Int.reduceMul, true_or, or_true, or_false, false_or, and_self, Bool.bne_false, Bool.bne_true, Bool.false_bne, Bool.true_bne, Bool.not_eq_eq_eq_not, bne_self_eq_false])
    all_goals (repeat' split)
    all_goals first | rfl | (exfalso; omega) | (apply congrArg some; omega)
  · have FF : Im.fieldsI 35 2 false = ⟨0, 0, 0, -16777216, 16777214, 2, 0, 0⟩ := rfl
    rw [FF] at h1 h2 q1 q2
    dsimp only at h1 h2 q1 q2
    exfalso; omega
set_option linter.unusedSimpArgs false in
set_option maxHeartbeats 4000000 in
theorem enc_37 (cond rd rn rm imm mode list : Int) (s it : Bool) (hok : Nm.okB ⟨37, cond, rd, rn, rm, imm, mode, list, s⟩ = true) (hw : Nm.Wide list) :
    searchP (traitsI cond rd rn rm mode s it) 37 cond rd rn rm imm list formTab = Nm.rowI ⟨37, cond, rd, rn, rm, imm, mode, list, s⟩ it := by
  obtain ⟨_, h1, h2, h3, h4, h5, h6⟩ := Nm.ok_parts hok
  clear hok
  have h3' := Nm.last_cases h3
  clear h3
  dsimp only at h1 h2 h3' h4 h5 h6
  rw [search_c, show formTab.flatMap (candsOf 37) = cands 37 from rfl, cands_37]
  unfold Nm.rowI Nm.branchI Nm.fits1 Nm.fits2
  dsimp only
  have hl := Nm.list_most h4 0 (by decide) rfl hw
  have hc : cond = 0 := by simpa [Im.condB] using h5
  obtain rfl : false = s := Nm.flag_off h6 (by decide)
  clear h4 h5 h6 hw
  rcases h3' with ⟨rfl, q1, q2, rfl, rfl⟩ | ⟨rfl, q1, q2, q3, q4, rfl⟩ | ⟨rfl, q1, q2, rfl⟩
  · have FF : Im.fieldsI 37 0 false = ⟨0, 255, 0, 0, 126, 2, 0, 0⟩ := rfl
    rw [FF] at h1 h2 q1 q2
    dsimp only at h1 h2 q1 q2
    exfalso; omega
  · have FF : Im.fieldsI 37 1 false = ⟨0, 255, 0, 0, 126, 2, 0, 0⟩ := rfl
    rw [FF] at h1 h2 q1 q2 q3 q4
    dsimp only at h1 h2 q1 q2 q3 q4
    have hd : rd = 0 := Nm.one_none h1
    have hn := Nm.one_in h2 (by decide)
    have hn7 := Nm.low_of h2
    have he := tmod_even q4
    clear h1 h2
    obtain ⟨x, hx⟩ : ∃ x, imm % 4294967296 = x := ⟨_, rfl⟩
    simp only [searchC]
    rw [fillB_27_0 cond rd rn 0 imm list x hx (by omega) (by omega) (by omega) (by omega) (by omega) (by omega) (by omega) (by omega) (by omega) (by omega)]
    cases it
    all_goals (try simp only [searchC, show row_27.asks = 4 from rfl, asks_4, orI_ite2, orI_some, orI_nil, orI_none, z7_iff, Nm.opt, Nm.low, Nm.up, Bool.and_eq_true, Bool.or_eq_true, beq_iff_eq, decide_eq_true_eq, Bool.not_eq_true', bne_self_eq_false, Bool.false_eq_true, Bool.true_eq_false, Bool.not_true, Bool.not_false, bne_iff_ne, ne_eq, not_true_eq_false, not_false_eq_true, reduceCtorEq, true_and, and_true, false_and, and_false, if_true, if_false, ite_self, Int.reduceEq, Int.reduceBEq, Int.reduceLE, Int.reduceLT, Int.reduceSub, Int.reduceMul, true_or, or_true, or_false, false_or, and_self, Bool.bne_false, Bool.bne_true, Bool.false_bne, Bool.true_bne, Bool.not_eq_eq_eq_not, bne_self_eq_false])
    all_goals (repeat' split)
    all_goals first | rfl | (exfalso; omega) | (apply congrArg some; omega)
  · have FF : Im.fieldsI 37 2 false = ⟨0, 255, 0, 0, 126, 2, 0, 0⟩ := rfl
    rw [FF] at h1 h2 q1 q2
    dsimp only at h1 h2 q1 q2
    exfalso; omega
set_option linter.unusedSimpArgs false in
set_option maxHeartbeats 4000000 in
theorem enc_38 (cond rd rn rm imm mode list : Int) (s it : Bool) (hok : Nm.okB ⟨38, cond, rd, rn, rm, imm, mode, list, s⟩ = true) (hw : Nm.Wide list) :
    searchP (traitsI cond rd rn rm mode s it) 38 cond rd rn rm imm list formTab = Nm.rowI ⟨38, cond, rd, rn, rm, imm, mode, list, s⟩ it := by
  obtain ⟨_, h1, h2, h3, h4, h5, h6⟩ := Nm.ok_parts hok
  clear hok
  have h3' := Nm.last_cases h3
  clear h3
  dsimp only at h1 h2 h3' h4 h5 h6
  rw [search_c, show formTab.flatMap (candsOf 38) = cands 38 from rfl, cands_38]
  unfold Nm.rowI Nm.branchI Nm.fits1 Nm.fits2
  dsimp only
  have hl := Nm.list_most h4 0 (by decide) rfl hw
  have hc : cond = 0 := by simpa [Im.condB] using h5
  obtain rfl : false = s := Nm.flag_off h6 (by decide)
  clear h4 h5 h6 hw
  rcases h3' with ⟨rfl, q1, q2, rfl, rfl⟩ | ⟨rfl, q1, q2, q3, q4, rfl⟩ | ⟨rfl, q1, q2, rfl⟩
  · have FF : Im.fieldsI 38 0 false = ⟨0, 255, 0, 0, 126, 2, 0, 0⟩ := rfl
    rw [FF] at h1 h2 q1 q2
    dsimp only at h1 h2 q1 q2
    exfalso; omega
  · have FF : Im.fieldsI 38 1 false = ⟨0, 255, 0, 0, 126, 2, 0, 0⟩ := rfl
    rw [FF] at h1 h2 q1 q2 q3 q4
    dsimp only at h1 h2 q1 q2 q3 q4
    have hd : rd = 0 := Nm.one_none h1
    have hn := Nm.one_in h2 (by decide)
    have hn7 := Nm.low_of h2
    have he := tmod_even q4
    clear h1 h2
    obtain ⟨x, hx⟩ : ∃ x, imm % 4294967296 = x := ⟨_, rfl⟩
    simp only [searchC]
    rw [fillB_27_1 cond rd rn 0 imm list x hx (by omega) (by omega) (by omega) (by omega) (by omega) (by omega) (by omega) (by omega) (by omega) (by omega)]
    cases it
    all_goals (try simp only [searchC, show row_27.asks = 4 from rfl, asks_4, orI_ite2, orI_some, orI_nil, orI_none, z7_iff, Nm.opt, Nm.low, Nm.up, Bool.and_eq_true, Bool.or_eq_true, beq_iff_eq, decide_eq_true_eq, Bool.not_eq_true', bne_self_eq_false, Bool.false_eq_true, Bool.true_eq_false, Bool.not_true, Bool.not_false, bne_iff_ne, ne_eq, not_true_eq_false, not_false_eq_true, reduceCtorEq, true_and, and_true, false_and, and_false, if_true, if_false, ite_self, Int.reduceEq, Int.reduceBEq, Int.reduceLE, Int.reduceLT, Int.reduceSub, Int.reduceMul, true_or, or_true, or_false, false_or, and_self, Bool.bne_false, Bool.bne_true, Bool.false_bne, Bool.true_bne, Bool.not_eq_eq_eq_not, bne_self_eq_false])
    all_goals (repeat' split)
    all_goals first | rfl | (exfalso; omega) | (apply congrArg some; omega)
  · have FF : Im.fieldsI 38 2 false = ⟨0, 255, 0, 0, 126, 2, 0, 0⟩ := rfl
    rw [FF] at h1 h2 q1 q2
    dsimp only at h1 h2 q1 q2
    exfalso; omega
end Pl
end Go.Proofs.YtmofimgodmcdjaaDoor

namespace Go.Proofs.YtmofimgodmcdjaaDoor
open Go.ChangeShapes Go.WideShapes Go.ChangeAt Go.RowKit
namespace Pl

set_option linter.unusedSimpArgs false in
set_option maxHeartbeats 4000000 in
theorem enc_1 (cond rd rn rm imm mode list : Int) (s it : Bool) (hok : Nm.okB ⟨1, cond, rd, rn, rm, imm, mode, list, s⟩ = true) (hw : Nm.Wide list) :
    searchP (traitsI cond rd rn rm mode s it) 1 cond rd rn rm imm list formTab = Nm.rowI ⟨1, cond, rd, rn, rm, imm, mode, list, s⟩ it := by
  obtain ⟨_, h1, h2, h3, h4, h5, h6⟩ := Nm.ok_parts hok
  clear hok
  have h3' := Nm.last_cases h3
  clear h3
  dsimp only at h1 h2 h3' h4 h5 h6
  rw [search_c, show formTab.flatMap (candsOf 1) = cands 1 from rfl, cands_1]
  unfold Nm.rowI Nm.twoI
  dsimp only
  have hl := Nm.list_most h4 0 (by decide) rfl hw
  have hc : cond = 0 := by simpa [Im.condB] using h5
  clear h4 h5 h6 hw
  rcases h3' with ⟨rfl, q1, q2, rfl, rfl⟩ | ⟨rfl, q1, q2, q3, q4, rfl⟩ | ⟨rfl, q1, q2, rfl⟩
  · have FF : Im.fieldsI 1 0 s = ⟨24575, 24575, 24575, 0, 4294967295, 1, 0, 0⟩ := rfl
    rw [FF] at h1 h2 q1 q2
    dsimp only at h1 h2 q1 q2
    exfalso; omega
  · have FF : Im.fieldsI 1 1 s = ⟨24575, 24575, 24575, 0, 4294967295, 1, 0, 0⟩ := rfl
    rw [FF] at h1 h2 q1 q2 q3 q4
    dsimp only at h1 h2 q1 q2 q3 q4
    have hd := Nm.one_in h1 (by decide)
    have hn := Nm.one_in h2 (by decide)
    clear h1 h2
    obtain ⟨x, hx⟩ : ∃ x, imm % 4294967296 = x := ⟨_, rfl⟩
    simp only [searchC]
    rw [fill_0_0 cond rd rn 0 imm list x hx (by omega) (by omega) (by omega) (by omega) (by omega) (by omega) (by omega) (by omega) (by omega) (by omega)]
    cases s <;> cases it
    all_goals (try simp only [searchC, show row_0.asks = 194 from rfl, asks_194, orI_ite2, orI_some, orI_nil, orI_none, z7_iff, Nm.opt, Nm.low, Nm.up, Bool.and_eq_true, Bool.or_eq_true, beq_iff_eq, decide_eq_true_eq, Bool.not_eq_true', bne_self_eq_false, Bool.false_eq_true, Bool.true_eq_false, Bool.not_true, Bool.not_false, bne_iff_ne, ne_eq, not_true_eq_false, not_false_eq_true, reduceCtorEq, true_and, and_true, false_and, and_false, if_true, if_false, ite_self, Int.reduceEq, Int.reduceBEq, Int.reduceLE, Int.reduceLT, Int.reduceSub, Int.reduceMul, true_or, or_true, or_false, false_or, and_self, Bool.bne_false, Bool.bne_true, Bool.false_bne, Bool.true_bne, Bool.not_eq_eq_eq_not, bne_self_eq_false])
    all_goals (repeat' split)
    all_goals first | rfl | (exfalso; omega) | (apply congrArg some; omega)
  · have FF : Im.fieldsI 1 2 s = ⟨24575, 24575, 24575, 0, 4294967295, 1, 0, 0⟩ := rfl
    rw [FF] at h1 h2 q1 q2
    dsimp only at h1 h2 q1 q2
    have hd := Nm.one_in h1 (by decide)
    have hn := Nm.one_in h2 (by decide)
    have hm := Nm.one_in q2 (by decide)
    clear h1 h2
    obtain ⟨x, hx⟩ : ∃ x, (0 : Int) % 4294967296 = x := ⟨_, rfl⟩
    simp only [searchC]
    rw [fill_0_0 cond rd rn rm 0 list x hx (by omega) (by omega) (by omega) (by omega) (by omega) (by omega) (by omega) (by omega) (by omega) (by omega)]
    cases s <;> cases it
    all_goals (try simp only [searchC, show row_0.asks = 194 from rfl, asks_194, orI_ite2, orI_some, orI_nil, orI_none, z7_iff, Nm.opt, Nm.low, Nm.up, Bool.and_eq_true, Bool.or_eq_true, beq_iff_eq, decide_eq_true_eq, Bool.not_eq_true', bne_self_eq_false, Bool.false_eq_true, Bool.true_eq_false, Bool.not_true, Bool.not_false, bne_iff_ne, ne_eq, not_true_eq_false, not_false_eq_true, reduceCtorEq, true_and, and_true, false_and, and_false, if_true, if_false, ite_self, Int.reduceEq, Int.reduceBEq, Int.reduceLE, Int.reduceLT, Int.reduceSub, Int.reduceMul, true_or, or_true, or_false, false_or, and_self, Bool.bne_false, Bool.bne_true, Bool.false_bne, Bool.true_bne, Bool.not_eq_eq_eq_not, bne_self_eq_false])
    all_goals (repeat' split)
    all_goals first | rfl | (exfalso; omega) | (apply congrArg some; omega)
set_option linter.unusedSimpArgs false in
set_option maxHeartbeats 4000000 in
theorem enc_2 (cond rd rn rm imm mode list : Int) (s it : Bool) (hok : Nm.okB ⟨2, cond, rd, rn, rm, imm, mode, list, s⟩ = true) (hw : Nm.Wide list) :
    searchP (traitsI cond rd rn rm mode s it) 2 cond rd rn rm imm list formTab = Nm.rowI ⟨2, cond, rd, rn, rm, imm, mode, list, s⟩ it := by
  obtain ⟨_, h1, h2, h3, h4, h5, h6⟩ := Nm.ok_parts hok
  clear hok
  have h3' := Nm.last_cases h3
  clear h3
  dsimp only at h1 h2 h3' h4 h5 h6
  rw [search_c, show formTab.flatMap (candsOf 2) = cands 2 from rfl, cands_2]
  unfold Nm.rowI Nm.twoI
  dsimp only
  have hl := Nm.list_most h4 0 (by decide) rfl hw
  have hc : cond = 0 := by simpa [Im.condB] using h5
  clear h4 h5 h6 hw
  rcases h3' with ⟨rfl, q1, q2, rfl, rfl⟩ | ⟨rfl, q1, q2, q3, q4, rfl⟩ | ⟨rfl, q1, q2, rfl⟩
  · have FF : Im.fieldsI 2 0 s = ⟨24575, 24575, 24575, 0, 4294967295, 1, 0, 0⟩ := rfl
    rw [FF] at h1 h2 q1 q2
    dsimp only at h1 h2 q1 q2
    exfalso; omega
  · have FF : Im.fieldsI 2 1 s = ⟨24575, 24575, 24575, 0, 4294967295, 1, 0, 0⟩ := rfl
    rw [FF] at h1 h2 q1 q2 q3 q4
    dsimp only at h1 h2 q1 q2 q3 q4
    have hd := Nm.one_in h1 (by decide)
    have hn := Nm.one_in h2 (by decide)
    clear h1 h2
    obtain ⟨x, hx⟩ : ∃ x, imm % 4294967296 = x := ⟨_, rfl⟩
    simp only [searchC]
    rw [fill_0_1 cond rd rn 0 imm list x hx (by omega) (by omega) (by omega) (by omega) (by omega) (by omega) (by omega) (by omega) (by omega) (by omega)]
    cases s <;> cases it
    all_goals (try simp only [searchC, show row_0.asks = 194 from rfl, asks_194, orI_ite2, orI_some, orI_nil, orI_none, z7_iff, Nm.opt, Nm.low, Nm.up, Bool.and_eq_true, Bool.or_eq_true, beq_iff_eq, decide_eq_true_eq, Bool.not_eq_true', bne_self_eq_false, Bool.false_eq_true, Bool.true_eq_false, Bool.not_true, Bool.not_false, bne_iff_ne, ne_eq, not_true_eq_false, not_false_eq_true, reduceCtorEq, true_and, and_true, false_and, and_false, if_true, if_false, ite_self, Int.reduceEq, Int.reduceBEq, Int.reduceLE, Int.reduceLT, Int.reduceSub, Int.reduceMul, true_or, or_true, or_false, false_or, and_self, Bool.bne_false, Bool.bne_true, Bool.false_bne, Bool.true_bne, Bool.not_eq_eq_eq_not, bne_self_eq_false])
    all_goals (repeat' split)
    all_goals first | rfl | (exfalso; omega) | (apply congrArg some; omega)
  · have FF : Im.fieldsI 2 2 s = ⟨24575, 24575, 24575, 0, 4294967295, 1, 0, 0⟩ := rfl
    rw [FF] at h1 h2 q1 q2
    dsimp only at h1 h2 q1 q2
    have hd := Nm.one_in h1 (by decide)
    have hn := Nm.one_in h2 (by decide)
    have hm := Nm.one_in q2 (by decide)
    clear h1 h2
    obtain ⟨x, hx⟩ : ∃ x, (0 : Int) % 4294967296 = x := ⟨_, rfl⟩
    simp only [searchC]
    rw [fill_0_1 cond rd rn rm 0 list x hx (by omega) (by omega) (by omega) (by omega) (by omega) (by omega) (by omega) (by omega) (by omega) (by omega)]
    cases s <;> cases it
    all_goals (try simp only [searchC, show row_0.asks = 194 from rfl, asks_194, orI_ite2, orI_some, orI_nil, orI_none, z7_iff, Nm.opt, Nm.low, Nm.up, Bool.and_eq_true, Bool.or_eq_true, beq_iff_eq, decide_eq_true_eq, Bool.not_eq_true', bne_self_eq_false, Bool.false_eq_true, Bool.true_eq_false, Bool.not_true, Bool.not_false, bne_iff_ne, ne_eq, not_true_eq_false, not_false_eq_true, reduceCtorEq, true_and, and_true, false_and, and_false, if_true, if_false, ite_self, Int.reduceEq, Int.reduceBEq, Int.reduceLE, Int.reduceLT, Int.reduceSub, Int.reduceMul, true_or, or_true, or_false, false_or, and_self, Bool.bne_false, Bool.bne_true, Bool.false_bne, Bool.true_bne, Bool.not_eq_eq_eq_not, bne_self_eq_false])
    all_goals (repeat' split)
    all_goals first | rfl | (exfalso; omega) | (apply congrArg some; omega)
set_option linter.unusedSimpArgs false in
set_option maxHeartbeats 4000000 in
theorem enc_3 (cond rd rn rm imm mode list : Int) (s it : Bool) (hok : Nm.okB ⟨3, cond, rd, rn, rm, imm, mode, list, s⟩ = true) (hw : Nm.Wide list) :
    searchP (traitsI cond rd rn rm mode s it) 3 cond rd rn rm imm list formTab = Nm.rowI ⟨3, cond, rd, rn, rm, imm, mode, list, s⟩ it := by
  obtain ⟨_, h1, h2, h3, h4, h5, h6⟩ := Nm.ok_parts hok
  clear hok
  have h3' := Nm.last_cases h3
  clear h3
  dsimp only at h1 h2 h3' h4 h5 h6
  rw [search_c, show formTab.flatMap (candsOf 3) = cands 3 from rfl, cands_3]
  unfold Nm.rowI Nm.twoI
  dsimp only
  have hl := Nm.list_most h4 0 (by decide) rfl hw
  have hc : cond = 0 := by simpa [Im.condB] using h5
  clear h4 h5 h6 hw
  rcases h3' with ⟨rfl, q1, q2, rfl, rfl⟩ | ⟨rfl, q1, q2, q3, q4, rfl⟩ | ⟨rfl, q1, q2, rfl⟩
  · have FF : Im.fieldsI 3 0 s = ⟨24575, 24575, 24575, 0, 4294967295, 1, 0, 0⟩ := rfl
    rw [FF] at h1 h2 q1 q2
    dsimp only at h1 h2 q1 q2
    exfalso; omega
  · have FF : Im.fieldsI 3 1 s = ⟨24575, 24575, 24575, 0, 4294967295, 1, 0, 0⟩ := rfl
    rw [FF] at h1 h2 q1 q2 q3 q4
    dsimp only at h1 h2 q1 q2 q3 q4
    have hd := Nm.one_in h1 (by decide)
    have hn := Nm.one_in h2 (by decide)
    clear h1 h2
    obtain ⟨x, hx⟩ : ∃ x, imm % 4294967296 = x := ⟨_, rfl⟩
    simp only [searchC]
    rw [fill_0_4 cond rd rn 0 imm list x hx (by omega) (by omega) (by omega) (by omega) (by omega) (by omega) (by omega) (by omega) (by omega) (by omega)]
    cases s <;> cases it
    all_goals (try simp only [searchC, show row_0.asks = 194 from rfl, asks_194, orI_ite2, orI_some, orI_nil, orI_none, z7_iff, Nm.opt, Nm.low, Nm.up, Bool.and_eq_true, Bool.or_eq_true, beq_iff_eq, decide_eq_true_eq, Bool.not_eq_true', bne_self_eq_false, Bool.false_eq_true, Bool.true_eq_false, Bool.not_true, Bool.not_false, bne_iff_ne, ne_eq, not_true_eq_false, not_false_eq_true, reduceCtorEq, true_and, and_true, false_and, and_false, if_true, if_false, ite_self, Int.reduceEq, Int.reduceBEq, Int.reduceLE, Int.reduceLT, Int.reduceSub, Int.reduceMul, true_or, or_true, or_false, false_or, and_self, Bool.bne_false, Bool.bne_true, Bool.false_bne, Bool.true_bne, Bool.not_eq_eq_eq_not, bne_self_eq_false])
    all_goals (repeat' split)
    all_goals first | rfl | (exfalso; omega) | (apply congrArg some; omega)
  · have FF : Im.fieldsI 3 2 s = ⟨24575, 24575, 24575, 0, 4294967295, 1, 0, 0⟩ := rfl
    rw [FF] at h1 h2 q1 q2
    dsimp only at h1 h2 q1 q2
    have hd := Nm.one_in h1 (by decide)
    have hn := Nm.one_in h2 (by decide)
    have hm := Nm.one_in q2 (by decide)
    clear h1 h2
    obtain ⟨x, hx⟩ : ∃ x, (0 : Int) % 4294967296 = x := ⟨_, rfl⟩
    simp only [searchC]
    rw [fill_0_4 cond rd rn rm 0 list x hx (by omega) (by omega) (by omega) (by omega) (by omega) (by omega) (by omega) (by omega) (by omega) (by omega)]
    cases s <;> cases it
    all_goals (try simp only [searchC, show row_0.asks = 194 from rfl, asks_194, orI_ite2, orI_some, orI_nil, orI_none, z7_iff, Nm.opt, Nm.low, Nm.up, Bool.and_eq_true, Bool.or_eq_true, beq_iff_eq, decide_eq_true_eq, Bool.not_eq_true', bne_self_eq_false, Bool.false_eq_true, Bool.true_eq_false, Bool.not_true, Bool.not_false, bne_iff_ne, ne_eq, not_true_eq_false, not_false_eq_true, reduceCtorEq, true_and, and_true, false_and, and_false, if_true, if_false, ite_self, Int.reduceEq, Int.reduceBEq, Int.reduceLE, Int.reduceLT, Int.reduceSub, Int.reduceMul, true_or, or_true, or_false, false_or, and_self, Bool.bne_false, Bool.bne_true, Bool.false_bne, Bool.true_bne, Bool.not_eq_eq_eq_not, bne_self_eq_false])
    all_goals (repeat' split)
    all_goals first | rfl | (exfalso; omega) | (apply congrArg some; omega)
set_option linter.unusedSimpArgs false in
set_option maxHeartbeats 4000000 in
theorem enc_4 (cond rd rn rm imm mode list : Int) (s it : Bool) (hok : Nm.okB ⟨4, cond, rd, rn, rm, imm, mode, list, s⟩ = true) (hw : Nm.Wide list) :
    searchP (traitsI cond rd rn rm mode s it) 4 cond rd rn rm imm list formTab = Nm.rowI ⟨4, cond, rd, rn, rm, imm, mode, list, s⟩ it := by
  obtain ⟨_, h1, h2, h3, h4, h5, h6⟩ := Nm.ok_parts hok
  clear hok
  have h3' := Nm.last_cases h3
  clear h3
  dsimp only at h1 h2 h3' h4 h5 h6
  rw [search_c, show formTab.flatMap (candsOf 4) = cands 4 from rfl, cands_4]
  unfold Nm.rowI Nm.twoI
  dsimp only
  have hl := Nm.list_most h4 0 (by decide) rfl hw
  have hc : cond = 0 := by simpa [Im.condB] using h5
  clear h4 h5 h6 hw
  rcases h3' with ⟨rfl, q1, q2, rfl, rfl⟩ | ⟨rfl, q1, q2, q3, q4, rfl⟩ | ⟨rfl, q1, q2, rfl⟩
  · have FF : Im.fieldsI 4 0 s = ⟨24575, 24575, 24575, 0, 4294967295, 1, 0, 0⟩ := rfl
    rw [FF] at h1 h2 q1 q2
    dsimp only at h1 h2 q1 q2
    exfalso; omega
  · have FF : Im.fieldsI 4 1 s = ⟨24575, 24575, 24575, 0, 4294967295, 1, 0, 0⟩ := rfl
    rw [FF] at h1 h2 q1 q2 q3 q4
    dsimp only at h1 h2 q1 q2 q3 q4
    have hd := Nm.one_in h1 (by decide)
    have hn := Nm.one_in h2 (by decide)
    clear h1 h2
    obtain ⟨x, hx⟩ : ∃ x, imm % 4294967296 = x := ⟨_, rfl⟩
    simp only [searchC]
    rw [fill_0_5 cond rd rn 0 imm list x hx (by omega) (by omega) (by omega) (by omega) (by omega) (by omega) (by omega) (by omega) (by omega) (by omega)]
    cases s <;> cases it
    all_goals (try simp only [searchC, show row_0.asks = 194 from rfl, asks_194, orI_ite2, orI_some, orI_nil, orI_none, z7_iff, Nm.opt, Nm.low, Nm.up, Bool.and_eq_true, Bool.or_eq_true, beq_iff_eq, decide_eq_true_eq, Bool.not_eq_true', bne_self_eq_false, Bool.false_eq_true, Bool.true_eq_false, Bool.not_true, Bool.not_false, bne_iff_ne, ne_eq, not_true_eq_false, not_false_eq_true, reduceCtorEq, true_and, and_true, false_and, and_false, if_true, if_false, ite_self, Int.reduceEq, Int.reduceBEq, Int.reduceLE, Int.reduceLT, Int.reduceSub, Int.reduceMul, true_or, or_true, or_false, false_or, and_self, Bool.bne_false, Bool.bne_true, Bool.false_bne, Bool.true_bne, Bool.not_eq_eq_eq_not, bne_self_eq_false])
    all_goals (repeat' split)
    all_goals first | rfl | (exfalso; omega) | (apply congrArg some; omega)
  · have FF : Im.fieldsI 4 2 s = ⟨24575, 24575, 24575, 0, 4294967295, 1, 0, 0⟩ := rfl
    rw [FF] at h1 h2 q1 q2
    dsimp only at h1 h2 q1 q2
    have hd := Nm.one_in h1 (by decide)
    have hn := Nm.one_in h2 (by decide)
    have hm := Nm.one_in q2 (by decide)
    clear h1 h2
    obtain ⟨x, hx⟩ : ∃ x, (0 : Int) % 4294967296 = x := ⟨_, rfl⟩
    simp only [searchC]
    rw [fill_0_5 cond rd rn rm 0 list x hx (by omega) (by omega) (by omega) (by omega) (by omega) (by omega) (by omega) (by omega) (by omega) (by omega)]
    cases s <;> cases it
    all_goals (try simp only [searchC, show row_0.asks = 194 from rfl, asks_194, orI_ite2, orI_some, orI_nil, orI_none, z7_iff, Nm.opt, Nm.low, Nm.up, Bool.and_eq_true, Bool.or_eq_true, beq_iff_eq, decide_eq_true_eq, Bool.not_eq_true', bne_self_eq_false, Bool.false_eq_true, Bool.true_eq_false, Bool.not_true, Bool.not_false, bne_iff_ne, ne_eq, not_true_eq_false, not_false_eq_true, reduceCtorEq, true_and, and_true, false_and, and_false, if_true, if_false, ite_self, Int.reduceEq, Int.reduceBEq, Int.reduceLE, Int.reduceLT, Int.reduceSub, Int.reduceMul, true_or, or_true, or_false, false_or, and_self, Bool.bne_false, Bool.bne_true, Bool.false_bne, Bool.true_bne, Bool.not_eq_eq_eq_not, bne_self_eq_false])
    all_goals (repeat' split)
    all_goals first | rfl | (exfalso; omega) | (apply congrArg some; omega)
set_option linter.unusedSimpArgs false in
set_option maxHeartbeats 4000000 in
theorem enc_6 (cond rd rn rm imm mode list : Int) (s it : Bool) (hok : Nm.okB ⟨6, cond, rd, rn, rm, imm, mode, list, s⟩ = true) (hw : Nm.Wide list) :
    searchP (traitsI cond rd rn rm mode s it) 6 cond rd rn rm imm list formTab = Nm.rowI ⟨6, cond, rd, rn, rm, imm, mode, list, s⟩ it := by
  obtain ⟨_, h1, h2, h3, h4, h5, h6⟩ := Nm.ok_parts hok
  clear hok
  have h3' := Nm.last_cases h3
  clear h3
  dsimp only at h1 h2 h3' h4 h5 h6
  rw [search_c, show formTab.flatMap (candsOf 6) = cands 6 from rfl, cands_6]
  unfold Nm.rowI Nm.twoI
  dsimp only
  have hl := Nm.list_most h4 0 (by decide) rfl hw
  have hc : cond = 0 := by simpa [Im.condB] using h5
  clear h4 h5 h6 hw
  rcases h3' with ⟨rfl, q1, q2, rfl, rfl⟩ | ⟨rfl, q1, q2, q3, q4, rfl⟩ | ⟨rfl, q1, q2, rfl⟩
  · have FF : Im.fieldsI 6 0 s = ⟨24575, 24575, 24575, 0, 4294967295, 1, 0, 0⟩ := rfl
    rw [FF] at h1 h2 q1 q2
    dsimp only at h1 h2 q1 q2
    exfalso; omega
  · have FF : Im.fieldsI 6 1 s = ⟨24575, 24575, 24575, 0, 4294967295, 1, 0, 0⟩ := rfl
    rw [FF] at h1 h2 q1 q2 q3 q4
    dsimp only at h1 h2 q1 q2 q3 q4
    have hd := Nm.one_in h1 (by decide)
    have hn := Nm.one_in h2 (by decide)
    clear h1 h2
    obtain ⟨x, hx⟩ : ∃ x, imm % 4294967296 = x := ⟨_, rfl⟩
    simp only [searchC]
    rw [fill_0_2 cond rd rn 0 imm list x hx (by omega) (by omega) (by omega) (by omega) (by omega) (by omega) (by omega) (by omega) (by omega) (by omega)]
    cases s <;> cases it
    all_goals (try simp only [searchC, show row_0.asks = 194 from rfl, asks_194, orI_ite2, orI_some, orI_nil, orI_none, z7_iff, Nm.opt, Nm.low, Nm.up, Bool.and_eq_true, Bool.or_eq_true, beq_iff_eq, decide_eq_true_eq, Bool.not_eq_true', bne_self_eq_false, Bool.false_eq_true, Bool.true_eq_false, Bool.not_true, Bool.not_false, bne_iff_ne, ne_eq, not_true_eq_false, not_false_eq_true, reduceCtorEq, true_and, and_true, false_and, and_false, if_true, if_false, ite_self, Int.reduceEq, Int.reduceBEq, Int.reduceLE, Int.reduceLT, Int.reduceSub, Int.reduceMul, true_or, or_true, or_false, false_or, and_self, Bool.bne_false, Bool.bne_true, Bool.false_bne, Bool.true_bne, Bool.not_eq_eq_eq_not, bne_self_eq_false])
    all_goals (repeat' split)
    all_goals first | rfl | (exfalso; omega) | (apply congrArg some; omega)
  · have FF : Im.fieldsI 6 2 s = ⟨24575, 24575, 24575, 0, 4294967295, 1, 0, 0⟩ := rfl
    rw [FF] at h1 h2 q1 q2
    dsimp only at h1 h2 q1 q2
    have hd := Nm.one_in h1 (by decide)
    have hn := Nm.one_in h2 (by decide)
    have hm := Nm.one_in q2 (by decide)
    clear h1 h2
    obtain ⟨x, hx⟩ : ∃ x, (0 : Int) % 4294967296 = x := ⟨_, rfl⟩
    simp only [searchC]
    rw [fill_0_2 cond rd rn rm 0 list x hx (by omega) (by omega) (by omega) (by omega) (by omega) (by omega) (by omega) (by omega) (by omega) (by omega)]
    cases s <;> cases it
    all_goals (try simp only [searchC, show row_0.asks = 194 from rfl, asks_194, orI_ite2, orI_some, orI_nil, orI_none, z7_iff, Nm.opt, Nm.low, Nm.up, Bool.and_eq_true, Bool.or_eq_true, beq_iff_eq, decide_eq_true_eq, Bool.not_eq_true', bne_self_eq_false, Bool.false_eq_true, Bool.true_eq_false, Bool.not_true, Bool.not_false, bne_iff_ne, ne_eq, not_true_eq_false, not_false_eq_true, reduceCtorEq, true_and, and_true, false_and, and_false, if_true, if_false, ite_self, Int.reduceEq, Int.reduceBEq, Int.reduceLE, Int.reduceLT, Int.reduceSub, Int.reduceMul, true_or, or_true, or_false, false_or, and_self, Bool.bne_false, Bool.bne_true, Bool.false_bne, Bool.true_bne, Bool.not_eq_eq_eq_not, bne_self_eq_false])
    all_goals (repeat' split)
    all_goals first | rfl | (exfalso; omega) | (apply congrArg some; omega)
set_option linter.unusedSimpArgs false in
set_option maxHeartbeats 4000000 in
theorem enc_8 (cond rd rn rm imm mode list : Int) (s it : Bool) (hok : Nm.okB ⟨8, cond, rd, rn, rm, imm, mode, list, s⟩ = true) (hw : Nm.Wide list) :
    searchP (traitsI cond rd rn rm mode s it) 8 cond rd rn rm imm list formTab = Nm.rowI ⟨8, cond, rd, rn, rm, imm, mode, list, s⟩ it := by
  obtain ⟨_, h1, h2, h3, h4, h5, h6⟩ := Nm.ok_parts hok
  clear hok
  have h3' := Nm.last_cases h3
  clear h3
  dsimp only at h1 h2 h3' h4 h5 h6
  rw [search_c, show formTab.flatMap (candsOf 8) = cands 8 from rfl, cands_8]
  unfold Nm.rowI Nm.twoI
  dsimp only
  have hl := Nm.list_most h4 0 (by decide) rfl hw
  have hc : cond = 0 := by simpa [Im.condB] using h5
  clear h4 h5 h6 hw
  rcases h3' with ⟨rfl, q1, q2, rfl, rfl⟩ | ⟨rfl, q1, q2, q3, q4, rfl⟩ | ⟨rfl, q1, q2, rfl⟩
  · have FF : Im.fieldsI 8 0 s = ⟨24575, 24575, 24575, 0, 4294967295, 1, 0, 0⟩ := rfl
    rw [FF] at h1 h2 q1 q2
    dsimp only at h1 h2 q1 q2
    exfalso; omega
  · have FF : Im.fieldsI 8 1 s = ⟨24575, 24575, 24575, 0, 4294967295, 1, 0, 0⟩ := rfl
    rw [FF] at h1 h2 q1 q2 q3 q4
    dsimp only at h1 h2 q1 q2 q3 q4
    have hd := Nm.one_in h1 (by decide)
    have hn := Nm.one_in h2 (by decide)
    clear h1 h2
    obtain ⟨x, hx⟩ : ∃ x, imm % 4294967296 = x := ⟨_, rfl⟩
    simp only [searchC]
    rw [fill_0_3 cond rd rn 0 imm list x hx (by omega) (by omega) (by omega) (by omega) (by omega) (by omega) (by omega) (by omega) (by omega) (by omega)]
    cases s <;> cases it
    all_goals (try simp only [searchC, show row_0.asks = 194 from rfl, asks_194, orI_ite2, orI_some, orI_nil, orI_none, z7_iff, Nm.opt, Nm.low, Nm.up, Bool.and_eq_true, Bool.or_eq_true, beq_iff_eq, decide_eq_true_eq, Bool.not_eq_true', bne_self_eq_false, Bool.false_eq_true, Bool.true_eq_false, Bool.not_true, Bool.not_false, bne_iff_ne, ne_eq, not_true_eq_false, not_false_eq_true, reduceCtorEq, true_and, and_true, false_and, and_false, if_true, if_false, ite_self, Int.reduceEq, Int.reduceBEq, Int.reduceLE, Int.reduceLT, Int.reduceSub, Int.reduceMul, true_or, or_true, or_false, false_or, and_self, Bool.bne_false, Bool.bne_true, Bool.false_bne, Bool.true_bne, Bool.not_eq_eq_eq_not, bne_self_eq_false])
    all_goals (repeat' split)
    all_goals first | rfl | (exfalso; omega) | (apply congrArg some; omega)
  · have FF : Im.fieldsI 8 2 s = ⟨24575, 24575, 24575, 0, 4294967295, 1, 0, 0⟩ := rfl
    rw [FF] at h1 h2 q1 q2
    dsimp only at h1 h2 q1 q2
    have hd := Nm.one_in h1 (by decide)
    have hn := Nm.one_in h2 (by decide)
    have hm := Nm.one_in q2 (by decide)
    clear h1 h2
    obtain ⟨x, hx⟩ : ∃ x, (0 : Int) % 4294967296 = x := ⟨_, rfl⟩
    simp only [searchC]
    rw [fill_0_3 cond rd rn rm 0 list x hx (by omega) (by omega) (by omega) (by omega) (by omega) (by omega) (by omega) (by omega) (by omega) (by omega)]
    cases s <;> cases it
    all_goals (try simp only [searchC, show row_0.asks = 194 from rfl, asks_194, orI_ite2, orI_some, orI_nil, orI_none, z7_iff, Nm.opt, Nm.low, Nm.up, Bool.and_eq_true, Bool.or_eq_true, beq_iff_eq, decide_eq_true_eq, Bool.not_eq_true', bne_self_eq_false, Bool.false_eq_true, Bool.true_eq_false, Bool.not_true, Bool.not_false, bne_iff_ne, ne_eq, not_true_eq_false, not_false_eq_true, reduceCtorEq, true_and, and_true, false_and, and_false, if_true, if_false, ite_self, Int.reduceEq, Int.reduceBEq, Int.reduceLE, Int.reduceLT, Int.reduceSub, Int.reduceMul, true_or, or_true, or_false, false_or, and_self, Bool.bne_false, Bool.bne_true, Bool.false_bne, Bool.true_bne, Bool.not_eq_eq_eq_not, bne_self_eq_false])
    all_goals (repeat' split)
    all_goals first | rfl | (exfalso; omega) | (apply congrArg some; omega)
set_option linter.unusedSimpArgs false in
set_option maxHeartbeats 4000000 in
theorem enc_9 (cond rd rn rm imm mode list : Int) (s it : Bool) (hok : Nm.okB ⟨9, cond, rd, rn, rm, imm, mode, list, s⟩ = true) (hw : Nm.Wide list) :
    searchP (traitsI cond rd rn rm mode s it) 9 cond rd rn rm imm list formTab = Nm.rowI ⟨9, cond, rd, rn, rm, imm, mode, list, s⟩ it := by
  obtain ⟨_, h1, h2, h3, h4, h5, h6⟩ := Nm.ok_parts hok
  clear hok
  have h3' := Nm.last_cases h3
  clear h3
  dsimp only at h1 h2 h3' h4 h5 h6
  rw [search_c, show formTab.flatMap (candsOf 9) = cands 9 from rfl, cands_9]
  unfold Nm.rowI Nm.twoI
  dsimp only
  have hl := Nm.list_most h4 0 (by decide) rfl hw
  have hc : cond = 0 := by simpa [Im.condB] using h5
  clear h4 h5 h6 hw
  rcases h3' with ⟨rfl, q1, q2, rfl, rfl⟩ | ⟨rfl, q1, q2, q3, q4, rfl⟩ | ⟨rfl, q1, q2, rfl⟩
  · have FF : Im.fieldsI 9 0 s = ⟨24575, 24575, 24575, 0, 4294967295, 1, 0, 0⟩ := rfl
    rw [FF] at h1 h2 q1 q2
    dsimp only at h1 h2 q1 q2
    exfalso; omega
  · have FF : Im.fieldsI 9 1 s = ⟨24575, 24575, 24575, 0, 4294967295, 1, 0, 0⟩ := rfl
    rw [FF] at h1 h2 q1 q2 q3 q4
    dsimp only at h1 h2 q1 q2 q3 q4
    have hd := Nm.one_in h1 (by decide)
    have hn := Nm.one_in h2 (by decide)
    clear h1 h2
    obtain ⟨x, hx⟩ : ∃ x, imm % 4294967296 = x := ⟨_, rfl⟩
    simp only [searchC]
    rw [fill_1_0 cond rd rn 0 imm list x hx (by omega) (by omega) (by omega) (by omega) (by omega) (by omega) (by omega) (by omega) (by omega) (by omega)]
    cases s <;> cases it
    all_goals (try simp only [searchC, show row_1.asks = 65 from rfl, asks_65, orI_ite2, orI_some, orI_nil, orI_none, z7_iff, Nm.opt, Nm.low, Nm.up, Bool.and_eq_true, Bool.or_eq_true, beq_iff_eq, decide_eq_true_eq, Bool.not_eq_true', bne_self_eq_false, Bool.false_eq_true, Bool.true_eq_false, Bool.not_true, Bool.not_false, bne_iff_ne, ne_eq, not_true_eq_false, not_false_eq_true, reduceCtorEq, true_and, and_true, false_and, and_false, if_true, if_false, ite_self, Int.reduceEq, Int.reduceBEq, Int.reduceLE, Int.reduceLT, Int.reduceSub, Int.reduceMul, true_or, or_true, or_false, false_or, and_self, Bool.bne_false, Bool.bne_true, Bool.false_bne, Bool.true_bne, Bool.not_eq_eq_eq_not, bne_self_eq_false])
    all_goals (repeat' split)
    all_goals first | rfl | (exfalso; omega) | (apply congrArg some; omega)
  · have FF : Im.fieldsI 9 2 s = ⟨24575, 24575, 24575, 0, 4294967295, 1, 0, 0⟩ := rfl
    rw [FF] at h1 h2 q1 q2
    dsimp only at h1 h2 q1 q2
    have hd := Nm.one_in h1 (by decide)
    have hn := Nm.one_in h2 (by decide)
    have hm := Nm.one_in q2 (by decide)
    clear h1 h2
    obtain ⟨x, hx⟩ : ∃ x, (0 : Int) % 4294967296 = x := ⟨_, rfl⟩
    simp only [searchC]
    rw [fill_1_0 cond rd rn rm 0 list x hx (by omega) (by omega) (by omega) (by omega) (by omega) (by omega) (by omega) (by omega) (by omega) (by omega)]
    cases s <;> cases it
    all_goals (try simp only [searchC, show row_1.asks = 65 from rfl, asks_65, orI_ite2, orI_some, orI_nil, orI_none, z7_iff, Nm.opt, Nm.low, Nm.up, Bool.and_eq_true, Bool.or_eq_true, beq_iff_eq, decide_eq_true_eq, Bool.not_eq_true', bne_self_eq_false, Bool.false_eq_true, Bool.true_eq_false, Bool.not_true, Bool.not_false, bne_iff_ne, ne_eq, not_true_eq_false, not_false_eq_true, reduceCtorEq, true_and, and_true, false_and, and_false, if_true, if_false, ite_self, Int.reduceEq, Int.reduceBEq, Int.reduceLE, Int.reduceLT, Int.reduceSub, Int.reduceMul, true_or, or_true, or_false, false_or, and_self, Bool.bne_false, Bool.bne_true, Bool.false_bne, Bool.true_bne, Bool.not_eq_eq_eq_not, bne_self_eq_false])
    all_goals (repeat' split)
    all_goals first | rfl | (exfalso; omega) | (apply congrArg some; omega)
set_option linter.unusedSimpArgs false in
set_option maxHeartbeats 4000000 in
theorem enc_11 (cond rd rn rm imm mode list : Int) (s it : Bool) (hok : Nm.okB ⟨11, cond, rd, rn, rm, imm, mode, list, s⟩ = true) (hw : Nm.Wide list) :
    searchP (traitsI cond rd rn rm mode s it) 11 cond rd rn rm imm list formTab = Nm.rowI ⟨11, cond, rd, rn, rm, imm, mode, list, s⟩ it := by
  obtain ⟨_, h1, h2, h3, h4, h5, h6⟩ := Nm.ok_parts hok
  clear hok
  have h3' := Nm.last_cases h3
  clear h3
  dsimp only at h1 h2 h3' h4 h5 h6
  rw [search_c, show formTab.flatMap (candsOf 11) = cands 11 from rfl, cands_11]
  unfold Nm.rowI Nm.twoI
  dsimp only
  have hl := Nm.list_most h4 0 (by decide) rfl hw
  have hc : cond = 0 := by simpa [Im.condB] using h5
  clear h4 h5 h6 hw
  rcases h3' with ⟨rfl, q1, q2, rfl, rfl⟩ | ⟨rfl, q1, q2, q3, q4, rfl⟩ | ⟨rfl, q1, q2, rfl⟩
  · have FF : Im.fieldsI 11 0 s = ⟨24575, 0, 24575, 0, 4294967295, 1, 0, 0⟩ := rfl
    rw [FF] at h1 h2 q1 q2
    dsimp only at h1 h2 q1 q2
    exfalso; omega
  · have FF : Im.fieldsI 11 1 s = ⟨24575, 0, 24575, 0, 4294967295, 1, 0, 0⟩ := rfl
    rw [FF] at h1 h2 q1 q2 q3 q4
    dsimp only at h1 h2 q1 q2 q3 q4
    have hd := Nm.one_in h1 (by decide)
    have hn : rn = 0 := Nm.one_none h2
    clear h1 h2
    obtain ⟨x, hx⟩ : ∃ x, imm % 4294967296 = x := ⟨_, rfl⟩
    simp only [searchC]
    rw [fill_2_0 cond rd rn 0 imm list x hx (by omega) (by omega) (by omega) (by omega) (by omega) (by omega) (by omega) (by omega) (by omega) (by omega)]
    cases s <;> cases it
    all_goals (try simp only [searchC, show row_2.asks = 66 from rfl, asks_66, orI_ite2, orI_some, orI_nil, orI_none, z7_iff, Nm.opt, Nm.low, Nm.up, Bool.and_eq_true, Bool.or_eq_true, beq_iff_eq, decide_eq_true_eq, Bool.not_eq_true', bne_self_eq_false, Bool.false_eq_true, Bool.true_eq_false, Bool.not_true, Bool.not_false, bne_iff_ne, ne_eq, not_true_eq_false, not_false_eq_true, reduceCtorEq, true_and, and_true, false_and, and_false, if_true, if_false, ite_self, Int.reduceEq, Int.reduceBEq, Int.reduceLE, Int.reduceLT, Int.reduceSub, Int.reduceMul, true_or, or_true, or_false, false_or, and_self, Bool.bne_false, Bool.bne_true, Bool.false_bne, Bool.true_bne, Bool.not_eq_eq_eq_not, bne_self_eq_false])
    all_goals (repeat' split)
    all_goals first | rfl | (exfalso; omega) | (apply congrArg some; omega)
  · have FF : Im.fieldsI 11 2 s = ⟨24575, 0, 24575, 0, 4294967295, 1, 0, 0⟩ := rfl
    rw [FF] at h1 h2 q1 q2
    dsimp only at h1 h2 q1 q2
    have hd := Nm.one_in h1 (by decide)
    have hn : rn = 0 := Nm.one_none h2
    have hm := Nm.one_in q2 (by decide)
    clear h1 h2
    obtain ⟨x, hx⟩ : ∃ x, (0 : Int) % 4294967296 = x := ⟨_, rfl⟩
    simp only [searchC]
    rw [fill_2_0 cond rd rn rm 0 list x hx (by omega) (by omega) (by omega) (by omega) (by omega) (by omega) (by omega) (by omega) (by omega) (by omega)]
    cases s <;> cases it
    all_goals (try simp only [searchC, show row_2.asks = 66 from rfl, asks_66, orI_ite2, orI_some, orI_nil, orI_none, z7_iff, Nm.opt, Nm.low, Nm.up, Bool.and_eq_true, Bool.or_eq_true, beq_iff_eq, decide_eq_true_eq, Bool.not_eq_true', bne_self_eq_false, Bool.false_eq_true, Bool.true_eq_false, Bool.not_true, Bool.not_false, bne_iff_ne, ne_eq, not_true_eq_false, not_false_eq_true, reduceCtorEq, true_and, and_true, false_and, and_false, if_true, if_false, ite_self, Int.reduceEq, Int.reduceBEq, Int.reduceLE, Int.reduceLT, Int.reduceSub, Int.reduceMul, true_or, or_true, or_false, false_or, and_self, Bool.bne_false, Bool.bne_true, Bool.false_bne, Bool.true_bne, Bool.not_eq_eq_eq_not, bne_self_eq_false])
    all_goals (repeat' split)
    all_goals first | rfl | (exfalso; omega) | (apply congrArg some; omega)
set_option linter.unusedSimpArgs false in
set_option maxHeartbeats 4000000 in
theorem enc_13 (cond rd rn rm imm mode list : Int) (s it : Bool) (hok : Nm.okB ⟨13, cond, rd, rn, rm, imm, mode, list, s⟩ = true) (hw : Nm.Wide list) :
    searchP (traitsI cond rd rn rm mode s it) 13 cond rd rn rm imm list formTab = Nm.rowI ⟨13, cond, rd, rn, rm, imm, mode, list, s⟩ it := by
  obtain ⟨_, h1, h2, h3, h4, h5, h6⟩ := Nm.ok_parts hok
  clear hok
  have h3' := Nm.last_cases h3
  clear h3
  dsimp only at h1 h2 h3' h4 h5 h6
  rw [search_c, show formTab.flatMap (candsOf 13) = cands 13 from rfl, cands_13]
  unfold Nm.rowI Nm.twoI
  dsimp only
  have hl := Nm.list_most h4 0 (by decide) rfl hw
  have hc : cond = 0 := by simpa [Im.condB] using h5
  obtain rfl : false = s := Nm.flag_off h6 (by decide)
  clear h4 h5 h6 hw
  rcases h3' with ⟨rfl, q1, q2, rfl, rfl⟩ | ⟨rfl, q1, q2, q3, q4, rfl⟩ | ⟨rfl, q1, q2, rfl⟩
  · have FF : Im.fieldsI 13 0 false = ⟨0, 24575, 24575, 0, 4294967295, 1, 0, 0⟩ := rfl
    rw [FF] at h1 h2 q1 q2
    dsimp only at h1 h2 q1 q2
    exfalso; omega
  · have FF : Im.fieldsI 13 1 false = ⟨0, 24575, 24575, 0, 4294967295, 1, 0, 0⟩ := rfl
    rw [FF] at h1 h2 q1 q2 q3 q4
    dsimp only at h1 h2 q1 q2 q3 q4
    have hd : rd = 0 := Nm.one_none h1
    have hn := Nm.one_in h2 (by decide)
    clear h1 h2
    obtain ⟨x, hx⟩ : ∃ x, imm % 4294967296 = x := ⟨_, rfl⟩
    simp only [searchC]
    rw [fill_4_1 cond rd rn 0 imm list x hx (by omega) (by omega) (by omega) (by omega) (by omega) (by omega) (by omega) (by omega) (by omega) (by omega)]
    cases it
    all_goals (try simp only [searchC, show row_4.asks = 2 from rfl, asks_2, orI_ite2, orI_some, orI_nil, orI_none, z7_iff, Nm.opt, Nm.low, Nm.up, Bool.and_eq_true, Bool.or_eq_true, beq_iff_eq, decide_eq_true_eq, Bool.not_eq_true', bne_self_eq_false, Bool.false_eq_true, Bool.true_eq_false, Bool.not_true, Bool.not_false, bne_iff_ne, ne_eq, not_true_eq_false, not_false_eq_true, reduceCtorEq, true_and, and_true, false_and, and_false, if_true, if_false, ite_self, Int.reduceEq, Int.reduceBEq, Int.reduceLE, Int.reduceLT, Int.reduceSub, Int.reduceMul, true_or, or_true, or_false, false_or, and_self, Bool.bne_false, Bool.bne_true, Bool.false_bne, Bool.true_bne, Bool.not_eq_eq_eq_not, bne_self_eq_false])
    all_goals (repeat' split)
    all_goals first | rfl | (exfalso; omega) | (apply congrArg some; omega)
  · have FF : Im.fieldsI 13 2 false = ⟨0, 24575, 24575, 0, 4294967295, 1, 0, 0⟩ := rfl
    rw [FF] at h1 h2 q1 q2
    dsimp only at h1 h2 q1 q2
    have hd : rd = 0 := Nm.one_none h1
    have hn := Nm.one_in h2 (by decide)
    have hm := Nm.one_in q2 (by decide)
    clear h1 h2
    obtain ⟨x, hx⟩ : ∃ x, (0 : Int) % 4294967296 = x := ⟨_, rfl⟩
    simp only [searchC]
    rw [fill_4_1 cond rd rn rm 0 list x hx (by omega) (by omega) (by omega) (by omega) (by omega) (by omega) (by omega) (by omega) (by omega) (by omega)]
    cases it
    all_goals (try simp only [searchC, show row_4.asks = 2 from rfl, asks_2, orI_ite2, orI_some, orI_nil, orI_none, z7_iff, Nm.opt, Nm.low, Nm.up, Bool.and_eq_true, Bool.or_eq_true, beq_iff_eq, decide_eq_true_eq, Bool.not_eq_true', bne_self_eq_false, Bool.false_eq_true, Bool.true_eq_false, Bool.not_true, Bool.not_false, bne_iff_ne, ne_eq, not_true_eq_false, not_false_eq_true, reduceCtorEq, true_and, and_true, false_and, and_false, if_true, if_false, ite_self, Int.reduceEq, Int.reduceBEq, Int.reduceLE, Int.reduceLT, Int.reduceSub, Int.reduceMul, true_or, or_true, or_false, false_or, and_self, Bool.bne_false, Bool.bne_true, Bool.false_bne, Bool.true_bne, Bool.not_eq_eq_eq_not, bne_self_eq_false])
    all_goals (repeat' split)
    all_goals first | rfl | (exfalso; omega) | (apply congrArg some; omega)
set_option linter.unusedSimpArgs false in
set_option maxHeartbeats 4000000 in
theorem enc_14 (cond rd rn rm imm mode list : Int) (s it : Bool) (hok : Nm.okB ⟨14, cond, rd, rn, rm, imm, mode, list, s⟩ = true) (hw : Nm.Wide list) :
    searchP (traitsI cond rd rn rm mode s it) 14 cond rd rn rm imm list formTab = Nm.rowI ⟨14, cond, rd, rn, rm, imm, mode, list, s⟩ it := by
  obtain ⟨_, h1, h2, h3, h4, h5, h6⟩ := Nm.ok_parts hok
  clear hok
  have h3' := Nm.last_cases h3
  clear h3
  dsimp only at h1 h2 h3' h4 h5 h6
  rw [search_c, show formTab.flatMap (candsOf 14) = cands 14 from rfl, cands_14]
  unfold Nm.rowI Nm.twoI
  dsimp only
  have hl := Nm.list_most h4 0 (by decide) rfl hw
  have hc : cond = 0 := by simpa [Im.condB] using h5
  obtain rfl : false = s := Nm.flag_off h6 (by decide)
  clear h4 h5 h6 hw
  rcases h3' with ⟨rfl, q1, q2, rfl, rfl⟩ | ⟨rfl, q1, q2, q3, q4, rfl⟩ | ⟨rfl, q1, q2, rfl⟩
  · have FF : Im.fieldsI 14 0 false = ⟨0, 24575, 24575, 0, 4294967295, 1, 0, 0⟩ := rfl
    rw [FF] at h1 h2 q1 q2
    dsimp only at h1 h2 q1 q2
    exfalso; omega
  · have FF : Im.fieldsI 14 1 false = ⟨0, 24575, 24575, 0, 4294967295, 1, 0, 0⟩ := rfl
    rw [FF] at h1 h2 q1 q2 q3 q4
    dsimp only at h1 h2 q1 q2 q3 q4
    have hd : rd = 0 := Nm.one_none h1
    have hn := Nm.one_in h2 (by decide)
    clear h1 h2
    obtain ⟨x, hx⟩ : ∃ x, imm % 4294967296 = x := ⟨_, rfl⟩
    simp only [searchC]
    rw [fill_4_0 cond rd rn 0 imm list x hx (by omega) (by omega) (by omega) (by omega) (by omega) (by omega) (by omega) (by omega) (by omega) (by omega)]
    cases it
    all_goals (try simp only [searchC, show row_4.asks = 2 from rfl, asks_2, orI_ite2, orI_some, orI_nil, orI_none, z7_iff, Nm.opt, Nm.low, Nm.up, Bool.and_eq_true, Bool.or_eq_true, beq_iff_eq, decide_eq_true_eq, Bool.not_eq_true', bne_self_eq_false, Bool.false_eq_true, Bool.true_eq_false, Bool.not_true, Bool.not_false, bne_iff_ne, ne_eq, not_true_eq_false, not_false_eq_true, reduceCtorEq, true_and, and_true, false_and, and_false, if_true, if_false, ite_self, Int.reduceEq, Int.reduceBEq, Int.reduceLE, Int.reduceLT, Int.reduceSub, Int.reduceMul, true_or, or_true, or_false, false_or, and_self, Bool.bne_false, Bool.bne_true, Bool.false_bne, Bool.true_bne, Bool.not_eq_eq_eq_not, bne_self_eq_false])
    all_goals (repeat' split)
    all_goals first | rfl | (exfalso; omega) | (apply congrArg some; omega)
  · have FF : Im.fieldsI 14 2 false = ⟨0, 24575, 24575, 0, 4294967295, 1, 0, 0⟩ := rfl
    rw [FF] at h1 h2 q1 q2
    dsimp only at h1 h2 q1 q2
    have hd : rd = 0 := Nm.one_none h1
    have hn := Nm.one_in h2 (by decide)
    have hm := Nm.one_in q2 (by decide)
    clear h1 h2
    obtain ⟨x, hx⟩ : ∃ x, (0 : Int) % 4294967296 = x := ⟨_, rfl⟩
    simp only [searchC]
    rw [fill_4_0 cond rd rn rm 0 list x hx (by omega) (by omega) (by omega) (by omega) (by omega) (by omega) (by omega) (by omega) (by omega) (by omega)]
    cases it
    all_goals (try simp only [searchC, show row_4.asks = 2 from rfl, asks_2, orI_ite2, orI_some, orI_nil, orI_none, z7_iff, Nm.opt, Nm.low, Nm.up, Bool.and_eq_true, Bool.or_eq_true, beq_iff_eq, decide_eq_true_eq, Bool.not_eq_true', bne_self_eq_false, Bool.false_eq_true, Bool.true_eq_false, Bool.not_true, Bool.not_false, bne_iff_ne, ne_eq, not_true_eq_false, not_false_eq_true, reduceCtorEq, true_and, and_true, false_and, and_false, if_true, if_false, ite_self, Int.reduceEq, Int.reduceBEq, Int.reduceLE, Int.reduceLT, Int.reduceSub, Int.reduceMul, true_or, or_true, or_false, false_or, and_self, Bool.bne_false, Bool.bne_true, Bool.false_bne, Bool.true_bne, Bool.not_eq_eq_eq_not, bne_self_eq_false])
    all_goals (repeat' split)
    all_goals first | rfl | (exfalso; omega) | (apply congrArg some; omega)
set_option linter.unusedSimpArgs false in
set_option maxHeartbeats 4000000 in
theorem enc_20 (cond rd rn rm imm mode list : Int) (s it : Bool) (hok : Nm.okB ⟨20, cond, rd, rn, rm, imm, mode, list, s⟩ = true) (hw : Nm.Wide list) :
    searchP (traitsI cond rd rn rm mode s it) 20 cond rd rn rm imm list formTab = Nm.rowI ⟨20, cond, rd, rn, rm, imm, mode, list, s⟩ it := by
  obtain ⟨_, h1, h2, h3, h4, h5, h6⟩ := Nm.ok_parts hok
  clear hok
  have h3' := Nm.last_cases h3
  clear h3
  dsimp only at h1 h2 h3' h4 h5 h6
  rw [search_c, show formTab.flatMap (candsOf 20) = cands 20 from rfl, cands_20]
  unfold Nm.rowI Nm.twoI
  dsimp only
  have hl := Nm.list_most h4 0 (by decide) rfl hw
  have hc : cond = 0 := by simpa [Im.condB] using h5
  obtain rfl : false = s := Nm.flag_off h6 (by decide)
  clear h4 h5 h6 hw
  rcases h3' with ⟨rfl, q1, q2, rfl, rfl⟩ | ⟨rfl, q1, q2, q3, q4, rfl⟩ | ⟨rfl, q1, q2, rfl⟩
  · have FF : Im.fieldsI 20 0 false = ⟨24575, 24575, 24575, 0, 0, 0, 0, 0⟩ := rfl
    rw [FF] at h1 h2 q1 q2
    dsimp only at h1 h2 q1 q2
    exfalso; omega
  · have FF : Im.fieldsI 20 1 false = ⟨24575, 24575, 24575, 0, 0, 0, 0, 0⟩ := rfl
    rw [FF] at h1 h2 q1 q2 q3 q4
    dsimp only at h1 h2 q1 q2 q3 q4
    exfalso; omega
  · have FF : Im.fieldsI 20 2 false = ⟨24575, 24575, 24575, 0, 0, 0, 0, 0⟩ := rfl
    rw [FF] at h1 h2 q1 q2
    dsimp only at h1 h2 q1 q2
    have hd := Nm.one_in h1 (by decide)
    have hn := Nm.one_in h2 (by decide)
    have hm := Nm.one_in q2 (by decide)
    clear h1 h2
    obtain ⟨x, hx⟩ : ∃ x, (0 : Int) % 4294967296 = x := ⟨_, rfl⟩
    simp only [searchC]
    rw [fill_3_0 cond rd rn rm 0 list x hx (by omega) (by omega) (by omega) (by omega) (by omega) (by omega) (by omega) (by omega) (by omega) (by omega)]
    cases it
    all_goals (try simp only [searchC, show row_3.asks = 264 from rfl, asks_264, orI_ite2, orI_some, orI_nil, orI_none, z7_iff, Nm.opt, Nm.low, Nm.up, Bool.and_eq_true, Bool.or_eq_true, beq_iff_eq, decide_eq_true_eq, Bool.not_eq_true', bne_self_eq_false, Bool.false_eq_true, Bool.true_eq_false, Bool.not_true, Bool.not_false, bne_iff_ne, ne_eq, not_true_eq_false, not_false_eq_true, reduceCtorEq, true_and, and_true, false_and, and_false, if_true, if_false, ite_self, Int.reduceEq, Int.reduceBEq, Int.reduceLE, Int.reduceLT, Int.reduceSub, Int.reduceMul, true_or, or_true, or_false, false_or, and_self, Bool.bne_false, Bool.bne_true, Bool.false_bne, Bool.true_bne, Bool.not_eq_eq_eq_not, bne_self_eq_false])
    all_goals (repeat' split)
    all_goals first | rfl | (exfalso; omega) | (apply congrArg some; omega)
end Pl
end Go.Proofs.YtmofimgodmcdjaaDoor

namespace Go.Proofs.YtmofimgodmcdjaaDoor
open Go.ChangeShapes Go.WideShapes Go.ChangeAt Go.RowKit
namespace Pl

set_option linter.unusedSimpArgs false in
set_option maxHeartbeats 4000000 in
theorem enc_5 (cond rd rn rm imm mode list : Int) (s it : Bool) (hok : Nm.okB ⟨5, cond, rd, rn, rm, imm, mode, list, s⟩ = true) (hw : Nm.Wide list) :
    searchP (traitsI cond rd rn rm mode s it) 5 cond rd rn rm imm list formTab = Nm.rowI ⟨5, cond, rd, rn, rm, imm, mode, list, s⟩ it := by
  obtain ⟨_, h1, h2, h3, h4, h5, h6⟩ := Nm.ok_parts hok
  clear hok
  have h3' := Nm.last_cases h3
  clear h3
  dsimp only at h1 h2 h3' h4 h5 h6
  rw [search_c, show formTab.flatMap (candsOf 5) = cands 5 from rfl, cands_5]
  unfold Nm.rowI Nm.sumI Nm.subI
  dsimp only
  have hl := Nm.list_most h4 0 (by decide) rfl hw
  have hc : cond = 0 := by simpa [Im.condB] using h5
  clear h4 h5 h6 hw
  rcases h3' with ⟨rfl, q1, q2, rfl, rfl⟩ | ⟨rfl, q1, q2, q3, q4, rfl⟩ | ⟨rfl, q1, q2, rfl⟩
  · have FF : Im.fieldsI 5 0 s = ⟨24575, 24575, 24575, 0, 4294967295, 1, 0, 0⟩ := rfl
    rw [FF] at h1 h2 q1 q2
    dsimp only at h1 h2 q1 q2
    exfalso; omega
  · have FF : Im.fieldsI 5 1 s = ⟨24575, 24575, 24575, 0, 4294967295, 1, 0, 0⟩ := rfl
    rw [FF] at h1 h2 q1 q2 q3 q4
    dsimp only at h1 h2 q1 q2 q3 q4
    have hd := Nm.one_in h1 (by decide)
    have hn := Nm.one_in h2 (by decide)
    clear h1 h2
    obtain ⟨x, hx⟩ : ∃ x, imm % 4294967296 = x := ⟨_, rfl⟩
    simp only [searchC]
    rw [fill_11_0 cond rd rn 0 imm list x hx (by omega) (by omega) (by omega) (by omega) (by omega) (by omega) (by omega) (by omega) (by omega) (by omega), fill_12_0 cond rd rn 0 imm list x hx (by omega) (by omega) (by omega) (by omega) (by omega) (by omega) (by omega) (by omega) (by omega) (by omega), fill_13_0 cond rd rn 0 imm list x hx (by omega) (by omega) (by omega) (by omega) (by omega) (by omega) (by omega) (by omega) (by omega) (by omega), fill_14_0 cond rd rn 0 imm list x hx (by omega) (by omega) (by omega) (by omega) (by omega) (by omega) (by omega) (by omega) (by omega) (by omega)]
    cases s <;> cases it
    all_goals (try simp only [searchC, show row_11.asks = 66 from rfl, asks_66, show row_12.asks = 162 from rfl, asks_162, show row_13.asks = 65 from rfl, asks_65, show row_14.asks = 193 from rfl, asks_193, orI_ite2, orI_some, orI_nil, orI_none, z7_iff, Nm.opt, Nm.low, Nm.up, Bool.and_eq_true, Bool.or_eq_true, beq_iff_eq, decide_eq_true_eq, Bool.not_eq_true', bne_self_eq_false, Bool.false_eq_true, Bool.true_eq_false, Bool.not_true, Bool.not_false, bne_iff_ne, ne_eq, not_true_eq_false, not_false_eq_true, reduceCtorEq, true_and, and_true, false_and, and_false, if_true, if_false, ite_self, Int.reduceEq, Int.reduceBEq, Int.reduceLE, Int.reduceLT, Int.reduceSub, Int.reduceMul, true_or, or_true, or_false, false_or, and_self, Bool.bne_false, Bool.bne_true, Bool.false_bne, Bool.true_bne, Bool.not_eq_eq_eq_not, bne_self_eq_false])
    all_goals (repeat' split)
    all_goals first | rfl | (exfalso; omega) | (apply congrArg some; omega)
  · have FF : Im.fieldsI 5 2 s = ⟨24575, 24575, 24575, 0, 4294967295, 1, 0, 0⟩ := rfl
    rw [FF] at h1 h2 q1 q2
    dsimp only at h1 h2 q1 q2
    have hd := Nm.one_in h1 (by decide)
    have hn := Nm.one_in h2 (by decide)
    have hm := Nm.one_in q2 (by decide)
    clear h1 h2
    obtain ⟨x, hx⟩ : ∃ x, (0 : Int) % 4294967296 = x := ⟨_, rfl⟩
    simp only [searchC]
    rw [fill_11_0 cond rd rn rm 0 list x hx (by omega) (by omega) (by omega) (by omega) (by omega) (by omega) (by omega) (by omega) (by omega) (by omega), fill_12_0 cond rd rn rm 0 list x hx (by omega) (by omega) (by omega) (by omega) (by omega) (by omega) (by omega) (by omega) (by omega) (by omega), fill_13_0 cond rd rn rm 0 list x hx (by omega) (by omega) (by omega) (by omega) (by omega) (by omega) (by omega) (by omega) (by omega) (by omega), fill_14_0 cond rd rn rm 0 list x hx (by omega) (by omega) (by omega) (by omega) (by omega) (by omega) (by omega) (by omega) (by omega) (by omega)]
    cases s <;> cases it
    all_goals (try simp only [searchC, show row_11.asks = 66 from rfl, asks_66, show row_12.asks = 162 from rfl, asks_162, show row_13.asks = 65 from rfl, asks_65, show row_14.asks = 193 from rfl, asks_193, orI_ite2, orI_some, orI_nil, orI_none, z7_iff, Nm.opt, Nm.low, Nm.up, Bool.and_eq_true, Bool.or_eq_true, beq_iff_eq, decide_eq_true_eq, Bool.not_eq_true', bne_self_eq_false, Bool.false_eq_true, Bool.true_eq_false, Bool.not_true, Bool.not_false, bne_iff_ne, ne_eq, not_true_eq_false, not_false_eq_true, reduceCtorEq, true_and, and_true, false_and, and_false, if_true, if_false, ite_self, Int.reduceEq, Int.reduceBEq, Int.reduceLE, Int.reduceLT, Int.reduceSub, Int.reduceMul, true_or, or_true, or_false, false_or, and_self, Bool.bne_false, Bool.bne_true, Bool.false_bne, Bool.true_bne, Bool.not_eq_eq_eq_not, bne_self_eq_false])
    all_goals (repeat' split)
    all_goals first | rfl | (exfalso; omega) | (apply congrArg some; omega)
set_option linter.unusedSimpArgs false in
set_option maxHeartbeats 4000000 in
theorem enc_7 (cond rd rn rm imm mode list : Int) (s it : Bool) (hok : Nm.okB ⟨7, cond, rd, rn, rm, imm, mode, list, s⟩ = true) (hw : Nm.Wide list) :
    searchP (traitsI cond rd rn rm mode s it) 7 cond rd rn rm imm list formTab = Nm.rowI ⟨7, cond, rd, rn, rm, imm, mode, list, s⟩ it := by
  obtain ⟨_, h1, h2, h3, h4, h5, h6⟩ := Nm.ok_parts hok
  clear hok
  have h3' := Nm.last_cases h3
  clear h3
  dsimp only at h1 h2 h3' h4 h5 h6
  rw [search_c, show formTab.flatMap (candsOf 7) = cands 7 from rfl, cands_7]
  unfold Nm.rowI Nm.sumI Nm.subI
  dsimp only
  have hl := Nm.list_most h4 0 (by decide) rfl hw
  have hc : cond = 0 := by simpa [Im.condB] using h5
  clear h4 h5 h6 hw
  rcases h3' with ⟨rfl, q1, q2, rfl, rfl⟩ | ⟨rfl, q1, q2, q3, q4, rfl⟩ | ⟨rfl, q1, q2, rfl⟩
  · have FF : Im.fieldsI 7 0 s = ⟨24575, 24575, 24575, 0, 4294967295, 1, 0, 0⟩ := rfl
    rw [FF] at h1 h2 q1 q2
    dsimp only at h1 h2 q1 q2
    exfalso; omega
  · have FF : Im.fieldsI 7 1 s = ⟨24575, 24575, 24575, 0, 4294967295, 1, 0, 0⟩ := rfl
    rw [FF] at h1 h2 q1 q2 q3 q4
    dsimp only at h1 h2 q1 q2 q3 q4
    have hd := Nm.one_in h1 (by decide)
    have hn := Nm.one_in h2 (by decide)
    clear h1 h2
    obtain ⟨x, hx⟩ : ∃ x, imm % 4294967296 = x := ⟨_, rfl⟩
    simp only [searchC]
    rw [fill_11_1 cond rd rn 0 imm list x hx (by omega) (by omega) (by omega) (by omega) (by omega) (by omega) (by omega) (by omega) (by omega) (by omega), fill_13_1 cond rd rn 0 imm list x hx (by omega) (by omega) (by omega) (by omega) (by omega) (by omega) (by omega) (by omega) (by omega) (by omega), fill_14_1 cond rd rn 0 imm list x hx (by omega) (by omega) (by omega) (by omega) (by omega) (by omega) (by omega) (by omega) (by omega) (by omega)]
    cases s <;> cases it
    all_goals (try simp only [searchC, show row_11.asks = 66 from rfl, asks_66, show row_13.asks = 65 from rfl, asks_65, show row_14.asks = 193 from rfl, asks_193, orI_ite2, orI_some, orI_nil, orI_none, z7_iff, Nm.opt, Nm.low, Nm.up, Bool.and_eq_true, Bool.or_eq_true, beq_iff_eq, decide_eq_true_eq, Bool.not_eq_true', bne_self_eq_false, Bool.false_eq_true, Bool.true_eq_false, Bool.not_true, Bool.not_false, bne_iff_ne, ne_eq, not_true_eq_false, not_false_eq_true, reduceCtorEq, true_and, and_true, false_and, and_false, if_true, if_false, ite_self, Int.reduceEq, Int.reduceBEq, Int.reduceLE, Int.reduceLT, Int.reduceSub, Int.reduceMul, true_or, or_true, or_false, false_or, and_self, Bool.bne_false, Bool.bne_true, Bool.false_bne, Bool.true_bne, Bool.not_eq_eq_eq_not, bne_self_eq_false])
    all_goals (repeat' split)
    all_goals first | rfl | (exfalso; omega) | (apply congrArg some; omega)
  · have FF : Im.fieldsI 7 2 s = ⟨24575, 24575, 24575, 0, 4294967295, 1, 0, 0⟩ := rfl
    rw [FF] at h1 h2 q1 q2
    dsimp only at h1 h2 q1 q2
    have hd := Nm.one_in h1 (by decide)
    have hn := Nm.one_in h2 (by decide)
    have hm := Nm.one_in q2 (by decide)
    clear h1 h2
    obtain ⟨x, hx⟩ : ∃ x, (0 : Int) % 4294967296 = x := ⟨_, rfl⟩
    simp only [searchC]
    rw [fill_11_1 cond rd rn rm 0 list x hx (by omega) (by omega) (by omega) (by omega) (by omega) (by omega) (by omega) (by omega) (by omega) (by omega), fill_13_1 cond rd rn rm 0 list x hx (by omega) (by omega) (by omega) (by omega) (by omega) (by omega) (by omega) (by omega) (by omega) (by omega), fill_14_1 cond rd rn rm 0 list x hx (by omega) (by omega) (by omega) (by omega) (by omega) (by omega) (by omega) (by omega) (by omega) (by omega)]
    cases s <;> cases it
    all_goals (try simp only [searchC, show row_11.asks = 66 from rfl, asks_66, show row_13.asks = 65 from rfl, asks_65, show row_14.asks = 193 from rfl, asks_193, orI_ite2, orI_some, orI_nil, orI_none, z7_iff, Nm.opt, Nm.low, Nm.up, Bool.and_eq_true, Bool.or_eq_true, beq_iff_eq, decide_eq_true_eq, Bool.not_eq_true', bne_self_eq_false, Bool.false_eq_true, Bool.true_eq_false, Bool.not_true, Bool.not_false, bne_iff_ne, ne_eq, not_true_eq_false, not_false_eq_true, reduceCtorEq, true_and, and_true, false_and, and_false, if_true, if_false, ite_self, Int.reduceEq, Int.reduceBEq, Int.reduceLE, Int.reduceLT, Int.reduceSub, Int.reduceMul, true_or, or_true, or_false, false_or, and_self, Bool.bne_false, Bool.bne_true, Bool.false_bne, Bool.true_bne, Bool.not_eq_eq_eq_not, bne_self_eq_false])
    all_goals (repeat' split)
    all_goals first | rfl | (exfalso; omega) | (apply congrArg some; omega)
set_option linter.unusedSimpArgs false in
set_option maxHeartbeats 4000000 in
theorem enc_10 (cond rd rn rm imm mode list : Int) (s it : Bool) (hok : Nm.okB ⟨10, cond, rd, rn, rm, imm, mode, list, s⟩ = true) (hw : Nm.Wide list) :
    searchP (traitsI cond rd rn rm mode s it) 10 cond rd rn rm imm list formTab = Nm.rowI ⟨10, cond, rd, rn, rm, imm, mode, list, s⟩ it := by
  obtain ⟨_, h1, h2, h3, h4, h5, h6⟩ := Nm.ok_parts hok
  clear hok
  have h3' := Nm.last_cases h3
  clear h3
  dsimp only at h1 h2 h3' h4 h5 h6
  rw [search_c, show formTab.flatMap (candsOf 10) = cands 10 from rfl, cands_10]
  unfold Nm.rowI Nm.moveI
  dsimp only
  have hl : 0 ≤ list ∧ list ≤ 0 := by
    rcases h3' with ⟨rfl, q⟩ | ⟨rfl, q⟩ | ⟨rfl, q⟩ <;> cases s <;> exact Nm.list_most h4 0 (by decide) rfl hw
  have hc : cond = 0 := by simpa [Im.condB] using h5
  clear h4 h5 h6 hw
  rcases h3' with ⟨rfl, q1, q2, rfl, rfl⟩ | ⟨rfl, q1, q2, q3, q4, rfl⟩ | ⟨rfl, q1, q2, rfl⟩
  · cases s
    · have FF : Im.fieldsI 10 0 false = ⟨24575, 0, 24575, 0, 4294967295, 1, 0, 0⟩ := rfl
      rw [FF] at h1 h2 q1 q2
      dsimp only at h1 h2 q1 q2
      exfalso; omega
    · have FF : Im.fieldsI 10 0 true = ⟨24575, 0, 24575, 0, 4294967295, 1, 0, 0⟩ := rfl
      rw [FF] at h1 h2 q1 q2
      dsimp only at h1 h2 q1 q2
      exfalso; omega
  · cases s
    · have FF : Im.fieldsI 10 1 false = ⟨24575, 0, 24575, 0, 4294967295, 1, 0, 0⟩ := rfl
      rw [FF] at h1 h2 q1 q2 q3 q4
      dsimp only at h1 h2 q1 q2 q3 q4
      have hd := Nm.one_in h1 (by decide)
      have hn : rn = 0 := Nm.one_none h2
      clear h1 h2
      obtain ⟨x, hx⟩ : ∃ x, imm % 4294967296 = x := ⟨_, rfl⟩
      simp only [searchC]
      rw [fill_8_0 cond rd rn 0 imm list x hx (by omega) (by omega) (by omega) (by omega) (by omega) (by omega) (by omega) (by omega) (by omega) (by omega), fill_9_0 cond rd rn 0 imm list x hx (by omega) (by omega) (by omega) (by omega) (by omega) (by omega) (by omega) (by omega) (by omega) (by omega), fill_10_0 cond rd rn 0 imm list x hx (by omega) (by omega) (by omega) (by omega) (by omega) (by omega) (by omega) (by omega) (by omega) (by omega)]
      cases it
      all_goals (try simp only [searchC, show row_8.asks = 65 from rfl, asks_65, show row_9.asks = 22 from rfl, asks_22, show row_10.asks = 34 from rfl, asks_34, orI_ite2, orI_some, orI_nil, orI_none, z7_iff, Nm.opt, Nm.low, Nm.up, Bool.and_eq_true, Bool.or_eq_true, beq_iff_eq, decide_eq_true_eq, Bool.not_eq_true', bne_self_eq_false, Bool.false_eq_true, Bool.true_eq_false, Bool.not_true, Bool.not_false, bne_iff_ne, ne_eq, not_true_eq_false, not_false_eq_true, reduceCtorEq, true_and, and_true, false_and, and_false, if_true, if_false, ite_self, Int.reduceEq, Int.reduceBEq, Int.reduceLE, Int.reduceLT, Int.reduceSub, Int.reduceMul, true_or, or_true, or_false, false_or, and_self, Bool.bne_false, Bool.bne_true, Bool.false_bne, Bool.true_bne, Bool.not_eq_eq_eq_not, bne_self_eq_false])
      all_goals (repeat' split)
      all_goals first | rfl | (exfalso; omega) | (apply congrArg some; omega)
    · have FF : Im.fieldsI 10 1 true = ⟨24575, 0, 24575, 0, 4294967295, 1, 0, 0⟩ := rfl
      rw [FF] at h1 h2 q1 q2 q3 q4
      dsimp only at h1 h2 q1 q2 q3 q4
      have hd := Nm.one_in h1 (by decide)
      have hn : rn = 0 := Nm.one_none h2
      clear h1 h2
      obtain ⟨x, hx⟩ : ∃ x, imm % 4294967296 = x := ⟨_, rfl⟩
      simp only [searchC]
      rw [fill_8_0 cond rd rn 0 imm list x hx (by omega) (by omega) (by omega) (by omega) (by omega) (by omega) (by omega) (by omega) (by omega) (by omega), fill_9_0 cond rd rn 0 imm list x hx (by omega) (by omega) (by omega) (by omega) (by omega) (by omega) (by omega) (by omega) (by omega) (by omega), fill_10_0 cond rd rn 0 imm list x hx (by omega) (by omega) (by omega) (by omega) (by omega) (by omega) (by omega) (by omega) (by omega) (by omega)]
      cases it
      all_goals (try simp only [searchC, show row_8.asks = 65 from rfl, asks_65, show row_9.asks = 22 from rfl, asks_22, show row_10.asks = 34 from rfl, asks_34, orI_ite2, orI_some, orI_nil, orI_none, z7_iff, Nm.opt, Nm.low, Nm.up, Bool.and_eq_true, Bool.or_eq_true, beq_iff_eq, decide_eq_true_eq, Bool.not_eq_true', bne_self_eq_false, Bool.false_eq_true, Bool.true_eq_false, Bool.not_true, Bool.not_false, bne_iff_ne, ne_eq, not_true_eq_false, not_false_eq_true, reduceCtorEq, true_and, and_true, false_and, and_false, if_true, if_false, ite_self, Int.reduceEq, Int.reduceBEq, Int.reduceLE, Int.reduceLT, Int.reduceSub, Int.reduceMul, true_or, or_true, or_false, false_or, and_self, Bool.bne_false, Bool.bne_true, Bool.false_bne, Bool.true_bne, Bool.not_eq_eq_eq_not, bne_self_eq_false])
      all_goals (repeat' split)
      all_goals first | rfl | (exfalso; omega) | (apply congrArg some; omega)
  · cases s
    · have FF : Im.fieldsI 10 2 false = ⟨32767, 0, 32767, 0, 0, 0, 0, 0⟩ := rfl
      rw [FF] at h1 h2 q1 q2
      dsimp only at h1 h2 q1 q2
      have hd := Nm.one_in h1 (by decide)
      have hn : rn = 0 := Nm.one_none h2
      have hm := Nm.one_in q2 (by decide)
      clear h1 h2
      obtain ⟨x, hx⟩ : ∃ x, (0 : Int) % 4294967296 = x := ⟨_, rfl⟩
      simp only [searchC]
      rw [fill_8_0 cond rd rn rm 0 list x hx (by omega) (by omega) (by omega) (by omega) (by omega) (by omega) (by omega) (by omega) (by omega) (by omega), fill_9_0 cond rd rn rm 0 list x hx (by omega) (by omega) (by omega) (by omega) (by omega) (by omega) (by omega) (by omega) (by omega) (by omega), fill_10_0 cond rd rn rm 0 list x hx (by omega) (by omega) (by omega) (by omega) (by omega) (by omega) (by omega) (by omega) (by omega) (by omega)]
      cases it
      all_goals (try simp only [searchC, show row_8.asks = 65 from rfl, asks_65, show row_9.asks = 22 from rfl, asks_22, show row_10.asks = 34 from rfl, asks_34, orI_ite2, orI_some, orI_nil, orI_none, z7_iff, Nm.opt, Nm.low, Nm.up, Bool.and_eq_true, Bool.or_eq_true, beq_iff_eq, decide_eq_true_eq, Bool.not_eq_true', bne_self_eq_false, Bool.false_eq_true, Bool.true_eq_false, Bool.not_true, Bool.not_false, bne_iff_ne, ne_eq, not_true_eq_false, not_false_eq_true, reduceCtorEq, true_and, and_true, false_and, and_false, if_true, if_false, ite_self, Int.reduceEq, Int.reduceBEq, Int.reduceLE, Int.reduceLT, Int.reduceSub, Int.reduceMul, true_or, or_true, or_false, false_or, and_self, Bool.bne_false, Bool.bne_true, Bool.false_bne, Bool.true_bne, Bool.not_eq_eq_eq_not, bne_self_eq_false])
      all_goals (repeat' split)
      all_goals first | rfl | (exfalso; omega) | (apply congrArg some; omega)
    · have FF : Im.fieldsI 10 2 true = ⟨24575, 0, 24575, 0, 4294967295, 1, 0, 0⟩ := rfl
      rw [FF] at h1 h2 q1 q2
      dsimp only at h1 h2 q1 q2
      have hd := Nm.one_in h1 (by decide)
      have hn : rn = 0 := Nm.one_none h2
      have hm := Nm.one_in q2 (by decide)
      clear h1 h2
      obtain ⟨x, hx⟩ : ∃ x, (0 : Int) % 4294967296 = x := ⟨_, rfl⟩
      simp only [searchC]
      rw [fill_8_0 cond rd rn rm 0 list x hx (by omega) (by omega) (by omega) (by omega) (by omega) (by omega) (by omega) (by omega) (by omega) (by omega), fill_9_0 cond rd rn rm 0 list x hx (by omega) (by omega) (by omega) (by omega) (by omega) (by omega) (by omega) (by omega) (by omega) (by omega), fill_10_0 cond rd rn rm 0 list x hx (by omega) (by omega) (by omega) (by omega) (by omega) (by omega) (by omega) (by omega) (by omega) (by omega)]
      cases it
      all_goals (try simp only [searchC, show row_8.asks = 65 from rfl, asks_65, show row_9.asks = 22 from rfl, asks_22, show row_10.asks = 34 from rfl, asks_34, orI_ite2, orI_some, orI_nil, orI_none, z7_iff, Nm.opt, Nm.low, Nm.up, Bool.and_eq_true, Bool.or_eq_true, beq_iff_eq, decide_eq_true_eq, Bool.not_eq_true', bne_self_eq_false, Bool.false_eq_true, Bool.true_eq_false, Bool.not_true, Bool.not_false, bne_iff_ne, ne_eq, not_true_eq_false, not_false_eq_true, reduceCtorEq, true_and, and_true, false_and, and_false, if_true, if_false, ite_self, Int.reduceEq, Int.reduceBEq, Int.reduceLE, Int.reduceLT, Int.reduceSub, Int.reduceMul, true_or, or_true, or_false, false_or, and_self, Bool.bne_false, Bool.bne_true, Bool.false_bne, Bool.true_bne, Bool.not_eq_eq_eq_not, bne_self_eq_false])
      all_goals (repeat' split)
      all_goals first | rfl | (exfalso; omega) | (apply congrArg some; omega)
set_option linter.unusedSimpArgs false in
set_option maxHeartbeats 4000000 in
theorem enc_12 (cond rd rn rm imm mode list : Int) (s it : Bool) (hok : Nm.okB ⟨12, cond, rd, rn, rm, imm, mode, list, s⟩ = true) (hw : Nm.Wide list) :
    searchP (traitsI cond rd rn rm mode s it) 12 cond rd rn rm imm list formTab = Nm.rowI ⟨12, cond, rd, rn, rm, imm, mode, list, s⟩ it := by
  obtain ⟨_, h1, h2, h3, h4, h5, h6⟩ := Nm.ok_parts hok
  clear hok
  have h3' := Nm.last_cases h3
  clear h3
  dsimp only at h1 h2 h3' h4 h5 h6
  rw [search_c, show formTab.flatMap (candsOf 12) = cands 12 from rfl, cands_12]
  unfold Nm.rowI Nm.moveI
  dsimp only
  have hl := Nm.list_most h4 0 (by decide) rfl hw
  have hc : cond = 0 := by simpa [Im.condB] using h5
  obtain rfl : false = s := Nm.flag_off h6 (by decide)
  clear h4 h5 h6 hw
  rcases h3' with ⟨rfl, q1, q2, rfl, rfl⟩ | ⟨rfl, q1, q2, q3, q4, rfl⟩ | ⟨rfl, q1, q2, rfl⟩
  · have FF : Im.fieldsI 12 0 false = ⟨0, 24575, 24575, 0, 4294967295, 1, 0, 0⟩ := rfl
    rw [FF] at h1 h2 q1 q2
    dsimp only at h1 h2 q1 q2
    exfalso; omega
  · have FF : Im.fieldsI 12 1 false = ⟨0, 24575, 24575, 0, 4294967295, 1, 0, 0⟩ := rfl
    rw [FF] at h1 h2 q1 q2 q3 q4
    dsimp only at h1 h2 q1 q2 q3 q4
    have hd : rd = 0 := Nm.one_none h1
    have hn := Nm.one_in h2 (by decide)
    clear h1 h2
    obtain ⟨x, hx⟩ : ∃ x, imm % 4294967296 = x := ⟨_, rfl⟩
    simp only [searchC]
    rw [fill_5_0 cond rd rn 0 imm list x hx (by omega) (by omega) (by omega) (by omega) (by omega) (by omega) (by omega) (by omega) (by omega) (by omega), fill_6_0 cond rd rn 0 imm list x hx (by omega) (by omega) (by omega) (by omega) (by omega) (by omega) (by omega) (by omega) (by omega) (by omega), fill_7_0 cond rd rn 0 imm list x hx (by omega) (by omega) (by omega) (by omega) (by omega) (by omega) (by omega) (by omega) (by omega) (by omega)]
    cases it
    all_goals (try simp only [searchC, show row_5.asks = 2 from rfl, asks_2, show row_6.asks = 2 from rfl, asks_2, show row_7.asks = 1 from rfl, asks_1, orI_ite2, orI_some, orI_nil, orI_none, z7_iff, Nm.opt, Nm.low, Nm.up, Bool.and_eq_true, Bool.or_eq_true, beq_iff_eq, decide_eq_true_eq, Bool.not_eq_true', bne_self_eq_false, Bool.false_eq_true, Bool.true_eq_false, Bool.not_true, Bool.not_false, bne_iff_ne, ne_eq, not_true_eq_false, not_false_eq_true, reduceCtorEq, true_and, and_true, false_and, and_false, if_true, if_false, ite_self, Int.reduceEq, Int.reduceBEq, Int.reduceLE, Int.reduceLT, Int.reduceSub, Int.reduceMul, true_or, or_true, or_false, false_or, and_self, Bool.bne_false, Bool.bne_true, Bool.false_bne, Bool.true_bne, Bool.not_eq_eq_eq_not, bne_self_eq_false])
    all_goals (repeat' split)
    all_goals first | rfl | (exfalso; omega) | (apply congrArg some; omega)
  · have FF : Im.fieldsI 12 2 false = ⟨0, 24575, 24575, 0, 4294967295, 1, 0, 0⟩ := rfl
    rw [FF] at h1 h2 q1 q2
    dsimp only at h1 h2 q1 q2
    have hd : rd = 0 := Nm.one_none h1
    have hn := Nm.one_in h2 (by decide)
    have hm := Nm.one_in q2 (by decide)
    clear h1 h2
    obtain ⟨x, hx⟩ : ∃ x, (0 : Int) % 4294967296 = x := ⟨_, rfl⟩
    simp only [searchC]
    rw [fill_5_0 cond rd rn rm 0 list x hx (by omega) (by omega) (by omega) (by omega) (by omega) (by omega) (by omega) (by omega) (by omega) (by omega), fill_6_0 cond rd rn rm 0 list x hx (by omega) (by omega) (by omega) (by omega) (by omega) (by omega) (by omega) (by omega) (by omega) (by omega), fill_7_0 cond rd rn rm 0 list x hx (by omega) (by omega) (by omega) (by omega) (by omega) (by omega) (by omega) (by omega) (by omega) (by omega)]
    cases it
    all_goals (try simp only [searchC, show row_5.asks = 2 from rfl, asks_2, show row_6.asks = 2 from rfl, asks_2, show row_7.asks = 1 from rfl, asks_1, orI_ite2, orI_some, orI_nil, orI_none, z7_iff, Nm.opt, Nm.low, Nm.up, Bool.and_eq_true, Bool.or_eq_true, beq_iff_eq, decide_eq_true_eq, Bool.not_eq_true', bne_self_eq_false, Bool.false_eq_true, Bool.true_eq_false, Bool.not_true, Bool.not_false, bne_iff_ne, ne_eq, not_true_eq_false, not_false_eq_true, reduceCtorEq, true_and, and_true, false_and, and_false, if_true, if_false, ite_self, Int.reduceEq, Int.reduceBEq, Int.reduceLE, Int.reduceLT, Int.reduceSub, Int.reduceMul, true_or, or_true, or_false, false_or, and_self, Bool.bne_false, Bool.bne_true, Bool.false_bne, Bool.true_bne, Bool.not_eq_eq_eq_not, bne_self_eq_false])
    all_goals (repeat' split)
    all_goals first | rfl | (exfalso; omega) | (apply congrArg some; omega)
end Pl
end Go.Proofs.YtmofimgodmcdjaaDoor

namespace Go.Proofs.YtmofimgodmcdjaaDoor
open Go.ChangeShapes Go.WideShapes Go.ChangeAt Go.RowKit
namespace Pl

set_option linter.unusedSimpArgs false in
set_option maxHeartbeats 4000000 in
theorem enc_16 (cond rd rn rm imm mode list : Int) (s it : Bool) (hok : Nm.okB ⟨16, cond, rd, rn, rm, imm, mode, list, s⟩ = true) (hw : Nm.Wide list) :
    searchP (traitsI cond rd rn rm mode s it) 16 cond rd rn rm imm list formTab = Nm.rowI ⟨16, cond, rd, rn, rm, imm, mode, list, s⟩ it := by
  obtain ⟨_, h1, h2, h3, h4, h5, h6⟩ := Nm.ok_parts hok
  clear hok
  have h3' := Nm.last_cases h3
  clear h3
  dsimp only at h1 h2 h3' h4 h5 h6
  rw [search_c, show formTab.flatMap (candsOf 16) = cands 16 from rfl, cands_16]
  unfold Nm.rowI Nm.shiftI
  dsimp only
  have hl := Nm.list_most h4 0 (by decide) rfl hw
  have hc : cond = 0 := by simpa [Im.condB] using h5
  clear h4 h5 h6 hw
  rcases h3' with ⟨rfl, q1, q2, rfl, rfl⟩ | ⟨rfl, q1, q2, q3, q4, rfl⟩ | ⟨rfl, q1, q2, rfl⟩
  · have FF : Im.fieldsI 16 0 s = ⟨24575, 24575, 24575, 1, 31, 1, 0, 0⟩ := rfl
    rw [FF] at h1 h2 q1 q2
    dsimp only at h1 h2 q1 q2
    exfalso; omega
  · have FF : Im.fieldsI 16 1 s = ⟨24575, 24575, 24575, 1, 31, 1, 0, 0⟩ := rfl
    rw [FF] at h1 h2 q1 q2 q3 q4
    dsimp only at h1 h2 q1 q2 q3 q4
    have hd := Nm.one_in h1 (by decide)
    have hn := Nm.one_in h2 (by decide)
    clear h1 h2
    obtain ⟨x, hx⟩ : ∃ x, imm % 4294967296 = x := ⟨_, rfl⟩
    simp only [searchC]
    rw [fill_15_0 cond rd rn 0 imm list x hx (by omega) (by omega) (by omega) (by omega) (by omega) (by omega) (by omega) (by omega) (by omega) (by omega), fill_16_0 cond rd rn 0 imm list x hx (by omega) (by omega) (by omega) (by omega) (by omega) (by omega) (by omega) (by omega) (by omega) (by omega)]
    cases s <;> cases it
    all_goals (try simp only [searchC, show row_15.asks = 65 from rfl, asks_65, show row_16.asks = 194 from rfl, asks_194, orI_ite2, orI_some, orI_nil, orI_none, z7_iff, Nm.opt, Nm.low, Nm.up, Bool.and_eq_true, Bool.or_eq_true, beq_iff_eq, decide_eq_true_eq, Bool.not_eq_true', bne_self_eq_false, Bool.false_eq_true, Bool.true_eq_false, Bool.not_true, Bool.not_false, bne_iff_ne, ne_eq, not_true_eq_false, not_false_eq_true, reduceCtorEq, true_and, and_true, false_and, and_false, if_true, if_false, ite_self, Int.reduceEq, Int.reduceBEq, Int.reduceLE, Int.reduceLT, Int.reduceSub, Int.reduceMul, true_or, or_true, or_false, false_or, and_self, Bool.bne_false, Bool.bne_true, Bool.false_bne, Bool.true_bne, Bool.not_eq_eq_eq_not, bne_self_eq_false])
    all_goals (repeat' split)
    all_goals first | rfl | (exfalso; omega) | (apply congrArg some; omega)
  · have FF : Im.fieldsI 16 2 s = ⟨24575, 24575, 24575, 1, 31, 1, 0, 0⟩ := rfl
    rw [FF] at h1 h2 q1 q2
    dsimp only at h1 h2 q1 q2
    have hd := Nm.one_in h1 (by decide)
    have hn := Nm.one_in h2 (by decide)
    have hm := Nm.one_in q2 (by decide)
    clear h1 h2
    obtain ⟨x, hx⟩ : ∃ x, (0 : Int) % 4294967296 = x := ⟨_, rfl⟩
    simp only [searchC]
    rw [fill_15_0 cond rd rn rm 0 list x hx (by omega) (by omega) (by omega) (by omega) (by omega) (by omega) (by omega) (by omega) (by omega) (by omega), fill_16_0 cond rd rn rm 0 list x hx (by omega) (by omega) (by omega) (by omega) (by omega) (by omega) (by omega) (by omega) (by omega) (by omega)]
    cases s <;> cases it
    all_goals (try simp only [searchC, show row_15.asks = 65 from rfl, asks_65, show row_16.asks = 194 from rfl, asks_194, orI_ite2, orI_some, orI_nil, orI_none, z7_iff, Nm.opt, Nm.low, Nm.up, Bool.and_eq_true, Bool.or_eq_true, beq_iff_eq, decide_eq_true_eq, Bool.not_eq_true', bne_self_eq_false, Bool.false_eq_true, Bool.true_eq_false, Bool.not_true, Bool.not_false, bne_iff_ne, ne_eq, not_true_eq_false, not_false_eq_true, reduceCtorEq, true_and, and_true, false_and, and_false, if_true, if_false, ite_self, Int.reduceEq, Int.reduceBEq, Int.reduceLE, Int.reduceLT, Int.reduceSub, Int.reduceMul, true_or, or_true, or_false, false_or, and_self, Bool.bne_false, Bool.bne_true, Bool.false_bne, Bool.true_bne, Bool.not_eq_eq_eq_not, bne_self_eq_false])
    all_goals (repeat' split)
    all_goals first | rfl | (exfalso; omega) | (apply congrArg some; omega)
set_option linter.unusedSimpArgs false in
set_option maxHeartbeats 4000000 in
theorem enc_17 (cond rd rn rm imm mode list : Int) (s it : Bool) (hok : Nm.okB ⟨17, cond, rd, rn, rm, imm, mode, list, s⟩ = true) (hw : Nm.Wide list) :
    searchP (traitsI cond rd rn rm mode s it) 17 cond rd rn rm imm list formTab = Nm.rowI ⟨17, cond, rd, rn, rm, imm, mode, list, s⟩ it := by
  obtain ⟨_, h1, h2, h3, h4, h5, h6⟩ := Nm.ok_parts hok
  clear hok
  have h3' := Nm.last_cases h3
  clear h3
  dsimp only at h1 h2 h3' h4 h5 h6
  rw [search_c, show formTab.flatMap (candsOf 17) = cands 17 from rfl, cands_17]
  unfold Nm.rowI Nm.shiftI
  dsimp only
  have hl := Nm.list_most h4 0 (by decide) rfl hw
  have hc : cond = 0 := by simpa [Im.condB] using h5
  clear h4 h5 h6 hw
  rcases h3' with ⟨rfl, q1, q2, rfl, rfl⟩ | ⟨rfl, q1, q2, q3, q4, rfl⟩ | ⟨rfl, q1, q2, rfl⟩
  · have FF : Im.fieldsI 17 0 s = ⟨24575, 24575, 24575, 1, 32, 1, 0, 0⟩ := rfl
    rw [FF] at h1 h2 q1 q2
    dsimp only at h1 h2 q1 q2
    exfalso; omega
  · have FF : Im.fieldsI 17 1 s = ⟨24575, 24575, 24575, 1, 32, 1, 0, 0⟩ := rfl
    rw [FF] at h1 h2 q1 q2 q3 q4
    dsimp only at h1 h2 q1 q2 q3 q4
    have hd := Nm.one_in h1 (by decide)
    have hn := Nm.one_in h2 (by decide)
    clear h1 h2
    obtain ⟨x, hx⟩ : ∃ x, imm % 4294967296 = x := ⟨_, rfl⟩
    simp only [searchC]
    rw [fill_15_1 cond rd rn 0 imm list x hx (by omega) (by omega) (by omega) (by omega) (by omega) (by omega) (by omega) (by omega) (by omega) (by omega), fill_16_1 cond rd rn 0 imm list x hx (by omega) (by omega) (by omega) (by omega) (by omega) (by omega) (by omega) (by omega) (by omega) (by omega)]
    cases s <;> cases it
    all_goals (try simp only [searchC, show row_15.asks = 65 from rfl, asks_65, show row_16.asks = 194 from rfl, asks_194, orI_ite2, orI_some, orI_nil, orI_none, z7_iff, Nm.opt, Nm.low, Nm.up, Bool.and_eq_true, Bool.or_eq_true, beq_iff_eq, decide_eq_true_eq, Bool.not_eq_true', bne_self_eq_false, Bool.false_eq_true, Bool.true_eq_false, Bool.not_true, Bool.not_false, bne_iff_ne, ne_eq, not_true_eq_false, not_false_eq_true, reduceCtorEq, true_and, and_true, false_and, and_false, if_true, if_false, ite_self, Int.reduceEq, Int.reduceBEq, Int.reduceLE, Int.reduceLT, Int.reduceSub, Int.reduceMul, true_or, or_true, or_false, false_or, and_self, Bool.bne_false, Bool.bne_true, Bool.false_bne, Bool.true_bne, Bool.not_eq_eq_eq_not, bne_self_eq_false])
    all_goals (repeat' split)
    all_goals first | rfl | (exfalso; omega) | (apply congrArg some; omega)
  · have FF : Im.fieldsI 17 2 s = ⟨24575, 24575, 24575, 1, 32, 1, 0, 0⟩ := rfl
    rw [FF] at h1 h2 q1 q2
    dsimp only at h1 h2 q1 q2
    have hd := Nm.one_in h1 (by decide)
    have hn := Nm.one_in h2 (by decide)
    have hm := Nm.one_in q2 (by decide)
    clear h1 h2
    obtain ⟨x, hx⟩ : ∃ x, (0 : Int) % 4294967296 = x := ⟨_, rfl⟩
    simp only [searchC]
    rw [fill_15_1 cond rd rn rm 0 list x hx (by omega) (by omega) (by omega) (by omega) (by omega) (by omega) (by omega) (by omega) (by omega) (by omega), fill_16_1 cond rd rn rm 0 list x hx (by omega) (by omega) (by omega) (by omega) (by omega) (by omega) (by omega) (by omega) (by omega) (by omega)]
    cases s <;> cases it
    all_goals (try simp only [searchC, show row_15.asks = 65 from rfl, asks_65, show row_16.asks = 194 from rfl, asks_194, orI_ite2, orI_some, orI_nil, orI_none, z7_iff, Nm.opt, Nm.low, Nm.up, Bool.and_eq_true, Bool.or_eq_true, beq_iff_eq, decide_eq_true_eq, Bool.not_eq_true', bne_self_eq_false, Bool.false_eq_true, Bool.true_eq_false, Bool.not_true, Bool.not_false, bne_iff_ne, ne_eq, not_true_eq_false, not_false_eq_true, reduceCtorEq, true_and, and_true, false_and, and_false, if_true, if_false, ite_self, Int.reduceEq, Int.reduceBEq, Int.reduceLE, Int.reduceLT, Int.reduceSub, Int.reduceMul, true_or, or_true, or_false, false_or, and_self, Bool.bne_false, Bool.bne_true, Bool.false_bne, Bool.true_bne, Bool.not_eq_eq_eq_not, bne_self_eq_false])
    all_goals (repeat' split)
    all_goals first | rfl | (exfalso; omega) | (apply congrArg some; omega)
set_option linter.unusedSimpArgs false in
set_option maxHeartbeats 4000000 in
theorem enc_18 (cond rd rn rm imm mode list : Int) (s it : Bool) (hok : Nm.okB ⟨18, cond, rd, rn, rm, imm, mode, list, s⟩ = true) (hw : Nm.Wide list) :
    searchP (traitsI cond rd rn rm mode s it) 18 cond rd rn rm imm list formTab = Nm.rowI ⟨18, cond, rd, rn, rm, imm, mode, list, s⟩ it := by
  obtain ⟨_, h1, h2, h3, h4, h5, h6⟩ := Nm.ok_parts hok
  clear hok
  have h3' := Nm.last_cases h3
  clear h3
  dsimp only at h1 h2 h3' h4 h5 h6
  rw [search_c, show formTab.flatMap (candsOf 18) = cands 18 from rfl, cands_18]
  unfold Nm.rowI Nm.shiftI
  dsimp only
  have hl := Nm.list_most h4 0 (by decide) rfl hw
  have hc : cond = 0 := by simpa [Im.condB] using h5
  clear h4 h5 h6 hw
  rcases h3' with ⟨rfl, q1, q2, rfl, rfl⟩ | ⟨rfl, q1, q2, q3, q4, rfl⟩ | ⟨rfl, q1, q2, rfl⟩
  · have FF : Im.fieldsI 18 0 s = ⟨24575, 24575, 24575, 1, 32, 1, 0, 0⟩ := rfl
    rw [FF] at h1 h2 q1 q2
    dsimp only at h1 h2 q1 q2
    exfalso; omega
  · have FF : Im.fieldsI 18 1 s = ⟨24575, 24575, 24575, 1, 32, 1, 0, 0⟩ := rfl
    rw [FF] at h1 h2 q1 q2 q3 q4
    dsimp only at h1 h2 q1 q2 q3 q4
    have hd := Nm.one_in h1 (by decide)
    have hn := Nm.one_in h2 (by decide)
    clear h1 h2
    obtain ⟨x, hx⟩ : ∃ x, imm % 4294967296 = x := ⟨_, rfl⟩
    simp only [searchC]
    rw [fill_15_2 cond rd rn 0 imm list x hx (by omega) (by omega) (by omega) (by omega) (by omega) (by omega) (by omega) (by omega) (by omega) (by omega), fill_16_2 cond rd rn 0 imm list x hx (by omega) (by omega) (by omega) (by omega) (by omega) (by omega) (by omega) (by omega) (by omega) (by omega)]
    cases s <;> cases it
    all_goals (try simp only [searchC, show row_15.asks = 65 from rfl, asks_65, show row_16.asks = 194 from rfl, asks_194, orI_ite2, orI_some, orI_nil, orI_none, z7_iff, Nm.opt, Nm.low, Nm.up, Bool.and_eq_true, Bool.or_eq_true, beq_iff_eq, decide_eq_true_eq, Bool.not_eq_true', bne_self_eq_false, Bool.false_eq_true, Bool.true_eq_false, Bool.not_true, Bool.not_false, bne_iff_ne, ne_eq, not_true_eq_false, not_false_eq_true, reduceCtorEq, true_and, and_true, false_and, and_false, if_true, if_false, ite_self, Int.reduceEq, Int.reduceBEq, Int.reduceLE, Int.reduceLT, Int.reduceSub, Int.reduceMul, true_or, or_true, or_false, false_or, and_self, Bool.bne_false, Bool.bne_true, Bool.false_bne, Bool.true_bne, Bool.not_eq_eq_eq_not, bne_self_eq_false])
    all_goals (repeat' split)
    all_goals first | rfl | (exfalso; omega) | (apply congrArg some; omega)
  · have FF : Im.fieldsI 18 2 s = ⟨24575, 24575, 24575, 1, 32, 1, 0, 0⟩ := rfl
    rw [FF] at h1 h2 q1 q2
    dsimp only at h1 h2 q1 q2
    have hd := Nm.one_in h1 (by decide)
    have hn := Nm.one_in h2 (by decide)
    have hm := Nm.one_in q2 (by decide)
    clear h1 h2
    obtain ⟨x, hx⟩ : ∃ x, (0 : Int) % 4294967296 = x := ⟨_, rfl⟩
    simp only [searchC]
    rw [fill_15_2 cond rd rn rm 0 list x hx (by omega) (by omega) (by omega) (by omega) (by omega) (by omega) (by omega) (by omega) (by omega) (by omega), fill_16_2 cond rd rn rm 0 list x hx (by omega) (by omega) (by omega) (by omega) (by omega) (by omega) (by omega) (by omega) (by omega) (by omega)]
    cases s <;> cases it
    all_goals (try simp only [searchC, show row_15.asks = 65 from rfl, asks_65, show row_16.asks = 194 from rfl, asks_194, orI_ite2, orI_some, orI_nil, orI_none, z7_iff, Nm.opt, Nm.low, Nm.up, Bool.and_eq_true, Bool.or_eq_true, beq_iff_eq, decide_eq_true_eq, Bool.not_eq_true', bne_self_eq_false, Bool.false_eq_true, Bool.true_eq_false, Bool.not_true, Bool.not_false, bne_iff_ne, ne_eq, not_true_eq_false, not_false_eq_true, reduceCtorEq, true_and, and_true, false_and, and_false, if_true, if_false, ite_self, Int.reduceEq, Int.reduceBEq, Int.reduceLE, Int.reduceLT, Int.reduceSub, Int.reduceMul, true_or, or_true, or_false, false_or, and_self, Bool.bne_false, Bool.bne_true, Bool.false_bne, Bool.true_bne, Bool.not_eq_eq_eq_not, bne_self_eq_false])
    all_goals (repeat' split)
    all_goals first | rfl | (exfalso; omega) | (apply congrArg some; omega)
set_option linter.unusedSimpArgs false in
set_option maxHeartbeats 4000000 in
theorem enc_19 (cond rd rn rm imm mode list : Int) (s it : Bool) (hok : Nm.okB ⟨19, cond, rd, rn, rm, imm, mode, list, s⟩ = true) (hw : Nm.Wide list) :
    searchP (traitsI cond rd rn rm mode s it) 19 cond rd rn rm imm list formTab = Nm.rowI ⟨19, cond, rd, rn, rm, imm, mode, list, s⟩ it := by
  obtain ⟨_, h1, h2, h3, h4, h5, h6⟩ := Nm.ok_parts hok
  clear hok
  have h3' := Nm.last_cases h3
  clear h3
  dsimp only at h1 h2 h3' h4 h5 h6
  rw [search_c, show formTab.flatMap (candsOf 19) = cands 19 from rfl, cands_19]
  unfold Nm.rowI Nm.shiftI
  dsimp only
  have hl := Nm.list_most h4 0 (by decide) rfl hw
  have hc : cond = 0 := by simpa [Im.condB] using h5
  clear h4 h5 h6 hw
  rcases h3' with ⟨rfl, q1, q2, rfl, rfl⟩ | ⟨rfl, q1, q2, q3, q4, rfl⟩ | ⟨rfl, q1, q2, rfl⟩
  · have FF : Im.fieldsI 19 0 s = ⟨24575, 24575, 24575, 1, 31, 1, 0, 0⟩ := rfl
    rw [FF] at h1 h2 q1 q2
    dsimp only at h1 h2 q1 q2
    exfalso; omega
  · have FF : Im.fieldsI 19 1 s = ⟨24575, 24575, 24575, 1, 31, 1, 0, 0⟩ := rfl
    rw [FF] at h1 h2 q1 q2 q3 q4
    dsimp only at h1 h2 q1 q2 q3 q4
    have hd := Nm.one_in h1 (by decide)
    have hn := Nm.one_in h2 (by decide)
    clear h1 h2
    obtain ⟨x, hx⟩ : ∃ x, imm % 4294967296 = x := ⟨_, rfl⟩
    simp only [searchC]
    rw [fill_16_3 cond rd rn 0 imm list x hx (by omega) (by omega) (by omega) (by omega) (by omega) (by omega) (by omega) (by omega) (by omega) (by omega)]
    cases s <;> cases it
    all_goals (try simp only [searchC, show row_16.asks = 194 from rfl, asks_194, orI_ite2, orI_some, orI_nil, orI_none, z7_iff, Nm.opt, Nm.low, Nm.up, Bool.and_eq_true, Bool.or_eq_true, beq_iff_eq, decide_eq_true_eq, Bool.not_eq_true', bne_self_eq_false, Bool.false_eq_true, Bool.true_eq_false, Bool.not_true, Bool.not_false, bne_iff_ne, ne_eq, not_true_eq_false, not_false_eq_true, reduceCtorEq, true_and, and_true, false_and, and_false, if_true, if_false, ite_self, Int.reduceEq, Int.reduceBEq, Int.reduceLE, Int.reduceLT, Int.reduceSub, Int.reduceMul, true_or, or_true, or_false, false_or, and_self, Bool.bne_false, Bool.bne_true, Bool.false_bne, Bool.true_bne, Bool.not_eq_eq_eq_not, bne_self_eq_false])
    all_goals (repeat' split)
    all_goals first | rfl | (exfalso; omega) | (apply congrArg some; omega)
  · have FF : Im.fieldsI 19 2 s = ⟨24575, 24575, 24575, 1, 31, 1, 0, 0⟩ := rfl
    rw [FF] at h1 h2 q1 q2
    dsimp only at h1 h2 q1 q2
    have hd := Nm.one_in h1 (by decide)
    have hn := Nm.one_in h2 (by decide)
    have hm := Nm.one_in q2 (by decide)
    clear h1 h2
    obtain ⟨x, hx⟩ : ∃ x, (0 : Int) % 4294967296 = x := ⟨_, rfl⟩
    simp only [searchC]
    rw [fill_16_3 cond rd rn rm 0 list x hx (by omega) (by omega) (by omega) (by omega) (by omega) (by omega) (by omega) (by omega) (by omega) (by omega)]
    cases s <;> cases it
    all_goals (try simp only [searchC, show row_16.asks = 194 from rfl, asks_194, orI_ite2, orI_some, orI_nil, orI_none, z7_iff, Nm.opt, Nm.low, Nm.up, Bool.and_eq_true, Bool.or_eq_true, beq_iff_eq, decide_eq_true_eq, Bool.not_eq_true', bne_self_eq_false, Bool.false_eq_true, Bool.true_eq_false, Bool.not_true, Bool.not_false, bne_iff_ne, ne_eq, not_true_eq_false, not_false_eq_true, reduceCtorEq, true_and, and_true, false_and, and_false, if_true, if_false, ite_self, Int.reduceEq, Int.reduceBEq, Int.reduceLE, Int.reduceLT, Int.reduceSub, Int.reduceMul, true_or, or_true, or_false, false_or, and_self, Bool.bne_false, Bool.bne_true, Bool.false_bne, Bool.true_bne, Bool.not_eq_eq_eq_not, bne_self_eq_false])
    all_goals (repeat' split)
    all_goals first | rfl | (exfalso; omega) | (apply congrArg some; omega)
set_option linter.unusedSimpArgs false in
set_option maxHeartbeats 4000000 in
theorem enc_25 (cond rd rn rm imm mode list : Int) (s it : Bool) (hok : Nm.okB ⟨25, cond, rd, rn, rm, imm, mode, list, s⟩ = true) (hw : Nm.Wide list) :
    searchP (traitsI cond rd rn rm mode s it) 25 cond rd rn rm imm list formTab = Nm.rowI ⟨25, cond, rd, rn, rm, imm, mode, list, s⟩ it := by
  obtain ⟨_, h1, h2, h3, h4, h5, h6⟩ := Nm.ok_parts hok
  clear hok
  have h3' := Nm.last_cases h3
  clear h3
  dsimp only at h1 h2 h3' h4 h5 h6
  rw [search_c, show formTab.flatMap (candsOf 25) = cands 25 from rfl, cands_25]
  unfold Nm.rowI Nm.loadI Nm.regB Nm.immB Nm.byB
  dsimp only
  have hl := Nm.list_most h4 0 (by decide) rfl hw
  have hc : cond = 0 := by simpa [Im.condB] using h5
  obtain rfl : false = s := Nm.flag_off h6 (by decide)
  clear h4 h5 h6 hw
  rcases h3' with ⟨rfl, q1, q2, rfl, rfl⟩ | ⟨rfl, q1, q2, q3, q4, rfl⟩ | ⟨rfl, q1, q2, rfl⟩
  · have FF : Im.fieldsI 25 0 false = ⟨24575, 32767, 24575, 0, 4095, 1, 0, 0⟩ := rfl
    rw [FF] at h1 h2 q1 q2
    dsimp only at h1 h2 q1 q2
    exfalso; omega
  · have FF : Im.fieldsI 25 1 false = ⟨24575, 32767, 24575, 0, 4095, 1, 0, 0⟩ := rfl
    rw [FF] at h1 h2 q1 q2 q3 q4
    dsimp only at h1 h2 q1 q2 q3 q4
    have hd := Nm.one_in h1 (by decide)
    have hn := Nm.one_in h2 (by decide)
    clear h1 h2
    obtain ⟨x, hx⟩ : ∃ x, imm % 4294967296 = x := ⟨_, rfl⟩
    simp only [searchC]
    rw [fill_17_1 cond rd rn 0 imm list x hx (by omega) (by omega) (by omega) (by omega) (by omega) (by omega) (by omega) (by omega) (by omega) (by omega), fill_20_1 cond rd rn 0 imm list x hx (by omega) (by omega) (by omega) (by omega) (by omega) (by omega) (by omega) (by omega) (by omega) (by omega), fill_21_3 cond rd rn 0 imm list x hx (by omega) (by omega) (by omega) (by omega) (by omega) (by omega) (by omega) (by omega) (by omega) (by omega)]
    cases it
    all_goals (try simp only [searchC, show row_17.asks = 1 from rfl, asks_1, show row_20.asks = 513 from rfl, asks_513, show row_21.asks = 2 from rfl, asks_2, orI_ite2, orI_some, orI_nil, orI_none, z7_iff, Nm.opt, Nm.low, Nm.up, Bool.and_eq_true, Bool.or_eq_true, beq_iff_eq, decide_eq_true_eq, Bool.not_eq_true', bne_self_eq_false, Bool.false_eq_true, Bool.true_eq_false, Bool.not_true, Bool.not_false, bne_iff_ne, ne_eq, not_true_eq_false, not_false_eq_true, reduceCtorEq, true_and, and_true, false_and, and_false, if_true, if_false, ite_self, Int.reduceEq, Int.reduceBEq, Int.reduceLE, Int.reduceLT, Int.reduceSub, Int.reduceMul, true_or, or_true, or_false, false_or, and_self, Bool.bne_false, Bool.bne_true, Bool.false_bne, Bool.true_bne, Bool.not_eq_eq_eq_not, bne_self_eq_false])
    all_goals (repeat' split)
    all_goals first | rfl | (exfalso; omega) | (apply congrArg some; omega)
  · have FF : Im.fieldsI 25 2 false = ⟨24575, 32767, 24575, 0, 4095, 1, 0, 0⟩ := rfl
    rw [FF] at h1 h2 q1 q2
    dsimp only at h1 h2 q1 q2
    have hd := Nm.one_in h1 (by decide)
    have hn := Nm.one_in h2 (by decide)
    have hm := Nm.one_in q2 (by decide)
    clear h1 h2
    obtain ⟨x, hx⟩ : ∃ x, (0 : Int) % 4294967296 = x := ⟨_, rfl⟩
    simp only [searchC]
    rw [fill_17_1 cond rd rn rm 0 list x hx (by omega) (by omega) (by omega) (by omega) (by omega) (by omega) (by omega) (by omega) (by omega) (by omega), fill_20_1 cond rd rn rm 0 list x hx (by omega) (by omega) (by omega) (by omega) (by omega) (by omega) (by omega) (by omega) (by omega) (by omega), fill_21_3 cond rd rn rm 0 list x hx (by omega) (by omega) (by omega) (by omega) (by omega) (by omega) (by omega) (by omega) (by omega) (by omega)]
    cases it
    all_goals (try simp only [searchC, show row_17.asks = 1 from rfl, asks_1, show row_20.asks = 513 from rfl, asks_513, show row_21.asks = 2 from rfl, asks_2, orI_ite2, orI_some, orI_nil, orI_none, z7_iff, Nm.opt, Nm.low, Nm.up, Bool.and_eq_true, Bool.or_eq_true, beq_iff_eq, decide_eq_true_eq, Bool.not_eq_true', bne_self_eq_false, Bool.false_eq_true, Bool.true_eq_false, Bool.not_true, Bool.not_false, bne_iff_ne, ne_eq, not_true_eq_false, not_false_eq_true, reduceCtorEq, true_and, and_true, false_and, and_false, if_true, if_false, ite_self, Int.reduceEq, Int.reduceBEq, Int.reduceLE, Int.reduceLT, Int.reduceSub, Int.reduceMul, true_or, or_true, or_false, false_or, and_self, Bool.bne_false, Bool.bne_true, Bool.false_bne, Bool.true_bne, Bool.not_eq_eq_eq_not, bne_self_eq_false])
    all_goals (repeat' split)
    all_goals first | rfl | (exfalso; omega) | (apply congrArg some; omega)
set_option linter.unusedSimpArgs false in
set_option maxHeartbeats 4000000 in
theorem enc_26 (cond rd rn rm imm mode list : Int) (s it : Bool) (hok : Nm.okB ⟨26, cond, rd, rn, rm, imm, mode, list, s⟩ = true) (hw : Nm.Wide list) :
    searchP (traitsI cond rd rn rm mode s it) 26 cond rd rn rm imm list formTab = Nm.rowI ⟨26, cond, rd, rn, rm, imm, mode, list, s⟩ it := by
  obtain ⟨_, h1, h2, h3, h4, h5, h6⟩ := Nm.ok_parts hok
  clear hok
  have h3' := Nm.last_cases h3
  clear h3
  dsimp only at h1 h2 h3' h4 h5 h6
  rw [search_c, show formTab.flatMap (candsOf 26) = cands 26 from rfl, cands_26]
  unfold Nm.rowI Nm.loadI Nm.regB Nm.immB Nm.byB
  dsimp only
  have hl := Nm.list_most h4 0 (by decide) rfl hw
  have hc : cond = 0 := by simpa [Im.condB] using h5
  obtain rfl : false = s := Nm.flag_off h6 (by decide)
  clear h4 h5 h6 hw
  rcases h3' with ⟨rfl, q1, q2, rfl, rfl⟩ | ⟨rfl, q1, q2, q3, q4, rfl⟩ | ⟨rfl, q1, q2, rfl⟩
  · have FF : Im.fieldsI 26 0 false = ⟨24575, 32767, 24575, 0, 4095, 1, 0, 0⟩ := rfl
    rw [FF] at h1 h2 q1 q2
    dsimp only at h1 h2 q1 q2
    exfalso; omega
  · have FF : Im.fieldsI 26 1 false = ⟨24575, 32767, 24575, 0, 4095, 1, 0, 0⟩ := rfl
    rw [FF] at h1 h2 q1 q2 q3 q4
    dsimp only at h1 h2 q1 q2 q3 q4
    have hd := Nm.one_in h1 (by decide)
    have hn := Nm.one_in h2 (by decide)
    clear h1 h2
    obtain ⟨x, hx⟩ : ∃ x, imm % 4294967296 = x := ⟨_, rfl⟩
    simp only [searchC]
    rw [fill_18_1 cond rd rn 0 imm list x hx (by omega) (by omega) (by omega) (by omega) (by omega) (by omega) (by omega) (by omega) (by omega) (by omega), fill_21_5 cond rd rn 0 imm list x hx (by omega) (by omega) (by omega) (by omega) (by omega) (by omega) (by omega) (by omega) (by omega) (by omega)]
    cases it
    all_goals (try simp only [searchC, show row_18.asks = 1 from rfl, asks_1, show row_21.asks = 2 from rfl, asks_2, orI_ite2, orI_some, orI_nil, orI_none, z7_iff, Nm.opt, Nm.low, Nm.up, Bool.and_eq_true, Bool.or_eq_true, beq_iff_eq, decide_eq_true_eq, Bool.not_eq_true', bne_self_eq_false, Bool.false_eq_true, Bool.true_eq_false, Bool.not_true, Bool.not_false, bne_iff_ne, ne_eq, not_true_eq_false, not_false_eq_true, reduceCtorEq, true_and, and_true, false_and, and_false, if_true, if_false, ite_self, Int.reduceEq, Int.reduceBEq, Int.reduceLE, Int.reduceLT, Int.reduceSub, Int.reduceMul, true_or, or_true, or_false, false_or, and_self, Bool.bne_false, Bool.bne_true, Bool.false_bne, Bool.true_bne, Bool.not_eq_eq_eq_not, bne_self_eq_false])
    all_goals (repeat' split)
    all_goals first | rfl | (exfalso; omega) | (apply congrArg some; omega)
  · have FF : Im.fieldsI 26 2 false = ⟨24575, 32767, 24575, 0, 4095, 1, 0, 0⟩ := rfl
    rw [FF] at h1 h2 q1 q2
    dsimp only at h1 h2 q1 q2
    have hd := Nm.one_in h1 (by decide)
    have hn := Nm.one_in h2 (by decide)
    have hm := Nm.one_in q2 (by decide)
    clear h1 h2
    obtain ⟨x, hx⟩ : ∃ x, (0 : Int) % 4294967296 = x := ⟨_, rfl⟩
    simp only [searchC]
    rw [fill_18_1 cond rd rn rm 0 list x hx (by omega) (by omega) (by omega) (by omega) (by omega) (by omega) (by omega) (by omega) (by omega) (by omega), fill_21_5 cond rd rn rm 0 list x hx (by omega) (by omega) (by omega) (by omega) (by omega) (by omega) (by omega) (by omega) (by omega) (by omega)]
    cases it
    all_goals (try simp only [searchC, show row_18.asks = 1 from rfl, asks_1, show row_21.asks = 2 from rfl, asks_2, orI_ite2, orI_some, orI_nil, orI_none, z7_iff, Nm.opt, Nm.low, Nm.up, Bool.and_eq_true, Bool.or_eq_true, beq_iff_eq, decide_eq_true_eq, Bool.not_eq_true', bne_self_eq_false, Bool.false_eq_true, Bool.true_eq_false, Bool.not_true, Bool.not_false, bne_iff_ne, ne_eq, not_true_eq_false, not_false_eq_true, reduceCtorEq, true_and, and_true, false_and, and_false, if_true, if_false, ite_self, Int.reduceEq, Int.reduceBEq, Int.reduceLE, Int.reduceLT, Int.reduceSub, Int.reduceMul, true_or, or_true, or_false, false_or, and_self, Bool.bne_false, Bool.bne_true, Bool.false_bne, Bool.true_bne, Bool.not_eq_eq_eq_not, bne_self_eq_false])
    all_goals (repeat' split)
    all_goals first | rfl | (exfalso; omega) | (apply congrArg some; omega)
set_option linter.unusedSimpArgs false in
set_option maxHeartbeats 4000000 in
theorem enc_27 (cond rd rn rm imm mode list : Int) (s it : Bool) (hok : Nm.okB ⟨27, cond, rd, rn, rm, imm, mode, list, s⟩ = true) (hw : Nm.Wide list) :
    searchP (traitsI cond rd rn rm mode s it) 27 cond rd rn rm imm list formTab = Nm.rowI ⟨27, cond, rd, rn, rm, imm, mode, list, s⟩ it := by
  obtain ⟨_, h1, h2, h3, h4, h5, h6⟩ := Nm.ok_parts hok
  clear hok
  have h3' := Nm.last_cases h3
  clear h3
  dsimp only at h1 h2 h3' h4 h5 h6
  rw [search_c, show formTab.flatMap (candsOf 27) = cands 27 from rfl, cands_27]
  unfold Nm.rowI Nm.loadI Nm.regB Nm.immB Nm.byB
  dsimp only
  have hl := Nm.list_most h4 0 (by decide) rfl hw
  have hc : cond = 0 := by simpa [Im.condB] using h5
  obtain rfl : false = s := Nm.flag_off h6 (by decide)
  clear h4 h5 h6 hw
  rcases h3' with ⟨rfl, q1, q2, rfl, rfl⟩ | ⟨rfl, q1, q2, q3, q4, rfl⟩ | ⟨rfl, q1, q2, rfl⟩
  · have FF : Im.fieldsI 27 0 false = ⟨24575, 32767, 24575, 0, 4095, 1, 0, 0⟩ := rfl
    rw [FF] at h1 h2 q1 q2
    dsimp only at h1 h2 q1 q2
    exfalso; omega
  · have FF : Im.fieldsI 27 1 false = ⟨24575, 32767, 24575, 0, 4095, 1, 0, 0⟩ := rfl
    rw [FF] at h1 h2 q1 q2 q3 q4
    dsimp only at h1 h2 q1 q2 q3 q4
    have hd := Nm.one_in h1 (by decide)
    have hn := Nm.one_in h2 (by decide)
    clear h1 h2
    obtain ⟨x, hx⟩ : ∃ x, imm % 4294967296 = x := ⟨_, rfl⟩
    simp only [searchC]
    rw [fill_19_1 cond rd rn 0 imm list x hx (by omega) (by omega) (by omega) (by omega) (by omega) (by omega) (by omega) (by omega) (by omega) (by omega), fill_21_4 cond rd rn 0 imm list x hx (by omega) (by omega) (by omega) (by omega) (by omega) (by omega) (by omega) (by omega) (by omega) (by omega)]
    cases it
    all_goals (try simp only [searchC, show row_19.asks = 1 from rfl, asks_1, show row_21.asks = 2 from rfl, asks_2, orI_ite2, orI_some, orI_nil, orI_none, z7_iff, Nm.opt, Nm.low, Nm.up, Bool.and_eq_true, Bool.or_eq_true, beq_iff_eq, decide_eq_true_eq, Bool.not_eq_true', bne_self_eq_false, Bool.false_eq_true, Bool.true_eq_false, Bool.not_true, Bool.not_false, bne_iff_ne, ne_eq, not_true_eq_false, not_false_eq_true, reduceCtorEq, true_and, and_true, false_and, and_false, if_true, if_false, ite_self, Int.reduceEq, Int.reduceBEq, Int.reduceLE, Int.reduceLT, Int.reduceSub, Int.reduceMul, true_or, or_true, or_false, false_or, and_self, Bool.bne_false, Bool.bne_true, Bool.false_bne, Bool.true_bne, Bool.not_eq_eq_eq_not, bne_self_eq_false])
    all_goals (repeat' split)
    all_goals first | rfl | (exfalso; omega) | (apply congrArg some; omega)
  · have FF : Im.fieldsI 27 2 false = ⟨24575, 32767, 24575, 0, 4095, 1, 0, 0⟩ := rfl
    rw [FF] at h1 h2 q1 q2
    dsimp only at h1 h2 q1 q2
    have hd := Nm.one_in h1 (by decide)
    have hn := Nm.one_in h2 (by decide)
    have hm := Nm.one_in q2 (by decide)
    clear h1 h2
    obtain ⟨x, hx⟩ : ∃ x, (0 : Int) % 4294967296 = x := ⟨_, rfl⟩
    simp only [searchC]
    rw [fill_19_1 cond rd rn rm 0 list x hx (by omega) (by omega) (by omega) (by omega) (by omega) (by omega) (by omega) (by omega) (by omega) (by omega), fill_21_4 cond rd rn rm 0 list x hx (by omega) (by omega) (by omega) (by omega) (by omega) (by omega) (by omega) (by omega) (by omega) (by omega)]
    cases it
    all_goals (try simp only [searchC, show row_19.asks = 1 from rfl, asks_1, show row_21.asks = 2 from rfl, asks_2, orI_ite2, orI_some, orI_nil, orI_none, z7_iff, Nm.opt, Nm.low, Nm.up, Bool.and_eq_true, Bool.or_eq_true, beq_iff_eq, decide_eq_true_eq, Bool.not_eq_true', bne_self_eq_false, Bool.false_eq_true, Bool.true_eq_false, Bool.not_true, Bool.not_false, bne_iff_ne, ne_eq, not_true_eq_false, not_false_eq_true, reduceCtorEq, true_and, and_true, false_and, and_false, if_true, if_false, ite_self, Int.reduceEq, Int.reduceBEq, Int.reduceLE, Int.reduceLT, Int.reduceSub, Int.reduceMul, true_or, or_true, or_false, false_or, and_self, Bool.bne_false, Bool.bne_true, Bool.false_bne, Bool.true_bne, Bool.not_eq_eq_eq_not, bne_self_eq_false])
    all_goals (repeat' split)
    all_goals first | rfl | (exfalso; omega) | (apply congrArg some; omega)
set_option linter.unusedSimpArgs false in
set_option maxHeartbeats 4000000 in
theorem enc_28 (cond rd rn rm imm mode list : Int) (s it : Bool) (hok : Nm.okB ⟨28, cond, rd, rn, rm, imm, mode, list, s⟩ = true) (hw : Nm.Wide list) :
    searchP (traitsI cond rd rn rm mode s it) 28 cond rd rn rm imm list formTab = Nm.rowI ⟨28, cond, rd, rn, rm, imm, mode, list, s⟩ it := by
  obtain ⟨_, h1, h2, h3, h4, h5, h6⟩ := Nm.ok_parts hok
  clear hok
  have h3' := Nm.last_cases h3
  clear h3
  dsimp only at h1 h2 h3' h4 h5 h6
  rw [search_c, show formTab.flatMap (candsOf 28) = cands 28 from rfl, cands_28]
  unfold Nm.rowI Nm.loadI Nm.regB Nm.immB Nm.byB
  dsimp only
  have hl := Nm.list_most h4 0 (by decide) rfl hw
  have hc : cond = 0 := by simpa [Im.condB] using h5
  obtain rfl : false = s := Nm.flag_off h6 (by decide)
  clear h4 h5 h6 hw
  rcases h3' with ⟨rfl, q1, q2, rfl, rfl⟩ | ⟨rfl, q1, q2, q3, q4, rfl⟩ | ⟨rfl, q1, q2, rfl⟩
  · have FF : Im.fieldsI 28 0 false = ⟨24575, 32767, 24575, 0, 4095, 1, 0, 0⟩ := rfl
    rw [FF] at h1 h2 q1 q2
    dsimp only at h1 h2 q1 q2
    exfalso; omega
  · have FF : Im.fieldsI 28 1 false = ⟨24575, 32767, 24575, 0, 4095, 1, 0, 0⟩ := rfl
    rw [FF] at h1 h2 q1 q2 q3 q4
    dsimp only at h1 h2 q1 q2 q3 q4
    have hd := Nm.one_in h1 (by decide)
    have hn := Nm.one_in h2 (by decide)
    clear h1 h2
    obtain ⟨x, hx⟩ : ∃ x, imm % 4294967296 = x := ⟨_, rfl⟩
    simp only [searchC]
    rw [fill_17_0 cond rd rn 0 imm list x hx (by omega) (by omega) (by omega) (by omega) (by omega) (by omega) (by omega) (by omega) (by omega) (by omega), fill_20_0 cond rd rn 0 imm list x hx (by omega) (by omega) (by omega) (by omega) (by omega) (by omega) (by omega) (by omega) (by omega) (by omega), fill_21_0 cond rd rn 0 imm list x hx (by omega) (by omega) (by omega) (by omega) (by omega) (by omega) (by omega) (by omega) (by omega) (by omega)]
    cases it
    all_goals (try simp only [searchC, show row_17.asks = 1 from rfl, asks_1, show row_20.asks = 513 from rfl, asks_513, show row_21.asks = 2 from rfl, asks_2, orI_ite2, orI_some, orI_nil, orI_none, z7_iff, Nm.opt, Nm.low, Nm.up, Bool.and_eq_true, Bool.or_eq_true, beq_iff_eq, decide_eq_true_eq, Bool.not_eq_true', bne_self_eq_false, Bool.false_eq_true, Bool.true_eq_false, Bool.not_true, Bool.not_false, bne_iff_ne, ne_eq, not_true_eq_false, not_false_eq_true, reduceCtorEq, true_and, and_true, false_and, and_false, if_true, if_false, ite_self, Int.reduceEq, Int.reduceBEq, Int.reduceLE, Int.reduceLT, Int.reduceSub, Int.reduceMul, true_or, or_true, or_false, false_or, and_self, Bool.bne_false, Bool.bne_true, Bool.false_bne, Bool.true_bne, Bool.not_eq_eq_eq_not, bne_self_eq_false])
    all_goals (repeat' split)
    all_goals first | rfl | (exfalso; omega) | (apply congrArg some; omega)
  · have FF : Im.fieldsI 28 2 false = ⟨24575, 32767, 24575, 0, 4095, 1, 0, 0⟩ := rfl
    rw [FF] at h1 h2 q1 q2
    dsimp only at h1 h2 q1 q2
    have hd := Nm.one_in h1 (by decide)
    have hn := Nm.one_in h2 (by decide)
    have hm := Nm.one_in q2 (by decide)
    clear h1 h2
    obtain ⟨x, hx⟩ : ∃ x, (0 : Int) % 4294967296 = x := ⟨_, rfl⟩
    simp only [searchC]
    rw [fill_17_0 cond rd rn rm 0 list x hx (by omega) (by omega) (by omega) (by omega) (by omega) (by omega) (by omega) (by omega) (by omega) (by omega), fill_20_0 cond rd rn rm 0 list x hx (by omega) (by omega) (by omega) (by omega) (by omega) (by omega) (by omega) (by omega) (by omega) (by omega), fill_21_0 cond rd rn rm 0 list x hx (by omega) (by omega) (by omega) (by omega) (by omega) (by omega) (by omega) (by omega) (by omega) (by omega)]
    cases it
    all_goals (try simp only [searchC, show row_17.asks = 1 from rfl, asks_1, show row_20.asks = 513 from rfl, asks_513, show row_21.asks = 2 from rfl, asks_2, orI_ite2, orI_some, orI_nil, orI_none, z7_iff, Nm.opt, Nm.low, Nm.up, Bool.and_eq_true, Bool.or_eq_true, beq_iff_eq, decide_eq_true_eq, Bool.not_eq_true', bne_self_eq_false, Bool.false_eq_true, Bool.true_eq_false, Bool.not_true, Bool.not_false, bne_iff_ne, ne_eq, not_true_eq_false, not_false_eq_true, reduceCtorEq, true_and, and_true, false_and, and_false, if_true, if_false, ite_self, Int.reduceEq, Int.reduceBEq, Int.reduceLE, Int.reduceLT, Int.reduceSub, Int.reduceMul, true_or, or_true, or_false, false_or, and_self, Bool.bne_false, Bool.bne_true, Bool.false_bne, Bool.true_bne, Bool.not_eq_eq_eq_not, bne_self_eq_false])
    all_goals (repeat' split)
    all_goals first | rfl | (exfalso; omega) | (apply congrArg some; omega)
set_option linter.unusedSimpArgs false in
set_option maxHeartbeats 4000000 in
theorem enc_29 (cond rd rn rm imm mode list : Int) (s it : Bool) (hok : Nm.okB ⟨29, cond, rd, rn, rm, imm, mode, list, s⟩ = true) (hw : Nm.Wide list) :
    searchP (traitsI cond rd rn rm mode s it) 29 cond rd rn rm imm list formTab = Nm.rowI ⟨29, cond, rd, rn, rm, imm, mode, list, s⟩ it := by
  obtain ⟨_, h1, h2, h3, h4, h5, h6⟩ := Nm.ok_parts hok
  clear hok
  have h3' := Nm.last_cases h3
  clear h3
  dsimp only at h1 h2 h3' h4 h5 h6
  rw [search_c, show formTab.flatMap (candsOf 29) = cands 29 from rfl, cands_29]
  unfold Nm.rowI Nm.loadI Nm.regB Nm.immB Nm.byB
  dsimp only
  have hl := Nm.list_most h4 0 (by decide) rfl hw
  have hc : cond = 0 := by simpa [Im.condB] using h5
  obtain rfl : false = s := Nm.flag_off h6 (by decide)
  clear h4 h5 h6 hw
  rcases h3' with ⟨rfl, q1, q2, rfl, rfl⟩ | ⟨rfl, q1, q2, q3, q4, rfl⟩ | ⟨rfl, q1, q2, rfl⟩
  · have FF : Im.fieldsI 29 0 false = ⟨24575, 32767, 24575, 0, 4095, 1, 0, 0⟩ := rfl
    rw [FF] at h1 h2 q1 q2
    dsimp only at h1 h2 q1 q2
    exfalso; omega
  · have FF : Im.fieldsI 29 1 false = ⟨24575, 32767, 24575, 0, 4095, 1, 0, 0⟩ := rfl
    rw [FF] at h1 h2 q1 q2 q3 q4
    dsimp only at h1 h2 q1 q2 q3 q4
    have hd := Nm.one_in h1 (by decide)
    have hn := Nm.one_in h2 (by decide)
    clear h1 h2
    obtain ⟨x, hx⟩ : ∃ x, imm % 4294967296 = x := ⟨_, rfl⟩
    simp only [searchC]
    rw [fill_18_0 cond rd rn 0 imm list x hx (by omega) (by omega) (by omega) (by omega) (by omega) (by omega) (by omega) (by omega) (by omega) (by omega), fill_21_2 cond rd rn 0 imm list x hx (by omega) (by omega) (by omega) (by omega) (by omega) (by omega) (by omega) (by omega) (by omega) (by omega)]
    cases it
    all_goals (try simp only [searchC, show row_18.asks = 1 from rfl, asks_1, show row_21.asks = 2 from rfl, asks_2, orI_ite2, orI_some, orI_nil, orI_none, z7_iff, Nm.opt, Nm.low, Nm.up, Bool.and_eq_true, Bool.or_eq_true, beq_iff_eq, decide_eq_true_eq, Bool.not_eq_true', bne_self_eq_false, Bool.false_eq_true, Bool.true_eq_false, Bool.not_true, Bool.not_false, bne_iff_ne, ne_eq, not_true_eq_false, not_false_eq_true, reduceCtorEq, true_and, and_true, false_and, and_false, if_true, if_false, ite_self, Int.reduceEq, Int.reduceBEq, Int.reduceLE, Int.reduceLT, Int.reduceSub, Int.reduceMul, true_or, or_true, or_false, false_or, and_self, Bool.bne_false, Bool.bne_true, Bool.false_bne, Bool.true_bne, Bool.not_eq_eq_eq_not, bne_self_eq_false])
    all_goals (repeat' split)
    all_goals first | rfl | (exfalso; omega) | (apply congrArg some; omega)
  · have FF : Im.fieldsI 29 2 false = ⟨24575, 32767, 24575, 0, 4095, 1, 0, 0⟩ := rfl
    rw [FF] at h1 h2 q1 q2
    dsimp only at h1 h2 q1 q2
    have hd := Nm.one_in h1 (by decide)
    have hn := Nm.one_in h2 (by decide)
    have hm := Nm.one_in q2 (by decide)
    clear h1 h2
    obtain ⟨x, hx⟩ : ∃ x, (0 : Int) % 4294967296 = x := ⟨_, rfl⟩
    simp only [searchC]
    rw [fill_18_0 cond rd rn rm 0 list x hx (by omega) (by omega) (by omega) (by omega) (by omega) (by omega) (by omega) (by omega) (by omega) (by omega), fill_21_2 cond rd rn rm 0 list x hx (by omega) (by omega) (by omega) (by omega) (by omega) (by omega) (by omega) (by omega) (by omega) (by omega)]
    cases it
    all_goals (try simp only [searchC, show row_18.asks = 1 from rfl, asks_1, show row_21.asks = 2 from rfl, asks_2, orI_ite2, orI_some, orI_nil, orI_none, z7_iff, Nm.opt, Nm.low, Nm.up, Bool.and_eq_true, Bool.or_eq_true, beq_iff_eq, decide_eq_true_eq, Bool.not_eq_true', bne_self_eq_false, Bool.false_eq_true, Bool.true_eq_false, Bool.not_true, Bool.not_false, bne_iff_ne, ne_eq, not_true_eq_false, not_false_eq_true, reduceCtorEq, true_and, and_true, false_and, and_false, if_true, if_false, ite_self, Int.reduceEq, Int.reduceBEq, Int.reduceLE, Int.reduceLT, Int.reduceSub, Int.reduceMul, true_or, or_true, or_false, false_or, and_self, Bool.bne_false, Bool.bne_true, Bool.false_bne, Bool.true_bne, Bool.not_eq_eq_eq_not, bne_self_eq_false])
    all_goals (repeat' split)
    all_goals first | rfl | (exfalso; omega) | (apply congrArg some; omega)
set_option linter.unusedSimpArgs false in
set_option maxHeartbeats 4000000 in
theorem enc_30 (cond rd rn rm imm mode list : Int) (s it : Bool) (hok : Nm.okB ⟨30, cond, rd, rn, rm, imm, mode, list, s⟩ = true) (hw : Nm.Wide list) :
    searchP (traitsI cond rd rn rm mode s it) 30 cond rd rn rm imm list formTab = Nm.rowI ⟨30, cond, rd, rn, rm, imm, mode, list, s⟩ it := by
  obtain ⟨_, h1, h2, h3, h4, h5, h6⟩ := Nm.ok_parts hok
  clear hok
  have h3' := Nm.last_cases h3
  clear h3
  dsimp only at h1 h2 h3' h4 h5 h6
  rw [search_c, show formTab.flatMap (candsOf 30) = cands 30 from rfl, cands_30]
  unfold Nm.rowI Nm.loadI Nm.regB Nm.immB Nm.byB
  dsimp only
  have hl := Nm.list_most h4 0 (by decide) rfl hw
  have hc : cond = 0 := by simpa [Im.condB] using h5
  obtain rfl : false = s := Nm.flag_off h6 (by decide)
  clear h4 h5 h6 hw
  rcases h3' with ⟨rfl, q1, q2, rfl, rfl⟩ | ⟨rfl, q1, q2, q3, q4, rfl⟩ | ⟨rfl, q1, q2, rfl⟩
  · have FF : Im.fieldsI 30 0 false = ⟨24575, 32767, 24575, 0, 4095, 1, 0, 0⟩ := rfl
    rw [FF] at h1 h2 q1 q2
    dsimp only at h1 h2 q1 q2
    exfalso; omega
  · have FF : Im.fieldsI 30 1 false = ⟨24575, 32767, 24575, 0, 4095, 1, 0, 0⟩ := rfl
    rw [FF] at h1 h2 q1 q2 q3 q4
    dsimp only at h1 h2 q1 q2 q3 q4
    have hd := Nm.one_in h1 (by decide)
    have hn := Nm.one_in h2 (by decide)
    clear h1 h2
    obtain ⟨x, hx⟩ : ∃ x, imm % 4294967296 = x := ⟨_, rfl⟩
    simp only [searchC]
    rw [fill_19_0 cond rd rn 0 imm list x hx (by omega) (by omega) (by omega) (by omega) (by omega) (by omega) (by omega) (by omega) (by omega) (by omega), fill_21_1 cond rd rn 0 imm list x hx (by omega) (by omega) (by omega) (by omega) (by omega) (by omega) (by omega) (by omega) (by omega) (by omega)]
    cases it
    all_goals (try simp only [searchC, show row_19.asks = 1 from rfl, asks_1, show row_21.asks = 2 from rfl, asks_2, orI_ite2, orI_some, orI_nil, orI_none, z7_iff, Nm.opt, Nm.low, Nm.up, Bool.and_eq_true, Bool.or_eq_true, beq_iff_eq, decide_eq_true_eq, Bool.not_eq_true', bne_self_eq_false, Bool.false_eq_true, Bool.true_eq_false, Bool.not_true, Bool.not_false, bne_iff_ne, ne_eq, not_true_eq_false, not_false_eq_true, reduceCtorEq, true_and, and_true, false_and, and_false, if_true, if_false, ite_self, Int.reduceEq, Int.reduceBEq, Int.reduceLE, Int.reduceLT, Int.reduceSub, Int.reduceMul, true_or, or_true, or_false, false_or, and_self, Bool.bne_false, Bool.bne_true, Bool.false_bne, Bool.true_bne, Bool.not_eq_eq_eq_not, bne_self_eq_false])
    all_goals (repeat' split)
    all_goals first | rfl | (exfalso; omega) | (apply congrArg some; omega)
  · have FF : Im.fieldsI 30 2 false = ⟨24575, 32767, 24575, 0, 4095, 1, 0, 0⟩ := rfl
    rw [FF] at h1 h2 q1 q2
    dsimp only at h1 h2 q1 q2
    have hd := Nm.one_in h1 (by decide)
    have hn := Nm.one_in h2 (by decide)
    have hm := Nm.one_in q2 (by decide)
    clear h1 h2
    obtain ⟨x, hx⟩ : ∃ x, (0 : Int) % 4294967296 = x := ⟨_, rfl⟩
    simp only [searchC]
    rw [fill_19_0 cond rd rn rm 0 list x hx (by omega) (by omega) (by omega) (by omega) (by omega) (by omega) (by omega) (by omega) (by omega) (by omega), fill_21_1 cond rd rn rm 0 list x hx (by omega) (by omega) (by omega) (by omega) (by omega) (by omega) (by omega) (by omega) (by omega) (by omega)]
    cases it
    all_goals (try simp only [searchC, show row_19.asks = 1 from rfl, asks_1, show row_21.asks = 2 from rfl, asks_2, orI_ite2, orI_some, orI_nil, orI_none, z7_iff, Nm.opt, Nm.low, Nm.up, Bool.and_eq_true, Bool.or_eq_true, beq_iff_eq, decide_eq_true_eq, Bool.not_eq_true', bne_self_eq_false, Bool.false_eq_true, Bool.true_eq_false, Bool.not_true, Bool.not_false, bne_iff_ne, ne_eq, not_true_eq_false, not_false_eq_true, reduceCtorEq, true_and, and_true, false_and, and_false, if_true, if_false, ite_self, Int.reduceEq, Int.reduceBEq, Int.reduceLE, Int.reduceLT, Int.reduceSub, Int.reduceMul, true_or, or_true, or_false, false_or, and_self, Bool.bne_false, Bool.bne_true, Bool.false_bne, Bool.true_bne, Bool.not_eq_eq_eq_not, bne_self_eq_false])
    all_goals (repeat' split)
    all_goals first | rfl | (exfalso; omega) | (apply congrArg some; omega)
end Pl
end Go.Proofs.YtmofimgodmcdjaaDoor

namespace Go.Proofs.YtmofimgodmcdjaaDoor
open Go.ChangeShapes Go.WideShapes Go.ChangeAt Go.RowKit
namespace Pl

set_option linter.unusedSimpArgs false in
set_option maxHeartbeats 4000000 in
theorem enc_15 (cond rd rn rm imm mode list : Int) (s it : Bool) (hok : Nm.okB ⟨15, cond, rd, rn, rm, imm, mode, list, s⟩ = true) (hw : Nm.Wide list) :
    searchP (traitsI cond rd rn rm mode s it) 15 cond rd rn rm imm list formTab = Nm.rowI ⟨15, cond, rd, rn, rm, imm, mode, list, s⟩ it := by
  obtain ⟨_, h1, h2, h3, h4, h5, h6⟩ := Nm.ok_parts hok
  clear hok
  have h3' := Nm.last_cases h3
  clear h3
  dsimp only at h1 h2 h3' h4 h5 h6
  rw [search_c, show formTab.flatMap (candsOf 15) = cands 15 from rfl, cands_15]
  unfold Nm.rowI Nm.restI
  dsimp only
  have hl := Nm.list_most h4 0 (by decide) rfl hw
  have hc : cond = 0 := by simpa [Im.condB] using h5
  obtain rfl : false = s := Nm.flag_off h6 (by decide)
  clear h4 h5 h6 hw
  rcases h3' with ⟨rfl, q1, q2, rfl, rfl⟩ | ⟨rfl, q1, q2, q3, q4, rfl⟩ | ⟨rfl, q1, q2, rfl⟩
  · have FF : Im.fieldsI 15 0 false = ⟨0, 24575, 24575, 0, 4294967295, 1, 0, 0⟩ := rfl
    rw [FF] at h1 h2 q1 q2
    dsimp only at h1 h2 q1 q2
    exfalso; omega
  · have FF : Im.fieldsI 15 1 false = ⟨0, 24575, 24575, 0, 4294967295, 1, 0, 0⟩ := rfl
    rw [FF] at h1 h2 q1 q2 q3 q4
    dsimp only at h1 h2 q1 q2 q3 q4
    have hd : rd = 0 := Nm.one_none h1
    have hn := Nm.one_in h2 (by decide)
    clear h1 h2
    obtain ⟨x, hx⟩ : ∃ x, imm % 4294967296 = x := ⟨_, rfl⟩
    simp only [searchC]
    cases it
    all_goals (try simp only [searchC, orI_nil, orI_ite2, orI_some, orI_nil, orI_none, z7_iff, Nm.opt, Nm.low, Nm.up, Bool.and_eq_true, Bool.or_eq_true, beq_iff_eq, decide_eq_true_eq, Bool.not_eq_true', bne_self_eq_false, Bool.false_eq_true, Bool.true_eq_false, Bool.not_true, Bool.not_false, bne_iff_ne, ne_eq, not_true_eq_false, not_false_eq_true, reduceCtorEq, true_and, and_true, false_and, and_false, if_true, if_false, ite_self, Int.reduceEq, Int.reduceBEq, Int.reduceLE, Int.reduceLT, Int.reduceSub, Int.reduceMul, true_or, or_true, or_false, false_or, and_self, Bool.bne_false, Bool.bne_true, Bool.false_bne, Bool.true_bne, Bool.not_eq_eq_eq_not, bne_self_eq_false])
    all_goals (repeat' split)
    all_goals first | rfl | (exfalso; omega) | (apply congrArg some; omega)
  · have FF : Im.fieldsI 15 2 false = ⟨0, 24575, 24575, 0, 4294967295, 1, 0, 0⟩ := rfl
    rw [FF] at h1 h2 q1 q2
    dsimp only at h1 h2 q1 q2
    have hd : rd = 0 := Nm.one_none h1
    have hn := Nm.one_in h2 (by decide)
    have hm := Nm.one_in q2 (by decide)
    clear h1 h2
    obtain ⟨x, hx⟩ : ∃ x, (0 : Int) % 4294967296 = x := ⟨_, rfl⟩
    simp only [searchC]
    cases it
    all_goals (try simp only [searchC, orI_nil, orI_ite2, orI_some, orI_nil, orI_none, z7_iff, Nm.opt, Nm.low, Nm.up, Bool.and_eq_true, Bool.or_eq_true, beq_iff_eq, decide_eq_true_eq, Bool.not_eq_true', bne_self_eq_false, Bool.false_eq_true, Bool.true_eq_false, Bool.not_true, Bool.not_false, bne_iff_ne, ne_eq, not_true_eq_false, not_false_eq_true, reduceCtorEq, true_and, and_true, false_and, and_false, if_true, if_false, ite_self, Int.reduceEq, Int.reduceBEq, Int.reduceLE, Int.reduceLT, Int.reduceSub, Int.reduceMul, true_or, or_true, or_false, false_or, and_self, Bool.bne_false, Bool.bne_true, Bool.false_bne, Bool.true_bne, Bool.not_eq_eq_eq_not, bne_self_eq_false])
    all_goals (repeat' split)
    all_goals first | rfl | (exfalso; omega) | (apply congrArg some; omega)
set_option linter.unusedSimpArgs false in
set_option maxHeartbeats 4000000 in
theorem enc_21 (cond rd rn rm imm mode list : Int) (s it : Bool) (hok : Nm.okB ⟨21, cond, rd, rn, rm, imm, mode, list, s⟩ = true) (hw : Nm.Wide list) :
    searchP (traitsI cond rd rn rm mode s it) 21 cond rd rn rm imm list formTab = Nm.rowI ⟨21, cond, rd, rn, rm, imm, mode, list, s⟩ it := by
  obtain ⟨_, h1, h2, h3, h4, h5, h6⟩ := Nm.ok_parts hok
  clear hok
  have h3' := Nm.last_cases h3
  clear h3
  dsimp only at h1 h2 h3' h4 h5 h6
  rw [search_c, show formTab.flatMap (candsOf 21) = cands 21 from rfl, cands_21]
  unfold Nm.rowI Nm.restI
  dsimp only
  have hl := Nm.list_most h4 0 (by decide) rfl hw
  have hc : cond = 0 := by simpa [Im.condB] using h5
  obtain rfl : false = s := Nm.flag_off h6 (by decide)
  clear h4 h5 h6 hw
  rcases h3' with ⟨rfl, q1, q2, rfl, rfl⟩ | ⟨rfl, q1, q2, q3, q4, rfl⟩ | ⟨rfl, q1, q2, rfl⟩
  · have FF : Im.fieldsI 21 0 false = ⟨24575, 24575, 24575, 0, 0, 0, 0, 0⟩ := rfl
    rw [FF] at h1 h2 q1 q2
    dsimp only at h1 h2 q1 q2
    exfalso; omega
  · have FF : Im.fieldsI 21 1 false = ⟨24575, 24575, 24575, 0, 0, 0, 0, 0⟩ := rfl
    rw [FF] at h1 h2 q1 q2 q3 q4
    dsimp only at h1 h2 q1 q2 q3 q4
    exfalso; omega
  · have FF : Im.fieldsI 21 2 false = ⟨24575, 24575, 24575, 0, 0, 0, 0, 0⟩ := rfl
    rw [FF] at h1 h2 q1 q2
    dsimp only at h1 h2 q1 q2
    have hd := Nm.one_in h1 (by decide)
    have hn := Nm.one_in h2 (by decide)
    have hm := Nm.one_in q2 (by decide)
    clear h1 h2
    obtain ⟨x, hx⟩ : ∃ x, (0 : Int) % 4294967296 = x := ⟨_, rfl⟩
    simp only [searchC]
    cases it
    all_goals (try simp only [searchC, orI_nil, orI_ite2, orI_some, orI_nil, orI_none, z7_iff, Nm.opt, Nm.low, Nm.up, Bool.and_eq_true, Bool.or_eq_true, beq_iff_eq, decide_eq_true_eq, Bool.not_eq_true', bne_self_eq_false, Bool.false_eq_true, Bool.true_eq_false, Bool.not_true, Bool.not_false, bne_iff_ne, ne_eq, not_true_eq_false, not_false_eq_true, reduceCtorEq, true_and, and_true, false_and, and_false, if_true, if_false, ite_self, Int.reduceEq, Int.reduceBEq, Int.reduceLE, Int.reduceLT, Int.reduceSub, Int.reduceMul, true_or, or_true, or_false, false_or, and_self, Bool.bne_false, Bool.bne_true, Bool.false_bne, Bool.true_bne, Bool.not_eq_eq_eq_not, bne_self_eq_false])
    all_goals (repeat' split)
    all_goals first | rfl | (exfalso; omega) | (apply congrArg some; omega)
set_option linter.unusedSimpArgs false in
set_option maxHeartbeats 4000000 in
theorem enc_22 (cond rd rn rm imm mode list : Int) (s it : Bool) (hok : Nm.okB ⟨22, cond, rd, rn, rm, imm, mode, list, s⟩ = true) (hw : Nm.Wide list) :
    searchP (traitsI cond rd rn rm mode s it) 22 cond rd rn rm imm list formTab = Nm.rowI ⟨22, cond, rd, rn, rm, imm, mode, list, s⟩ it := by
  obtain ⟨_, h1, h2, h3, h4, h5, h6⟩ := Nm.ok_parts hok
  clear hok
  have h3' := Nm.last_cases h3
  clear h3
  dsimp only at h1 h2 h3' h4 h5 h6
  rw [search_c, show formTab.flatMap (candsOf 22) = cands 22 from rfl, cands_22]
  unfold Nm.rowI Nm.restI
  dsimp only
  have hl := Nm.list_most h4 0 (by decide) rfl hw
  have hc : cond = 0 := by simpa [Im.condB] using h5
  obtain rfl : false = s := Nm.flag_off h6 (by decide)
  clear h4 h5 h6 hw
  rcases h3' with ⟨rfl, q1, q2, rfl, rfl⟩ | ⟨rfl, q1, q2, q3, q4, rfl⟩ | ⟨rfl, q1, q2, rfl⟩
  · have FF : Im.fieldsI 22 0 false = ⟨24575, 24575, 24575, 0, 0, 0, 0, 0⟩ := rfl
    rw [FF] at h1 h2 q1 q2
    dsimp only at h1 h2 q1 q2
    exfalso; omega
  · have FF : Im.fieldsI 22 1 false = ⟨24575, 24575, 24575, 0, 0, 0, 0, 0⟩ := rfl
    rw [FF] at h1 h2 q1 q2 q3 q4
    dsimp only at h1 h2 q1 q2 q3 q4
    exfalso; omega
  · have FF : Im.fieldsI 22 2 false = ⟨24575, 24575, 24575, 0, 0, 0, 0, 0⟩ := rfl
    rw [FF] at h1 h2 q1 q2
    dsimp only at h1 h2 q1 q2
    have hd := Nm.one_in h1 (by decide)
    have hn := Nm.one_in h2 (by decide)
    have hm := Nm.one_in q2 (by decide)
    clear h1 h2
    obtain ⟨x, hx⟩ : ∃ x, (0 : Int) % 4294967296 = x := ⟨_, rfl⟩
    simp only [searchC]
    cases it
    all_goals (try simp only [searchC, orI_nil, orI_ite2, orI_some, orI_nil, orI_none, z7_iff, Nm.opt, Nm.low, Nm.up, Bool.and_eq_true, Bool.or_eq_true, beq_iff_eq, decide_eq_true_eq, Bool.not_eq_true', bne_self_eq_false, Bool.false_eq_true, Bool.true_eq_false, Bool.not_true, Bool.not_false, bne_iff_ne, ne_eq, not_true_eq_false, not_false_eq_true, reduceCtorEq, true_and, and_true, false_and, and_false, if_true, if_false, ite_self, Int.reduceEq, Int.reduceBEq, Int.reduceLE, Int.reduceLT, Int.reduceSub, Int.reduceMul, true_or, or_true, or_false, false_or, and_self, Bool.bne_false, Bool.bne_true, Bool.false_bne, Bool.true_bne, Bool.not_eq_eq_eq_not, bne_self_eq_false])
    all_goals (repeat' split)
    all_goals first | rfl | (exfalso; omega) | (apply congrArg some; omega)
set_option linter.unusedSimpArgs false in
set_option maxHeartbeats 4000000 in
theorem enc_23 (cond rd rn rm imm mode list : Int) (s it : Bool) (hok : Nm.okB ⟨23, cond, rd, rn, rm, imm, mode, list, s⟩ = true) (hw : Nm.Wide list) :
    searchP (traitsI cond rd rn rm mode s it) 23 cond rd rn rm imm list formTab = Nm.rowI ⟨23, cond, rd, rn, rm, imm, mode, list, s⟩ it := by
  obtain ⟨_, h1, h2, h3, h4, h5, h6⟩ := Nm.ok_parts hok
  clear hok
  have h3' := Nm.last_cases h3
  clear h3
  dsimp only at h1 h2 h3' h4 h5 h6
  rw [search_c, show formTab.flatMap (candsOf 23) = cands 23 from rfl, cands_23]
  unfold Nm.rowI Nm.restI
  dsimp only
  have hl := Nm.list_most h4 0 (by decide) rfl hw
  have hc : cond = 0 := by simpa [Im.condB] using h5
  obtain rfl : false = s := Nm.flag_off h6 (by decide)
  clear h4 h5 h6 hw
  rcases h3' with ⟨rfl, q1, q2, rfl, rfl⟩ | ⟨rfl, q1, q2, q3, q4, rfl⟩ | ⟨rfl, q1, q2, rfl⟩
  · have FF : Im.fieldsI 23 0 false = ⟨24575, 0, 0, 0, 65535, 1, 0, 0⟩ := rfl
    rw [FF] at h1 h2 q1 q2
    dsimp only at h1 h2 q1 q2
    exfalso; omega
  · have FF : Im.fieldsI 23 1 false = ⟨24575, 0, 0, 0, 65535, 1, 0, 0⟩ := rfl
    rw [FF] at h1 h2 q1 q2 q3 q4
    dsimp only at h1 h2 q1 q2 q3 q4
    have hd := Nm.one_in h1 (by decide)
    have hn : rn = 0 := Nm.one_none h2
    clear h1 h2
    obtain ⟨x, hx⟩ : ∃ x, imm % 4294967296 = x := ⟨_, rfl⟩
    simp only [searchC]
    cases it
    all_goals (try simp only [searchC, orI_nil, orI_ite2, orI_some, orI_nil, orI_none, z7_iff, Nm.opt, Nm.low, Nm.up, Bool.and_eq_true, Bool.or_eq_true, beq_iff_eq, decide_eq_true_eq, Bool.not_eq_true', bne_self_eq_false, Bool.false_eq_true, Bool.true_eq_false, Bool.not_true, Bool.not_false, bne_iff_ne, ne_eq, not_true_eq_false, not_false_eq_true, reduceCtorEq, true_and, and_true, false_and, and_false, if_true, if_false, ite_self, Int.reduceEq, Int.reduceBEq, Int.reduceLE, Int.reduceLT, Int.reduceSub, Int.reduceMul, true_or, or_true, or_false, false_or, and_self, Bool.bne_false, Bool.bne_true, Bool.false_bne, Bool.true_bne, Bool.not_eq_eq_eq_not, bne_self_eq_false])
    all_goals (repeat' split)
    all_goals first | rfl | (exfalso; omega) | (apply congrArg some; omega)
  · have FF : Im.fieldsI 23 2 false = ⟨24575, 0, 0, 0, 65535, 1, 0, 0⟩ := rfl
    rw [FF] at h1 h2 q1 q2
    dsimp only at h1 h2 q1 q2
    exfalso; omega
set_option linter.unusedSimpArgs false in
set_option maxHeartbeats 4000000 in
theorem enc_24 (cond rd rn rm imm mode list : Int) (s it : Bool) (hok : Nm.okB ⟨24, cond, rd, rn, rm, imm, mode, list, s⟩ = true) (hw : Nm.Wide list) :
    searchP (traitsI cond rd rn rm mode s it) 24 cond rd rn rm imm list formTab = Nm.rowI ⟨24, cond, rd, rn, rm, imm, mode, list, s⟩ it := by
  obtain ⟨_, h1, h2, h3, h4, h5, h6⟩ := Nm.ok_parts hok
  clear hok
  have h3' := Nm.last_cases h3
  clear h3
  dsimp only at h1 h2 h3' h4 h5 h6
  rw [search_c, show formTab.flatMap (candsOf 24) = cands 24 from rfl, cands_24]
  unfold Nm.rowI Nm.restI
  dsimp only
  have hl := Nm.list_most h4 0 (by decide) rfl hw
  have hc : cond = 0 := by simpa [Im.condB] using h5
  obtain rfl : false = s := Nm.flag_off h6 (by decide)
  clear h4 h5 h6 hw
  rcases h3' with ⟨rfl, q1, q2, rfl, rfl⟩ | ⟨rfl, q1, q2, q3, q4, rfl⟩ | ⟨rfl, q1, q2, rfl⟩
  · have FF : Im.fieldsI 24 0 false = ⟨24575, 0, 0, 0, 65535, 1, 0, 0⟩ := rfl
    rw [FF] at h1 h2 q1 q2
    dsimp only at h1 h2 q1 q2
    exfalso; omega
  · have FF : Im.fieldsI 24 1 false = ⟨24575, 0, 0, 0, 65535, 1, 0, 0⟩ := rfl
    rw [FF] at h1 h2 q1 q2 q3 q4
    dsimp only at h1 h2 q1 q2 q3 q4
    have hd := Nm.one_in h1 (by decide)
    have hn : rn = 0 := Nm.one_none h2
    clear h1 h2
    obtain ⟨x, hx⟩ : ∃ x, imm % 4294967296 = x := ⟨_, rfl⟩
    simp only [searchC]
    cases it
    all_goals (try simp only [searchC, orI_nil, orI_ite2, orI_some, orI_nil, orI_none, z7_iff, Nm.opt, Nm.low, Nm.up, Bool.and_eq_true, Bool.or_eq_true, beq_iff_eq, decide_eq_true_eq, Bool.not_eq_true', bne_self_eq_false, Bool.false_eq_true, Bool.true_eq_false, Bool.not_true, Bool.not_false, bne_iff_ne, ne_eq, not_true_eq_false, not_false_eq_true, reduceCtorEq, true_and, and_true, false_and, and_false, if_true, if_false, ite_self, Int.reduceEq, Int.reduceBEq, Int.reduceLE, Int.reduceLT, Int.reduceSub, Int.reduceMul, true_or, or_true, or_false, false_or, and_self, Bool.bne_false, Bool.bne_true, Bool.false_bne, Bool.true_bne, Bool.not_eq_eq_eq_not, bne_self_eq_false])
    all_goals (repeat' split)
    all_goals first | rfl | (exfalso; omega) | (apply congrArg some; omega)
  · have FF : Im.fieldsI 24 2 false = ⟨24575, 0, 0, 0, 65535, 1, 0, 0⟩ := rfl
    rw [FF] at h1 h2 q1 q2
    dsimp only at h1 h2 q1 q2
    exfalso; omega
set_option linter.unusedSimpArgs false in
set_option maxHeartbeats 4000000 in
theorem enc_31 (cond rd rn rm imm mode list : Int) (s it : Bool) (hok : Nm.okB ⟨31, cond, rd, rn, rm, imm, mode, list, s⟩ = true) (hw : Nm.Wide list) :
    searchP (traitsI cond rd rn rm mode s it) 31 cond rd rn rm imm list formTab = Nm.rowI ⟨31, cond, rd, rn, rm, imm, mode, list, s⟩ it := by
  obtain ⟨_, h1, h2, h3, h4, h5, h6⟩ := Nm.ok_parts hok
  clear hok
  have h3' := Nm.last_cases h3
  clear h3
  dsimp only at h1 h2 h3' h4 h5 h6
  rw [search_c, show formTab.flatMap (candsOf 31) = cands 31 from rfl, cands_31]
  unfold Nm.rowI Nm.restI
  dsimp only
  have hl := Nm.list_most h4 24575 (by decide) rfl hw
  have hc : cond = 0 := by simpa [Im.condB] using h5
  obtain rfl : false = s := Nm.flag_off h6 (by decide)
  clear h4 h5 h6 hw
  rcases h3' with ⟨rfl, q1, q2, rfl, rfl⟩ | ⟨rfl, q1, q2, q3, q4, rfl⟩ | ⟨rfl, q1, q2, rfl⟩
  · have FF : Im.fieldsI 31 0 false = ⟨0, 24575, 0, 0, 0, 0, 24575, 2⟩ := rfl
    rw [FF] at h1 h2 q1 q2
    dsimp only at h1 h2 q1 q2
    have hd : rd = 0 := Nm.one_none h1
    have hn := Nm.one_in h2 (by decide)
    clear h1 h2
    obtain ⟨x, hx⟩ : ∃ x, (0 : Int) % 4294967296 = x := ⟨_, rfl⟩
    simp only [searchC]
    rw [fill_22_1 cond rd rn 0 0 list x hx (by omega) (by omega) (by omega) (by omega) (by omega) (by omega) (by omega) (by omega) (by omega) (by omega)]
    cases it
    all_goals (try simp only [searchC, show row_22.asks = 0 from rfl, asks_0, orI_ite2, orI_some, orI_nil, orI_none, z7_iff, Nm.opt, Nm.low, Nm.up, Bool.and_eq_true, Bool.or_eq_true, beq_iff_eq, decide_eq_true_eq, Bool.not_eq_true', bne_self_eq_false, Bool.false_eq_true, Bool.true_eq_false, Bool.not_true, Bool.not_false, bne_iff_ne, ne_eq, not_true_eq_false, not_false_eq_true, reduceCtorEq, true_and, and_true, false_and, and_false, if_true, if_false, ite_self, Int.reduceEq, Int.reduceBEq, Int.reduceLE, Int.reduceLT, Int.reduceSub, Int.reduceMul, true_or, or_true, or_false, false_or, and_self, Bool.bne_false, Bool.bne_true, Bool.false_bne, Bool.true_bne, Bool.not_eq_eq_eq_not, bne_self_eq_false])
    all_goals (repeat' split)
    all_goals first | rfl | (exfalso; omega) | (apply congrArg some; omega)
  · have FF : Im.fieldsI 31 1 false = ⟨0, 24575, 0, 0, 0, 0, 24575, 2⟩ := rfl
    rw [FF] at h1 h2 q1 q2 q3 q4
    dsimp only at h1 h2 q1 q2 q3 q4
    exfalso; omega
  · have FF : Im.fieldsI 31 2 false = ⟨0, 24575, 0, 0, 0, 0, 24575, 2⟩ := rfl
    rw [FF] at h1 h2 q1 q2
    dsimp only at h1 h2 q1 q2
    exfalso; omega
set_option linter.unusedSimpArgs false in
set_option maxHeartbeats 4000000 in
theorem enc_32 (cond rd rn rm imm mode list : Int) (s it : Bool) (hok : Nm.okB ⟨32, cond, rd, rn, rm, imm, mode, list, s⟩ = true) (hw : Nm.Wide list) :
    searchP (traitsI cond rd rn rm mode s it) 32 cond rd rn rm imm list formTab = Nm.rowI ⟨32, cond, rd, rn, rm, imm, mode, list, s⟩ it := by
  obtain ⟨_, h1, h2, h3, h4, h5, h6⟩ := Nm.ok_parts hok
  clear hok
  have h3' := Nm.last_cases h3
  clear h3
  dsimp only at h1 h2 h3' h4 h5 h6
  rw [search_c, show formTab.flatMap (candsOf 32) = cands 32 from rfl, cands_32]
  unfold Nm.rowI Nm.restI
  dsimp only
  have hl := Nm.list_most h4 24575 (by decide) rfl hw
  have hc : cond = 0 := by simpa [Im.condB] using h5
  obtain rfl : false = s := Nm.flag_off h6 (by decide)
  clear h4 h5 h6 hw
  rcases h3' with ⟨rfl, q1, q2, rfl, rfl⟩ | ⟨rfl, q1, q2, q3, q4, rfl⟩ | ⟨rfl, q1, q2, rfl⟩
  · have FF : Im.fieldsI 32 0 false = ⟨0, 24575, 0, 0, 0, 0, 24575, 2⟩ := rfl
    rw [FF] at h1 h2 q1 q2
    dsimp only at h1 h2 q1 q2
    have hd : rd = 0 := Nm.one_none h1
    have hn := Nm.one_in h2 (by decide)
    clear h1 h2
    obtain ⟨x, hx⟩ : ∃ x, (0 : Int) % 4294967296 = x := ⟨_, rfl⟩
    simp only [searchC]
    rw [fill_22_0 cond rd rn 0 0 list x hx (by omega) (by omega) (by omega) (by omega) (by omega) (by omega) (by omega) (by omega) (by omega) (by omega)]
    cases it
    all_goals (try simp only [searchC, show row_22.asks = 0 from rfl, asks_0, orI_ite2, orI_some, orI_nil, orI_none, z7_iff, Nm.opt, Nm.low, Nm.up, Bool.and_eq_true, Bool.or_eq_true, beq_iff_eq, decide_eq_true_eq, Bool.not_eq_true', bne_self_eq_false, Bool.false_eq_true, Bool.true_eq_false, Bool.not_true, Bool.not_false, bne_iff_ne, ne_eq, not_true_eq_false, not_false_eq_true, reduceCtorEq, true_and, and_true, false_and, and_false, if_true, if_false, ite_self, Int.reduceEq, Int.reduceBEq, Int.reduceLE, Int.reduceLT, Int.reduceSub, Int.reduceMul, true_or, or_true, or_false, false_or, and_self, Bool.bne_false, Bool.bne_true, Bool.false_bne, Bool.true_bne, Bool.not_eq_eq_eq_not, bne_self_eq_false])
    all_goals (repeat' split)
    all_goals first | rfl | (exfalso; omega) | (apply congrArg some; omega)
  · have FF : Im.fieldsI 32 1 false = ⟨0, 24575, 0, 0, 0, 0, 24575, 2⟩ := rfl
    rw [FF] at h1 h2 q1 q2 q3 q4
    dsimp only at h1 h2 q1 q2 q3 q4
    exfalso; omega
  · have FF : Im.fieldsI 32 2 false = ⟨0, 24575, 0, 0, 0, 0, 24575, 2⟩ := rfl
    rw [FF] at h1 h2 q1 q2
    dsimp only at h1 h2 q1 q2
    exfalso; omega
set_option linter.unusedSimpArgs false in
set_option maxHeartbeats 4000000 in
theorem enc_33 (cond rd rn rm imm mode list : Int) (s it : Bool) (hok : Nm.okB ⟨33, cond, rd, rn, rm, imm, mode, list, s⟩ = true) (hw : Nm.Wide list) :
    searchP (traitsI cond rd rn rm mode s it) 33 cond rd rn rm imm list formTab = Nm.rowI ⟨33, cond, rd, rn, rm, imm, mode, list, s⟩ it := by
  obtain ⟨_, h1, h2, h3, h4, h5, h6⟩ := Nm.ok_parts hok
  clear hok
  have h3' := Nm.last_cases h3
  clear h3
  dsimp only at h1 h2 h3' h4 h5 h6
  rw [search_c, show formTab.flatMap (candsOf 33) = cands 33 from rfl, cands_33]
  unfold Nm.rowI Nm.restI
  dsimp only
  have hl := Nm.list_most h4 24575 (by decide) rfl hw
  have hc : cond = 0 := by simpa [Im.condB] using h5
  obtain rfl : false = s := Nm.flag_off h6 (by decide)
  clear h4 h5 h6 hw
  rcases h3' with ⟨rfl, q1, q2, rfl, rfl⟩ | ⟨rfl, q1, q2, q3, q4, rfl⟩ | ⟨rfl, q1, q2, rfl⟩
  · have FF : Im.fieldsI 33 0 false = ⟨0, 0, 0, 0, 0, 0, 24575, 1⟩ := rfl
    rw [FF] at h1 h2 q1 q2
    dsimp only at h1 h2 q1 q2
    have hd : rd = 0 := Nm.one_none h1
    have hn : rn = 0 := Nm.one_none h2
    clear h1 h2
    obtain ⟨x, hx⟩ : ∃ x, (0 : Int) % 4294967296 = x := ⟨_, rfl⟩
    simp only [searchC]
    rw [fill_23_0 cond rd rn 0 0 list x hx (by omega) (by omega) (by omega) (by omega) (by omega) (by omega) (by omega) (by omega) (by omega) (by omega)]
    cases it
    all_goals (try simp only [searchC, show row_23.asks = 0 from rfl, asks_0, orI_ite2, orI_some, orI_nil, orI_none, z7_iff, Nm.opt, Nm.low, Nm.up, Bool.and_eq_true, Bool.or_eq_true, beq_iff_eq, decide_eq_true_eq, Bool.not_eq_true', bne_self_eq_false, Bool.false_eq_true, Bool.true_eq_false, Bool.not_true, Bool.not_false, bne_iff_ne, ne_eq, not_true_eq_false, not_false_eq_true, reduceCtorEq, true_and, and_true, false_and, and_false, if_true, if_false, ite_self, Int.reduceEq, Int.reduceBEq, Int.reduceLE, Int.reduceLT, Int.reduceSub, Int.reduceMul, true_or, or_true, or_false, false_or, and_self, Bool.bne_false, Bool.bne_true, Bool.false_bne, Bool.true_bne, Bool.not_eq_eq_eq_not, bne_self_eq_false])
    all_goals (repeat' split)
    all_goals first | rfl | (exfalso; omega) | (apply congrArg some; omega)
  · have FF : Im.fieldsI 33 1 false = ⟨0, 0, 0, 0, 0, 0, 24575, 1⟩ := rfl
    rw [FF] at h1 h2 q1 q2 q3 q4
    dsimp only at h1 h2 q1 q2 q3 q4
    exfalso; omega
  · have FF : Im.fieldsI 33 2 false = ⟨0, 0, 0, 0, 0, 0, 24575, 1⟩ := rfl
    rw [FF] at h1 h2 q1 q2
    dsimp only at h1 h2 q1 q2
    exfalso; omega
set_option linter.unusedSimpArgs false in
set_option maxHeartbeats 4000000 in
theorem enc_34 (cond rd rn rm imm mode list : Int) (s it : Bool) (hok : Nm.okB ⟨34, cond, rd, rn, rm, imm, mode, list, s⟩ = true) (hw : Nm.Wide list) :
    searchP (traitsI cond rd rn rm mode s it) 34 cond rd rn rm imm list formTab = Nm.rowI ⟨34, cond, rd, rn, rm, imm, mode, list, s⟩ it := by
  obtain ⟨_, h1, h2, h3, h4, h5, h6⟩ := Nm.ok_parts hok
  clear hok
  have h3' := Nm.last_cases h3
  clear h3
  dsimp only at h1 h2 h3' h4 h5 h6
  rw [search_c, show formTab.flatMap (candsOf 34) = cands 34 from rfl, cands_34]
  unfold Nm.rowI Nm.restI
  dsimp only
  have hl := Nm.list_most h4 57343 (by decide) rfl hw
  have hc : cond = 0 := by simpa [Im.condB] using h5
  obtain rfl : false = s := Nm.flag_off h6 (by decide)
  clear h4 h5 h6 hw
  rcases h3' with ⟨rfl, q1, q2, rfl, rfl⟩ | ⟨rfl, q1, q2, q3, q4, rfl⟩ | ⟨rfl, q1, q2, rfl⟩
  · have FF : Im.fieldsI 34 0 false = ⟨0, 0, 0, 0, 0, 0, 57343, 1⟩ := rfl
    rw [FF] at h1 h2 q1 q2
    dsimp only at h1 h2 q1 q2
    have hd : rd = 0 := Nm.one_none h1
    have hn : rn = 0 := Nm.one_none h2
    clear h1 h2
    obtain ⟨x, hx⟩ : ∃ x, (0 : Int) % 4294967296 = x := ⟨_, rfl⟩
    simp only [searchC]
    rw [fill_24_0 cond rd rn 0 0 list x hx (by omega) (by omega) (by omega) (by omega) (by omega) (by omega) (by omega) (by omega) (by omega) (by omega)]
    cases it
    all_goals (try simp only [searchC, show row_24.asks = 0 from rfl, asks_0, orI_ite2, orI_some, orI_nil, orI_none, z7_iff, Nm.opt, Nm.low, Nm.up, Bool.and_eq_true, Bool.or_eq_true, beq_iff_eq, decide_eq_true_eq, Bool.not_eq_true', bne_self_eq_false, Bool.false_eq_true, Bool.true_eq_false, Bool.not_true, Bool.not_false, bne_iff_ne, ne_eq, not_true_eq_false, not_false_eq_true, reduceCtorEq, true_and, and_true, false_and, and_false, if_true, if_false, ite_self, Int.reduceEq, Int.reduceBEq, Int.reduceLE, Int.reduceLT, Int.reduceSub, Int.reduceMul, true_or, or_true, or_false, false_or, and_self, Bool.bne_false, Bool.bne_true, Bool.false_bne, Bool.true_bne, Bool.not_eq_eq_eq_not, bne_self_eq_false])
    all_goals (repeat' split)
    all_goals first | rfl | (exfalso; omega) | (apply congrArg some; omega)
  · have FF : Im.fieldsI 34 1 false = ⟨0, 0, 0, 0, 0, 0, 57343, 1⟩ := rfl
    rw [FF] at h1 h2 q1 q2 q3 q4
    dsimp only at h1 h2 q1 q2 q3 q4
    exfalso; omega
  · have FF : Im.fieldsI 34 2 false = ⟨0, 0, 0, 0, 0, 0, 57343, 1⟩ := rfl
    rw [FF] at h1 h2 q1 q2
    dsimp only at h1 h2 q1 q2
    exfalso; omega
set_option linter.unusedSimpArgs false in
set_option maxHeartbeats 4000000 in
theorem enc_36 (cond rd rn rm imm mode list : Int) (s it : Bool) (hok : Nm.okB ⟨36, cond, rd, rn, rm, imm, mode, list, s⟩ = true) (hw : Nm.Wide list) :
    searchP (traitsI cond rd rn rm mode s it) 36 cond rd rn rm imm list formTab = Nm.rowI ⟨36, cond, rd, rn, rm, imm, mode, list, s⟩ it := by
  obtain ⟨_, h1, h2, h3, h4, h5, h6⟩ := Nm.ok_parts hok
  clear hok
  have h3' := Nm.last_cases h3
  clear h3
  dsimp only at h1 h2 h3' h4 h5 h6
  rw [search_c, show formTab.flatMap (candsOf 36) = cands 36 from rfl, cands_36]
  unfold Nm.rowI Nm.restI
  dsimp only
  have hl := Nm.list_most h4 0 (by decide) rfl hw
  have hc : cond = 0 := by simpa [Im.condB] using h5
  obtain rfl : false = s := Nm.flag_off h6 (by decide)
  clear h4 h5 h6 hw
  rcases h3' with ⟨rfl, q1, q2, rfl, rfl⟩ | ⟨rfl, q1, q2, q3, q4, rfl⟩ | ⟨rfl, q1, q2, rfl⟩
  · have FF : Im.fieldsI 36 0 false = ⟨0, 0, 0, -16777216, 16777214, 2, 0, 0⟩ := rfl
    rw [FF] at h1 h2 q1 q2
    dsimp only at h1 h2 q1 q2
    exfalso; omega
  · have FF : Im.fieldsI 36 1 false = ⟨0, 0, 0, -16777216, 16777214, 2, 0, 0⟩ := rfl
    rw [FF] at h1 h2 q1 q2 q3 q4
    dsimp only at h1 h2 q1 q2 q3 q4
    have hd : rd = 0 := Nm.one_none h1
    have hn : rn = 0 := Nm.one_none h2
    have he := tmod_even q4
    clear h1 h2
    obtain ⟨x, hx⟩ : ∃ x, imm % 4294967296 = x := ⟨_, rfl⟩
    simp only [searchC]
    cases it
    all_goals (try simp only [searchC, orI_nil, orI_ite2, orI_some, orI_nil, orI_none, z7_iff, Nm.opt, Nm.low, Nm.up, Bool.and_eq_true, Bool.or_eq_true, beq_iff_eq, decide_eq_true_eq, Bool.not_eq_true', bne_self_eq_false, Bool.false_eq_true, Bool.true_eq_false, Bool.not_true, Bool.not_false, bne_iff_ne, ne_eq, not_true_eq_false, not_false_eq_true, reduceCtorEq, true_and, and_true, false_and, and_false, if_true, if_false, ite_self, Int.reduceEq, Int.reduceBEq, Int.reduceLE, Int.reduceLT, Int.reduceSub, Int.reduceMul, true_or, or_true, or_false, false_or, and_self, Bool.bne_false, Bool.bne_true, Bool.false_bne, Bool.true_bne, Bool.not_eq_eq_eq_not, bne_self_eq_false])
    all_goals (repeat' split)
    all_goals first | rfl | (exfalso; omega) | (apply congrArg some; omega)
  · have FF : Im.fieldsI 36 2 false = ⟨0, 0, 0, -16777216, 16777214, 2, 0, 0⟩ := rfl
    rw [FF] at h1 h2 q1 q2
    dsimp only at h1 h2 q1 q2
    exfalso; omega
set_option linter.unusedSimpArgs false in
set_option maxHeartbeats 4000000 in
theorem enc_39 (cond rd rn rm imm mode list : Int) (s it : Bool) (hok : Nm.okB ⟨39, cond, rd, rn, rm, imm, mode, list, s⟩ = true) (hw : Nm.Wide list) :
    searchP (traitsI cond rd rn rm mode s it) 39 cond rd rn rm imm list formTab = Nm.rowI ⟨39, cond, rd, rn, rm, imm, mode, list, s⟩ it := by
  obtain ⟨_, h1, h2, h3, h4, h5, h6⟩ := Nm.ok_parts hok
  clear hok
  have h3' := Nm.last_cases h3
  clear h3
  dsimp only at h1 h2 h3' h4 h5 h6
  rw [search_c, show formTab.flatMap (candsOf 39) = cands 39 from rfl, cands_39]
  unfold Nm.rowI Nm.restI
  dsimp only
  have hl := Nm.list_most h4 0 (by decide) rfl hw
  have hc : cond = 0 := by simpa [Im.condB] using h5
  obtain rfl : false = s := Nm.flag_off h6 (by decide)
  clear h4 h5 h6 hw
  rcases h3' with ⟨rfl, q1, q2, rfl, rfl⟩ | ⟨rfl, q1, q2, q3, q4, rfl⟩ | ⟨rfl, q1, q2, rfl⟩
  · have FF : Im.fieldsI 39 0 false = ⟨0, 0, 32767, 0, 0, 0, 0, 0⟩ := rfl
    rw [FF] at h1 h2 q1 q2
    dsimp only at h1 h2 q1 q2
    exfalso; omega
  · have FF : Im.fieldsI 39 1 false = ⟨0, 0, 32767, 0, 0, 0, 0, 0⟩ := rfl
    rw [FF] at h1 h2 q1 q2 q3 q4
    dsimp only at h1 h2 q1 q2 q3 q4
    exfalso; omega
  · have FF : Im.fieldsI 39 2 false = ⟨0, 0, 32767, 0, 0, 0, 0, 0⟩ := rfl
    rw [FF] at h1 h2 q1 q2
    dsimp only at h1 h2 q1 q2
    have hd : rd = 0 := Nm.one_none h1
    have hn : rn = 0 := Nm.one_none h2
    have hm := Nm.one_in q2 (by decide)
    clear h1 h2
    obtain ⟨x, hx⟩ : ∃ x, (0 : Int) % 4294967296 = x := ⟨_, rfl⟩
    simp only [searchC]
    rw [fill_28_0 cond rd rn rm 0 list x hx (by omega) (by omega) (by omega) (by omega) (by omega) (by omega) (by omega) (by omega) (by omega) (by omega)]
    cases it
    all_goals (try simp only [searchC, show row_28.asks = 0 from rfl, asks_0, orI_ite2, orI_some, orI_nil, orI_none, z7_iff, Nm.opt, Nm.low, Nm.up, Bool.and_eq_true, Bool.or_eq_true, beq_iff_eq, decide_eq_true_eq, Bool.not_eq_true', bne_self_eq_false, Bool.false_eq_true, Bool.true_eq_false, Bool.not_true, Bool.not_false, bne_iff_ne, ne_eq, not_true_eq_false, not_false_eq_true, reduceCtorEq, true_and, and_true, false_and, and_false, if_true, if_false, ite_self, Int.reduceEq, Int.reduceBEq, Int.reduceLE, Int.reduceLT, Int.reduceSub, Int.reduceMul, true_or, or_true, or_false, false_or, and_self, Bool.bne_false, Bool.bne_true, Bool.false_bne, Bool.true_bne, Bool.not_eq_eq_eq_not, bne_self_eq_false])
    all_goals (repeat' split)
    all_goals first | rfl | (exfalso; omega) | (apply congrArg some; omega)
set_option linter.unusedSimpArgs false in
set_option maxHeartbeats 4000000 in
theorem enc_40 (cond rd rn rm imm mode list : Int) (s it : Bool) (hok : Nm.okB ⟨40, cond, rd, rn, rm, imm, mode, list, s⟩ = true) (hw : Nm.Wide list) :
    searchP (traitsI cond rd rn rm mode s it) 40 cond rd rn rm imm list formTab = Nm.rowI ⟨40, cond, rd, rn, rm, imm, mode, list, s⟩ it := by
  obtain ⟨_, h1, h2, h3, h4, h5, h6⟩ := Nm.ok_parts hok
  clear hok
  have h3' := Nm.last_cases h3
  clear h3
  dsimp only at h1 h2 h3' h4 h5 h6
  rw [search_c, show formTab.flatMap (candsOf 40) = cands 40 from rfl, cands_40]
  unfold Nm.rowI Nm.restI
  dsimp only
  have hl := Nm.list_most h4 0 (by decide) rfl hw
  have hc : cond = 0 := by simpa [Im.condB] using h5
  obtain rfl : false = s := Nm.flag_off h6 (by decide)
  clear h4 h5 h6 hw
  rcases h3' with ⟨rfl, q1, q2, rfl, rfl⟩ | ⟨rfl, q1, q2, q3, q4, rfl⟩ | ⟨rfl, q1, q2, rfl⟩
  · have FF : Im.fieldsI 40 0 false = ⟨24575, 0, 0, -4095, 4095, 1, 0, 0⟩ := rfl
    rw [FF] at h1 h2 q1 q2
    dsimp only at h1 h2 q1 q2
    exfalso; omega
  · have FF : Im.fieldsI 40 1 false = ⟨24575, 0, 0, -4095, 4095, 1, 0, 0⟩ := rfl
    rw [FF] at h1 h2 q1 q2 q3 q4
    dsimp only at h1 h2 q1 q2 q3 q4
    have hd := Nm.one_in h1 (by decide)
    have hn : rn = 0 := Nm.one_none h2
    clear h1 h2
    obtain ⟨x, hx⟩ : ∃ x, imm % 4294967296 = x := ⟨_, rfl⟩
    simp only [searchC]
    rw [fill_29_0 cond rd rn 0 imm list x hx (by omega) (by omega) (by omega) (by omega) (by omega) (by omega) (by omega) (by omega) (by omega) (by omega)]
    cases it
    all_goals (try simp only [searchC, show row_29.asks = 0 from rfl, asks_0, orI_ite2, orI_some, orI_nil, orI_none, z7_iff, Nm.opt, Nm.low, Nm.up, Bool.and_eq_true, Bool.or_eq_true, beq_iff_eq, decide_eq_true_eq, Bool.not_eq_true', bne_self_eq_false, Bool.false_eq_true, Bool.true_eq_false, Bool.not_true, Bool.not_false, bne_iff_ne, ne_eq, not_true_eq_false, not_false_eq_true, reduceCtorEq, true_and, and_true, false_and, and_false, if_true, if_false, ite_self, Int.reduceEq, Int.reduceBEq, Int.reduceLE, Int.reduceLT, Int.reduceSub, Int.reduceMul, true_or, or_true, or_false, false_or, and_self, Bool.bne_false, Bool.bne_true, Bool.false_bne, Bool.true_bne, Bool.not_eq_eq_eq_not, bne_self_eq_false])
    all_goals (repeat' split)
    all_goals first | rfl | (exfalso; omega) | (apply congrArg some; omega)
  · have FF : Im.fieldsI 40 2 false = ⟨24575, 0, 0, -4095, 4095, 1, 0, 0⟩ := rfl
    rw [FF] at h1 h2 q1 q2
    dsimp only at h1 h2 q1 q2
    exfalso; omega
set_option linter.unusedSimpArgs false in
set_option maxHeartbeats 4000000 in
theorem enc_41 (cond rd rn rm imm mode list : Int) (s it : Bool) (hok : Nm.okB ⟨41, cond, rd, rn, rm, imm, mode, list, s⟩ = true) (hw : Nm.Wide list) :
    searchP (traitsI cond rd rn rm mode s it) 41 cond rd rn rm imm list formTab = Nm.rowI ⟨41, cond, rd, rn, rm, imm, mode, list, s⟩ it := by
  obtain ⟨_, h1, h2, h3, h4, h5, h6⟩ := Nm.ok_parts hok
  clear hok
  have h3' := Nm.last_cases h3
  clear h3
  dsimp only at h1 h2 h3' h4 h5 h6
  rw [search_c, show formTab.flatMap (candsOf 41) = cands 41 from rfl, cands_41]
  unfold Nm.rowI Nm.restI
  dsimp only
  have hl := Nm.list_most h4 0 (by decide) rfl hw
  have hc : cond = 0 := by simpa [Im.condB] using h5
  obtain rfl : false = s := Nm.flag_off h6 (by decide)
  clear h4 h5 h6 hw
  rcases h3' with ⟨rfl, q1, q2, rfl, rfl⟩ | ⟨rfl, q1, q2, q3, q4, rfl⟩ | ⟨rfl, q1, q2, rfl⟩
  · have FF : Im.fieldsI 41 0 false = ⟨24575, 0, 0, -4095, 4095, 1, 0, 0⟩ := rfl
    rw [FF] at h1 h2 q1 q2
    dsimp only at h1 h2 q1 q2
    exfalso; omega
  · have FF : Im.fieldsI 41 1 false = ⟨24575, 0, 0, -4095, 4095, 1, 0, 0⟩ := rfl
    rw [FF] at h1 h2 q1 q2 q3 q4
    dsimp only at h1 h2 q1 q2 q3 q4
    have hd := Nm.one_in h1 (by decide)
    have hn : rn = 0 := Nm.one_none h2
    clear h1 h2
    obtain ⟨x, hx⟩ : ∃ x, imm % 4294967296 = x := ⟨_, rfl⟩
    simp only [searchC]
    rw [fill_29_1 cond rd rn 0 imm list x hx (by omega) (by omega) (by omega) (by omega) (by omega) (by omega) (by omega) (by omega) (by omega) (by omega)]
    cases it
    all_goals (try simp only [searchC, show row_29.asks = 0 from rfl, asks_0, orI_ite2, orI_some, orI_nil, orI_none, z7_iff, Nm.opt, Nm.low, Nm.up, Bool.and_eq_true, Bool.or_eq_true, beq_iff_eq, decide_eq_true_eq, Bool.not_eq_true', bne_self_eq_false, Bool.false_eq_true, Bool.true_eq_false, Bool.not_true, Bool.not_false, bne_iff_ne, ne_eq, not_true_eq_false, not_false_eq_true, reduceCtorEq, true_and, and_true, false_and, and_false, if_true, if_false, ite_self, Int.reduceEq, Int.reduceBEq, Int.reduceLE, Int.reduceLT, Int.reduceSub, Int.reduceMul, true_or, or_true, or_false, false_or, and_self, Bool.bne_false, Bool.bne_true, Bool.false_bne, Bool.true_bne, Bool.not_eq_eq_eq_not, bne_self_eq_false])
    all_goals (repeat' split)
    all_goals first | rfl | (exfalso; omega) | (apply congrArg some; omega)
  · have FF : Im.fieldsI 41 2 false = ⟨24575, 0, 0, -4095, 4095, 1, 0, 0⟩ := rfl
    rw [FF] at h1 h2 q1 q2
    dsimp only at h1 h2 q1 q2
    exfalso; omega
set_option linter.unusedSimpArgs false in
set_option maxHeartbeats 4000000 in
theorem enc_42 (cond rd rn rm imm mode list : Int) (s it : Bool) (hok : Nm.okB ⟨42, cond, rd, rn, rm, imm, mode, list, s⟩ = true) (hw : Nm.Wide list) :
    searchP (traitsI cond rd rn rm mode s it) 42 cond rd rn rm imm list formTab = Nm.rowI ⟨42, cond, rd, rn, rm, imm, mode, list, s⟩ it := by
  obtain ⟨_, h1, h2, h3, h4, h5, h6⟩ := Nm.ok_parts hok
  clear hok
  have h3' := Nm.last_cases h3
  clear h3
  dsimp only at h1 h2 h3' h4 h5 h6
  rw [search_c, show formTab.flatMap (candsOf 42) = cands 42 from rfl, cands_42]
  unfold Nm.rowI Nm.restI
  dsimp only
  have hl := Nm.list_most h4 0 (by decide) rfl hw
  have hc := Nm.conds_is (c := cond) (m := imm) (by simpa [Im.condB] using h5)
  obtain rfl : false = s := Nm.flag_off h6 (by decide)
  clear h4 h5 h6 hw
  rcases h3' with ⟨rfl, q1, q2, rfl, rfl⟩ | ⟨rfl, q1, q2, q3, q4, rfl⟩ | ⟨rfl, q1, q2, rfl⟩
  · have FF : Im.fieldsI 42 0 false = ⟨0, 0, 0, 1, 15, 1, 0, 0⟩ := rfl
    rw [FF] at h1 h2 q1 q2
    dsimp only at h1 h2 q1 q2
    exfalso; omega
  · have FF : Im.fieldsI 42 1 false = ⟨0, 0, 0, 1, 15, 1, 0, 0⟩ := rfl
    rw [FF] at h1 h2 q1 q2 q3 q4
    dsimp only at h1 h2 q1 q2 q3 q4
    have hd : rd = 0 := Nm.one_none h1
    have hn : rn = 0 := Nm.one_none h2
    clear h1 h2
    obtain ⟨x, hx⟩ : ∃ x, imm % 4294967296 = x := ⟨_, rfl⟩
    simp only [searchC]
    rw [fill_30_0 cond rd rn 0 imm list x hx (by omega) (by omega) (by omega) (by omega) (by omega) (by omega) (by omega) (by omega) (by omega) (by omega)]
    cases it
    all_goals (try simp only [searchC, show row_30.asks = 4 from rfl, asks_4, orI_ite2, orI_some, orI_nil, orI_none, z7_iff, Nm.opt, Nm.low, Nm.up, Bool.and_eq_true, Bool.or_eq_true, beq_iff_eq, decide_eq_true_eq, Bool.not_eq_true', bne_self_eq_false, Bool.false_eq_true, Bool.true_eq_false, Bool.not_true, Bool.not_false, bne_iff_ne, ne_eq, not_true_eq_false, not_false_eq_true, reduceCtorEq, true_and, and_true, false_and, and_false, if_true, if_false, ite_self, Int.reduceEq, Int.reduceBEq, Int.reduceLE, Int.reduceLT, Int.reduceSub, Int.reduceMul, true_or, or_true, or_false, false_or, and_self, Bool.bne_false, Bool.bne_true, Bool.false_bne, Bool.true_bne, Bool.not_eq_eq_eq_not, bne_self_eq_false])
    all_goals (repeat' split)
    all_goals first | rfl | (exfalso; omega) | (apply congrArg some; omega)
  · have FF : Im.fieldsI 42 2 false = ⟨0, 0, 0, 1, 15, 1, 0, 0⟩ := rfl
    rw [FF] at h1 h2 q1 q2
    dsimp only at h1 h2 q1 q2
    exfalso; omega
set_option linter.unusedSimpArgs false in
set_option maxHeartbeats 4000000 in
theorem enc_43 (cond rd rn rm imm mode list : Int) (s it : Bool) (hok : Nm.okB ⟨43, cond, rd, rn, rm, imm, mode, list, s⟩ = true) (hw : Nm.Wide list) :
    searchP (traitsI cond rd rn rm mode s it) 43 cond rd rn rm imm list formTab = Nm.rowI ⟨43, cond, rd, rn, rm, imm, mode, list, s⟩ it := by
  obtain ⟨_, h1, h2, h3, h4, h5, h6⟩ := Nm.ok_parts hok
  clear hok
  have h3' := Nm.last_cases h3
  clear h3
  dsimp only at h1 h2 h3' h4 h5 h6
  rw [search_c, show formTab.flatMap (candsOf 43) = cands 43 from rfl, cands_43]
  unfold Nm.rowI Nm.restI
  dsimp only
  have hl := Nm.list_most h4 0 (by decide) rfl hw
  have hc : cond = 0 := by simpa [Im.condB] using h5
  obtain rfl : false = s := Nm.flag_off h6 (by decide)
  clear h4 h5 h6 hw
  rcases h3' with ⟨rfl, q1, q2, rfl, rfl⟩ | ⟨rfl, q1, q2, q3, q4, rfl⟩ | ⟨rfl, q1, q2, rfl⟩
  · have FF : Im.fieldsI 43 0 false = ⟨0, 0, 0, 0, 0, 0, 0, 0⟩ := rfl
    rw [FF] at h1 h2 q1 q2
    dsimp only at h1 h2 q1 q2
    have hd : rd = 0 := Nm.one_none h1
    have hn : rn = 0 := Nm.one_none h2
    clear h1 h2
    obtain ⟨x, hx⟩ : ∃ x, (0 : Int) % 4294967296 = x := ⟨_, rfl⟩
    simp only [searchC]
    rw [fill_31_0 cond rd rn 0 0 list x hx (by omega) (by omega) (by omega) (by omega) (by omega) (by omega) (by omega) (by omega) (by omega) (by omega)]
    cases it
    all_goals (try simp only [searchC, show row_31.asks = 0 from rfl, asks_0, orI_ite2, orI_some, orI_nil, orI_none, z7_iff, Nm.opt, Nm.low, Nm.up, Bool.and_eq_true, Bool.or_eq_true, beq_iff_eq, decide_eq_true_eq, Bool.not_eq_true', bne_self_eq_false, Bool.false_eq_true, Bool.true_eq_false, Bool.not_true, Bool.not_false, bne_iff_ne, ne_eq, not_true_eq_false, not_false_eq_true, reduceCtorEq, true_and, and_true, false_and, and_false, if_true, if_false, ite_self, Int.reduceEq, Int.reduceBEq, Int.reduceLE, Int.reduceLT, Int.reduceSub, Int.reduceMul, true_or, or_true, or_false, false_or, and_self, Bool.bne_false, Bool.bne_true, Bool.false_bne, Bool.true_bne, Bool.not_eq_eq_eq_not, bne_self_eq_false])
    all_goals (repeat' split)
    all_goals first | rfl | (exfalso; omega) | (apply congrArg some; omega)
  · have FF : Im.fieldsI 43 1 false = ⟨0, 0, 0, 0, 0, 0, 0, 0⟩ := rfl
    rw [FF] at h1 h2 q1 q2 q3 q4
    dsimp only at h1 h2 q1 q2 q3 q4
    exfalso; omega
  · have FF : Im.fieldsI 43 2 false = ⟨0, 0, 0, 0, 0, 0, 0, 0⟩ := rfl
    rw [FF] at h1 h2 q1 q2
    dsimp only at h1 h2 q1 q2
    exfalso; omega
set_option linter.unusedSimpArgs false in
set_option maxHeartbeats 4000000 in
theorem enc_44 (cond rd rn rm imm mode list : Int) (s it : Bool) (hok : Nm.okB ⟨44, cond, rd, rn, rm, imm, mode, list, s⟩ = true) (hw : Nm.Wide list) :
    searchP (traitsI cond rd rn rm mode s it) 44 cond rd rn rm imm list formTab = Nm.rowI ⟨44, cond, rd, rn, rm, imm, mode, list, s⟩ it := by
  obtain ⟨_, h1, h2, h3, h4, h5, h6⟩ := Nm.ok_parts hok
  clear hok
  have h3' := Nm.last_cases h3
  clear h3
  dsimp only at h1 h2 h3' h4 h5 h6
  rw [search_c, show formTab.flatMap (candsOf 44) = cands 44 from rfl, cands_44]
  unfold Nm.rowI Nm.restI
  dsimp only
  have hl := Nm.list_most h4 0 (by decide) rfl hw
  have hc : cond = 0 := by simpa [Im.condB] using h5
  obtain rfl : false = s := Nm.flag_off h6 (by decide)
  clear h4 h5 h6 hw
  rcases h3' with ⟨rfl, q1, q2, rfl, rfl⟩ | ⟨rfl, q1, q2, q3, q4, rfl⟩ | ⟨rfl, q1, q2, rfl⟩
  · have FF : Im.fieldsI 44 0 false = ⟨0, 0, 0, 0, 255, 1, 0, 0⟩ := rfl
    rw [FF] at h1 h2 q1 q2
    dsimp only at h1 h2 q1 q2
    exfalso; omega
  · have FF : Im.fieldsI 44 1 false = ⟨0, 0, 0, 0, 255, 1, 0, 0⟩ := rfl
    rw [FF] at h1 h2 q1 q2 q3 q4
    dsimp only at h1 h2 q1 q2 q3 q4
    have hd : rd = 0 := Nm.one_none h1
    have hn : rn = 0 := Nm.one_none h2
    clear h1 h2
    obtain ⟨x, hx⟩ : ∃ x, imm % 4294967296 = x := ⟨_, rfl⟩
    simp only [searchC]
    rw [fill_32_0 cond rd rn 0 imm list x hx (by omega) (by omega) (by omega) (by omega) (by omega) (by omega) (by omega) (by omega) (by omega) (by omega)]
    cases it
    all_goals (try simp only [searchC, show row_32.asks = 0 from rfl, asks_0, orI_ite2, orI_some, orI_nil, orI_none, z7_iff, Nm.opt, Nm.low, Nm.up, Bool.and_eq_true, Bool.or_eq_true, beq_iff_eq, decide_eq_true_eq, Bool.not_eq_true', bne_self_eq_false, Bool.false_eq_true, Bool.true_eq_false, Bool.not_true, Bool.not_false, bne_iff_ne, ne_eq, not_true_eq_false, not_false_eq_true, reduceCtorEq, true_and, and_true, false_and, and_false, if_true, if_false, ite_self, Int.reduceEq, Int.reduceBEq, Int.reduceLE, Int.reduceLT, Int.reduceSub, Int.reduceMul, true_or, or_true, or_false, false_or, and_self, Bool.bne_false, Bool.bne_true, Bool.false_bne, Bool.true_bne, Bool.not_eq_eq_eq_not, bne_self_eq_false])
    all_goals (repeat' split)
    all_goals first | rfl | (exfalso; omega) | (apply congrArg some; omega)
  · have FF : Im.fieldsI 44 2 false = ⟨0, 0, 0, 0, 255, 1, 0, 0⟩ := rfl
    rw [FF] at h1 h2 q1 q2
    dsimp only at h1 h2 q1 q2
    exfalso; omega
set_option linter.unusedSimpArgs false in
set_option maxHeartbeats 4000000 in
theorem enc_45 (cond rd rn rm imm mode list : Int) (s it : Bool) (hok : Nm.okB ⟨45, cond, rd, rn, rm, imm, mode, list, s⟩ = true) (hw : Nm.Wide list) :
    searchP (traitsI cond rd rn rm mode s it) 45 cond rd rn rm imm list formTab = Nm.rowI ⟨45, cond, rd, rn, rm, imm, mode, list, s⟩ it := by
  obtain ⟨_, h1, h2, h3, h4, h5, h6⟩ := Nm.ok_parts hok
  clear hok
  have h3' := Nm.last_cases h3
  clear h3
  dsimp only at h1 h2 h3' h4 h5 h6
  rw [search_c, show formTab.flatMap (candsOf 45) = cands 45 from rfl, cands_45]
  unfold Nm.rowI Nm.restI
  dsimp only
  have hl := Nm.list_most h4 0 (by decide) rfl hw
  have hc : cond = 0 := by simpa [Im.condB] using h5
  obtain rfl : false = s := Nm.flag_off h6 (by decide)
  clear h4 h5 h6 hw
  rcases h3' with ⟨rfl, q1, q2, rfl, rfl⟩ | ⟨rfl, q1, q2, q3, q4, rfl⟩ | ⟨rfl, q1, q2, rfl⟩
  · have FF : Im.fieldsI 45 0 false = ⟨0, 24575, 24575, 0, 0, 0, 0, 0⟩ := rfl
    rw [FF] at h1 h2 q1 q2
    dsimp only at h1 h2 q1 q2
    exfalso; omega
  · have FF : Im.fieldsI 45 1 false = ⟨0, 24575, 24575, 0, 0, 0, 0, 0⟩ := rfl
    rw [FF] at h1 h2 q1 q2 q3 q4
    dsimp only at h1 h2 q1 q2 q3 q4
    exfalso; omega
  · have FF : Im.fieldsI 45 2 false = ⟨0, 24575, 24575, 0, 0, 0, 0, 0⟩ := rfl
    rw [FF] at h1 h2 q1 q2
    dsimp only at h1 h2 q1 q2
    have hd : rd = 0 := Nm.one_none h1
    have hn := Nm.one_in h2 (by decide)
    have hm := Nm.one_in q2 (by decide)
    clear h1 h2
    obtain ⟨x, hx⟩ : ∃ x, (0 : Int) % 4294967296 = x := ⟨_, rfl⟩
    simp only [searchC]
    cases it
    all_goals (try simp only [searchC, orI_nil, orI_ite2, orI_some, orI_nil, orI_none, z7_iff, Nm.opt, Nm.low, Nm.up, Bool.and_eq_true, Bool.or_eq_true, beq_iff_eq, decide_eq_true_eq, Bool.not_eq_true', bne_self_eq_false, Bool.false_eq_true, Bool.true_eq_false, Bool.not_true, Bool.not_false, bne_iff_ne, ne_eq, not_true_eq_false, not_false_eq_true, reduceCtorEq, true_and, and_true, false_and, and_false, if_true, if_false, ite_self, Int.reduceEq, Int.reduceBEq, Int.reduceLE, Int.reduceLT, Int.reduceSub, Int.reduceMul, true_or, or_true, or_false, false_or, and_self, Bool.bne_false, Bool.bne_true, Bool.false_bne, Bool.true_bne, Bool.not_eq_eq_eq_not, bne_self_eq_false])
    all_goals (repeat' split)
    all_goals first | rfl | (exfalso; omega) | (apply congrArg some; omega)
end Pl
end Go.Proofs.YtmofimgodmcdjaaDoor

namespace Go.Proofs.YtmofimgodmcdjaaDoor
open Go.ChangeShapes Go.WideShapes Go.ChangeAt Go.RowKit
namespace Pl

theorem enc_all (op cond rd rn rm imm mode list : Int) (s it : Bool) (hok : Nm.okB ⟨op, cond, rd, rn, rm, imm, mode, list, s⟩ = true) (hw : Nm.Wide list) :
    searchP (traitsI cond rd rn rm mode s it) op cond rd rn rm imm list formTab = Nm.rowI ⟨op, cond, rd, rn, rm, imm, mode, list, s⟩ it := by
  have h := (Nm.ok_parts hok).1
  dsimp only at h
  rcases (by omega : op = 1 ∨ op = 2 ∨ op = 3 ∨ op = 4 ∨ op = 5 ∨ op = 6 ∨ op = 7 ∨ op = 8 ∨ op = 9 ∨ op = 10 ∨ op = 11 ∨ op = 12 ∨ op = 13 ∨ op = 14 ∨ op = 15 ∨ op = 16 ∨ op = 17 ∨ op = 18 ∨ op = 19 ∨ op = 20 ∨ op = 21 ∨ op = 22 ∨ op = 23 ∨ op = 24 ∨ op = 25 ∨ op = 26 ∨ op = 27 ∨ op = 28 ∨ op = 29 ∨ op = 30 ∨ op = 31 ∨ op = 32 ∨ op = 33 ∨ op = 34 ∨ op = 35 ∨ op = 36 ∨ op = 37 ∨ op = 38 ∨ op = 39 ∨ op = 40 ∨ op = 41 ∨ op = 42 ∨ op = 43 ∨ op = 44 ∨ op = 45) with rfl | rfl | rfl | rfl | rfl | rfl | rfl | rfl | rfl | rfl | rfl | rfl | rfl | rfl | rfl | rfl | rfl | rfl | rfl | rfl | rfl | rfl | rfl | rfl | rfl | rfl | rfl | rfl | rfl | rfl | rfl | rfl | rfl | rfl | rfl | rfl | rfl | rfl | rfl | rfl | rfl | rfl | rfl | rfl | rfl
  · exact enc_1 cond rd rn rm imm mode list s it hok hw
  · exact enc_2 cond rd rn rm imm mode list s it hok hw
  · exact enc_3 cond rd rn rm imm mode list s it hok hw
  · exact enc_4 cond rd rn rm imm mode list s it hok hw
  · exact enc_5 cond rd rn rm imm mode list s it hok hw
  · exact enc_6 cond rd rn rm imm mode list s it hok hw
  · exact enc_7 cond rd rn rm imm mode list s it hok hw
  · exact enc_8 cond rd rn rm imm mode list s it hok hw
  · exact enc_9 cond rd rn rm imm mode list s it hok hw
  · exact enc_10 cond rd rn rm imm mode list s it hok hw
  · exact enc_11 cond rd rn rm imm mode list s it hok hw
  · exact enc_12 cond rd rn rm imm mode list s it hok hw
  · exact enc_13 cond rd rn rm imm mode list s it hok hw
  · exact enc_14 cond rd rn rm imm mode list s it hok hw
  · exact enc_15 cond rd rn rm imm mode list s it hok hw
  · exact enc_16 cond rd rn rm imm mode list s it hok hw
  · exact enc_17 cond rd rn rm imm mode list s it hok hw
  · exact enc_18 cond rd rn rm imm mode list s it hok hw
  · exact enc_19 cond rd rn rm imm mode list s it hok hw
  · exact enc_20 cond rd rn rm imm mode list s it hok hw
  · exact enc_21 cond rd rn rm imm mode list s it hok hw
  · exact enc_22 cond rd rn rm imm mode list s it hok hw
  · exact enc_23 cond rd rn rm imm mode list s it hok hw
  · exact enc_24 cond rd rn rm imm mode list s it hok hw
  · exact enc_25 cond rd rn rm imm mode list s it hok hw
  · exact enc_26 cond rd rn rm imm mode list s it hok hw
  · exact enc_27 cond rd rn rm imm mode list s it hok hw
  · exact enc_28 cond rd rn rm imm mode list s it hok hw
  · exact enc_29 cond rd rn rm imm mode list s it hok hw
  · exact enc_30 cond rd rn rm imm mode list s it hok hw
  · exact enc_31 cond rd rn rm imm mode list s it hok hw
  · exact enc_32 cond rd rn rm imm mode list s it hok hw
  · exact enc_33 cond rd rn rm imm mode list s it hok hw
  · exact enc_34 cond rd rn rm imm mode list s it hok hw
  · exact enc_35 cond rd rn rm imm mode list s it hok hw
  · exact enc_36 cond rd rn rm imm mode list s it hok hw
  · exact enc_37 cond rd rn rm imm mode list s it hok hw
  · exact enc_38 cond rd rn rm imm mode list s it hok hw
  · exact enc_39 cond rd rn rm imm mode list s it hok hw
  · exact enc_40 cond rd rn rm imm mode list s it hok hw
  · exact enc_41 cond rd rn rm imm mode list s it hok hw
  · exact enc_42 cond rd rn rm imm mode list s it hok hw
  · exact enc_43 cond rd rn rm imm mode list s it hok hw
  · exact enc_44 cond rd rn rm imm mode list s it hok hw
  · exact enc_45 cond rd rn rm imm mode list s it hok hw
theorem enc_is (op cond rd rn rm imm mode list : Int) (s it : Bool) (hw : Nm.Wide list) : encP op cond rd rn rm imm mode list s it = Nm.encI ⟨op, cond, rd, rn, rm, imm, mode, list, s⟩ it := by
  unfold encP Nm.encI
  by_cases hok : Im.checkB op cond rd rn rm imm mode list s = true
  · rw [if_pos hok, if_pos (show Nm.okB ⟨op, cond, rd, rn, rm, imm, mode, list, s⟩ = true from hok)]
    exact enc_all op cond rd rn rm imm mode list s it hok hw
  · rw [if_neg hok, if_neg (show ¬ Nm.okB ⟨op, cond, rd, rn, rm, imm, mode, list, s⟩ = true from hok)]
end Pl
end Go.Proofs.YtmofimgodmcdjaaDoor
