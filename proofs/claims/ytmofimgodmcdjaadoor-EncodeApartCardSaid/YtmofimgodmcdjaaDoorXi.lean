/- The search over wide's forms, plainly: shifts, products, numbers of sixteen bits (text by gen_xi.py). No conditions but those that each fact names. -/
import Derived.Test.YtmofimgodmcdjaaDoorXp
namespace Go.Proofs.YtmofimgodmcdjaaDoor
open Go.ChangeShapes Go.WideShapes Go.ChangeAt Go.RowKit
namespace Xw

theorem we_16t (cond rd rn rm imm mode list : Int) (it : Bool) (hok : Nm.okB ⟨16, cond, rd, rn, rm, imm, mode, list, true⟩ = true) (hw : Nm.Wide list) :
    (searchP 16 cond rd rn rm imm mode list true it formT).map splitW = Wm.rowW Wm.findF ⟨16, cond, rd, rn, rm, imm, mode, list, true⟩ it := by
  obtain ⟨_, h1, h2, h3, h4, h5, h6⟩ := Nm.ok_parts hok
  clear hok
  have h3' := Nm.last_cases h3
  clear h3
  dsimp only at h1 h2 h3' h4 h5 h6
  have hl := Nm.list_most h4 0 (by decide) rfl hw
  have hc : cond = 0 := by simpa [Im.condB] using h5
  clear h4 h5 h6
  rcases h3' with ⟨rfl, q1, q2, rfl, rfl⟩ | ⟨rfl, q1, q2, q3, q4, rfl⟩ | ⟨rfl, q1, q2, rfl⟩
  · cases (show (1 : Int) = 0 from q1)
  · replace q2 : 1 ≤ imm := q2
    replace q3 : imm ≤ 31 := q3
    clear q1 q4
    have hd := Wm.one_12 h1
    have hn := Wm.one_12 h2
    clear h1 h2
    have hR : Wm.rowW Wm.findF ⟨16, cond, rd, rn, 0, imm, 1, list, true⟩ it = some (59983 + 16, imm % 32 / 4 * 4096 + rd * 256 + imm % 4 * 64 + (16 - 16) * 16 + rn) := by
      unfold Wm.rowW Wm.shiftW
      dsimp only
      repeat (first | rw [if_neg (by omega)] | rw [if_pos (by omega)])
      rw [Wm.fl_t]
    rw [hR]
    rw [search_is, cands_16]
    simp only [searchC]
    rw [takesP_1, fieldsP_3, takesP_2, fieldsP_2]
    rw [if_pos (by decide : ((1 : Int) == 1) = true)]
    rw [join_shifted 3931045888 rn rd 0 imm true (by omega) (by omega) (by omega) (by omega) (by omega) rfl (by omega) (by omega) (by omega) (by omega) (by omega) (by omega) (by omega) (by omega), show sB true = 1 from rfl]
    exact some_split _ _ _ (by omega) (by omega) (by omega)
  · have hm := Wm.one_12 q2
    clear q1 q2
    have hd := Wm.one_12 h1
    have hn := Wm.one_12 h2
    clear h1 h2
    have hR : Wm.rowW Wm.findF ⟨16, cond, rd, rn, rm, 0, 2, list, true⟩ it = some (64000 + (16 - 16) * 32 + 16 + rn, 61440 + rd * 256 + rm) := by
      unfold Wm.rowW Wm.shiftW
      dsimp only
      repeat (first | rw [if_neg (by omega)] | rw [if_pos (by omega)])
      rw [Wm.fl_t]
    rw [hR]
    rw [search_is, cands_16]
    simp only [searchC]
    rw [takesP_1, fieldsP_3, takesP_2, fieldsP_2]
    rw [if_neg (by decide), if_pos (by decide : ((2 : Int) == 2) = true)]
    rw [join_reg 4194365440 rn rd rm true (by omega) (by omega) (by omega) (by omega) (by omega) (by omega) (by omega) (by omega) (by omega) (by omega) (by omega) (.inr (by omega)) (by omega), show sB true = 1 from rfl]
    exact some_split _ _ _ (by omega) (by omega) (by omega)
theorem we_16f (cond rd rn rm imm mode list : Int) (it : Bool) (hok : Nm.okB ⟨16, cond, rd, rn, rm, imm, mode, list, false⟩ = true) (hw : Nm.Wide list) :
    (searchP 16 cond rd rn rm imm mode list false it formT).map splitW = Wm.rowW Wm.findF ⟨16, cond, rd, rn, rm, imm, mode, list, false⟩ it := by
  obtain ⟨_, h1, h2, h3, h4, h5, h6⟩ := Nm.ok_parts hok
  clear hok
  have h3' := Nm.last_cases h3
  clear h3
  dsimp only at h1 h2 h3' h4 h5 h6
  have hl := Nm.list_most h4 0 (by decide) rfl hw
  have hc : cond = 0 := by simpa [Im.condB] using h5
  clear h4 h5 h6
  rcases h3' with ⟨rfl, q1, q2, rfl, rfl⟩ | ⟨rfl, q1, q2, q3, q4, rfl⟩ | ⟨rfl, q1, q2, rfl⟩
  · cases (show (1 : Int) = 0 from q1)
  · replace q2 : 1 ≤ imm := q2
    replace q3 : imm ≤ 31 := q3
    clear q1 q4
    have hd := Wm.one_12 h1
    have hn := Wm.one_12 h2
    clear h1 h2
    have hR : Wm.rowW Wm.findF ⟨16, cond, rd, rn, 0, imm, 1, list, false⟩ it = some (59983 + 0, imm % 32 / 4 * 4096 + rd * 256 + imm % 4 * 64 + (16 - 16) * 16 + rn) := by
      unfold Wm.rowW Wm.shiftW
      dsimp only
      repeat (first | rw [if_neg (by omega)] | rw [if_pos (by omega)])
      rw [Wm.fl_f _ _ _ _ _ _ _ _ (by decide)]
    rw [hR]
    rw [search_is, cands_16]
    simp only [searchC]
    rw [takesP_1, fieldsP_3, takesP_2, fieldsP_2]
    rw [if_pos (by decide : ((1 : Int) == 1) = true)]
    rw [join_shifted 3931045888 rn rd 0 imm false (by omega) (by omega) (by omega) (by omega) (by omega) rfl (by omega) (by omega) (by omega) (by omega) (by omega) (by omega) (by omega) (by omega), show sB false = 0 from rfl]
    exact some_split _ _ _ (by omega) (by omega) (by omega)
  · have hm := Wm.one_12 q2
    clear q1 q2
    have hd := Wm.one_12 h1
    have hn := Wm.one_12 h2
    clear h1 h2
    have hR : Wm.rowW Wm.findF ⟨16, cond, rd, rn, rm, 0, 2, list, false⟩ it = some (64000 + (16 - 16) * 32 + 0 + rn, 61440 + rd * 256 + rm) := by
      unfold Wm.rowW Wm.shiftW
      dsimp only
      repeat (first | rw [if_neg (by omega)] | rw [if_pos (by omega)])
      rw [Wm.fl_f _ _ _ _ _ _ _ _ (by decide)]
    rw [hR]
    rw [search_is, cands_16]
    simp only [searchC]
    rw [takesP_1, fieldsP_3, takesP_2, fieldsP_2]
    rw [if_neg (by decide), if_pos (by decide : ((2 : Int) == 2) = true)]
    rw [join_reg 4194365440 rn rd rm false (by omega) (by omega) (by omega) (by omega) (by omega) (by omega) (by omega) (by omega) (by omega) (by omega) (by omega) (.inl rfl) (by omega), show sB false = 0 from rfl]
    exact some_split _ _ _ (by omega) (by omega) (by omega)
theorem we_16 (cond rd rn rm imm mode list : Int) (s it : Bool) (hok : Nm.okB ⟨16, cond, rd, rn, rm, imm, mode, list, s⟩ = true) (hw : Nm.Wide list) :
    (searchP 16 cond rd rn rm imm mode list s it formT).map splitW = Wm.rowW Wm.findF ⟨16, cond, rd, rn, rm, imm, mode, list, s⟩ it := by
  cases s
  · exact we_16f cond rd rn rm imm mode list it hok hw
  · exact we_16t cond rd rn rm imm mode list it hok hw
theorem we_17t (cond rd rn rm imm mode list : Int) (it : Bool) (hok : Nm.okB ⟨17, cond, rd, rn, rm, imm, mode, list, true⟩ = true) (hw : Nm.Wide list) :
    (searchP 17 cond rd rn rm imm mode list true it formT).map splitW = Wm.rowW Wm.findF ⟨17, cond, rd, rn, rm, imm, mode, list, true⟩ it := by
  obtain ⟨_, h1, h2, h3, h4, h5, h6⟩ := Nm.ok_parts hok
  clear hok
  have h3' := Nm.last_cases h3
  clear h3
  dsimp only at h1 h2 h3' h4 h5 h6
  have hl := Nm.list_most h4 0 (by decide) rfl hw
  have hc : cond = 0 := by simpa [Im.condB] using h5
  clear h4 h5 h6
  rcases h3' with ⟨rfl, q1, q2, rfl, rfl⟩ | ⟨rfl, q1, q2, q3, q4, rfl⟩ | ⟨rfl, q1, q2, rfl⟩
  · cases (show (1 : Int) = 0 from q1)
  · replace q2 : 1 ≤ imm := q2
    replace q3 : imm ≤ 32 := q3
    clear q1 q4
    have hd := Wm.one_12 h1
    have hn := Wm.one_12 h2
    clear h1 h2
    have hR : Wm.rowW Wm.findF ⟨17, cond, rd, rn, 0, imm, 1, list, true⟩ it = some (59983 + 16, imm % 32 / 4 * 4096 + rd * 256 + imm % 4 * 64 + (17 - 16) * 16 + rn) := by
      unfold Wm.rowW Wm.shiftW
      dsimp only
      repeat (first | rw [if_neg (by omega)] | rw [if_pos (by omega)])
      rw [Wm.fl_t]
    rw [hR]
    rw [search_is, cands_17]
    simp only [searchC]
    rw [takesP_1, fieldsP_3, takesP_2, fieldsP_2]
    rw [if_pos (by decide : ((1 : Int) == 1) = true)]
    rw [join_shifted 3931045904 rn rd 0 imm true (by omega) (by omega) (by omega) (by omega) (by omega) rfl (by omega) (by omega) (by omega) (by omega) (by omega) (by omega) (by omega) (by omega), show sB true = 1 from rfl]
    exact some_split _ _ _ (by omega) (by omega) (by omega)
  · have hm := Wm.one_12 q2
    clear q1 q2
    have hd := Wm.one_12 h1
    have hn := Wm.one_12 h2
    clear h1 h2
    have hR : Wm.rowW Wm.findF ⟨17, cond, rd, rn, rm, 0, 2, list, true⟩ it = some (64000 + (17 - 16) * 32 + 16 + rn, 61440 + rd * 256 + rm) := by
      unfold Wm.rowW Wm.shiftW
      dsimp only
      repeat (first | rw [if_neg (by omega)] | rw [if_pos (by omega)])
      rw [Wm.fl_t]
    rw [hR]
    rw [search_is, cands_17]
    simp only [searchC]
    rw [takesP_1, fieldsP_3, takesP_2, fieldsP_2]
    rw [if_neg (by decide), if_pos (by decide : ((2 : Int) == 2) = true)]
    rw [join_reg 4196462592 rn rd rm true (by omega) (by omega) (by omega) (by omega) (by omega) (by omega) (by omega) (by omega) (by omega) (by omega) (by omega) (.inr (by omega)) (by omega), show sB true = 1 from rfl]
    exact some_split _ _ _ (by omega) (by omega) (by omega)
theorem we_17f (cond rd rn rm imm mode list : Int) (it : Bool) (hok : Nm.okB ⟨17, cond, rd, rn, rm, imm, mode, list, false⟩ = true) (hw : Nm.Wide list) :
    (searchP 17 cond rd rn rm imm mode list false it formT).map splitW = Wm.rowW Wm.findF ⟨17, cond, rd, rn, rm, imm, mode, list, false⟩ it := by
  obtain ⟨_, h1, h2, h3, h4, h5, h6⟩ := Nm.ok_parts hok
  clear hok
  have h3' := Nm.last_cases h3
  clear h3
  dsimp only at h1 h2 h3' h4 h5 h6
  have hl := Nm.list_most h4 0 (by decide) rfl hw
  have hc : cond = 0 := by simpa [Im.condB] using h5
  clear h4 h5 h6
  rcases h3' with ⟨rfl, q1, q2, rfl, rfl⟩ | ⟨rfl, q1, q2, q3, q4, rfl⟩ | ⟨rfl, q1, q2, rfl⟩
  · cases (show (1 : Int) = 0 from q1)
  · replace q2 : 1 ≤ imm := q2
    replace q3 : imm ≤ 32 := q3
    clear q1 q4
    have hd := Wm.one_12 h1
    have hn := Wm.one_12 h2
    clear h1 h2
    have hR : Wm.rowW Wm.findF ⟨17, cond, rd, rn, 0, imm, 1, list, false⟩ it = some (59983 + 0, imm % 32 / 4 * 4096 + rd * 256 + imm % 4 * 64 + (17 - 16) * 16 + rn) := by
      unfold Wm.rowW Wm.shiftW
      dsimp only
      repeat (first | rw [if_neg (by omega)] | rw [if_pos (by omega)])
      rw [Wm.fl_f _ _ _ _ _ _ _ _ (by decide)]
    rw [hR]
    rw [search_is, cands_17]
    simp only [searchC]
    rw [takesP_1, fieldsP_3, takesP_2, fieldsP_2]
    rw [if_pos (by decide : ((1 : Int) == 1) = true)]
    rw [join_shifted 3931045904 rn rd 0 imm false (by omega) (by omega) (by omega) (by omega) (by omega) rfl (by omega) (by omega) (by omega) (by omega) (by omega) (by omega) (by omega) (by omega), show sB false = 0 from rfl]
    exact some_split _ _ _ (by omega) (by omega) (by omega)
  · have hm := Wm.one_12 q2
    clear q1 q2
    have hd := Wm.one_12 h1
    have hn := Wm.one_12 h2
    clear h1 h2
    have hR : Wm.rowW Wm.findF ⟨17, cond, rd, rn, rm, 0, 2, list, false⟩ it = some (64000 + (17 - 16) * 32 + 0 + rn, 61440 + rd * 256 + rm) := by
      unfold Wm.rowW Wm.shiftW
      dsimp only
      repeat (first | rw [if_neg (by omega)] | rw [if_pos (by omega)])
      rw [Wm.fl_f _ _ _ _ _ _ _ _ (by decide)]
    rw [hR]
    rw [search_is, cands_17]
    simp only [searchC]
    rw [takesP_1, fieldsP_3, takesP_2, fieldsP_2]
    rw [if_neg (by decide), if_pos (by decide : ((2 : Int) == 2) = true)]
    rw [join_reg 4196462592 rn rd rm false (by omega) (by omega) (by omega) (by omega) (by omega) (by omega) (by omega) (by omega) (by omega) (by omega) (by omega) (.inl rfl) (by omega), show sB false = 0 from rfl]
    exact some_split _ _ _ (by omega) (by omega) (by omega)
theorem we_17 (cond rd rn rm imm mode list : Int) (s it : Bool) (hok : Nm.okB ⟨17, cond, rd, rn, rm, imm, mode, list, s⟩ = true) (hw : Nm.Wide list) :
    (searchP 17 cond rd rn rm imm mode list s it formT).map splitW = Wm.rowW Wm.findF ⟨17, cond, rd, rn, rm, imm, mode, list, s⟩ it := by
  cases s
  · exact we_17f cond rd rn rm imm mode list it hok hw
  · exact we_17t cond rd rn rm imm mode list it hok hw
theorem we_18t (cond rd rn rm imm mode list : Int) (it : Bool) (hok : Nm.okB ⟨18, cond, rd, rn, rm, imm, mode, list, true⟩ = true) (hw : Nm.Wide list) :
    (searchP 18 cond rd rn rm imm mode list true it formT).map splitW = Wm.rowW Wm.findF ⟨18, cond, rd, rn, rm, imm, mode, list, true⟩ it := by
  obtain ⟨_, h1, h2, h3, h4, h5, h6⟩ := Nm.ok_parts hok
  clear hok
  have h3' := Nm.last_cases h3
  clear h3
  dsimp only at h1 h2 h3' h4 h5 h6
  have hl := Nm.list_most h4 0 (by decide) rfl hw
  have hc : cond = 0 := by simpa [Im.condB] using h5
  clear h4 h5 h6
  rcases h3' with ⟨rfl, q1, q2, rfl, rfl⟩ | ⟨rfl, q1, q2, q3, q4, rfl⟩ | ⟨rfl, q1, q2, rfl⟩
  · cases (show (1 : Int) = 0 from q1)
  · replace q2 : 1 ≤ imm := q2
    replace q3 : imm ≤ 32 := q3
    clear q1 q4
    have hd := Wm.one_12 h1
    have hn := Wm.one_12 h2
    clear h1 h2
    have hR : Wm.rowW Wm.findF ⟨18, cond, rd, rn, 0, imm, 1, list, true⟩ it = some (59983 + 16, imm % 32 / 4 * 4096 + rd * 256 + imm % 4 * 64 + (18 - 16) * 16 + rn) := by
      unfold Wm.rowW Wm.shiftW
      dsimp only
      repeat (first | rw [if_neg (by omega)] | rw [if_pos (by omega)])
      rw [Wm.fl_t]
    rw [hR]
    rw [search_is, cands_18]
    simp only [searchC]
    rw [takesP_1, fieldsP_3, takesP_2, fieldsP_2]
    rw [if_pos (by decide : ((1 : Int) == 1) = true)]
    rw [join_shifted 3931045920 rn rd 0 imm true (by omega) (by omega) (by omega) (by omega) (by omega) rfl (by omega) (by omega) (by omega) (by omega) (by omega) (by omega) (by omega) (by omega), show sB true = 1 from rfl]
    exact some_split _ _ _ (by omega) (by omega) (by omega)
  · have hm := Wm.one_12 q2
    clear q1 q2
    have hd := Wm.one_12 h1
    have hn := Wm.one_12 h2
    clear h1 h2
    have hR : Wm.rowW Wm.findF ⟨18, cond, rd, rn, rm, 0, 2, list, true⟩ it = some (64000 + (18 - 16) * 32 + 16 + rn, 61440 + rd * 256 + rm) := by
      unfold Wm.rowW Wm.shiftW
      dsimp only
      repeat (first | rw [if_neg (by omega)] | rw [if_pos (by omega)])
      rw [Wm.fl_t]
    rw [hR]
    rw [search_is, cands_18]
    simp only [searchC]
    rw [takesP_1, fieldsP_3, takesP_2, fieldsP_2]
    rw [if_neg (by decide), if_pos (by decide : ((2 : Int) == 2) = true)]
    rw [join_reg 4198559744 rn rd rm true (by omega) (by omega) (by omega) (by omega) (by omega) (by omega) (by omega) (by omega) (by omega) (by omega) (by omega) (.inr (by omega)) (by omega), show sB true = 1 from rfl]
    exact some_split _ _ _ (by omega) (by omega) (by omega)
theorem we_18f (cond rd rn rm imm mode list : Int) (it : Bool) (hok : Nm.okB ⟨18, cond, rd, rn, rm, imm, mode, list, false⟩ = true) (hw : Nm.Wide list) :
    (searchP 18 cond rd rn rm imm mode list false it formT).map splitW = Wm.rowW Wm.findF ⟨18, cond, rd, rn, rm, imm, mode, list, false⟩ it := by
  obtain ⟨_, h1, h2, h3, h4, h5, h6⟩ := Nm.ok_parts hok
  clear hok
  have h3' := Nm.last_cases h3
  clear h3
  dsimp only at h1 h2 h3' h4 h5 h6
  have hl := Nm.list_most h4 0 (by decide) rfl hw
  have hc : cond = 0 := by simpa [Im.condB] using h5
  clear h4 h5 h6
  rcases h3' with ⟨rfl, q1, q2, rfl, rfl⟩ | ⟨rfl, q1, q2, q3, q4, rfl⟩ | ⟨rfl, q1, q2, rfl⟩
  · cases (show (1 : Int) = 0 from q1)
  · replace q2 : 1 ≤ imm := q2
    replace q3 : imm ≤ 32 := q3
    clear q1 q4
    have hd := Wm.one_12 h1
    have hn := Wm.one_12 h2
    clear h1 h2
    have hR : Wm.rowW Wm.findF ⟨18, cond, rd, rn, 0, imm, 1, list, false⟩ it = some (59983 + 0, imm % 32 / 4 * 4096 + rd * 256 + imm % 4 * 64 + (18 - 16) * 16 + rn) := by
      unfold Wm.rowW Wm.shiftW
      dsimp only
      repeat (first | rw [if_neg (by omega)] | rw [if_pos (by omega)])
      rw [Wm.fl_f _ _ _ _ _ _ _ _ (by decide)]
    rw [hR]
    rw [search_is, cands_18]
    simp only [searchC]
    rw [takesP_1, fieldsP_3, takesP_2, fieldsP_2]
    rw [if_pos (by decide : ((1 : Int) == 1) = true)]
    rw [join_shifted 3931045920 rn rd 0 imm false (by omega) (by omega) (by omega) (by omega) (by omega) rfl (by omega) (by omega) (by omega) (by omega) (by omega) (by omega) (by omega) (by omega), show sB false = 0 from rfl]
    exact some_split _ _ _ (by omega) (by omega) (by omega)
  · have hm := Wm.one_12 q2
    clear q1 q2
    have hd := Wm.one_12 h1
    have hn := Wm.one_12 h2
    clear h1 h2
    have hR : Wm.rowW Wm.findF ⟨18, cond, rd, rn, rm, 0, 2, list, false⟩ it = some (64000 + (18 - 16) * 32 + 0 + rn, 61440 + rd * 256 + rm) := by
      unfold Wm.rowW Wm.shiftW
      dsimp only
      repeat (first | rw [if_neg (by omega)] | rw [if_pos (by omega)])
      rw [Wm.fl_f _ _ _ _ _ _ _ _ (by decide)]
    rw [hR]
    rw [search_is, cands_18]
    simp only [searchC]
    rw [takesP_1, fieldsP_3, takesP_2, fieldsP_2]
    rw [if_neg (by decide), if_pos (by decide : ((2 : Int) == 2) = true)]
    rw [join_reg 4198559744 rn rd rm false (by omega) (by omega) (by omega) (by omega) (by omega) (by omega) (by omega) (by omega) (by omega) (by omega) (by omega) (.inl rfl) (by omega), show sB false = 0 from rfl]
    exact some_split _ _ _ (by omega) (by omega) (by omega)
theorem we_18 (cond rd rn rm imm mode list : Int) (s it : Bool) (hok : Nm.okB ⟨18, cond, rd, rn, rm, imm, mode, list, s⟩ = true) (hw : Nm.Wide list) :
    (searchP 18 cond rd rn rm imm mode list s it formT).map splitW = Wm.rowW Wm.findF ⟨18, cond, rd, rn, rm, imm, mode, list, s⟩ it := by
  cases s
  · exact we_18f cond rd rn rm imm mode list it hok hw
  · exact we_18t cond rd rn rm imm mode list it hok hw
theorem we_19t (cond rd rn rm imm mode list : Int) (it : Bool) (hok : Nm.okB ⟨19, cond, rd, rn, rm, imm, mode, list, true⟩ = true) (hw : Nm.Wide list) :
    (searchP 19 cond rd rn rm imm mode list true it formT).map splitW = Wm.rowW Wm.findF ⟨19, cond, rd, rn, rm, imm, mode, list, true⟩ it := by
  obtain ⟨_, h1, h2, h3, h4, h5, h6⟩ := Nm.ok_parts hok
  clear hok
  have h3' := Nm.last_cases h3
  clear h3
  dsimp only at h1 h2 h3' h4 h5 h6
  have hl := Nm.list_most h4 0 (by decide) rfl hw
  have hc : cond = 0 := by simpa [Im.condB] using h5
  clear h4 h5 h6
  rcases h3' with ⟨rfl, q1, q2, rfl, rfl⟩ | ⟨rfl, q1, q2, q3, q4, rfl⟩ | ⟨rfl, q1, q2, rfl⟩
  · cases (show (1 : Int) = 0 from q1)
  · replace q2 : 1 ≤ imm := q2
    replace q3 : imm ≤ 31 := q3
    clear q1 q4
    have hd := Wm.one_12 h1
    have hn := Wm.one_12 h2
    clear h1 h2
    have hR : Wm.rowW Wm.findF ⟨19, cond, rd, rn, 0, imm, 1, list, true⟩ it = some (59983 + 16, imm % 32 / 4 * 4096 + rd * 256 + imm % 4 * 64 + (19 - 16) * 16 + rn) := by
      unfold Wm.rowW Wm.shiftW
      dsimp only
      repeat (first | rw [if_neg (by omega)] | rw [if_pos (by omega)])
      rw [Wm.fl_t]
    rw [hR]
    rw [search_is, cands_19]
    simp only [searchC]
    rw [takesP_1, fieldsP_3, takesP_2, fieldsP_2]
    rw [if_pos (by decide : ((1 : Int) == 1) = true)]
    rw [join_shifted 3931045936 rn rd 0 imm true (by omega) (by omega) (by omega) (by omega) (by omega) rfl (by omega) (by omega) (by omega) (by omega) (by omega) (by omega) (by omega) (by omega), show sB true = 1 from rfl]
    exact some_split _ _ _ (by omega) (by omega) (by omega)
  · have hm := Wm.one_12 q2
    clear q1 q2
    have hd := Wm.one_12 h1
    have hn := Wm.one_12 h2
    clear h1 h2
    have hR : Wm.rowW Wm.findF ⟨19, cond, rd, rn, rm, 0, 2, list, true⟩ it = some (64000 + (19 - 16) * 32 + 16 + rn, 61440 + rd * 256 + rm) := by
      unfold Wm.rowW Wm.shiftW
      dsimp only
      repeat (first | rw [if_neg (by omega)] | rw [if_pos (by omega)])
      rw [Wm.fl_t]
    rw [hR]
    rw [search_is, cands_19]
    simp only [searchC]
    rw [takesP_1, fieldsP_3, takesP_2, fieldsP_2]
    rw [if_neg (by decide), if_pos (by decide : ((2 : Int) == 2) = true)]
    rw [join_reg 4200656896 rn rd rm true (by omega) (by omega) (by omega) (by omega) (by omega) (by omega) (by omega) (by omega) (by omega) (by omega) (by omega) (.inr (by omega)) (by omega), show sB true = 1 from rfl]
    exact some_split _ _ _ (by omega) (by omega) (by omega)
theorem we_19f (cond rd rn rm imm mode list : Int) (it : Bool) (hok : Nm.okB ⟨19, cond, rd, rn, rm, imm, mode, list, false⟩ = true) (hw : Nm.Wide list) :
    (searchP 19 cond rd rn rm imm mode list false it formT).map splitW = Wm.rowW Wm.findF ⟨19, cond, rd, rn, rm, imm, mode, list, false⟩ it := by
  obtain ⟨_, h1, h2, h3, h4, h5, h6⟩ := Nm.ok_parts hok
  clear hok
  have h3' := Nm.last_cases h3
  clear h3
  dsimp only at h1 h2 h3' h4 h5 h6
  have hl := Nm.list_most h4 0 (by decide) rfl hw
  have hc : cond = 0 := by simpa [Im.condB] using h5
  clear h4 h5 h6
  rcases h3' with ⟨rfl, q1, q2, rfl, rfl⟩ | ⟨rfl, q1, q2, q3, q4, rfl⟩ | ⟨rfl, q1, q2, rfl⟩
  · cases (show (1 : Int) = 0 from q1)
  · replace q2 : 1 ≤ imm := q2
    replace q3 : imm ≤ 31 := q3
    clear q1 q4
    have hd := Wm.one_12 h1
    have hn := Wm.one_12 h2
    clear h1 h2
    have hR : Wm.rowW Wm.findF ⟨19, cond, rd, rn, 0, imm, 1, list, false⟩ it = some (59983 + 0, imm % 32 / 4 * 4096 + rd * 256 + imm % 4 * 64 + (19 - 16) * 16 + rn) := by
      unfold Wm.rowW Wm.shiftW
      dsimp only
      repeat (first | rw [if_neg (by omega)] | rw [if_pos (by omega)])
      rw [Wm.fl_f _ _ _ _ _ _ _ _ (by decide)]
    rw [hR]
    rw [search_is, cands_19]
    simp only [searchC]
    rw [takesP_1, fieldsP_3, takesP_2, fieldsP_2]
    rw [if_pos (by decide : ((1 : Int) == 1) = true)]
    rw [join_shifted 3931045936 rn rd 0 imm false (by omega) (by omega) (by omega) (by omega) (by omega) rfl (by omega) (by omega) (by omega) (by omega) (by omega) (by omega) (by omega) (by omega), show sB false = 0 from rfl]
    exact some_split _ _ _ (by omega) (by omega) (by omega)
  · have hm := Wm.one_12 q2
    clear q1 q2
    have hd := Wm.one_12 h1
    have hn := Wm.one_12 h2
    clear h1 h2
    have hR : Wm.rowW Wm.findF ⟨19, cond, rd, rn, rm, 0, 2, list, false⟩ it = some (64000 + (19 - 16) * 32 + 0 + rn, 61440 + rd * 256 + rm) := by
      unfold Wm.rowW Wm.shiftW
      dsimp only
      repeat (first | rw [if_neg (by omega)] | rw [if_pos (by omega)])
      rw [Wm.fl_f _ _ _ _ _ _ _ _ (by decide)]
    rw [hR]
    rw [search_is, cands_19]
    simp only [searchC]
    rw [takesP_1, fieldsP_3, takesP_2, fieldsP_2]
    rw [if_neg (by decide), if_pos (by decide : ((2 : Int) == 2) = true)]
    rw [join_reg 4200656896 rn rd rm false (by omega) (by omega) (by omega) (by omega) (by omega) (by omega) (by omega) (by omega) (by omega) (by omega) (by omega) (.inl rfl) (by omega), show sB false = 0 from rfl]
    exact some_split _ _ _ (by omega) (by omega) (by omega)
theorem we_19 (cond rd rn rm imm mode list : Int) (s it : Bool) (hok : Nm.okB ⟨19, cond, rd, rn, rm, imm, mode, list, s⟩ = true) (hw : Nm.Wide list) :
    (searchP 19 cond rd rn rm imm mode list s it formT).map splitW = Wm.rowW Wm.findF ⟨19, cond, rd, rn, rm, imm, mode, list, s⟩ it := by
  cases s
  · exact we_19f cond rd rn rm imm mode list it hok hw
  · exact we_19t cond rd rn rm imm mode list it hok hw
theorem we_20 (cond rd rn rm imm mode list : Int) (s it : Bool) (hok : Nm.okB ⟨20, cond, rd, rn, rm, imm, mode, list, s⟩ = true) (hw : Nm.Wide list) :
    (searchP 20 cond rd rn rm imm mode list s it formT).map splitW = Wm.rowW Wm.findF ⟨20, cond, rd, rn, rm, imm, mode, list, s⟩ it := by
  obtain ⟨_, h1, h2, h3, h4, h5, h6⟩ := Nm.ok_parts hok
  clear hok
  have h3' := Nm.last_cases h3
  clear h3
  dsimp only at h1 h2 h3' h4 h5 h6
  have hs := Nm.flag_off h6 rfl
  subst hs
  have hl := Nm.list_most h4 0 (by decide) rfl hw
  have hc : cond = 0 := by simpa [Im.condB] using h5
  clear h5 h6
  clear h4
  rcases h3' with ⟨rfl, q1, q2, rfl, rfl⟩ | ⟨rfl, q1, q2, q3, q4, rfl⟩ | ⟨rfl, q1, q2, rfl⟩
  · exact absurd q2 (by decide)
  · exact absurd rfl q1
  · have hm := Wm.one_12 q2
    clear q1 q2
    have hd := Wm.one_12 h1
    have hn := Wm.one_12 h2
    clear h1 h2
    have hR : Wm.rowW Wm.findF ⟨20, cond, rd, rn, rm, 0, 2, list, false⟩ it = some (64256 + rn, 61440 + rd * 256 + rm) := by
      unfold Wm.rowW Wm.restW
      dsimp only
      repeat (first | rw [if_neg (by omega)] | rw [if_pos (by omega)])
    rw [hR]
    rw [search_is, cands_20]
    simp only [searchC]
    rw [takesP_0, fieldsP_2]
    rw [if_pos rfl]
    rw [join_reg 4211142656 rn rd rm false (by omega) (by omega) (by omega) (by omega) (by omega) (by omega) (by omega) (by omega) (by omega) (by omega) (by omega) (.inl rfl) (by omega), show sB false = 0 from rfl]
    exact some_split _ _ _ (by omega) (by omega) (by omega)
theorem we_21 (cond rd rn rm imm mode list : Int) (s it : Bool) (hok : Nm.okB ⟨21, cond, rd, rn, rm, imm, mode, list, s⟩ = true) (hw : Nm.Wide list) :
    (searchP 21 cond rd rn rm imm mode list s it formT).map splitW = Wm.rowW Wm.findF ⟨21, cond, rd, rn, rm, imm, mode, list, s⟩ it := by
  obtain ⟨_, h1, h2, h3, h4, h5, h6⟩ := Nm.ok_parts hok
  clear hok
  have h3' := Nm.last_cases h3
  clear h3
  dsimp only at h1 h2 h3' h4 h5 h6
  have hs := Nm.flag_off h6 rfl
  subst hs
  have hl := Nm.list_most h4 0 (by decide) rfl hw
  have hc : cond = 0 := by simpa [Im.condB] using h5
  clear h5 h6
  clear h4
  rcases h3' with ⟨rfl, q1, q2, rfl, rfl⟩ | ⟨rfl, q1, q2, q3, q4, rfl⟩ | ⟨rfl, q1, q2, rfl⟩
  · exact absurd q2 (by decide)
  · exact absurd rfl q1
  · have hm := Wm.one_12 q2
    clear q1 q2
    have hd := Wm.one_12 h1
    have hn := Wm.one_12 h2
    clear h1 h2
    have hR : Wm.rowW Wm.findF ⟨21, cond, rd, rn, rm, 0, 2, list, false⟩ it = some (64432 + rn, 61680 + rd * 256 + rm) := by
      unfold Wm.rowW Wm.restW
      dsimp only
      repeat (first | rw [if_neg (by omega)] | rw [if_pos (by omega)])
    rw [hR]
    rw [search_is, cands_21]
    simp only [searchC]
    rw [takesP_0, fieldsP_2]
    rw [if_pos rfl]
    rw [join_reg 4222677232 rn rd rm false (by omega) (by omega) (by omega) (by omega) (by omega) (by omega) (by omega) (by omega) (by omega) (by omega) (by omega) (.inl rfl) (by omega), show sB false = 0 from rfl]
    exact some_split _ _ _ (by omega) (by omega) (by omega)
theorem we_22 (cond rd rn rm imm mode list : Int) (s it : Bool) (hok : Nm.okB ⟨22, cond, rd, rn, rm, imm, mode, list, s⟩ = true) (hw : Nm.Wide list) :
    (searchP 22 cond rd rn rm imm mode list s it formT).map splitW = Wm.rowW Wm.findF ⟨22, cond, rd, rn, rm, imm, mode, list, s⟩ it := by
  obtain ⟨_, h1, h2, h3, h4, h5, h6⟩ := Nm.ok_parts hok
  clear hok
  have h3' := Nm.last_cases h3
  clear h3
  dsimp only at h1 h2 h3' h4 h5 h6
  have hs := Nm.flag_off h6 rfl
  subst hs
  have hl := Nm.list_most h4 0 (by decide) rfl hw
  have hc : cond = 0 := by simpa [Im.condB] using h5
  clear h5 h6
  clear h4
  rcases h3' with ⟨rfl, q1, q2, rfl, rfl⟩ | ⟨rfl, q1, q2, q3, q4, rfl⟩ | ⟨rfl, q1, q2, rfl⟩
  · exact absurd q2 (by decide)
  · exact absurd rfl q1
  · have hm := Wm.one_12 q2
    clear q1 q2
    have hd := Wm.one_12 h1
    have hn := Wm.one_12 h2
    clear h1 h2
    have hR : Wm.rowW Wm.findF ⟨22, cond, rd, rn, rm, 0, 2, list, false⟩ it = some (64400 + rn, 61680 + rd * 256 + rm) := by
      unfold Wm.rowW Wm.restW
      dsimp only
      repeat (first | rw [if_neg (by omega)] | rw [if_pos (by omega)])
    rw [hR]
    rw [search_is, cands_22]
    simp only [searchC]
    rw [takesP_0, fieldsP_2]
    rw [if_pos rfl]
    rw [join_reg 4220580080 rn rd rm false (by omega) (by omega) (by omega) (by omega) (by omega) (by omega) (by omega) (by omega) (by omega) (by omega) (by omega) (.inl rfl) (by omega), show sB false = 0 from rfl]
    exact some_split _ _ _ (by omega) (by omega) (by omega)
theorem we_23 (cond rd rn rm imm mode list : Int) (s it : Bool) (hok : Nm.okB ⟨23, cond, rd, rn, rm, imm, mode, list, s⟩ = true) (hw : Nm.Wide list) :
    (searchP 23 cond rd rn rm imm mode list s it formT).map splitW = Wm.rowW Wm.findF ⟨23, cond, rd, rn, rm, imm, mode, list, s⟩ it := by
  obtain ⟨_, h1, h2, h3, h4, h5, h6⟩ := Nm.ok_parts hok
  clear hok
  have h3' := Nm.last_cases h3
  clear h3
  dsimp only at h1 h2 h3' h4 h5 h6
  have hs := Nm.flag_off h6 rfl
  subst hs
  have hl := Nm.list_most h4 0 (by decide) rfl hw
  have hc : cond = 0 := by simpa [Im.condB] using h5
  clear h5 h6
  clear h4
  rcases h3' with ⟨rfl, q1, q2, rfl, rfl⟩ | ⟨rfl, q1, q2, q3, q4, rfl⟩ | ⟨rfl, q1, q2, rfl⟩
  · exact absurd q1 (by decide)
  · have hd := Wm.one_12 h1
    have hn := Nm.one_none h2
    clear h1 h2
    replace q2 : 0 ≤ imm := q2
    replace q3 : imm ≤ 65535 := q3
    clear q1 q4
    have ex1 : Wm.x1 (imm % 4096) = Wm.x1 imm := by unfold Wm.x1; omega
    have ex2 : Wm.x2 (imm % 4096) = Wm.x2 imm := by unfold Wm.x2; omega
    have hx := x_bd imm
    have hR : Wm.rowW Wm.findF ⟨23, cond, rd, rn, 0, imm, 1, list, false⟩ it = some (62016 + imm / 4096 + Wm.x1 imm, rd * 256 + Wm.x2 imm) := by
      unfold Wm.rowW Wm.restW
      dsimp only
      repeat (first | rw [if_neg (by omega)] | rw [if_pos (by omega)])
      rw [ex1, ex2]
    rw [hR]
    rw [search_is, cands_23]
    simp only [searchC]
    rw [takesP_0, fieldsP_4]
    rw [if_pos rfl]
    rw [join_half 4064280576 rn rd 0 imm false (by omega) (by omega) (by omega) (by omega) rfl rfl (by omega) (by omega) (by omega) (by omega) (by omega) (by omega)]
    exact some_split _ _ _ (by omega) (by omega) (by omega)
  · exact absurd rfl q1
theorem we_24 (cond rd rn rm imm mode list : Int) (s it : Bool) (hok : Nm.okB ⟨24, cond, rd, rn, rm, imm, mode, list, s⟩ = true) (hw : Nm.Wide list) :
    (searchP 24 cond rd rn rm imm mode list s it formT).map splitW = Wm.rowW Wm.findF ⟨24, cond, rd, rn, rm, imm, mode, list, s⟩ it := by
  obtain ⟨_, h1, h2, h3, h4, h5, h6⟩ := Nm.ok_parts hok
  clear hok
  have h3' := Nm.last_cases h3
  clear h3
  dsimp only at h1 h2 h3' h4 h5 h6
  have hs := Nm.flag_off h6 rfl
  subst hs
  have hl := Nm.list_most h4 0 (by decide) rfl hw
  have hc : cond = 0 := by simpa [Im.condB] using h5
  clear h5 h6
  clear h4
  rcases h3' with ⟨rfl, q1, q2, rfl, rfl⟩ | ⟨rfl, q1, q2, q3, q4, rfl⟩ | ⟨rfl, q1, q2, rfl⟩
  · exact absurd q1 (by decide)
  · have hd := Wm.one_12 h1
    have hn := Nm.one_none h2
    clear h1 h2
    replace q2 : 0 ≤ imm := q2
    replace q3 : imm ≤ 65535 := q3
    clear q1 q4
    have ex1 : Wm.x1 (imm % 4096) = Wm.x1 imm := by unfold Wm.x1; omega
    have ex2 : Wm.x2 (imm % 4096) = Wm.x2 imm := by unfold Wm.x2; omega
    have hx := x_bd imm
    have hR : Wm.rowW Wm.findF ⟨24, cond, rd, rn, 0, imm, 1, list, false⟩ it = some (62144 + imm / 4096 + Wm.x1 imm, rd * 256 + Wm.x2 imm) := by
      unfold Wm.rowW Wm.restW
      dsimp only
      repeat (first | rw [if_neg (by omega)] | rw [if_pos (by omega)])
      rw [ex1, ex2]
    rw [hR]
    rw [search_is, cands_24]
    simp only [searchC]
    rw [takesP_0, fieldsP_4]
    rw [if_pos rfl]
    rw [join_half 4072669184 rn rd 0 imm false (by omega) (by omega) (by omega) (by omega) rfl rfl (by omega) (by omega) (by omega) (by omega) (by omega) (by omega)]
    exact some_split _ _ _ (by omega) (by omega) (by omega)
  · exact absurd rfl q1
end Xw
end Go.Proofs.YtmofimgodmcdjaaDoor
