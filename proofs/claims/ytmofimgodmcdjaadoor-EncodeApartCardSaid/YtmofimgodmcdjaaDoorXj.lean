/- The search over wide's forms, plainly: loads and places (text by gen_xi.py). No conditions but those that each fact names. -/
import Derived.Test.YtmofimgodmcdjaaDoorXp
namespace Go.Proofs.YtmofimgodmcdjaaDoor
open Go.ChangeShapes Go.WideShapes Go.ChangeAt Go.RowKit
namespace Xw

theorem we_25 (cond rd rn rm imm mode list : Int) (s it : Bool) (hok : Nm.okB ⟨25, cond, rd, rn, rm, imm, mode, list, s⟩ = true) (hw : Nm.Wide list) :
    (searchP 25 cond rd rn rm imm mode list s it formT).map splitW = Wm.rowW Wm.findF ⟨25, cond, rd, rn, rm, imm, mode, list, s⟩ it := by
  obtain ⟨_, h1, h2, h3, h4, h5, h6⟩ := Nm.ok_parts hok
  clear hok
  have h3' := Nm.last_cases h3
  clear h3
  dsimp only at h1 h2 h3' h4 h5 h6
  have hs := Nm.flag_off h6 rfl
  subst hs
  have hl := Nm.list_most h4 0 (by decide) rfl hw
  have hc : cond = 0 := by simpa [Im.condB] using h5
  clear h5 h6
  clear h4
  rcases h3' with ⟨rfl, q1, q2, rfl, rfl⟩ | ⟨rfl, q1, q2, q3, q4, rfl⟩ | ⟨rfl, q1, q2, rfl⟩
  · exact absurd q1 (by decide)
  · replace q2 : 0 ≤ imm := q2
    replace q3 : imm ≤ 4095 := q3
    clear q1 q4
    have hd := Wm.one_12 h1
    have hn := Wm.one_14 h2
    clear h1 h2
    have hR : Wm.rowW Wm.findF ⟨25, cond, rd, rn, 0, imm, 1, list, false⟩ it = some (63616 + 80 + rn, rd * 4096 + imm) := by
      unfold Wm.rowW Wm.loadW
      dsimp only
      repeat (first | rw [if_neg (by omega)] | rw [if_pos (by omega)])
      rw [show Wm.loadK 25 = 80 from rfl]
    rw [hR]
    rw [search_is, cands_25]
    simp only [searchC]
    rw [takesP_1, fieldsP_5, takesP_2]
    rw [if_pos (by decide : ((1 : Int) == 1) = true)]
    rw [join_loaded 4174381056 rn rd 0 imm imm (dist_pos imm q2 (by omega)) (by omega) (by omega) (by omega) (by omega) (by omega) (by omega) (by omega) (by omega) (by omega) (by omega) (by omega) (by omega) (by omega)]
    exact some_split _ _ _ (by omega) (by omega) (by omega)
  · have hm := Wm.one_12 q2
    clear q1 q2
    have hd := Wm.one_12 h1
    have hn := Wm.one_14 h2
    clear h1 h2
    have hR : Wm.rowW Wm.findF ⟨25, cond, rd, rn, rm, 0, 2, list, false⟩ it = some (63488 + 80 + rn, rd * 4096 + rm) := by
      unfold Wm.rowW Wm.loadW
      dsimp only
      repeat (first | rw [if_neg (by omega)] | rw [if_pos (by omega)])
      rw [show Wm.loadK 25 = 80 from rfl]
    rw [hR]
    rw [search_is, cands_25]
    simp only [searchC]
    rw [takesP_1, fieldsP_5, takesP_2]
    rw [if_neg (by decide), if_pos (by decide : ((2 : Int) == 2) = true)]
    rw [join_loaded 4165992448 rn rd rm 0 0 (dist_pos 0 (by decide) (by decide)) (by omega) (by omega) (by omega) (by omega) (by omega) (by omega) (by omega) (by omega) (by omega) (by omega) (by omega) (by omega) (by omega)]
    exact some_split _ _ _ (by omega) (by omega) (by omega)
theorem we_26 (cond rd rn rm imm mode list : Int) (s it : Bool) (hok : Nm.okB ⟨26, cond, rd, rn, rm, imm, mode, list, s⟩ = true) (hw : Nm.Wide list) :
    (searchP 26 cond rd rn rm imm mode list s it formT).map splitW = Wm.rowW Wm.findF ⟨26, cond, rd, rn, rm, imm, mode, list, s⟩ it := by
  obtain ⟨_, h1, h2, h3, h4, h5, h6⟩ := Nm.ok_parts hok
  clear hok
  have h3' := Nm.last_cases h3
  clear h3
  dsimp only at h1 h2 h3' h4 h5 h6
  have hs := Nm.flag_off h6 rfl
  subst hs
  have hl := Nm.list_most h4 0 (by decide) rfl hw
  have hc : cond = 0 := by simpa [Im.condB] using h5
  clear h5 h6
  clear h4
  rcases h3' with ⟨rfl, q1, q2, rfl, rfl⟩ | ⟨rfl, q1, q2, q3, q4, rfl⟩ | ⟨rfl, q1, q2, rfl⟩
  · exact absurd q1 (by decide)
  · replace q2 : 0 ≤ imm := q2
    replace q3 : imm ≤ 4095 := q3
    clear q1 q4
    have hd := Wm.one_12 h1
    have hn := Wm.one_14 h2
    clear h1 h2
    have hR : Wm.rowW Wm.findF ⟨26, cond, rd, rn, 0, imm, 1, list, false⟩ it = some (63616 + 16 + rn, rd * 4096 + imm) := by
      unfold Wm.rowW Wm.loadW
      dsimp only
      repeat (first | rw [if_neg (by omega)] | rw [if_pos (by omega)])
      rw [show Wm.loadK 26 = 16 from rfl]
    rw [hR]
    rw [search_is, cands_26]
    simp only [searchC]
    rw [takesP_1, fieldsP_5, takesP_2]
    rw [if_pos (by decide : ((1 : Int) == 1) = true)]
    rw [join_loaded 4170186752 rn rd 0 imm imm (dist_pos imm q2 (by omega)) (by omega) (by omega) (by omega) (by omega) (by omega) (by omega) (by omega) (by omega) (by omega) (by omega) (by omega) (by omega) (by omega)]
    exact some_split _ _ _ (by omega) (by omega) (by omega)
  · have hm := Wm.one_12 q2
    clear q1 q2
    have hd := Wm.one_12 h1
    have hn := Wm.one_14 h2
    clear h1 h2
    have hR : Wm.rowW Wm.findF ⟨26, cond, rd, rn, rm, 0, 2, list, false⟩ it = some (63488 + 16 + rn, rd * 4096 + rm) := by
      unfold Wm.rowW Wm.loadW
      dsimp only
      repeat (first | rw [if_neg (by omega)] | rw [if_pos (by omega)])
      rw [show Wm.loadK 26 = 16 from rfl]
    rw [hR]
    rw [search_is, cands_26]
    simp only [searchC]
    rw [takesP_1, fieldsP_5, takesP_2]
    rw [if_neg (by decide), if_pos (by decide : ((2 : Int) == 2) = true)]
    rw [join_loaded 4161798144 rn rd rm 0 0 (dist_pos 0 (by decide) (by decide)) (by omega) (by omega) (by omega) (by omega) (by omega) (by omega) (by omega) (by omega) (by omega) (by omega) (by omega) (by omega) (by omega)]
    exact some_split _ _ _ (by omega) (by omega) (by omega)
theorem we_27 (cond rd rn rm imm mode list : Int) (s it : Bool) (hok : Nm.okB ⟨27, cond, rd, rn, rm, imm, mode, list, s⟩ = true) (hw : Nm.Wide list) :
    (searchP 27 cond rd rn rm imm mode list s it formT).map splitW = Wm.rowW Wm.findF ⟨27, cond, rd, rn, rm, imm, mode, list, s⟩ it := by
  obtain ⟨_, h1, h2, h3, h4, h5, h6⟩ := Nm.ok_parts hok
  clear hok
  have h3' := Nm.last_cases h3
  clear h3
  dsimp only at h1 h2 h3' h4 h5 h6
  have hs := Nm.flag_off h6 rfl
  subst hs
  have hl := Nm.list_most h4 0 (by decide) rfl hw
  have hc : cond = 0 := by simpa [Im.condB] using h5
  clear h5 h6
  clear h4
  rcases h3' with ⟨rfl, q1, q2, rfl, rfl⟩ | ⟨rfl, q1, q2, q3, q4, rfl⟩ | ⟨rfl, q1, q2, rfl⟩
  · exact absurd q1 (by decide)
  · replace q2 : 0 ≤ imm := q2
    replace q3 : imm ≤ 4095 := q3
    clear q1 q4
    have hd := Wm.one_12 h1
    have hn := Wm.one_14 h2
    clear h1 h2
    have hR : Wm.rowW Wm.findF ⟨27, cond, rd, rn, 0, imm, 1, list, false⟩ it = some (63616 + 48 + rn, rd * 4096 + imm) := by
      unfold Wm.rowW Wm.loadW
      dsimp only
      repeat (first | rw [if_neg (by omega)] | rw [if_pos (by omega)])
      rw [show Wm.loadK 27 = 48 from rfl]
    rw [hR]
    rw [search_is, cands_27]
    simp only [searchC]
    rw [takesP_1, fieldsP_5, takesP_2]
    rw [if_pos (by decide : ((1 : Int) == 1) = true)]
    rw [join_loaded 4172283904 rn rd 0 imm imm (dist_pos imm q2 (by omega)) (by omega) (by omega) (by omega) (by omega) (by omega) (by omega) (by omega) (by omega) (by omega) (by omega) (by omega) (by omega) (by omega)]
    exact some_split _ _ _ (by omega) (by omega) (by omega)
  · have hm := Wm.one_12 q2
    clear q1 q2
    have hd := Wm.one_12 h1
    have hn := Wm.one_14 h2
    clear h1 h2
    have hR : Wm.rowW Wm.findF ⟨27, cond, rd, rn, rm, 0, 2, list, false⟩ it = some (63488 + 48 + rn, rd * 4096 + rm) := by
      unfold Wm.rowW Wm.loadW
      dsimp only
      repeat (first | rw [if_neg (by omega)] | rw [if_pos (by omega)])
      rw [show Wm.loadK 27 = 48 from rfl]
    rw [hR]
    rw [search_is, cands_27]
    simp only [searchC]
    rw [takesP_1, fieldsP_5, takesP_2]
    rw [if_neg (by decide), if_pos (by decide : ((2 : Int) == 2) = true)]
    rw [join_loaded 4163895296 rn rd rm 0 0 (dist_pos 0 (by decide) (by decide)) (by omega) (by omega) (by omega) (by omega) (by omega) (by omega) (by omega) (by omega) (by omega) (by omega) (by omega) (by omega) (by omega)]
    exact some_split _ _ _ (by omega) (by omega) (by omega)
theorem we_28 (cond rd rn rm imm mode list : Int) (s it : Bool) (hok : Nm.okB ⟨28, cond, rd, rn, rm, imm, mode, list, s⟩ = true) (hw : Nm.Wide list) :
    (searchP 28 cond rd rn rm imm mode list s it formT).map splitW = Wm.rowW Wm.findF ⟨28, cond, rd, rn, rm, imm, mode, list, s⟩ it := by
  obtain ⟨_, h1, h2, h3, h4, h5, h6⟩ := Nm.ok_parts hok
  clear hok
  have h3' := Nm.last_cases h3
  clear h3
  dsimp only at h1 h2 h3' h4 h5 h6
  have hs := Nm.flag_off h6 rfl
  subst hs
  have hl := Nm.list_most h4 0 (by decide) rfl hw
  have hc : cond = 0 := by simpa [Im.condB] using h5
  clear h5 h6
  clear h4
  rcases h3' with ⟨rfl, q1, q2, rfl, rfl⟩ | ⟨rfl, q1, q2, q3, q4, rfl⟩ | ⟨rfl, q1, q2, rfl⟩
  · exact absurd q1 (by decide)
  · replace q2 : 0 ≤ imm := q2
    replace q3 : imm ≤ 4095 := q3
    clear q1 q4
    have hd := Wm.one_12 h1
    have hn := Wm.one_14 h2
    clear h1 h2
    have hR : Wm.rowW Wm.findF ⟨28, cond, rd, rn, 0, imm, 1, list, false⟩ it = some (63616 + 64 + rn, rd * 4096 + imm) := by
      unfold Wm.rowW Wm.loadW
      dsimp only
      repeat (first | rw [if_neg (by omega)] | rw [if_pos (by omega)])
      rw [show Wm.loadK 28 = 64 from rfl]
    rw [hR]
    rw [search_is, cands_28]
    simp only [searchC]
    rw [takesP_1, fieldsP_5, takesP_2]
    rw [if_pos (by decide : ((1 : Int) == 1) = true)]
    rw [join_loaded 4173332480 rn rd 0 imm imm (dist_pos imm q2 (by omega)) (by omega) (by omega) (by omega) (by omega) (by omega) (by omega) (by omega) (by omega) (by omega) (by omega) (by omega) (by omega) (by omega)]
    exact some_split _ _ _ (by omega) (by omega) (by omega)
  · have hm := Wm.one_12 q2
    clear q1 q2
    have hd := Wm.one_12 h1
    have hn := Wm.one_14 h2
    clear h1 h2
    have hR : Wm.rowW Wm.findF ⟨28, cond, rd, rn, rm, 0, 2, list, false⟩ it = some (63488 + 64 + rn, rd * 4096 + rm) := by
      unfold Wm.rowW Wm.loadW
      dsimp only
      repeat (first | rw [if_neg (by omega)] | rw [if_pos (by omega)])
      rw [show Wm.loadK 28 = 64 from rfl]
    rw [hR]
    rw [search_is, cands_28]
    simp only [searchC]
    rw [takesP_1, fieldsP_5, takesP_2]
    rw [if_neg (by decide), if_pos (by decide : ((2 : Int) == 2) = true)]
    rw [join_loaded 4164943872 rn rd rm 0 0 (dist_pos 0 (by decide) (by decide)) (by omega) (by omega) (by omega) (by omega) (by omega) (by omega) (by omega) (by omega) (by omega) (by omega) (by omega) (by omega) (by omega)]
    exact some_split _ _ _ (by omega) (by omega) (by omega)
theorem we_29 (cond rd rn rm imm mode list : Int) (s it : Bool) (hok : Nm.okB ⟨29, cond, rd, rn, rm, imm, mode, list, s⟩ = true) (hw : Nm.Wide list) :
    (searchP 29 cond rd rn rm imm mode list s it formT).map splitW = Wm.rowW Wm.findF ⟨29, cond, rd, rn, rm, imm, mode, list, s⟩ it := by
  obtain ⟨_, h1, h2, h3, h4, h5, h6⟩ := Nm.ok_parts hok
  clear hok
  have h3' := Nm.last_cases h3
  clear h3
  dsimp only at h1 h2 h3' h4 h5 h6
  have hs := Nm.flag_off h6 rfl
  subst hs
  have hl := Nm.list_most h4 0 (by decide) rfl hw
  have hc : cond = 0 := by simpa [Im.condB] using h5
  clear h5 h6
  clear h4
  rcases h3' with ⟨rfl, q1, q2, rfl, rfl⟩ | ⟨rfl, q1, q2, q3, q4, rfl⟩ | ⟨rfl, q1, q2, rfl⟩
  · exact absurd q1 (by decide)
  · replace q2 : 0 ≤ imm := q2
    replace q3 : imm ≤ 4095 := q3
    clear q1 q4
    have hd := Wm.one_12 h1
    have hn := Wm.one_14 h2
    clear h1 h2
    have hR : Wm.rowW Wm.findF ⟨29, cond, rd, rn, 0, imm, 1, list, false⟩ it = some (63616 + 0 + rn, rd * 4096 + imm) := by
      unfold Wm.rowW Wm.loadW
      dsimp only
      repeat (first | rw [if_neg (by omega)] | rw [if_pos (by omega)])
      rw [show Wm.loadK 29 = 0 from rfl]
    rw [hR]
    rw [search_is, cands_29]
    simp only [searchC]
    rw [takesP_1, fieldsP_5, takesP_2]
    rw [if_pos (by decide : ((1 : Int) == 1) = true)]
    rw [join_loaded 4169138176 rn rd 0 imm imm (dist_pos imm q2 (by omega)) (by omega) (by omega) (by omega) (by omega) (by omega) (by omega) (by omega) (by omega) (by omega) (by omega) (by omega) (by omega) (by omega)]
    exact some_split _ _ _ (by omega) (by omega) (by omega)
  · have hm := Wm.one_12 q2
    clear q1 q2
    have hd := Wm.one_12 h1
    have hn := Wm.one_14 h2
    clear h1 h2
    have hR : Wm.rowW Wm.findF ⟨29, cond, rd, rn, rm, 0, 2, list, false⟩ it = some (63488 + 0 + rn, rd * 4096 + rm) := by
      unfold Wm.rowW Wm.loadW
      dsimp only
      repeat (first | rw [if_neg (by omega)] | rw [if_pos (by omega)])
      rw [show Wm.loadK 29 = 0 from rfl]
    rw [hR]
    rw [search_is, cands_29]
    simp only [searchC]
    rw [takesP_1, fieldsP_5, takesP_2]
    rw [if_neg (by decide), if_pos (by decide : ((2 : Int) == 2) = true)]
    rw [join_loaded 4160749568 rn rd rm 0 0 (dist_pos 0 (by decide) (by decide)) (by omega) (by omega) (by omega) (by omega) (by omega) (by omega) (by omega) (by omega) (by omega) (by omega) (by omega) (by omega) (by omega)]
    exact some_split _ _ _ (by omega) (by omega) (by omega)
theorem we_30 (cond rd rn rm imm mode list : Int) (s it : Bool) (hok : Nm.okB ⟨30, cond, rd, rn, rm, imm, mode, list, s⟩ = true) (hw : Nm.Wide list) :
    (searchP 30 cond rd rn rm imm mode list s it formT).map splitW = Wm.rowW Wm.findF ⟨30, cond, rd, rn, rm, imm, mode, list, s⟩ it := by
  obtain ⟨_, h1, h2, h3, h4, h5, h6⟩ := Nm.ok_parts hok
  clear hok
  have h3' := Nm.last_cases h3
  clear h3
  dsimp only at h1 h2 h3' h4 h5 h6
  have hs := Nm.flag_off h6 rfl
  subst hs
  have hl := Nm.list_most h4 0 (by decide) rfl hw
  have hc : cond = 0 := by simpa [Im.condB] using h5
  clear h5 h6
  clear h4
  rcases h3' with ⟨rfl, q1, q2, rfl, rfl⟩ | ⟨rfl, q1, q2, q3, q4, rfl⟩ | ⟨rfl, q1, q2, rfl⟩
  · exact absurd q1 (by decide)
  · replace q2 : 0 ≤ imm := q2
    replace q3 : imm ≤ 4095 := q3
    clear q1 q4
    have hd := Wm.one_12 h1
    have hn := Wm.one_14 h2
    clear h1 h2
    have hR : Wm.rowW Wm.findF ⟨30, cond, rd, rn, 0, imm, 1, list, false⟩ it = some (63616 + 32 + rn, rd * 4096 + imm) := by
      unfold Wm.rowW Wm.loadW
      dsimp only
      repeat (first | rw [if_neg (by omega)] | rw [if_pos (by omega)])
      rw [show Wm.loadK 30 = 32 from rfl]
    rw [hR]
    rw [search_is, cands_30]
    simp only [searchC]
    rw [takesP_1, fieldsP_5, takesP_2]
    rw [if_pos (by decide : ((1 : Int) == 1) = true)]
    rw [join_loaded 4171235328 rn rd 0 imm imm (dist_pos imm q2 (by omega)) (by omega) (by omega) (by omega) (by omega) (by omega) (by omega) (by omega) (by omega) (by omega) (by omega) (by omega) (by omega) (by omega)]
    exact some_split _ _ _ (by omega) (by omega) (by omega)
  · have hm := Wm.one_12 q2
    clear q1 q2
    have hd := Wm.one_12 h1
    have hn := Wm.one_14 h2
    clear h1 h2
    have hR : Wm.rowW Wm.findF ⟨30, cond, rd, rn, rm, 0, 2, list, false⟩ it = some (63488 + 32 + rn, rd * 4096 + rm) := by
      unfold Wm.rowW Wm.loadW
      dsimp only
      repeat (first | rw [if_neg (by omega)] | rw [if_pos (by omega)])
      rw [show Wm.loadK 30 = 32 from rfl]
    rw [hR]
    rw [search_is, cands_30]
    simp only [searchC]
    rw [takesP_1, fieldsP_5, takesP_2]
    rw [if_neg (by decide), if_pos (by decide : ((2 : Int) == 2) = true)]
    rw [join_loaded 4162846720 rn rd rm 0 0 (dist_pos 0 (by decide) (by decide)) (by omega) (by omega) (by omega) (by omega) (by omega) (by omega) (by omega) (by omega) (by omega) (by omega) (by omega) (by omega) (by omega)]
    exact some_split _ _ _ (by omega) (by omega) (by omega)
theorem we_40 (cond rd rn rm imm mode list : Int) (s it : Bool) (hok : Nm.okB ⟨40, cond, rd, rn, rm, imm, mode, list, s⟩ = true) (hw : Nm.Wide list) :
    (searchP 40 cond rd rn rm imm mode list s it formT).map splitW = Wm.rowW Wm.findF ⟨40, cond, rd, rn, rm, imm, mode, list, s⟩ it := by
  obtain ⟨_, h1, h2, h3, h4, h5, h6⟩ := Nm.ok_parts hok
  clear hok
  have h3' := Nm.last_cases h3
  clear h3
  dsimp only at h1 h2 h3' h4 h5 h6
  have hs := Nm.flag_off h6 rfl
  subst hs
  have hl := Nm.list_most h4 0 (by decide) rfl hw
  have hc : cond = 0 := by simpa [Im.condB] using h5
  clear h5 h6
  clear h4
  rcases h3' with ⟨rfl, q1, q2, rfl, rfl⟩ | ⟨rfl, q1, q2, q3, q4, rfl⟩ | ⟨rfl, q1, q2, rfl⟩
  · exact absurd q1 (by decide)
  · have hd := Wm.one_12 h1
    have hn := Nm.one_none h2
    clear h1 h2
    replace q2 : -4095 ≤ imm := q2
    replace q3 : imm ≤ 4095 := q3
    clear q1 q4
    by_cases hi : imm < 0
    · have hR : Wm.rowW Wm.findF ⟨40, cond, rd, rn, 0, imm, 1, list, false⟩ it = some (63583, rd * 4096 + -imm) := by
        unfold Wm.rowW Wm.placeW
        dsimp only
        repeat (first | rw [if_neg (by omega)] | rw [if_pos (by omega)])
      rw [hR]
      rw [search_is, cands_40]
      simp only [searchC]
      rw [takesP_9, fieldsP_5, takesP_10]
      rw [if_neg (by simpa using hi), if_pos (by simpa using hi)]
      rw [join_loaded 4166975488 rn rd 0 imm (-imm) (dist_neg imm hi (by omega)) (by omega) (by omega) (by omega) (by omega) (by omega) (by omega) (by omega) (by omega) (by omega) (by omega) (by omega) (by omega) (by omega)]
      exact some_split _ _ _ (by omega) (by omega) (by omega)
    · have hg : 0 ≤ imm := by omega
      have hR : Wm.rowW Wm.findF ⟨40, cond, rd, rn, 0, imm, 1, list, false⟩ it = some (63711, rd * 4096 + imm) := by
        unfold Wm.rowW Wm.placeW
        dsimp only
        repeat (first | rw [if_neg (by omega)] | rw [if_pos (by omega)])
      rw [hR]
      rw [search_is, cands_40]
      simp only [searchC]
      rw [takesP_9, fieldsP_5, takesP_10]
      rw [if_pos (by simpa using hg)]
      rw [join_loaded 4175364096 rn rd 0 imm imm (dist_pos imm hg (by omega)) (by omega) (by omega) (by omega) (by omega) (by omega) (by omega) (by omega) (by omega) (by omega) (by omega) (by omega) (by omega) (by omega)]
      exact some_split _ _ _ (by omega) (by omega) (by omega)
  · exact absurd rfl q1
theorem we_41 (cond rd rn rm imm mode list : Int) (s it : Bool) (hok : Nm.okB ⟨41, cond, rd, rn, rm, imm, mode, list, s⟩ = true) (hw : Nm.Wide list) :
    (searchP 41 cond rd rn rm imm mode list s it formT).map splitW = Wm.rowW Wm.findF ⟨41, cond, rd, rn, rm, imm, mode, list, s⟩ it := by
  obtain ⟨_, h1, h2, h3, h4, h5, h6⟩ := Nm.ok_parts hok
  clear hok
  have h3' := Nm.last_cases h3
  clear h3
  dsimp only at h1 h2 h3' h4 h5 h6
  have hs := Nm.flag_off h6 rfl
  subst hs
  have hl := Nm.list_most h4 0 (by decide) rfl hw
  have hc : cond = 0 := by simpa [Im.condB] using h5
  clear h5 h6
  clear h4
  rcases h3' with ⟨rfl, q1, q2, rfl, rfl⟩ | ⟨rfl, q1, q2, q3, q4, rfl⟩ | ⟨rfl, q1, q2, rfl⟩
  · exact absurd q1 (by decide)
  · have hd := Wm.one_12 h1
    have hn := Nm.one_none h2
    clear h1 h2
    replace q2 : -4095 ≤ imm := q2
    replace q3 : imm ≤ 4095 := q3
    clear q1 q4
    by_cases hi : imm < 0
    · have hR : Wm.rowW Wm.findF ⟨41, cond, rd, rn, 0, imm, 1, list, false⟩ it = some (62127 + Wm.x1 (-imm), rd * 256 + Wm.x2 (-imm)) := by
        unfold Wm.rowW Wm.placeW
        dsimp only
        repeat (first | rw [if_neg (by omega)] | rw [if_pos (by omega)])
      rw [hR]
      rw [search_is, cands_41]
      simp only [searchC]
      rw [takesP_9, fieldsP_1, takesP_10]
      rw [if_neg (by simpa using hi), if_pos (by simpa using hi)]
      rw [join_amount 4071555072 rn rd 0 imm (-imm) false (dist_neg imm hi (by omega)) (by omega) (by omega) (by omega) (by omega) (by omega) (by omega) rfl rfl (by omega) (by omega) (by omega) (by omega) (by omega) (by omega)]
      have hx := x_bd (-imm)
      exact some_split _ _ _ (by omega) (by omega) (by omega)
    · have hg : 0 ≤ imm := by omega
      have hR : Wm.rowW Wm.findF ⟨41, cond, rd, rn, 0, imm, 1, list, false⟩ it = some (61967 + Wm.x1 imm, rd * 256 + Wm.x2 imm) := by
        unfold Wm.rowW Wm.placeW
        dsimp only
        repeat (first | rw [if_neg (by omega)] | rw [if_pos (by omega)])
      rw [hR]
      rw [search_is, cands_41]
      simp only [searchC]
      rw [takesP_9, fieldsP_1, takesP_10]
      rw [if_pos (by simpa using hg)]
      rw [join_amount 4061069312 rn rd 0 imm imm false (dist_pos imm hg (by omega)) (by omega) (by omega) (by omega) (by omega) (by omega) (by omega) rfl rfl (by omega) (by omega) (by omega) (by omega) (by omega) (by omega)]
      have hx := x_bd imm
      exact some_split _ _ _ (by omega) (by omega) (by omega)
  · exact absurd rfl q1
end Xw
end Go.Proofs.YtmofimgodmcdjaaDoor
