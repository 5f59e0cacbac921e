/- The search over wide's forms, plainly: operations on data (text by gen_xp.py). No conditions but those that each fact names. The search over wide's forms, plainly: operations on data (text by gen_xp.py). No conditions but those that each fact names. -/
import Derived.Test.YtmofimgodmcdjaaDoorXp

namespace Go.Proofs.YtmofimgodmcdjaaDoor
open Go.ChangeShapes Go.WideShapes Go.ChangeAt Go.RowKit
namespace Xw

theorem we_9t (cond rd rn rm imm mode list : Int) (it : Bool) (hok : Nm.okB ⟨9, cond, rd, rn, rm, imm, mode, list, true⟩ = true) (hw : Nm.Wide list) :
    (searchP 9 cond rd rn rm imm mode list true it formT).map splitW = Wm.rowW Wm.findF ⟨9, cond, rd, rn, rm, imm, mode, list, true⟩ it := by
  obtain ⟨_, h1, h2, h3, h4, h5, h6⟩ := Nm.ok_parts hok
  clear hok
  have h3' := Nm.last_cases h3
  clear h3
  dsimp only at h1 h2 h3' h4 h5 h6
  have hl := Nm.list_most h4 0 (by decide) rfl hw
  have hc : cond = 0 := by simpa [Im.condB] using h5
  clear h4 h5 h6
  rcases h3' with ⟨rfl, q1, q2, rfl, rfl⟩ | ⟨rfl, q1, q2, q3, q4, rfl⟩ | ⟨rfl, q1, q2, rfl⟩
  · exact absurd q1 (by decide)
  · replace q2 : 0 ≤ imm := q2
    replace q3 : imm ≤ 4294967295 := q3
    clear q1 q4
    have hd := Wm.one_12 h1
    have hn := Wm.one_12 h2
    clear h1 h2
    have hi : imm % 4294967296 = imm := by omega
    cases hx : Wm.findF imm with
    | some n =>
      obtain ⟨fb, fi, n0, n1⟩ := find_some q2 hx
      have hR : Wm.rowW Wm.findF ⟨9, cond, rd, rn, 0, imm, 1, list, true⟩ it = some (61440 + 14 * 32 + 16 + rn + Wm.x1 n, rd * 256 + Wm.x2 n) := by
        unfold Wm.rowW Wm.dataW
        dsimp only
        repeat (first | rw [if_neg (by omega)] | rw [if_pos (by omega)])
        rw [hx]
        dsimp only
        rw [show Wm.opN 9 = 14 from rfl, Wm.fl_t, Wm.dN_lo _ _ _ _ _ _ _ _ _ (by decide), Wm.rN_no _ _ _ _ _ _ _ _ _ (by decide)]
      rw [hR]
      rw [search_is, cands_9]
      simp only [searchC]
      rw [takesP_3, fieldsP_0, takesP_5, fieldsP_2]
      rw [if_pos (by rw [hi, fb]; rfl)]
      rw [join_expanded 4055891968 rn rd 0 imm true n (by rw [hi]; exact fi) n0 n1 (by omega) (by omega) (by omega) (by omega) (by omega) rfl (by omega) (by omega) (.inr (by omega)) (by omega) (by omega) (by omega) (by omega), show sB true = 1 from rfl]
      have hx := x_bd n
      exact some_split _ _ _ (by omega) (by omega) (by omega)
    | none =>
      have fb := find_none q2 hx
      have hR : Wm.rowW Wm.findF ⟨9, cond, rd, rn, 0, imm, 1, list, true⟩ it = none := by
        unfold Wm.rowW Wm.dataW
        dsimp only
        repeat (first | rw [if_neg (by omega)] | rw [if_pos (by omega)])
        rw [hx]
        try dsimp only
        repeat (first | rw [if_neg (by omega)] | rw [if_pos (by omega)])
      rw [hR]
      rw [search_is, cands_9]
      simp only [searchC]
      rw [takesP_3, fieldsP_0, takesP_5, fieldsP_2]
      rw [if_neg (off1 _ _ (by rw [hi]; exact fb))]
      rw [if_neg (off12 _)]
      rfl
  · have hm := Wm.one_12 q2
    clear q1 q2
    have hd := Wm.one_12 h1
    have hn := Wm.one_12 h2
    clear h1 h2
    by_cases hq : rd ≠ 13 ∧ rm ≠ 13
    · have hR : Wm.rowW Wm.findF ⟨9, cond, rd, rn, rm, 0, 2, list, true⟩ it = some (59904 + 14 * 32 + 16 + rn, rd * 256 + rm) := by
        unfold Wm.rowW Wm.dataW
        dsimp only
        repeat (first | rw [if_neg (by omega)] | rw [if_pos (by omega)])
        rw [show Wm.opN 9 = 14 from rfl, Wm.fl_t, Wm.dN_lo _ _ _ _ _ _ _ _ _ (by decide), Wm.rN_no _ _ _ _ _ _ _ _ _ (by decide)]
        rw [if_pos hq]
      rw [hR]
      rw [search_is, cands_9]
      simp only [searchC]
      rw [takesP_3, fieldsP_0, takesP_5, fieldsP_2]
      rw [if_neg (off21 _)]
      rw [if_pos (by simp [hq.1, hq.2])]
      rw [join_reg 3955228672 rn rd rm true (by omega) (by omega) (by omega) (by omega) (by omega) (by omega) (by omega) (by omega) (by omega) (by omega) (by omega) (.inr (by omega)) (by omega), show sB true = 1 from rfl]
      exact some_split _ _ _ (by omega) (by omega) (by omega)
    · exact absurd ⟨by omega, by omega⟩ hq
theorem we_9f (cond rd rn rm imm mode list : Int) (it : Bool) (hok : Nm.okB ⟨9, cond, rd, rn, rm, imm, mode, list, false⟩ = true) (hw : Nm.Wide list) :
    (searchP 9 cond rd rn rm imm mode list false it formT).map splitW = Wm.rowW Wm.findF ⟨9, cond, rd, rn, rm, imm, mode, list, false⟩ it := by
  obtain ⟨_, h1, h2, h3, h4, h5, h6⟩ := Nm.ok_parts hok
  clear hok
  have h3' := Nm.last_cases h3
  clear h3
  dsimp only at h1 h2 h3' h4 h5 h6
  have hl := Nm.list_most h4 0 (by decide) rfl hw
  have hc : cond = 0 := by simpa [Im.condB] using h5
  clear h4 h5 h6
  rcases h3' with ⟨rfl, q1, q2, rfl, rfl⟩ | ⟨rfl, q1, q2, q3, q4, rfl⟩ | ⟨rfl, q1, q2, rfl⟩
  · exact absurd q1 (by decide)
  · replace q2 : 0 ≤ imm := q2
    replace q3 : imm ≤ 4294967295 := q3
    clear q1 q4
    have hd := Wm.one_12 h1
    have hn := Wm.one_12 h2
    clear h1 h2
    have hi : imm % 4294967296 = imm := by omega
    cases hx : Wm.findF imm with
    | some n =>
      obtain ⟨fb, fi, n0, n1⟩ := find_some q2 hx
      have hR : Wm.rowW Wm.findF ⟨9, cond, rd, rn, 0, imm, 1, list, false⟩ it = some (61440 + 14 * 32 + 0 + rn + Wm.x1 n, rd * 256 + Wm.x2 n) := by
        unfold Wm.rowW Wm.dataW
        dsimp only
        repeat (first | rw [if_neg (by omega)] | rw [if_pos (by omega)])
        rw [hx]
        dsimp only
        rw [show Wm.opN 9 = 14 from rfl, Wm.fl_f _ _ _ _ _ _ _ _ (by decide), Wm.dN_lo _ _ _ _ _ _ _ _ _ (by decide), Wm.rN_no _ _ _ _ _ _ _ _ _ (by decide)]
      rw [hR]
      rw [search_is, cands_9]
      simp only [searchC]
      rw [takesP_3, fieldsP_0, takesP_5, fieldsP_2]
      rw [if_pos (by rw [hi, fb]; rfl)]
      rw [join_expanded 4055891968 rn rd 0 imm false n (by rw [hi]; exact fi) n0 n1 (by omega) (by omega) (by omega) (by omega) (by omega) rfl (by omega) (by omega) (.inl rfl) (by omega) (by omega) (by omega) (by omega), show sB false = 0 from rfl]
      have hx := x_bd n
      exact some_split _ _ _ (by omega) (by omega) (by omega)
    | none =>
      have fb := find_none q2 hx
      have hR : Wm.rowW Wm.findF ⟨9, cond, rd, rn, 0, imm, 1, list, false⟩ it = none := by
        unfold Wm.rowW Wm.dataW
        dsimp only
        repeat (first | rw [if_neg (by omega)] | rw [if_pos (by omega)])
        rw [hx]
        try dsimp only
        repeat (first | rw [if_neg (by omega)] | rw [if_pos (by omega)])
      rw [hR]
      rw [search_is, cands_9]
      simp only [searchC]
      rw [takesP_3, fieldsP_0, takesP_5, fieldsP_2]
      rw [if_neg (off1 _ _ (by rw [hi]; exact fb))]
      rw [if_neg (off12 _)]
      rfl
  · have hm := Wm.one_12 q2
    clear q1 q2
    have hd := Wm.one_12 h1
    have hn := Wm.one_12 h2
    clear h1 h2
    by_cases hq : rd ≠ 13 ∧ rm ≠ 13
    · have hR : Wm.rowW Wm.findF ⟨9, cond, rd, rn, rm, 0, 2, list, false⟩ it = some (59904 + 14 * 32 + 0 + rn, rd * 256 + rm) := by
        unfold Wm.rowW Wm.dataW
        dsimp only
        repeat (first | rw [if_neg (by omega)] | rw [if_pos (by omega)])
        rw [show Wm.opN 9 = 14 from rfl, Wm.fl_f _ _ _ _ _ _ _ _ (by decide), Wm.dN_lo _ _ _ _ _ _ _ _ _ (by decide), Wm.rN_no _ _ _ _ _ _ _ _ _ (by decide)]
        rw [if_pos hq]
      rw [hR]
      rw [search_is, cands_9]
      simp only [searchC]
      rw [takesP_3, fieldsP_0, takesP_5, fieldsP_2]
      rw [if_neg (off21 _)]
      rw [if_pos (by simp [hq.1, hq.2])]
      rw [join_reg 3955228672 rn rd rm false (by omega) (by omega) (by omega) (by omega) (by omega) (by omega) (by omega) (by omega) (by omega) (by omega) (by omega) (.inl rfl) (by omega), show sB false = 0 from rfl]
      exact some_split _ _ _ (by omega) (by omega) (by omega)
    · exact absurd ⟨by omega, by omega⟩ hq
theorem we_9 (cond rd rn rm imm mode list : Int) (s it : Bool) (hok : Nm.okB ⟨9, cond, rd, rn, rm, imm, mode, list, s⟩ = true) (hw : Nm.Wide list) :
    (searchP 9 cond rd rn rm imm mode list s it formT).map splitW = Wm.rowW Wm.findF ⟨9, cond, rd, rn, rm, imm, mode, list, s⟩ it := by
  cases s
  · exact we_9f cond rd rn rm imm mode list it hok hw
  · exact we_9t cond rd rn rm imm mode list it hok hw
theorem we_10t (cond rd rn rm imm mode list : Int) (it : Bool) (hok : Nm.okB ⟨10, cond, rd, rn, rm, imm, mode, list, true⟩ = true) (hw : Nm.Wide list) :
    (searchP 10 cond rd rn rm imm mode list true it formT).map splitW = Wm.rowW Wm.findF ⟨10, cond, rd, rn, rm, imm, mode, list, true⟩ it := by
  obtain ⟨_, h1, h2, h3, h4, h5, h6⟩ := Nm.ok_parts hok
  clear hok
  have h3' := Nm.last_cases h3
  clear h3
  dsimp only at h1 h2 h3' h4 h5 h6
  have hc : cond = 0 := by simpa [Im.condB] using h5
  clear h5 h6
  rcases h3' with ⟨rfl, q1, q2, rfl, rfl⟩ | ⟨rfl, q1, q2, q3, q4, rfl⟩ | ⟨rfl, q1, q2, rfl⟩
  · exact absurd q1 (by decide)
  · replace q2 : 0 ≤ imm := q2
    replace q3 : imm ≤ 4294967295 := q3
    clear q1 q4
    have hl := Nm.list_most h4 0 (by decide) rfl hw
    clear h4
    have hd := Wm.one_12 h1
    have hn := Nm.one_none h2
    clear h1 h2
    have hi : imm % 4294967296 = imm := by omega
    cases hx : Wm.findF imm with
    | some n =>
      obtain ⟨fb, fi, n0, n1⟩ := find_some q2 hx
      have hR : Wm.rowW Wm.findF ⟨10, cond, rd, rn, 0, imm, 1, list, true⟩ it = some (61440 + 2 * 32 + 16 + 15 + Wm.x1 n, rd * 256 + Wm.x2 n) := by
        unfold Wm.rowW Wm.dataW
        dsimp only
        repeat (first | rw [if_neg (by omega)] | rw [if_pos (by omega)])
        rw [hx]
        dsimp only
        rw [show Wm.opN 10 = 2 from rfl, Wm.fl_t, Wm.dN_lo _ _ _ _ _ _ _ _ _ (by decide), Wm.rN_15 _ _ _ _ _ _ _ _ _ (by decide)]
      rw [hR]
      rw [search_is, cands_10]
      simp only [searchC]
      rw [takesP_3, fieldsP_0, takesP_5, fieldsP_2]
      rw [if_pos (by rw [hi, fb]; rfl)]
      rw [join_expanded 4031709184 rn rd 0 imm true n (by rw [hi]; exact fi) n0 n1 (by omega) (by omega) (by omega) (by omega) (by omega) rfl (by omega) (by omega) (.inr (by omega)) (by omega) (by omega) (by omega) (by omega), show sB true = 1 from rfl]
      have hx := x_bd n
      exact some_split _ _ _ (by omega) (by omega) (by omega)
    | none =>
      have fb := find_none q2 hx
      have hR : Wm.rowW Wm.findF ⟨10, cond, rd, rn, 0, imm, 1, list, true⟩ it = none := by
        unfold Wm.rowW Wm.dataW
        dsimp only
        repeat (first | rw [if_neg (by omega)] | rw [if_pos (by omega)])
        rw [hx]
        try dsimp only
        repeat (first | rw [if_neg (by omega)] | rw [if_pos (by omega)])
      rw [hR]
      rw [search_is, cands_10]
      simp only [searchC]
      rw [takesP_3, fieldsP_0, takesP_5, fieldsP_2]
      rw [if_neg (off1 _ _ (by rw [hi]; exact fb))]
      rw [if_neg (off12 _)]
      rfl
  · have hm := Wm.one_12 q2
    clear q1 q2
    have hl := Nm.list_most h4 0 (by decide) rfl hw
    clear h4
    have hd := Wm.one_12 h1
    have hn := Nm.one_none h2
    clear h1 h2
    by_cases hq : rd ≠ 13 ∧ rm ≠ 13
    · have hR : Wm.rowW Wm.findF ⟨10, cond, rd, rn, rm, 0, 2, list, true⟩ it = some (59904 + 2 * 32 + 16 + 15, rd * 256 + rm) := by
        unfold Wm.rowW Wm.dataW
        dsimp only
        repeat (first | rw [if_neg (by omega)] | rw [if_pos (by omega)])
        rw [show Wm.opN 10 = 2 from rfl, Wm.fl_t, Wm.dN_lo _ _ _ _ _ _ _ _ _ (by decide), Wm.rN_15 _ _ _ _ _ _ _ _ _ (by decide)]
        rw [if_pos hq]
      rw [hR]
      rw [search_is, cands_10]
      simp only [searchC]
      rw [takesP_3, fieldsP_0, takesP_5, fieldsP_2]
      rw [if_neg (off21 _)]
      rw [if_pos (by simp [hq.1, hq.2])]
      rw [join_reg 3931045888 rn rd rm true (by omega) (by omega) (by omega) (by omega) (by omega) (by omega) (by omega) (by omega) (by omega) (by omega) (by omega) (.inr (by omega)) (by omega), show sB true = 1 from rfl]
      exact some_split _ _ _ (by omega) (by omega) (by omega)
    · exact absurd ⟨by omega, by omega⟩ hq
theorem we_10f (cond rd rn rm imm mode list : Int) (it : Bool) (hok : Nm.okB ⟨10, cond, rd, rn, rm, imm, mode, list, false⟩ = true) (hw : Nm.Wide list) :
    (searchP 10 cond rd rn rm imm mode list false it formT).map splitW = Wm.rowW Wm.findF ⟨10, cond, rd, rn, rm, imm, mode, list, false⟩ it := by
  obtain ⟨_, h1, h2, h3, h4, h5, h6⟩ := Nm.ok_parts hok
  clear hok
  have h3' := Nm.last_cases h3
  clear h3
  dsimp only at h1 h2 h3' h4 h5 h6
  have hc : cond = 0 := by simpa [Im.condB] using h5
  clear h5 h6
  rcases h3' with ⟨rfl, q1, q2, rfl, rfl⟩ | ⟨rfl, q1, q2, q3, q4, rfl⟩ | ⟨rfl, q1, q2, rfl⟩
  · exact absurd q1 (by decide)
  · replace q2 : 0 ≤ imm := q2
    replace q3 : imm ≤ 4294967295 := q3
    clear q1 q4
    have hl := Nm.list_most h4 0 (by decide) rfl hw
    clear h4
    have hd := Wm.one_12 h1
    have hn := Nm.one_none h2
    clear h1 h2
    have hi : imm % 4294967296 = imm := by omega
    cases hx : Wm.findF imm with
    | some n =>
      obtain ⟨fb, fi, n0, n1⟩ := find_some q2 hx
      have hR : Wm.rowW Wm.findF ⟨10, cond, rd, rn, 0, imm, 1, list, false⟩ it = some (61440 + 2 * 32 + 0 + 15 + Wm.x1 n, rd * 256 + Wm.x2 n) := by
        unfold Wm.rowW Wm.dataW
        dsimp only
        repeat (first | rw [if_neg (by omega)] | rw [if_pos (by omega)])
        rw [hx]
        dsimp only
        rw [show Wm.opN 10 = 2 from rfl, Wm.fl_f _ _ _ _ _ _ _ _ (by decide), Wm.dN_lo _ _ _ _ _ _ _ _ _ (by decide), Wm.rN_15 _ _ _ _ _ _ _ _ _ (by decide)]
      rw [hR]
      rw [search_is, cands_10]
      simp only [searchC]
      rw [takesP_3, fieldsP_0, takesP_5, fieldsP_2]
      rw [if_pos (by rw [hi, fb]; rfl)]
      rw [join_expanded 4031709184 rn rd 0 imm false n (by rw [hi]; exact fi) n0 n1 (by omega) (by omega) (by omega) (by omega) (by omega) rfl (by omega) (by omega) (.inl rfl) (by omega) (by omega) (by omega) (by omega), show sB false = 0 from rfl]
      have hx := x_bd n
      exact some_split _ _ _ (by omega) (by omega) (by omega)
    | none =>
      have fb := find_none q2 hx
      have hR : Wm.rowW Wm.findF ⟨10, cond, rd, rn, 0, imm, 1, list, false⟩ it = none := by
        unfold Wm.rowW Wm.dataW
        dsimp only
        repeat (first | rw [if_neg (by omega)] | rw [if_pos (by omega)])
        rw [hx]
        try dsimp only
        repeat (first | rw [if_neg (by omega)] | rw [if_pos (by omega)])
      rw [hR]
      rw [search_is, cands_10]
      simp only [searchC]
      rw [takesP_3, fieldsP_0, takesP_5, fieldsP_2]
      rw [if_neg (off1 _ _ (by rw [hi]; exact fb))]
      rw [if_neg (off12 _)]
      rfl
  · have hm := Wm.one_14 q2
    clear q1 q2
    have hl := Nm.list_most h4 0 (by decide) rfl hw
    clear h4
    have hd := Wm.one_14 h1
    have hn := Nm.one_none h2
    clear h1 h2
    by_cases hq : rd ≠ 13 ∧ rm ≠ 13
    · have hR : Wm.rowW Wm.findF ⟨10, cond, rd, rn, rm, 0, 2, list, false⟩ it = some (59904 + 2 * 32 + 0 + 15, rd * 256 + rm) := by
        unfold Wm.rowW Wm.dataW
        dsimp only
        repeat (first | rw [if_neg (by omega)] | rw [if_pos (by omega)])
        rw [show Wm.opN 10 = 2 from rfl, Wm.fl_f _ _ _ _ _ _ _ _ (by decide), Wm.dN_lo _ _ _ _ _ _ _ _ _ (by decide), Wm.rN_15 _ _ _ _ _ _ _ _ _ (by decide)]
        rw [if_pos hq]
      rw [hR]
      rw [search_is, cands_10]
      simp only [searchC]
      rw [takesP_3, fieldsP_0, takesP_5, fieldsP_2]
      rw [if_neg (off21 _)]
      rw [if_pos (by simp [hq.1, hq.2])]
      rw [join_reg 3931045888 rn rd rm false (by omega) (by omega) (by omega) (by omega) (by omega) (by omega) (by omega) (by omega) (by omega) (by omega) (by omega) (.inl rfl) (by omega), show sB false = 0 from rfl]
      exact some_split _ _ _ (by omega) (by omega) (by omega)
    · have hR : Wm.rowW Wm.findF ⟨10, cond, rd, rn, rm, 0, 2, list, false⟩ it = none := by
        unfold Wm.rowW Wm.dataW
        dsimp only
        repeat (first | rw [if_neg (by omega)] | rw [if_pos (by omega)])
        rw [Wm.dN_lo _ _ _ _ _ _ _ _ _ (by decide)]
        rw [if_neg hq]
      rw [hR]
      rw [search_is, cands_10]
      simp only [searchC]
      rw [takesP_3, fieldsP_0, takesP_5, fieldsP_2]
      rw [if_neg (off21 _)]
      rw [if_neg (fun h => hq (by simpa using h))]
      rfl
theorem we_10 (cond rd rn rm imm mode list : Int) (s it : Bool) (hok : Nm.okB ⟨10, cond, rd, rn, rm, imm, mode, list, s⟩ = true) (hw : Nm.Wide list) :
    (searchP 10 cond rd rn rm imm mode list s it formT).map splitW = Wm.rowW Wm.findF ⟨10, cond, rd, rn, rm, imm, mode, list, s⟩ it := by
  cases s
  · exact we_10f cond rd rn rm imm mode list it hok hw
  · exact we_10t cond rd rn rm imm mode list it hok hw
theorem we_11t (cond rd rn rm imm mode list : Int) (it : Bool) (hok : Nm.okB ⟨11, cond, rd, rn, rm, imm, mode, list, true⟩ = true) (hw : Nm.Wide list) :
    (searchP 11 cond rd rn rm imm mode list true it formT).map splitW = Wm.rowW Wm.findF ⟨11, cond, rd, rn, rm, imm, mode, list, true⟩ it := by
  obtain ⟨_, h1, h2, h3, h4, h5, h6⟩ := Nm.ok_parts hok
  clear hok
  have h3' := Nm.last_cases h3
  clear h3
  dsimp only at h1 h2 h3' h4 h5 h6
  have hl := Nm.list_most h4 0 (by decide) rfl hw
  have hc : cond = 0 := by simpa [Im.condB] using h5
  clear h4 h5 h6
  rcases h3' with ⟨rfl, q1, q2, rfl, rfl⟩ | ⟨rfl, q1, q2, q3, q4, rfl⟩ | ⟨rfl, q1, q2, rfl⟩
  · exact absurd q1 (by decide)
  · replace q2 : 0 ≤ imm := q2
    replace q3 : imm ≤ 4294967295 := q3
    clear q1 q4
    have hd := Wm.one_12 h1
    have hn := Nm.one_none h2
    clear h1 h2
    have hi : imm % 4294967296 = imm := by omega
    cases hx : Wm.findF imm with
    | some n =>
      obtain ⟨fb, fi, n0, n1⟩ := find_some q2 hx
      have hR : Wm.rowW Wm.findF ⟨11, cond, rd, rn, 0, imm, 1, list, true⟩ it = some (61440 + 3 * 32 + 16 + 15 + Wm.x1 n, rd * 256 + Wm.x2 n) := by
        unfold Wm.rowW Wm.dataW
        dsimp only
        repeat (first | rw [if_neg (by omega)] | rw [if_pos (by omega)])
        rw [hx]
        dsimp only
        rw [show Wm.opN 11 = 3 from rfl, Wm.fl_t, Wm.dN_lo _ _ _ _ _ _ _ _ _ (by decide), Wm.rN_15 _ _ _ _ _ _ _ _ _ (by decide)]
      rw [hR]
      rw [search_is, cands_11]
      simp only [searchC]
      rw [takesP_3, fieldsP_0, takesP_5, fieldsP_2]
      rw [if_pos (by rw [hi, fb]; rfl)]
      rw [join_expanded 4033806336 rn rd 0 imm true n (by rw [hi]; exact fi) n0 n1 (by omega) (by omega) (by omega) (by omega) (by omega) rfl (by omega) (by omega) (.inr (by omega)) (by omega) (by omega) (by omega) (by omega), show sB true = 1 from rfl]
      have hx := x_bd n
      exact some_split _ _ _ (by omega) (by omega) (by omega)
    | none =>
      have fb := find_none q2 hx
      have hR : Wm.rowW Wm.findF ⟨11, cond, rd, rn, 0, imm, 1, list, true⟩ it = none := by
        unfold Wm.rowW Wm.dataW
        dsimp only
        repeat (first | rw [if_neg (by omega)] | rw [if_pos (by omega)])
        rw [hx]
        try dsimp only
        repeat (first | rw [if_neg (by omega)] | rw [if_pos (by omega)])
      rw [hR]
      rw [search_is, cands_11]
      simp only [searchC]
      rw [takesP_3, fieldsP_0, takesP_5, fieldsP_2]
      rw [if_neg (off1 _ _ (by rw [hi]; exact fb))]
      rw [if_neg (off12 _)]
      rfl
  · have hm := Wm.one_12 q2
    clear q1 q2
    have hd := Wm.one_12 h1
    have hn := Nm.one_none h2
    clear h1 h2
    by_cases hq : rd ≠ 13 ∧ rm ≠ 13
    · have hR : Wm.rowW Wm.findF ⟨11, cond, rd, rn, rm, 0, 2, list, true⟩ it = some (59904 + 3 * 32 + 16 + 15, rd * 256 + rm) := by
        unfold Wm.rowW Wm.dataW
        dsimp only
        repeat (first | rw [if_neg (by omega)] | rw [if_pos (by omega)])
        rw [show Wm.opN 11 = 3 from rfl, Wm.fl_t, Wm.dN_lo _ _ _ _ _ _ _ _ _ (by decide), Wm.rN_15 _ _ _ _ _ _ _ _ _ (by decide)]
        rw [if_pos hq]
      rw [hR]
      rw [search_is, cands_11]
      simp only [searchC]
      rw [takesP_3, fieldsP_0, takesP_5, fieldsP_2]
      rw [if_neg (off21 _)]
      rw [if_pos (by simp [hq.1, hq.2])]
      rw [join_reg 3933143040 rn rd rm true (by omega) (by omega) (by omega) (by omega) (by omega) (by omega) (by omega) (by omega) (by omega) (by omega) (by omega) (.inr (by omega)) (by omega), show sB true = 1 from rfl]
      exact some_split _ _ _ (by omega) (by omega) (by omega)
    · exact absurd ⟨by omega, by omega⟩ hq
theorem we_11f (cond rd rn rm imm mode list : Int) (it : Bool) (hok : Nm.okB ⟨11, cond, rd, rn, rm, imm, mode, list, false⟩ = true) (hw : Nm.Wide list) :
    (searchP 11 cond rd rn rm imm mode list false it formT).map splitW = Wm.rowW Wm.findF ⟨11, cond, rd, rn, rm, imm, mode, list, false⟩ it := by
  obtain ⟨_, h1, h2, h3, h4, h5, h6⟩ := Nm.ok_parts hok
  clear hok
  have h3' := Nm.last_cases h3
  clear h3
  dsimp only at h1 h2 h3' h4 h5 h6
  have hl := Nm.list_most h4 0 (by decide) rfl hw
  have hc : cond = 0 := by simpa [Im.condB] using h5
  clear h4 h5 h6
  rcases h3' with ⟨rfl, q1, q2, rfl, rfl⟩ | ⟨rfl, q1, q2, q3, q4, rfl⟩ | ⟨rfl, q1, q2, rfl⟩
  · exact absurd q1 (by decide)
  · replace q2 : 0 ≤ imm := q2
    replace q3 : imm ≤ 4294967295 := q3
    clear q1 q4
    have hd := Wm.one_12 h1
    have hn := Nm.one_none h2
    clear h1 h2
    have hi : imm % 4294967296 = imm := by omega
    cases hx : Wm.findF imm with
    | some n =>
      obtain ⟨fb, fi, n0, n1⟩ := find_some q2 hx
      have hR : Wm.rowW Wm.findF ⟨11, cond, rd, rn, 0, imm, 1, list, false⟩ it = some (61440 + 3 * 32 + 0 + 15 + Wm.x1 n, rd * 256 + Wm.x2 n) := by
        unfold Wm.rowW Wm.dataW
        dsimp only
        repeat (first | rw [if_neg (by omega)] | rw [if_pos (by omega)])
        rw [hx]
        dsimp only
        rw [show Wm.opN 11 = 3 from rfl, Wm.fl_f _ _ _ _ _ _ _ _ (by decide), Wm.dN_lo _ _ _ _ _ _ _ _ _ (by decide), Wm.rN_15 _ _ _ _ _ _ _ _ _ (by decide)]
      rw [hR]
      rw [search_is, cands_11]
      simp only [searchC]
      rw [takesP_3, fieldsP_0, takesP_5, fieldsP_2]
      rw [if_pos (by rw [hi, fb]; rfl)]
      rw [join_expanded 4033806336 rn rd 0 imm false n (by rw [hi]; exact fi) n0 n1 (by omega) (by omega) (by omega) (by omega) (by omega) rfl (by omega) (by omega) (.inl rfl) (by omega) (by omega) (by omega) (by omega), show sB false = 0 from rfl]
      have hx := x_bd n
      exact some_split _ _ _ (by omega) (by omega) (by omega)
    | none =>
      have fb := find_none q2 hx
      have hR : Wm.rowW Wm.findF ⟨11, cond, rd, rn, 0, imm, 1, list, false⟩ it = none := by
        unfold Wm.rowW Wm.dataW
        dsimp only
        repeat (first | rw [if_neg (by omega)] | rw [if_pos (by omega)])
        rw [hx]
        try dsimp only
        repeat (first | rw [if_neg (by omega)] | rw [if_pos (by omega)])
      rw [hR]
      rw [search_is, cands_11]
      simp only [searchC]
      rw [takesP_3, fieldsP_0, takesP_5, fieldsP_2]
      rw [if_neg (off1 _ _ (by rw [hi]; exact fb))]
      rw [if_neg (off12 _)]
      rfl
  · have hm := Wm.one_12 q2
    clear q1 q2
    have hd := Wm.one_12 h1
    have hn := Nm.one_none h2
    clear h1 h2
    by_cases hq : rd ≠ 13 ∧ rm ≠ 13
    · have hR : Wm.rowW Wm.findF ⟨11, cond, rd, rn, rm, 0, 2, list, false⟩ it = some (59904 + 3 * 32 + 0 + 15, rd * 256 + rm) := by
        unfold Wm.rowW Wm.dataW
        dsimp only
        repeat (first | rw [if_neg (by omega)] | rw [if_pos (by omega)])
        rw [show Wm.opN 11 = 3 from rfl, Wm.fl_f _ _ _ _ _ _ _ _ (by decide), Wm.dN_lo _ _ _ _ _ _ _ _ _ (by decide), Wm.rN_15 _ _ _ _ _ _ _ _ _ (by decide)]
        rw [if_pos hq]
      rw [hR]
      rw [search_is, cands_11]
      simp only [searchC]
      rw [takesP_3, fieldsP_0, takesP_5, fieldsP_2]
      rw [if_neg (off21 _)]
      rw [if_pos (by simp [hq.1, hq.2])]
      rw [join_reg 3933143040 rn rd rm false (by omega) (by omega) (by omega) (by omega) (by omega) (by omega) (by omega) (by omega) (by omega) (by omega) (by omega) (.inl rfl) (by omega), show sB false = 0 from rfl]
      exact some_split _ _ _ (by omega) (by omega) (by omega)
    · exact absurd ⟨by omega, by omega⟩ hq
theorem we_11 (cond rd rn rm imm mode list : Int) (s it : Bool) (hok : Nm.okB ⟨11, cond, rd, rn, rm, imm, mode, list, s⟩ = true) (hw : Nm.Wide list) :
    (searchP 11 cond rd rn rm imm mode list s it formT).map splitW = Wm.rowW Wm.findF ⟨11, cond, rd, rn, rm, imm, mode, list, s⟩ it := by
  cases s
  · exact we_11f cond rd rn rm imm mode list it hok hw
  · exact we_11t cond rd rn rm imm mode list it hok hw
end Xw
end Go.Proofs.YtmofimgodmcdjaaDoor

namespace Go.Proofs.YtmofimgodmcdjaaDoor
open Go.ChangeShapes Go.WideShapes Go.ChangeAt Go.RowKit
namespace Xw

theorem we_12 (cond rd rn rm imm mode list : Int) (s it : Bool) (hok : Nm.okB ⟨12, cond, rd, rn, rm, imm, mode, list, s⟩ = true) (hw : Nm.Wide list) :
    (searchP 12 cond rd rn rm imm mode list s it formT).map splitW = Wm.rowW Wm.findF ⟨12, cond, rd, rn, rm, imm, mode, list, s⟩ it := by
  obtain ⟨_, h1, h2, h3, h4, h5, h6⟩ := Nm.ok_parts hok
  clear hok
  have h3' := Nm.last_cases h3
  clear h3
  dsimp only at h1 h2 h3' h4 h5 h6
  have hs := Nm.flag_off h6 rfl
  subst hs
  have hl := Nm.list_most h4 0 (by decide) rfl hw
  have hc : cond = 0 := by simpa [Im.condB] using h5
  clear h4 h5 h6
  rcases h3' with ⟨rfl, q1, q2, rfl, rfl⟩ | ⟨rfl, q1, q2, q3, q4, rfl⟩ | ⟨rfl, q1, q2, rfl⟩
  · exact absurd q1 (by decide)
  · replace q2 : 0 ≤ imm := q2
    replace q3 : imm ≤ 4294967295 := q3
    clear q1 q4
    have hd := Nm.one_none h1
    have hn := Wm.one_12 h2
    clear h1 h2
    have hi : imm % 4294967296 = imm := by omega
    cases hx : Wm.findF imm with
    | some n =>
      obtain ⟨fb, fi, n0, n1⟩ := find_some q2 hx
      have hR : Wm.rowW Wm.findF ⟨12, cond, rd, rn, 0, imm, 1, list, false⟩ it = some (61440 + 13 * 32 + 16 + rn + Wm.x1 n, 15 * 256 + Wm.x2 n) := by
        unfold Wm.rowW Wm.dataW
        dsimp only
        repeat (first | rw [if_neg (by omega)] | rw [if_pos (by omega)])
        rw [hx]
        dsimp only
        rw [show Wm.opN 12 = 13 from rfl, Wm.fl_hi _ _ _ _ _ _ _ _ (by decide), Wm.dN_hi _ _ _ _ _ _ _ _ _ (by decide), Wm.rN_no _ _ _ _ _ _ _ _ _ (by decide)]
      rw [hR]
      rw [search_is, cands_12]
      simp only [searchC]
      rw [takesP_3, fieldsP_0, takesP_5, fieldsP_2]
      rw [if_pos (by rw [hi, fb]; rfl)]
      rw [join_expanded 4054847232 rn rd 0 imm false n (by rw [hi]; exact fi) n0 n1 (by omega) (by omega) (by omega) (by omega) (by omega) rfl (by omega) (by omega) (.inl rfl) (by omega) (by omega) (by omega) (by omega), show sB false = 0 from rfl]
      have hx := x_bd n
      exact some_split _ _ _ (by omega) (by omega) (by omega)
    | none =>
      have fb := find_none q2 hx
      have hR : Wm.rowW Wm.findF ⟨12, cond, rd, rn, 0, imm, 1, list, false⟩ it = none := by
        unfold Wm.rowW Wm.dataW
        dsimp only
        repeat (first | rw [if_neg (by omega)] | rw [if_pos (by omega)])
        rw [hx]
        try dsimp only
        repeat (first | rw [if_neg (by omega)] | rw [if_pos (by omega)])
      rw [hR]
      rw [search_is, cands_12]
      simp only [searchC]
      rw [takesP_3, fieldsP_0, takesP_5, fieldsP_2]
      rw [if_neg (off1 _ _ (by rw [hi]; exact fb))]
      rw [if_neg (off12 _)]
      rfl
  · have hm := Wm.one_12 q2
    clear q1 q2
    have hd := Nm.one_none h1
    have hn := Wm.one_12 h2
    clear h1 h2
    by_cases hq : rd ≠ 13 ∧ rm ≠ 13
    · have hR : Wm.rowW Wm.findF ⟨12, cond, rd, rn, rm, 0, 2, list, false⟩ it = some (59904 + 13 * 32 + 16 + rn, 15 * 256 + rm) := by
        unfold Wm.rowW Wm.dataW
        dsimp only
        repeat (first | rw [if_neg (by omega)] | rw [if_pos (by omega)])
        rw [show Wm.opN 12 = 13 from rfl, Wm.fl_hi _ _ _ _ _ _ _ _ (by decide), Wm.dN_hi _ _ _ _ _ _ _ _ _ (by decide), Wm.rN_no _ _ _ _ _ _ _ _ _ (by decide)]
        rw [if_pos ⟨by decide, hq.2⟩]
      rw [hR]
      rw [search_is, cands_12]
      simp only [searchC]
      rw [takesP_3, fieldsP_0, takesP_5, fieldsP_2]
      rw [if_neg (off21 _)]
      rw [if_pos (by simp [hq.1, hq.2])]
      rw [join_reg 3954183936 rn rd rm false (by omega) (by omega) (by omega) (by omega) (by omega) (by omega) (by omega) (by omega) (by omega) (by omega) (by omega) (.inl rfl) (by omega), show sB false = 0 from rfl]
      exact some_split _ _ _ (by omega) (by omega) (by omega)
    · exact absurd ⟨by omega, by omega⟩ hq
theorem we_13 (cond rd rn rm imm mode list : Int) (s it : Bool) (hok : Nm.okB ⟨13, cond, rd, rn, rm, imm, mode, list, s⟩ = true) (hw : Nm.Wide list) :
    (searchP 13 cond rd rn rm imm mode list s it formT).map splitW = Wm.rowW Wm.findF ⟨13, cond, rd, rn, rm, imm, mode, list, s⟩ it := by
  obtain ⟨_, h1, h2, h3, h4, h5, h6⟩ := Nm.ok_parts hok
  clear hok
  have h3' := Nm.last_cases h3
  clear h3
  dsimp only at h1 h2 h3' h4 h5 h6
  have hs := Nm.flag_off h6 rfl
  subst hs
  have hl := Nm.list_most h4 0 (by decide) rfl hw
  have hc : cond = 0 := by simpa [Im.condB] using h5
  clear h4 h5 h6
  rcases h3' with ⟨rfl, q1, q2, rfl, rfl⟩ | ⟨rfl, q1, q2, q3, q4, rfl⟩ | ⟨rfl, q1, q2, rfl⟩
  · exact absurd q1 (by decide)
  · replace q2 : 0 ≤ imm := q2
    replace q3 : imm ≤ 4294967295 := q3
    clear q1 q4
    have hd := Nm.one_none h1
    have hn := Wm.one_12 h2
    clear h1 h2
    have hi : imm % 4294967296 = imm := by omega
    cases hx : Wm.findF imm with
    | some n =>
      obtain ⟨fb, fi, n0, n1⟩ := find_some q2 hx
      have hR : Wm.rowW Wm.findF ⟨13, cond, rd, rn, 0, imm, 1, list, false⟩ it = some (61440 + 8 * 32 + 16 + rn + Wm.x1 n, 15 * 256 + Wm.x2 n) := by
        unfold Wm.rowW Wm.dataW
        dsimp only
        repeat (first | rw [if_neg (by omega)] | rw [if_pos (by omega)])
        rw [hx]
        dsimp only
        rw [show Wm.opN 13 = 8 from rfl, Wm.fl_hi _ _ _ _ _ _ _ _ (by decide), Wm.dN_hi _ _ _ _ _ _ _ _ _ (by decide), Wm.rN_no _ _ _ _ _ _ _ _ _ (by decide)]
      rw [hR]
      rw [search_is, cands_13]
      simp only [searchC]
      rw [takesP_3, fieldsP_0, takesP_5, fieldsP_2]
      rw [if_pos (by rw [hi, fb]; rfl)]
      rw [join_expanded 4044361472 rn rd 0 imm false n (by rw [hi]; exact fi) n0 n1 (by omega) (by omega) (by omega) (by omega) (by omega) rfl (by omega) (by omega) (.inl rfl) (by omega) (by omega) (by omega) (by omega), show sB false = 0 from rfl]
      have hx := x_bd n
      exact some_split _ _ _ (by omega) (by omega) (by omega)
    | none =>
      have fb := find_none q2 hx
      have hR : Wm.rowW Wm.findF ⟨13, cond, rd, rn, 0, imm, 1, list, false⟩ it = none := by
        unfold Wm.rowW Wm.dataW
        dsimp only
        repeat (first | rw [if_neg (by omega)] | rw [if_pos (by omega)])
        rw [hx]
        try dsimp only
        repeat (first | rw [if_neg (by omega)] | rw [if_pos (by omega)])
      rw [hR]
      rw [search_is, cands_13]
      simp only [searchC]
      rw [takesP_3, fieldsP_0, takesP_5, fieldsP_2]
      rw [if_neg (off1 _ _ (by rw [hi]; exact fb))]
      rw [if_neg (off12 _)]
      rfl
  · have hm := Wm.one_12 q2
    clear q1 q2
    have hd := Nm.one_none h1
    have hn := Wm.one_12 h2
    clear h1 h2
    by_cases hq : rd ≠ 13 ∧ rm ≠ 13
    · have hR : Wm.rowW Wm.findF ⟨13, cond, rd, rn, rm, 0, 2, list, false⟩ it = some (59904 + 8 * 32 + 16 + rn, 15 * 256 + rm) := by
        unfold Wm.rowW Wm.dataW
        dsimp only
        repeat (first | rw [if_neg (by omega)] | rw [if_pos (by omega)])
        rw [show Wm.opN 13 = 8 from rfl, Wm.fl_hi _ _ _ _ _ _ _ _ (by decide), Wm.dN_hi _ _ _ _ _ _ _ _ _ (by decide), Wm.rN_no _ _ _ _ _ _ _ _ _ (by decide)]
        rw [if_pos ⟨by decide, hq.2⟩]
      rw [hR]
      rw [search_is, cands_13]
      simp only [searchC]
      rw [takesP_3, fieldsP_0, takesP_5, fieldsP_2]
      rw [if_neg (off21 _)]
      rw [if_pos (by simp [hq.1, hq.2])]
      rw [join_reg 3943698176 rn rd rm false (by omega) (by omega) (by omega) (by omega) (by omega) (by omega) (by omega) (by omega) (by omega) (by omega) (by omega) (.inl rfl) (by omega), show sB false = 0 from rfl]
      exact some_split _ _ _ (by omega) (by omega) (by omega)
    · exact absurd ⟨by omega, by omega⟩ hq
theorem we_14 (cond rd rn rm imm mode list : Int) (s it : Bool) (hok : Nm.okB ⟨14, cond, rd, rn, rm, imm, mode, list, s⟩ = true) (hw : Nm.Wide list) :
    (searchP 14 cond rd rn rm imm mode list s it formT).map splitW = Wm.rowW Wm.findF ⟨14, cond, rd, rn, rm, imm, mode, list, s⟩ it := by
  obtain ⟨_, h1, h2, h3, h4, h5, h6⟩ := Nm.ok_parts hok
  clear hok
  have h3' := Nm.last_cases h3
  clear h3
  dsimp only at h1 h2 h3' h4 h5 h6
  have hs := Nm.flag_off h6 rfl
  subst hs
  have hl := Nm.list_most h4 0 (by decide) rfl hw
  have hc : cond = 0 := by simpa [Im.condB] using h5
  clear h4 h5 h6
  rcases h3' with ⟨rfl, q1, q2, rfl, rfl⟩ | ⟨rfl, q1, q2, q3, q4, rfl⟩ | ⟨rfl, q1, q2, rfl⟩
  · exact absurd q1 (by decide)
  · replace q2 : 0 ≤ imm := q2
    replace q3 : imm ≤ 4294967295 := q3
    clear q1 q4
    have hd := Nm.one_none h1
    have hn := Wm.one_12 h2
    clear h1 h2
    have hi : imm % 4294967296 = imm := by omega
    cases hx : Wm.findF imm with
    | some n =>
      obtain ⟨fb, fi, n0, n1⟩ := find_some q2 hx
      have hR : Wm.rowW Wm.findF ⟨14, cond, rd, rn, 0, imm, 1, list, false⟩ it = some (61440 + 0 * 32 + 16 + rn + Wm.x1 n, 15 * 256 + Wm.x2 n) := by
        unfold Wm.rowW Wm.dataW
        dsimp only
        repeat (first | rw [if_neg (by omega)] | rw [if_pos (by omega)])
        rw [hx]
        dsimp only
        rw [show Wm.opN 14 = 0 from rfl, Wm.fl_hi _ _ _ _ _ _ _ _ (by decide), Wm.dN_hi _ _ _ _ _ _ _ _ _ (by decide), Wm.rN_no _ _ _ _ _ _ _ _ _ (by decide)]
      rw [hR]
      rw [search_is, cands_14]
      simp only [searchC]
      rw [takesP_3, fieldsP_0, takesP_5, fieldsP_2]
      rw [if_pos (by rw [hi, fb]; rfl)]
      rw [join_expanded 4027584256 rn rd 0 imm false n (by rw [hi]; exact fi) n0 n1 (by omega) (by omega) (by omega) (by omega) (by omega) rfl (by omega) (by omega) (.inl rfl) (by omega) (by omega) (by omega) (by omega), show sB false = 0 from rfl]
      have hx := x_bd n
      exact some_split _ _ _ (by omega) (by omega) (by omega)
    | none =>
      have fb := find_none q2 hx
      have hR : Wm.rowW Wm.findF ⟨14, cond, rd, rn, 0, imm, 1, list, false⟩ it = none := by
        unfold Wm.rowW Wm.dataW
        dsimp only
        repeat (first | rw [if_neg (by omega)] | rw [if_pos (by omega)])
        rw [hx]
        try dsimp only
        repeat (first | rw [if_neg (by omega)] | rw [if_pos (by omega)])
      rw [hR]
      rw [search_is, cands_14]
      simp only [searchC]
      rw [takesP_3, fieldsP_0, takesP_5, fieldsP_2]
      rw [if_neg (off1 _ _ (by rw [hi]; exact fb))]
      rw [if_neg (off12 _)]
      rfl
  · have hm := Wm.one_12 q2
    clear q1 q2
    have hd := Nm.one_none h1
    have hn := Wm.one_12 h2
    clear h1 h2
    by_cases hq : rd ≠ 13 ∧ rm ≠ 13
    · have hR : Wm.rowW Wm.findF ⟨14, cond, rd, rn, rm, 0, 2, list, false⟩ it = some (59904 + 0 * 32 + 16 + rn, 15 * 256 + rm) := by
        unfold Wm.rowW Wm.dataW
        dsimp only
        repeat (first | rw [if_neg (by omega)] | rw [if_pos (by omega)])
        rw [show Wm.opN 14 = 0 from rfl, Wm.fl_hi _ _ _ _ _ _ _ _ (by decide), Wm.dN_hi _ _ _ _ _ _ _ _ _ (by decide), Wm.rN_no _ _ _ _ _ _ _ _ _ (by decide)]
        rw [if_pos ⟨by decide, hq.2⟩]
      rw [hR]
      rw [search_is, cands_14]
      simp only [searchC]
      rw [takesP_3, fieldsP_0, takesP_5, fieldsP_2]
      rw [if_neg (off21 _)]
      rw [if_pos (by simp [hq.1, hq.2])]
      rw [join_reg 3926920960 rn rd rm false (by omega) (by omega) (by omega) (by omega) (by omega) (by omega) (by omega) (by omega) (by omega) (by omega) (by omega) (.inl rfl) (by omega), show sB false = 0 from rfl]
      exact some_split _ _ _ (by omega) (by omega) (by omega)
    · exact absurd ⟨by omega, by omega⟩ hq
theorem we_15 (cond rd rn rm imm mode list : Int) (s it : Bool) (hok : Nm.okB ⟨15, cond, rd, rn, rm, imm, mode, list, s⟩ = true) (hw : Nm.Wide list) :
    (searchP 15 cond rd rn rm imm mode list s it formT).map splitW = Wm.rowW Wm.findF ⟨15, cond, rd, rn, rm, imm, mode, list, s⟩ it := by
  obtain ⟨_, h1, h2, h3, h4, h5, h6⟩ := Nm.ok_parts hok
  clear hok
  have h3' := Nm.last_cases h3
  clear h3
  dsimp only at h1 h2 h3' h4 h5 h6
  have hs := Nm.flag_off h6 rfl
  subst hs
  have hl := Nm.list_most h4 0 (by decide) rfl hw
  have hc : cond = 0 := by simpa [Im.condB] using h5
  clear h4 h5 h6
  rcases h3' with ⟨rfl, q1, q2, rfl, rfl⟩ | ⟨rfl, q1, q2, q3, q4, rfl⟩ | ⟨rfl, q1, q2, rfl⟩
  · exact absurd q1 (by decide)
  · replace q2 : 0 ≤ imm := q2
    replace q3 : imm ≤ 4294967295 := q3
    clear q1 q4
    have hd := Nm.one_none h1
    have hn := Wm.one_12 h2
    clear h1 h2
    have hi : imm % 4294967296 = imm := by omega
    cases hx : Wm.findF imm with
    | some n =>
      obtain ⟨fb, fi, n0, n1⟩ := find_some q2 hx
      have hR : Wm.rowW Wm.findF ⟨15, cond, rd, rn, 0, imm, 1, list, false⟩ it = some (61440 + 4 * 32 + 16 + rn + Wm.x1 n, 15 * 256 + Wm.x2 n) := by
        unfold Wm.rowW Wm.dataW
        dsimp only
        repeat (first | rw [if_neg (by omega)] | rw [if_pos (by omega)])
        rw [hx]
        dsimp only
        rw [show Wm.opN 15 = 4 from rfl, Wm.fl_hi _ _ _ _ _ _ _ _ (by decide), Wm.dN_hi _ _ _ _ _ _ _ _ _ (by decide), Wm.rN_no _ _ _ _ _ _ _ _ _ (by decide)]
      rw [hR]
      rw [search_is, cands_15]
      simp only [searchC]
      rw [takesP_3, fieldsP_0, takesP_5, fieldsP_2]
      rw [if_pos (by rw [hi, fb]; rfl)]
      rw [join_expanded 4035972864 rn rd 0 imm false n (by rw [hi]; exact fi) n0 n1 (by omega) (by omega) (by omega) (by omega) (by omega) rfl (by omega) (by omega) (.inl rfl) (by omega) (by omega) (by omega) (by omega), show sB false = 0 from rfl]
      have hx := x_bd n
      exact some_split _ _ _ (by omega) (by omega) (by omega)
    | none =>
      have fb := find_none q2 hx
      have hR : Wm.rowW Wm.findF ⟨15, cond, rd, rn, 0, imm, 1, list, false⟩ it = none := by
        unfold Wm.rowW Wm.dataW
        dsimp only
        repeat (first | rw [if_neg (by omega)] | rw [if_pos (by omega)])
        rw [hx]
        try dsimp only
        repeat (first | rw [if_neg (by omega)] | rw [if_pos (by omega)])
      rw [hR]
      rw [search_is, cands_15]
      simp only [searchC]
      rw [takesP_3, fieldsP_0, takesP_5, fieldsP_2]
      rw [if_neg (off1 _ _ (by rw [hi]; exact fb))]
      rw [if_neg (off12 _)]
      rfl
  · have hm := Wm.one_12 q2
    clear q1 q2
    have hd := Nm.one_none h1
    have hn := Wm.one_12 h2
    clear h1 h2
    by_cases hq : rd ≠ 13 ∧ rm ≠ 13
    · have hR : Wm.rowW Wm.findF ⟨15, cond, rd, rn, rm, 0, 2, list, false⟩ it = some (59904 + 4 * 32 + 16 + rn, 15 * 256 + rm) := by
        unfold Wm.rowW Wm.dataW
        dsimp only
        repeat (first | rw [if_neg (by omega)] | rw [if_pos (by omega)])
        rw [show Wm.opN 15 = 4 from rfl, Wm.fl_hi _ _ _ _ _ _ _ _ (by decide), Wm.dN_hi _ _ _ _ _ _ _ _ _ (by decide), Wm.rN_no _ _ _ _ _ _ _ _ _ (by decide)]
        rw [if_pos ⟨by decide, hq.2⟩]
      rw [hR]
      rw [search_is, cands_15]
      simp only [searchC]
      rw [takesP_3, fieldsP_0, takesP_5, fieldsP_2]
      rw [if_neg (off21 _)]
      rw [if_pos (by simp [hq.1, hq.2])]
      rw [join_reg 3935309568 rn rd rm false (by omega) (by omega) (by omega) (by omega) (by omega) (by omega) (by omega) (by omega) (by omega) (by omega) (by omega) (.inl rfl) (by omega), show sB false = 0 from rfl]
      exact some_split _ _ _ (by omega) (by omega) (by omega)
    · exact absurd ⟨by omega, by omega⟩ hq
end Xw
end Go.Proofs.YtmofimgodmcdjaaDoor
