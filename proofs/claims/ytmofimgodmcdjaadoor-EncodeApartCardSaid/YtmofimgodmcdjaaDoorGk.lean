/- The search over wide's forms, plainly: operations on data (text by gen_xp.py). No conditions but those that each fact names. The search over wide's forms, plainly: operations on data (text by gen_xp.py). No conditions but those that each fact names. -/
import Derived.Test.YtmofimgodmcdjaaDoorXp

namespace Go.Proofs.YtmofimgodmcdjaaDoor
open Go.ChangeShapes Go.WideShapes Go.ChangeAt Go.RowKit
namespace Xw

theorem we_1t (cond rd rn rm imm mode list : Int) (it : Bool) (hok : Nm.okB ⟨1, cond, rd, rn, rm, imm, mode, list, true⟩ = true) (hw : Nm.Wide list) :
    (searchP 1 cond rd rn rm imm mode list true it formT).map splitW = Wm.rowW Wm.findF ⟨1, cond, rd, rn, rm, imm, mode, list, true⟩ it := by
  obtain ⟨_, h1, h2, h3, h4, h5, h6⟩ := Nm.ok_parts hok
  clear hok
  have h3' := Nm.last_cases h3
  clear h3
  dsimp only at h1 h2 h3' h4 h5 h6
  have hl := Nm.list_most h4 0 (by decide) rfl hw
  have hc : cond = 0 := by simpa [Im.condB] using h5
  clear h4 h5 h6
  rcases h3' with ⟨rfl, q1, q2, rfl, rfl⟩ | ⟨rfl, q1, q2, q3, q4, rfl⟩ | ⟨rfl, q1, q2, rfl⟩
  · exact absurd q1 (by decide)
  · replace q2 : 0 ≤ imm := q2
    replace q3 : imm ≤ 4294967295 := q3
    clear q1 q4
    have hd := Wm.one_12 h1
    have hn := Wm.one_12 h2
    clear h1 h2
    have hi : imm % 4294967296 = imm := by omega
    cases hx : Wm.findF imm with
    | some n =>
      obtain ⟨fb, fi, n0, n1⟩ := find_some q2 hx
      have hR : Wm.rowW Wm.findF ⟨1, cond, rd, rn, 0, imm, 1, list, true⟩ it = some (61440 + 0 * 32 + 16 + rn + Wm.x1 n, rd * 256 + Wm.x2 n) := by
        unfold Wm.rowW Wm.dataW
        dsimp only
        repeat (first | rw [if_neg (by omega)] | rw [if_pos (by omega)])
        rw [hx]
        dsimp only
        rw [show Wm.opN 1 = 0 from rfl, Wm.fl_t, Wm.dN_lo _ _ _ _ _ _ _ _ _ (by decide), Wm.rN_no _ _ _ _ _ _ _ _ _ (by decide)]
      rw [hR]
      rw [search_is, cands_1]
      simp only [searchC]
      rw [takesP_3, fieldsP_0, takesP_5, fieldsP_2]
      rw [if_pos (by rw [hi, fb]; rfl)]
      rw [join_expanded 4026531840 rn rd 0 imm true n (by rw [hi]; exact fi) n0 n1 (by omega) (by omega) (by omega) (by omega) (by omega) rfl (by omega) (by omega) (.inr (by omega)) (by omega) (by omega) (by omega) (by omega), show sB true = 1 from rfl]
      have hx := x_bd n
      exact some_split _ _ _ (by omega) (by omega) (by omega)
    | none =>
      have fb := find_none q2 hx
      have hR : Wm.rowW Wm.findF ⟨1, cond, rd, rn, 0, imm, 1, list, true⟩ it = none := by
        unfold Wm.rowW Wm.dataW
        dsimp only
        repeat (first | rw [if_neg (by omega)] | rw [if_pos (by omega)])
        rw [hx]
        try dsimp only
        repeat (first | rw [if_neg (by omega)] | rw [if_pos (by omega)])
      rw [hR]
      rw [search_is, cands_1]
      simp only [searchC]
      rw [takesP_3, fieldsP_0, takesP_5, fieldsP_2]
      rw [if_neg (off1 _ _ (by rw [hi]; exact fb))]
      rw [if_neg (off12 _)]
      rfl
  · have hm := Wm.one_12 q2
    clear q1 q2
    have hd := Wm.one_12 h1
    have hn := Wm.one_12 h2
    clear h1 h2
    by_cases hq : rd ≠ 13 ∧ rm ≠ 13
    · have hR : Wm.rowW Wm.findF ⟨1, cond, rd, rn, rm, 0, 2, list, true⟩ it = some (59904 + 0 * 32 + 16 + rn, rd * 256 + rm) := by
        unfold Wm.rowW Wm.dataW
        dsimp only
        repeat (first | rw [if_neg (by omega)] | rw [if_pos (by omega)])
        rw [show Wm.opN 1 = 0 from rfl, Wm.fl_t, Wm.dN_lo _ _ _ _ _ _ _ _ _ (by decide), Wm.rN_no _ _ _ _ _ _ _ _ _ (by decide)]
        rw [if_pos hq]
      rw [hR]
      rw [search_is, cands_1]
      simp only [searchC]
      rw [takesP_3, fieldsP_0, takesP_5, fieldsP_2]
      rw [if_neg (off21 _)]
      rw [if_pos (by simp [hq.1, hq.2])]
      rw [join_reg 3925868544 rn rd rm true (by omega) (by omega) (by omega) (by omega) (by omega) (by omega) (by omega) (by omega) (by omega) (by omega) (by omega) (.inr (by omega)) (by omega), show sB true = 1 from rfl]
      exact some_split _ _ _ (by omega) (by omega) (by omega)
    · exact absurd ⟨by omega, by omega⟩ hq
theorem we_1f (cond rd rn rm imm mode list : Int) (it : Bool) (hok : Nm.okB ⟨1, cond, rd, rn, rm, imm, mode, list, false⟩ = true) (hw : Nm.Wide list) :
    (searchP 1 cond rd rn rm imm mode list false it formT).map splitW = Wm.rowW Wm.findF ⟨1, cond, rd, rn, rm, imm, mode, list, false⟩ it := by
  obtain ⟨_, h1, h2, h3, h4, h5, h6⟩ := Nm.ok_parts hok
  clear hok
  have h3' := Nm.last_cases h3
  clear h3
  dsimp only at h1 h2 h3' h4 h5 h6
  have hl := Nm.list_most h4 0 (by decide) rfl hw
  have hc : cond = 0 := by simpa [Im.condB] using h5
  clear h4 h5 h6
  rcases h3' with ⟨rfl, q1, q2, rfl, rfl⟩ | ⟨rfl, q1, q2, q3, q4, rfl⟩ | ⟨rfl, q1, q2, rfl⟩
  · exact absurd q1 (by decide)
  · replace q2 : 0 ≤ imm := q2
    replace q3 : imm ≤ 4294967295 := q3
    clear q1 q4
    have hd := Wm.one_12 h1
    have hn := Wm.one_12 h2
    clear h1 h2
    have hi : imm % 4294967296 = imm := by omega
    cases hx : Wm.findF imm with
    | some n =>
      obtain ⟨fb, fi, n0, n1⟩ := find_some q2 hx
      have hR : Wm.rowW Wm.findF ⟨1, cond, rd, rn, 0, imm, 1, list, false⟩ it = some (61440 + 0 * 32 + 0 + rn + Wm.x1 n, rd * 256 + Wm.x2 n) := by
        unfold Wm.rowW Wm.dataW
        dsimp only
        repeat (first | rw [if_neg (by omega)] | rw [if_pos (by omega)])
        rw [hx]
        dsimp only
        rw [show Wm.opN 1 = 0 from rfl, Wm.fl_f _ _ _ _ _ _ _ _ (by decide), Wm.dN_lo _ _ _ _ _ _ _ _ _ (by decide), Wm.rN_no _ _ _ _ _ _ _ _ _ (by decide)]
      rw [hR]
      rw [search_is, cands_1]
      simp only [searchC]
      rw [takesP_3, fieldsP_0, takesP_5, fieldsP_2]
      rw [if_pos (by rw [hi, fb]; rfl)]
      rw [join_expanded 4026531840 rn rd 0 imm false n (by rw [hi]; exact fi) n0 n1 (by omega) (by omega) (by omega) (by omega) (by omega) rfl (by omega) (by omega) (.inl rfl) (by omega) (by omega) (by omega) (by omega), show sB false = 0 from rfl]
      have hx := x_bd n
      exact some_split _ _ _ (by omega) (by omega) (by omega)
    | none =>
      have fb := find_none q2 hx
      have hR : Wm.rowW Wm.findF ⟨1, cond, rd, rn, 0, imm, 1, list, false⟩ it = none := by
        unfold Wm.rowW Wm.dataW
        dsimp only
        repeat (first | rw [if_neg (by omega)] | rw [if_pos (by omega)])
        rw [hx]
        try dsimp only
        repeat (first | rw [if_neg (by omega)] | rw [if_pos (by omega)])
      rw [hR]
      rw [search_is, cands_1]
      simp only [searchC]
      rw [takesP_3, fieldsP_0, takesP_5, fieldsP_2]
      rw [if_neg (off1 _ _ (by rw [hi]; exact fb))]
      rw [if_neg (off12 _)]
      rfl
  · have hm := Wm.one_12 q2
    clear q1 q2
    have hd := Wm.one_12 h1
    have hn := Wm.one_12 h2
    clear h1 h2
    by_cases hq : rd ≠ 13 ∧ rm ≠ 13
    · have hR : Wm.rowW Wm.findF ⟨1, cond, rd, rn, rm, 0, 2, list, false⟩ it = some (59904 + 0 * 32 + 0 + rn, rd * 256 + rm) := by
        unfold Wm.rowW Wm.dataW
        dsimp only
        repeat (first | rw [if_neg (by omega)] | rw [if_pos (by omega)])
        rw [show Wm.opN 1 = 0 from rfl, Wm.fl_f _ _ _ _ _ _ _ _ (by decide), Wm.dN_lo _ _ _ _ _ _ _ _ _ (by decide), Wm.rN_no _ _ _ _ _ _ _ _ _ (by decide)]
        rw [if_pos hq]
      rw [hR]
      rw [search_is, cands_1]
      simp only [searchC]
      rw [takesP_3, fieldsP_0, takesP_5, fieldsP_2]
      rw [if_neg (off21 _)]
      rw [if_pos (by simp [hq.1, hq.2])]
      rw [join_reg 3925868544 rn rd rm false (by omega) (by omega) (by omega) (by omega) (by omega) (by omega) (by omega) (by omega) (by omega) (by omega) (by omega) (.inl rfl) (by omega), show sB false = 0 from rfl]
      exact some_split _ _ _ (by omega) (by omega) (by omega)
    · exact absurd ⟨by omega, by omega⟩ hq
theorem we_1 (cond rd rn rm imm mode list : Int) (s it : Bool) (hok : Nm.okB ⟨1, cond, rd, rn, rm, imm, mode, list, s⟩ = true) (hw : Nm.Wide list) :
    (searchP 1 cond rd rn rm imm mode list s it formT).map splitW = Wm.rowW Wm.findF ⟨1, cond, rd, rn, rm, imm, mode, list, s⟩ it := by
  cases s
  · exact we_1f cond rd rn rm imm mode list it hok hw
  · exact we_1t cond rd rn rm imm mode list it hok hw
theorem we_2t (cond rd rn rm imm mode list : Int) (it : Bool) (hok : Nm.okB ⟨2, cond, rd, rn, rm, imm, mode, list, true⟩ = true) (hw : Nm.Wide list) :
    (searchP 2 cond rd rn rm imm mode list true it formT).map splitW = Wm.rowW Wm.findF ⟨2, cond, rd, rn, rm, imm, mode, list, true⟩ it := by
  obtain ⟨_, h1, h2, h3, h4, h5, h6⟩ := Nm.ok_parts hok
  clear hok
  have h3' := Nm.last_cases h3
  clear h3
  dsimp only at h1 h2 h3' h4 h5 h6
  have hl := Nm.list_most h4 0 (by decide) rfl hw
  have hc : cond = 0 := by simpa [Im.condB] using h5
  clear h4 h5 h6
  rcases h3' with ⟨rfl, q1, q2, rfl, rfl⟩ | ⟨rfl, q1, q2, q3, q4, rfl⟩ | ⟨rfl, q1, q2, rfl⟩
  · exact absurd q1 (by decide)
  · replace q2 : 0 ≤ imm := q2
    replace q3 : imm ≤ 4294967295 := q3
    clear q1 q4
    have hd := Wm.one_12 h1
    have hn := Wm.one_12 h2
    clear h1 h2
    have hi : imm % 4294967296 = imm := by omega
    cases hx : Wm.findF imm with
    | some n =>
      obtain ⟨fb, fi, n0, n1⟩ := find_some q2 hx
      have hR : Wm.rowW Wm.findF ⟨2, cond, rd, rn, 0, imm, 1, list, true⟩ it = some (61440 + 4 * 32 + 16 + rn + Wm.x1 n, rd * 256 + Wm.x2 n) := by
        unfold Wm.rowW Wm.dataW
        dsimp only
        repeat (first | rw [if_neg (by omega)] | rw [if_pos (by omega)])
        rw [hx]
        dsimp only
        rw [show Wm.opN 2 = 4 from rfl, Wm.fl_t, Wm.dN_lo _ _ _ _ _ _ _ _ _ (by decide), Wm.rN_no _ _ _ _ _ _ _ _ _ (by decide)]
      rw [hR]
      rw [search_is, cands_2]
      simp only [searchC]
      rw [takesP_3, fieldsP_0, takesP_5, fieldsP_2]
      rw [if_pos (by rw [hi, fb]; rfl)]
      rw [join_expanded 4034920448 rn rd 0 imm true n (by rw [hi]; exact fi) n0 n1 (by omega) (by omega) (by omega) (by omega) (by omega) rfl (by omega) (by omega) (.inr (by omega)) (by omega) (by omega) (by omega) (by omega), show sB true = 1 from rfl]
      have hx := x_bd n
      exact some_split _ _ _ (by omega) (by omega) (by omega)
    | none =>
      have fb := find_none q2 hx
      have hR : Wm.rowW Wm.findF ⟨2, cond, rd, rn, 0, imm, 1, list, true⟩ it = none := by
        unfold Wm.rowW Wm.dataW
        dsimp only
        repeat (first | rw [if_neg (by omega)] | rw [if_pos (by omega)])
        rw [hx]
        try dsimp only
        repeat (first | rw [if_neg (by omega)] | rw [if_pos (by omega)])
      rw [hR]
      rw [search_is, cands_2]
      simp only [searchC]
      rw [takesP_3, fieldsP_0, takesP_5, fieldsP_2]
      rw [if_neg (off1 _ _ (by rw [hi]; exact fb))]
      rw [if_neg (off12 _)]
      rfl
  · have hm := Wm.one_12 q2
    clear q1 q2
    have hd := Wm.one_12 h1
    have hn := Wm.one_12 h2
    clear h1 h2
    by_cases hq : rd ≠ 13 ∧ rm ≠ 13
    · have hR : Wm.rowW Wm.findF ⟨2, cond, rd, rn, rm, 0, 2, list, true⟩ it = some (59904 + 4 * 32 + 16 + rn, rd * 256 + rm) := by
        unfold Wm.rowW Wm.dataW
        dsimp only
        repeat (first | rw [if_neg (by omega)] | rw [if_pos (by omega)])
        rw [show Wm.opN 2 = 4 from rfl, Wm.fl_t, Wm.dN_lo _ _ _ _ _ _ _ _ _ (by decide), Wm.rN_no _ _ _ _ _ _ _ _ _ (by decide)]
        rw [if_pos hq]
      rw [hR]
      rw [search_is, cands_2]
      simp only [searchC]
      rw [takesP_3, fieldsP_0, takesP_5, fieldsP_2]
      rw [if_neg (off21 _)]
      rw [if_pos (by simp [hq.1, hq.2])]
      rw [join_reg 3934257152 rn rd rm true (by omega) (by omega) (by omega) (by omega) (by omega) (by omega) (by omega) (by omega) (by omega) (by omega) (by omega) (.inr (by omega)) (by omega), show sB true = 1 from rfl]
      exact some_split _ _ _ (by omega) (by omega) (by omega)
    · exact absurd ⟨by omega, by omega⟩ hq
theorem we_2f (cond rd rn rm imm mode list : Int) (it : Bool) (hok : Nm.okB ⟨2, cond, rd, rn, rm, imm, mode, list, false⟩ = true) (hw : Nm.Wide list) :
    (searchP 2 cond rd rn rm imm mode list false it formT).map splitW = Wm.rowW Wm.findF ⟨2, cond, rd, rn, rm, imm, mode, list, false⟩ it := by
  obtain ⟨_, h1, h2, h3, h4, h5, h6⟩ := Nm.ok_parts hok
  clear hok
  have h3' := Nm.last_cases h3
  clear h3
  dsimp only at h1 h2 h3' h4 h5 h6
  have hl := Nm.list_most h4 0 (by decide) rfl hw
  have hc : cond = 0 := by simpa [Im.condB] using h5
  clear h4 h5 h6
  rcases h3' with ⟨rfl, q1, q2, rfl, rfl⟩ | ⟨rfl, q1, q2, q3, q4, rfl⟩ | ⟨rfl, q1, q2, rfl⟩
  · exact absurd q1 (by decide)
  · replace q2 : 0 ≤ imm := q2
    replace q3 : imm ≤ 4294967295 := q3
    clear q1 q4
    have hd := Wm.one_12 h1
    have hn := Wm.one_12 h2
    clear h1 h2
    have hi : imm % 4294967296 = imm := by omega
    cases hx : Wm.findF imm with
    | some n =>
      obtain ⟨fb, fi, n0, n1⟩ := find_some q2 hx
      have hR : Wm.rowW Wm.findF ⟨2, cond, rd, rn, 0, imm, 1, list, false⟩ it = some (61440 + 4 * 32 + 0 + rn + Wm.x1 n, rd * 256 + Wm.x2 n) := by
        unfold Wm.rowW Wm.dataW
        dsimp only
        repeat (first | rw [if_neg (by omega)] | rw [if_pos (by omega)])
        rw [hx]
        dsimp only
        rw [show Wm.opN 2 = 4 from rfl, Wm.fl_f _ _ _ _ _ _ _ _ (by decide), Wm.dN_lo _ _ _ _ _ _ _ _ _ (by decide), Wm.rN_no _ _ _ _ _ _ _ _ _ (by decide)]
      rw [hR]
      rw [search_is, cands_2]
      simp only [searchC]
      rw [takesP_3, fieldsP_0, takesP_5, fieldsP_2]
      rw [if_pos (by rw [hi, fb]; rfl)]
      rw [join_expanded 4034920448 rn rd 0 imm false n (by rw [hi]; exact fi) n0 n1 (by omega) (by omega) (by omega) (by omega) (by omega) rfl (by omega) (by omega) (.inl rfl) (by omega) (by omega) (by omega) (by omega), show sB false = 0 from rfl]
      have hx := x_bd n
      exact some_split _ _ _ (by omega) (by omega) (by omega)
    | none =>
      have fb := find_none q2 hx
      have hR : Wm.rowW Wm.findF ⟨2, cond, rd, rn, 0, imm, 1, list, false⟩ it = none := by
        unfold Wm.rowW Wm.dataW
        dsimp only
        repeat (first | rw [if_neg (by omega)] | rw [if_pos (by omega)])
        rw [hx]
        try dsimp only
        repeat (first | rw [if_neg (by omega)] | rw [if_pos (by omega)])
      rw [hR]
      rw [search_is, cands_2]
      simp only [searchC]
      rw [takesP_3, fieldsP_0, takesP_5, fieldsP_2]
      rw [if_neg (off1 _ _ (by rw [hi]; exact fb))]
      rw [if_neg (off12 _)]
      rfl
  · have hm := Wm.one_12 q2
    clear q1 q2
    have hd := Wm.one_12 h1
    have hn := Wm.one_12 h2
    clear h1 h2
    by_cases hq : rd ≠ 13 ∧ rm ≠ 13
    · have hR : Wm.rowW Wm.findF ⟨2, cond, rd, rn, rm, 0, 2, list, false⟩ it = some (59904 + 4 * 32 + 0 + rn, rd * 256 + rm) := by
        unfold Wm.rowW Wm.dataW
        dsimp only
        repeat (first | rw [if_neg (by omega)] | rw [if_pos (by omega)])
        rw [show Wm.opN 2 = 4 from rfl, Wm.fl_f _ _ _ _ _ _ _ _ (by decide), Wm.dN_lo _ _ _ _ _ _ _ _ _ (by decide), Wm.rN_no _ _ _ _ _ _ _ _ _ (by decide)]
        rw [if_pos hq]
      rw [hR]
      rw [search_is, cands_2]
      simp only [searchC]
      rw [takesP_3, fieldsP_0, takesP_5, fieldsP_2]
      rw [if_neg (off21 _)]
      rw [if_pos (by simp [hq.1, hq.2])]
      rw [join_reg 3934257152 rn rd rm false (by omega) (by omega) (by omega) (by omega) (by omega) (by omega) (by omega) (by omega) (by omega) (by omega) (by omega) (.inl rfl) (by omega), show sB false = 0 from rfl]
      exact some_split _ _ _ (by omega) (by omega) (by omega)
    · exact absurd ⟨by omega, by omega⟩ hq
theorem we_2 (cond rd rn rm imm mode list : Int) (s it : Bool) (hok : Nm.okB ⟨2, cond, rd, rn, rm, imm, mode, list, s⟩ = true) (hw : Nm.Wide list) :
    (searchP 2 cond rd rn rm imm mode list s it formT).map splitW = Wm.rowW Wm.findF ⟨2, cond, rd, rn, rm, imm, mode, list, s⟩ it := by
  cases s
  · exact we_2f cond rd rn rm imm mode list it hok hw
  · exact we_2t cond rd rn rm imm mode list it hok hw
theorem we_3t (cond rd rn rm imm mode list : Int) (it : Bool) (hok : Nm.okB ⟨3, cond, rd, rn, rm, imm, mode, list, true⟩ = true) (hw : Nm.Wide list) :
    (searchP 3 cond rd rn rm imm mode list true it formT).map splitW = Wm.rowW Wm.findF ⟨3, cond, rd, rn, rm, imm, mode, list, true⟩ it := by
  obtain ⟨_, h1, h2, h3, h4, h5, h6⟩ := Nm.ok_parts hok
  clear hok
  have h3' := Nm.last_cases h3
  clear h3
  dsimp only at h1 h2 h3' h4 h5 h6
  have hl := Nm.list_most h4 0 (by decide) rfl hw
  have hc : cond = 0 := by simpa [Im.condB] using h5
  clear h4 h5 h6
  rcases h3' with ⟨rfl, q1, q2, rfl, rfl⟩ | ⟨rfl, q1, q2, q3, q4, rfl⟩ | ⟨rfl, q1, q2, rfl⟩
  · exact absurd q1 (by decide)
  · replace q2 : 0 ≤ imm := q2
    replace q3 : imm ≤ 4294967295 := q3
    clear q1 q4
    have hd := Wm.one_12 h1
    have hn := Wm.one_12 h2
    clear h1 h2
    have hi : imm % 4294967296 = imm := by omega
    cases hx : Wm.findF imm with
    | some n =>
      obtain ⟨fb, fi, n0, n1⟩ := find_some q2 hx
      have hR : Wm.rowW Wm.findF ⟨3, cond, rd, rn, 0, imm, 1, list, true⟩ it = some (61440 + 2 * 32 + 16 + rn + Wm.x1 n, rd * 256 + Wm.x2 n) := by
        unfold Wm.rowW Wm.dataW
        dsimp only
        repeat (first | rw [if_neg (by omega)] | rw [if_pos (by omega)])
        rw [hx]
        dsimp only
        rw [show Wm.opN 3 = 2 from rfl, Wm.fl_t, Wm.dN_lo _ _ _ _ _ _ _ _ _ (by decide), Wm.rN_no _ _ _ _ _ _ _ _ _ (by decide)]
      rw [hR]
      rw [search_is, cands_3]
      simp only [searchC]
      rw [takesP_3, fieldsP_0, takesP_5, fieldsP_2]
      rw [if_pos (by rw [hi, fb]; rfl)]
      rw [join_expanded 4030726144 rn rd 0 imm true n (by rw [hi]; exact fi) n0 n1 (by omega) (by omega) (by omega) (by omega) (by omega) rfl (by omega) (by omega) (.inr (by omega)) (by omega) (by omega) (by omega) (by omega), show sB true = 1 from rfl]
      have hx := x_bd n
      exact some_split _ _ _ (by omega) (by omega) (by omega)
    | none =>
      have fb := find_none q2 hx
      have hR : Wm.rowW Wm.findF ⟨3, cond, rd, rn, 0, imm, 1, list, true⟩ it = none := by
        unfold Wm.rowW Wm.dataW
        dsimp only
        repeat (first | rw [if_neg (by omega)] | rw [if_pos (by omega)])
        rw [hx]
        try dsimp only
        repeat (first | rw [if_neg (by omega)] | rw [if_pos (by omega)])
      rw [hR]
      rw [search_is, cands_3]
      simp only [searchC]
      rw [takesP_3, fieldsP_0, takesP_5, fieldsP_2]
      rw [if_neg (off1 _ _ (by rw [hi]; exact fb))]
      rw [if_neg (off12 _)]
      rfl
  · have hm := Wm.one_12 q2
    clear q1 q2
    have hd := Wm.one_12 h1
    have hn := Wm.one_12 h2
    clear h1 h2
    by_cases hq : rd ≠ 13 ∧ rm ≠ 13
    · have hR : Wm.rowW Wm.findF ⟨3, cond, rd, rn, rm, 0, 2, list, true⟩ it = some (59904 + 2 * 32 + 16 + rn, rd * 256 + rm) := by
        unfold Wm.rowW Wm.dataW
        dsimp only
        repeat (first | rw [if_neg (by omega)] | rw [if_pos (by omega)])
        rw [show Wm.opN 3 = 2 from rfl, Wm.fl_t, Wm.dN_lo _ _ _ _ _ _ _ _ _ (by decide), Wm.rN_no _ _ _ _ _ _ _ _ _ (by decide)]
        rw [if_pos hq]
      rw [hR]
      rw [search_is, cands_3]
      simp only [searchC]
      rw [takesP_3, fieldsP_0, takesP_5, fieldsP_2]
      rw [if_neg (off21 _)]
      rw [if_pos (by simp [hq.1, hq.2])]
      rw [join_reg 3930062848 rn rd rm true (by omega) (by omega) (by omega) (by omega) (by omega) (by omega) (by omega) (by omega) (by omega) (by omega) (by omega) (.inr (by omega)) (by omega), show sB true = 1 from rfl]
      exact some_split _ _ _ (by omega) (by omega) (by omega)
    · exact absurd ⟨by omega, by omega⟩ hq
theorem we_3f (cond rd rn rm imm mode list : Int) (it : Bool) (hok : Nm.okB ⟨3, cond, rd, rn, rm, imm, mode, list, false⟩ = true) (hw : Nm.Wide list) :
    (searchP 3 cond rd rn rm imm mode list false it formT).map splitW = Wm.rowW Wm.findF ⟨3, cond, rd, rn, rm, imm, mode, list, false⟩ it := by
  obtain ⟨_, h1, h2, h3, h4, h5, h6⟩ := Nm.ok_parts hok
  clear hok
  have h3' := Nm.last_cases h3
  clear h3
  dsimp only at h1 h2 h3' h4 h5 h6
  have hl := Nm.list_most h4 0 (by decide) rfl hw
  have hc : cond = 0 := by simpa [Im.condB] using h5
  clear h4 h5 h6
  rcases h3' with ⟨rfl, q1, q2, rfl, rfl⟩ | ⟨rfl, q1, q2, q3, q4, rfl⟩ | ⟨rfl, q1, q2, rfl⟩
  · exact absurd q1 (by decide)
  · replace q2 : 0 ≤ imm := q2
    replace q3 : imm ≤ 4294967295 := q3
    clear q1 q4
    have hd := Wm.one_12 h1
    have hn := Wm.one_12 h2
    clear h1 h2
    have hi : imm % 4294967296 = imm := by omega
    cases hx : Wm.findF imm with
    | some n =>
      obtain ⟨fb, fi, n0, n1⟩ := find_some q2 hx
      have hR : Wm.rowW Wm.findF ⟨3, cond, rd, rn, 0, imm, 1, list, false⟩ it = some (61440 + 2 * 32 + 0 + rn + Wm.x1 n, rd * 256 + Wm.x2 n) := by
        unfold Wm.rowW Wm.dataW
        dsimp only
        repeat (first | rw [if_neg (by omega)] | rw [if_pos (by omega)])
        rw [hx]
        dsimp only
        rw [show Wm.opN 3 = 2 from rfl, Wm.fl_f _ _ _ _ _ _ _ _ (by decide), Wm.dN_lo _ _ _ _ _ _ _ _ _ (by decide), Wm.rN_no _ _ _ _ _ _ _ _ _ (by decide)]
      rw [hR]
      rw [search_is, cands_3]
      simp only [searchC]
      rw [takesP_3, fieldsP_0, takesP_5, fieldsP_2]
      rw [if_pos (by rw [hi, fb]; rfl)]
      rw [join_expanded 4030726144 rn rd 0 imm false n (by rw [hi]; exact fi) n0 n1 (by omega) (by omega) (by omega) (by omega) (by omega) rfl (by omega) (by omega) (.inl rfl) (by omega) (by omega) (by omega) (by omega), show sB false = 0 from rfl]
      have hx := x_bd n
      exact some_split _ _ _ (by omega) (by omega) (by omega)
    | none =>
      have fb := find_none q2 hx
      have hR : Wm.rowW Wm.findF ⟨3, cond, rd, rn, 0, imm, 1, list, false⟩ it = none := by
        unfold Wm.rowW Wm.dataW
        dsimp only
        repeat (first | rw [if_neg (by omega)] | rw [if_pos (by omega)])
        rw [hx]
        try dsimp only
        repeat (first | rw [if_neg (by omega)] | rw [if_pos (by omega)])
      rw [hR]
      rw [search_is, cands_3]
      simp only [searchC]
      rw [takesP_3, fieldsP_0, takesP_5, fieldsP_2]
      rw [if_neg (off1 _ _ (by rw [hi]; exact fb))]
      rw [if_neg (off12 _)]
      rfl
  · have hm := Wm.one_12 q2
    clear q1 q2
    have hd := Wm.one_12 h1
    have hn := Wm.one_12 h2
    clear h1 h2
    by_cases hq : rd ≠ 13 ∧ rm ≠ 13
    · have hR : Wm.rowW Wm.findF ⟨3, cond, rd, rn, rm, 0, 2, list, false⟩ it = some (59904 + 2 * 32 + 0 + rn, rd * 256 + rm) := by
        unfold Wm.rowW Wm.dataW
        dsimp only
        repeat (first | rw [if_neg (by omega)] | rw [if_pos (by omega)])
        rw [show Wm.opN 3 = 2 from rfl, Wm.fl_f _ _ _ _ _ _ _ _ (by decide), Wm.dN_lo _ _ _ _ _ _ _ _ _ (by decide), Wm.rN_no _ _ _ _ _ _ _ _ _ (by decide)]
        rw [if_pos hq]
      rw [hR]
      rw [search_is, cands_3]
      simp only [searchC]
      rw [takesP_3, fieldsP_0, takesP_5, fieldsP_2]
      rw [if_neg (off21 _)]
      rw [if_pos (by simp [hq.1, hq.2])]
      rw [join_reg 3930062848 rn rd rm false (by omega) (by omega) (by omega) (by omega) (by omega) (by omega) (by omega) (by omega) (by omega) (by omega) (by omega) (.inl rfl) (by omega), show sB false = 0 from rfl]
      exact some_split _ _ _ (by omega) (by omega) (by omega)
    · exact absurd ⟨by omega, by omega⟩ hq
theorem we_3 (cond rd rn rm imm mode list : Int) (s it : Bool) (hok : Nm.okB ⟨3, cond, rd, rn, rm, imm, mode, list, s⟩ = true) (hw : Nm.Wide list) :
    (searchP 3 cond rd rn rm imm mode list s it formT).map splitW = Wm.rowW Wm.findF ⟨3, cond, rd, rn, rm, imm, mode, list, s⟩ it := by
  cases s
  · exact we_3f cond rd rn rm imm mode list it hok hw
  · exact we_3t cond rd rn rm imm mode list it hok hw
theorem we_4t (cond rd rn rm imm mode list : Int) (it : Bool) (hok : Nm.okB ⟨4, cond, rd, rn, rm, imm, mode, list, true⟩ = true) (hw : Nm.Wide list) :
    (searchP 4 cond rd rn rm imm mode list true it formT).map splitW = Wm.rowW Wm.findF ⟨4, cond, rd, rn, rm, imm, mode, list, true⟩ it := by
  obtain ⟨_, h1, h2, h3, h4, h5, h6⟩ := Nm.ok_parts hok
  clear hok
  have h3' := Nm.last_cases h3
  clear h3
  dsimp only at h1 h2 h3' h4 h5 h6
  have hl := Nm.list_most h4 0 (by decide) rfl hw
  have hc : cond = 0 := by simpa [Im.condB] using h5
  clear h4 h5 h6
  rcases h3' with ⟨rfl, q1, q2, rfl, rfl⟩ | ⟨rfl, q1, q2, q3, q4, rfl⟩ | ⟨rfl, q1, q2, rfl⟩
  · exact absurd q1 (by decide)
  · replace q2 : 0 ≤ imm := q2
    replace q3 : imm ≤ 4294967295 := q3
    clear q1 q4
    have hd := Wm.one_12 h1
    have hn := Wm.one_12 h2
    clear h1 h2
    have hi : imm % 4294967296 = imm := by omega
    cases hx : Wm.findF imm with
    | some n =>
      obtain ⟨fb, fi, n0, n1⟩ := find_some q2 hx
      have hR : Wm.rowW Wm.findF ⟨4, cond, rd, rn, 0, imm, 1, list, true⟩ it = some (61440 + 1 * 32 + 16 + rn + Wm.x1 n, rd * 256 + Wm.x2 n) := by
        unfold Wm.rowW Wm.dataW
        dsimp only
        repeat (first | rw [if_neg (by omega)] | rw [if_pos (by omega)])
        rw [hx]
        dsimp only
        rw [show Wm.opN 4 = 1 from rfl, Wm.fl_t, Wm.dN_lo _ _ _ _ _ _ _ _ _ (by decide), Wm.rN_no _ _ _ _ _ _ _ _ _ (by decide)]
      rw [hR]
      rw [search_is, cands_4]
      simp only [searchC]
      rw [takesP_3, fieldsP_0, takesP_5, fieldsP_2]
      rw [if_pos (by rw [hi, fb]; rfl)]
      rw [join_expanded 4028628992 rn rd 0 imm true n (by rw [hi]; exact fi) n0 n1 (by omega) (by omega) (by omega) (by omega) (by omega) rfl (by omega) (by omega) (.inr (by omega)) (by omega) (by omega) (by omega) (by omega), show sB true = 1 from rfl]
      have hx := x_bd n
      exact some_split _ _ _ (by omega) (by omega) (by omega)
    | none =>
      have fb := find_none q2 hx
      have hR : Wm.rowW Wm.findF ⟨4, cond, rd, rn, 0, imm, 1, list, true⟩ it = none := by
        unfold Wm.rowW Wm.dataW
        dsimp only
        repeat (first | rw [if_neg (by omega)] | rw [if_pos (by omega)])
        rw [hx]
        try dsimp only
        repeat (first | rw [if_neg (by omega)] | rw [if_pos (by omega)])
      rw [hR]
      rw [search_is, cands_4]
      simp only [searchC]
      rw [takesP_3, fieldsP_0, takesP_5, fieldsP_2]
      rw [if_neg (off1 _ _ (by rw [hi]; exact fb))]
      rw [if_neg (off12 _)]
      rfl
  · have hm := Wm.one_12 q2
    clear q1 q2
    have hd := Wm.one_12 h1
    have hn := Wm.one_12 h2
    clear h1 h2
    by_cases hq : rd ≠ 13 ∧ rm ≠ 13
    · have hR : Wm.rowW Wm.findF ⟨4, cond, rd, rn, rm, 0, 2, list, true⟩ it = some (59904 + 1 * 32 + 16 + rn, rd * 256 + rm) := by
        unfold Wm.rowW Wm.dataW
        dsimp only
        repeat (first | rw [if_neg (by omega)] | rw [if_pos (by omega)])
        rw [show Wm.opN 4 = 1 from rfl, Wm.fl_t, Wm.dN_lo _ _ _ _ _ _ _ _ _ (by decide), Wm.rN_no _ _ _ _ _ _ _ _ _ (by decide)]
        rw [if_pos hq]
      rw [hR]
      rw [search_is, cands_4]
      simp only [searchC]
      rw [takesP_3, fieldsP_0, takesP_5, fieldsP_2]
      rw [if_neg (off21 _)]
      rw [if_pos (by simp [hq.1, hq.2])]
      rw [join_reg 3927965696 rn rd rm true (by omega) (by omega) (by omega) (by omega) (by omega) (by omega) (by omega) (by omega) (by omega) (by omega) (by omega) (.inr (by omega)) (by omega), show sB true = 1 from rfl]
      exact some_split _ _ _ (by omega) (by omega) (by omega)
    · exact absurd ⟨by omega, by omega⟩ hq
theorem we_4f (cond rd rn rm imm mode list : Int) (it : Bool) (hok : Nm.okB ⟨4, cond, rd, rn, rm, imm, mode, list, false⟩ = true) (hw : Nm.Wide list) :
    (searchP 4 cond rd rn rm imm mode list false it formT).map splitW = Wm.rowW Wm.findF ⟨4, cond, rd, rn, rm, imm, mode, list, false⟩ it := by
  obtain ⟨_, h1, h2, h3, h4, h5, h6⟩ := Nm.ok_parts hok
  clear hok
  have h3' := Nm.last_cases h3
  clear h3
  dsimp only at h1 h2 h3' h4 h5 h6
  have hl := Nm.list_most h4 0 (by decide) rfl hw
  have hc : cond = 0 := by simpa [Im.condB] using h5
  clear h4 h5 h6
  rcases h3' with ⟨rfl, q1, q2, rfl, rfl⟩ | ⟨rfl, q1, q2, q3, q4, rfl⟩ | ⟨rfl, q1, q2, rfl⟩
  · exact absurd q1 (by decide)
  · replace q2 : 0 ≤ imm := q2
    replace q3 : imm ≤ 4294967295 := q3
    clear q1 q4
    have hd := Wm.one_12 h1
    have hn := Wm.one_12 h2
    clear h1 h2
    have hi : imm % 4294967296 = imm := by omega
    cases hx : Wm.findF imm with
    | some n =>
      obtain ⟨fb, fi, n0, n1⟩ := find_some q2 hx
      have hR : Wm.rowW Wm.findF ⟨4, cond, rd, rn, 0, imm, 1, list, false⟩ it = some (61440 + 1 * 32 + 0 + rn + Wm.x1 n, rd * 256 + Wm.x2 n) := by
        unfold Wm.rowW Wm.dataW
        dsimp only
        repeat (first | rw [if_neg (by omega)] | rw [if_pos (by omega)])
        rw [hx]
        dsimp only
        rw [show Wm.opN 4 = 1 from rfl, Wm.fl_f _ _ _ _ _ _ _ _ (by decide), Wm.dN_lo _ _ _ _ _ _ _ _ _ (by decide), Wm.rN_no _ _ _ _ _ _ _ _ _ (by decide)]
      rw [hR]
      rw [search_is, cands_4]
      simp only [searchC]
      rw [takesP_3, fieldsP_0, takesP_5, fieldsP_2]
      rw [if_pos (by rw [hi, fb]; rfl)]
      rw [join_expanded 4028628992 rn rd 0 imm false n (by rw [hi]; exact fi) n0 n1 (by omega) (by omega) (by omega) (by omega) (by omega) rfl (by omega) (by omega) (.inl rfl) (by omega) (by omega) (by omega) (by omega), show sB false = 0 from rfl]
      have hx := x_bd n
      exact some_split _ _ _ (by omega) (by omega) (by omega)
    | none =>
      have fb := find_none q2 hx
      have hR : Wm.rowW Wm.findF ⟨4, cond, rd, rn, 0, imm, 1, list, false⟩ it = none := by
        unfold Wm.rowW Wm.dataW
        dsimp only
        repeat (first | rw [if_neg (by omega)] | rw [if_pos (by omega)])
        rw [hx]
        try dsimp only
        repeat (first | rw [if_neg (by omega)] | rw [if_pos (by omega)])
      rw [hR]
      rw [search_is, cands_4]
      simp only [searchC]
      rw [takesP_3, fieldsP_0, takesP_5, fieldsP_2]
      rw [if_neg (off1 _ _ (by rw [hi]; exact fb))]
      rw [if_neg (off12 _)]
      rfl
  · have hm := Wm.one_12 q2
    clear q1 q2
    have hd := Wm.one_12 h1
    have hn := Wm.one_12 h2
    clear h1 h2
    by_cases hq : rd ≠ 13 ∧ rm ≠ 13
    · have hR : Wm.rowW Wm.findF ⟨4, cond, rd, rn, rm, 0, 2, list, false⟩ it = some (59904 + 1 * 32 + 0 + rn, rd * 256 + rm) := by
        unfold Wm.rowW Wm.dataW
        dsimp only
        repeat (first | rw [if_neg (by omega)] | rw [if_pos (by omega)])
        rw [show Wm.opN 4 = 1 from rfl, Wm.fl_f _ _ _ _ _ _ _ _ (by decide), Wm.dN_lo _ _ _ _ _ _ _ _ _ (by decide), Wm.rN_no _ _ _ _ _ _ _ _ _ (by decide)]
        rw [if_pos hq]
      rw [hR]
      rw [search_is, cands_4]
      simp only [searchC]
      rw [takesP_3, fieldsP_0, takesP_5, fieldsP_2]
      rw [if_neg (off21 _)]
      rw [if_pos (by simp [hq.1, hq.2])]
      rw [join_reg 3927965696 rn rd rm false (by omega) (by omega) (by omega) (by omega) (by omega) (by omega) (by omega) (by omega) (by omega) (by omega) (by omega) (.inl rfl) (by omega), show sB false = 0 from rfl]
      exact some_split _ _ _ (by omega) (by omega) (by omega)
    · exact absurd ⟨by omega, by omega⟩ hq
theorem we_4 (cond rd rn rm imm mode list : Int) (s it : Bool) (hok : Nm.okB ⟨4, cond, rd, rn, rm, imm, mode, list, s⟩ = true) (hw : Nm.Wide list) :
    (searchP 4 cond rd rn rm imm mode list s it formT).map splitW = Wm.rowW Wm.findF ⟨4, cond, rd, rn, rm, imm, mode, list, s⟩ it := by
  cases s
  · exact we_4f cond rd rn rm imm mode list it hok hw
  · exact we_4t cond rd rn rm imm mode list it hok hw
end Xw
end Go.Proofs.YtmofimgodmcdjaaDoor

namespace Go.Proofs.YtmofimgodmcdjaaDoor
open Go.ChangeShapes Go.WideShapes Go.ChangeAt Go.RowKit
namespace Xw

theorem we_5t (cond rd rn rm imm mode list : Int) (it : Bool) (hok : Nm.okB ⟨5, cond, rd, rn, rm, imm, mode, list, true⟩ = true) (hw : Nm.Wide list) :
    (searchP 5 cond rd rn rm imm mode list true it formT).map splitW = Wm.rowW Wm.findF ⟨5, cond, rd, rn, rm, imm, mode, list, true⟩ it := by
  obtain ⟨_, h1, h2, h3, h4, h5, h6⟩ := Nm.ok_parts hok
  clear hok
  have h3' := Nm.last_cases h3
  clear h3
  dsimp only at h1 h2 h3' h4 h5 h6
  have hl := Nm.list_most h4 0 (by decide) rfl hw
  have hc : cond = 0 := by simpa [Im.condB] using h5
  clear h4 h5 h6
  rcases h3' with ⟨rfl, q1, q2, rfl, rfl⟩ | ⟨rfl, q1, q2, q3, q4, rfl⟩ | ⟨rfl, q1, q2, rfl⟩
  · exact absurd q1 (by decide)
  · replace q2 : 0 ≤ imm := q2
    replace q3 : imm ≤ 4294967295 := q3
    clear q1 q4
    have hd := Wm.one_12 h1
    have hn := Wm.one_12 h2
    clear h1 h2
    have hi : imm % 4294967296 = imm := by omega
    cases hx : Wm.findF imm with
    | some n =>
      obtain ⟨fb, fi, n0, n1⟩ := find_some q2 hx
      have hR : Wm.rowW Wm.findF ⟨5, cond, rd, rn, 0, imm, 1, list, true⟩ it = some (61440 + 8 * 32 + 16 + rn + Wm.x1 n, rd * 256 + Wm.x2 n) := by
        unfold Wm.rowW Wm.dataW
        dsimp only
        repeat (first | rw [if_neg (by omega)] | rw [if_pos (by omega)])
        rw [hx]
        dsimp only
        rw [show Wm.opN 5 = 8 from rfl, Wm.fl_t, Wm.dN_lo _ _ _ _ _ _ _ _ _ (by decide), Wm.rN_no _ _ _ _ _ _ _ _ _ (by decide)]
      rw [hR]
      rw [search_is, cands_5]
      simp only [searchC]
      rw [takesP_3, fieldsP_0, takesP_4, fieldsP_1, takesP_5, fieldsP_2]
      rw [if_pos (by rw [hi, fb]; rfl)]
      rw [join_expanded 4043309056 rn rd 0 imm true n (by rw [hi]; exact fi) n0 n1 (by omega) (by omega) (by omega) (by omega) (by omega) rfl (by omega) (by omega) (.inr (by omega)) (by omega) (by omega) (by omega) (by omega), show sB true = 1 from rfl]
      have hx := x_bd n
      exact some_split _ _ _ (by omega) (by omega) (by omega)
    | none =>
      have fb := find_none q2 hx
      have hR : Wm.rowW Wm.findF ⟨5, cond, rd, rn, 0, imm, 1, list, true⟩ it = none := by
        unfold Wm.rowW Wm.dataW
        dsimp only
        repeat (first | rw [if_neg (by omega)] | rw [if_pos (by omega)])
        rw [hx]
        dsimp only
        rw [if_neg (fun h => Bool.noConfusion h.2.1)]
      rw [hR]
      rw [search_is, cands_5]
      simp only [searchC]
      rw [takesP_3, fieldsP_0, takesP_4, fieldsP_1, takesP_5, fieldsP_2]
      rw [if_neg (off1 _ _ (by rw [hi]; exact fb))]
      rw [if_neg (offS _), if_neg (off12 _)]
      rfl
  · have hm := Wm.one_12 q2
    clear q1 q2
    have hd := Wm.one_12 h1
    have hn := Wm.one_12 h2
    clear h1 h2
    by_cases hq : rd ≠ 13 ∧ rm ≠ 13
    · have hR : Wm.rowW Wm.findF ⟨5, cond, rd, rn, rm, 0, 2, list, true⟩ it = some (59904 + 8 * 32 + 16 + rn, rd * 256 + rm) := by
        unfold Wm.rowW Wm.dataW
        dsimp only
        repeat (first | rw [if_neg (by omega)] | rw [if_pos (by omega)])
        rw [show Wm.opN 5 = 8 from rfl, Wm.fl_t, Wm.dN_lo _ _ _ _ _ _ _ _ _ (by decide), Wm.rN_no _ _ _ _ _ _ _ _ _ (by decide)]
        rw [if_pos hq]
      rw [hR]
      rw [search_is, cands_5]
      simp only [searchC]
      rw [takesP_3, fieldsP_0, takesP_4, fieldsP_1, takesP_5, fieldsP_2]
      rw [if_neg (off21 _)]
      rw [if_neg (off21' _)]
      rw [if_pos (by simp [hq.1, hq.2])]
      rw [join_reg 3942645760 rn rd rm true (by omega) (by omega) (by omega) (by omega) (by omega) (by omega) (by omega) (by omega) (by omega) (by omega) (by omega) (.inr (by omega)) (by omega), show sB true = 1 from rfl]
      exact some_split _ _ _ (by omega) (by omega) (by omega)
    · exact absurd ⟨by omega, by omega⟩ hq
theorem we_5f (cond rd rn rm imm mode list : Int) (it : Bool) (hok : Nm.okB ⟨5, cond, rd, rn, rm, imm, mode, list, false⟩ = true) (hw : Nm.Wide list) :
    (searchP 5 cond rd rn rm imm mode list false it formT).map splitW = Wm.rowW Wm.findF ⟨5, cond, rd, rn, rm, imm, mode, list, false⟩ it := by
  obtain ⟨_, h1, h2, h3, h4, h5, h6⟩ := Nm.ok_parts hok
  clear hok
  have h3' := Nm.last_cases h3
  clear h3
  dsimp only at h1 h2 h3' h4 h5 h6
  have hl := Nm.list_most h4 0 (by decide) rfl hw
  have hc : cond = 0 := by simpa [Im.condB] using h5
  clear h4 h5 h6
  rcases h3' with ⟨rfl, q1, q2, rfl, rfl⟩ | ⟨rfl, q1, q2, q3, q4, rfl⟩ | ⟨rfl, q1, q2, rfl⟩
  · exact absurd q1 (by decide)
  · replace q2 : 0 ≤ imm := q2
    replace q3 : imm ≤ 4294967295 := q3
    clear q1 q4
    have hd := Wm.one_12 h1
    have hn := Wm.one_12 h2
    clear h1 h2
    have hi : imm % 4294967296 = imm := by omega
    cases hx : Wm.findF imm with
    | some n =>
      obtain ⟨fb, fi, n0, n1⟩ := find_some q2 hx
      have hR : Wm.rowW Wm.findF ⟨5, cond, rd, rn, 0, imm, 1, list, false⟩ it = some (61440 + 8 * 32 + 0 + rn + Wm.x1 n, rd * 256 + Wm.x2 n) := by
        unfold Wm.rowW Wm.dataW
        dsimp only
        repeat (first | rw [if_neg (by omega)] | rw [if_pos (by omega)])
        rw [hx]
        dsimp only
        rw [show Wm.opN 5 = 8 from rfl, Wm.fl_f _ _ _ _ _ _ _ _ (by decide), Wm.dN_lo _ _ _ _ _ _ _ _ _ (by decide), Wm.rN_no _ _ _ _ _ _ _ _ _ (by decide)]
      rw [hR]
      rw [search_is, cands_5]
      simp only [searchC]
      rw [takesP_3, fieldsP_0, takesP_4, fieldsP_1, takesP_5, fieldsP_2]
      rw [if_pos (by rw [hi, fb]; rfl)]
      rw [join_expanded 4043309056 rn rd 0 imm false n (by rw [hi]; exact fi) n0 n1 (by omega) (by omega) (by omega) (by omega) (by omega) rfl (by omega) (by omega) (.inl rfl) (by omega) (by omega) (by omega) (by omega), show sB false = 0 from rfl]
      have hx := x_bd n
      exact some_split _ _ _ (by omega) (by omega) (by omega)
    | none =>
      have fb := find_none q2 hx
      by_cases hm : imm ≤ 4095
      · have hR : Wm.rowW Wm.findF ⟨5, cond, rd, rn, 0, imm, 1, list, false⟩ it = some (61952 + rn + Wm.x1 imm, rd * 256 + Wm.x2 imm) := by
          unfold Wm.rowW Wm.dataW
          dsimp only
          repeat (first | rw [if_neg (by omega)] | rw [if_pos (by omega)])
          rw [hx]
          dsimp only
          rw [if_pos ⟨.inl rfl, rfl, hm⟩]
          repeat (first | rw [if_neg (by omega)] | rw [if_pos (by omega)])
          rw [Wm.dN_lo _ _ _ _ _ _ _ _ _ (by decide), Wm.rN_no _ _ _ _ _ _ _ _ _ (by decide)]
        rw [hR]
        rw [search_is, cands_5]
        simp only [searchC]
        rw [takesP_3, fieldsP_0, takesP_4, fieldsP_1, takesP_5, fieldsP_2]
        rw [if_neg (off1 _ _ (by rw [hi]; exact fb))]
        rw [if_pos (by rw [decide_eq_true hm]; rfl)]
        rw [join_amount 4060086272 rn rd 0 imm imm false (dist_pos imm q2 (by omega)) q2 (by omega) (by omega) (by omega) (by omega) (by omega) rfl rfl (by omega) (by omega) (by omega) (by omega) (by omega) (by omega)]
        have hx := x_bd imm
        exact some_split _ _ _ (by omega) (by omega) (by omega)
      · have hR : Wm.rowW Wm.findF ⟨5, cond, rd, rn, 0, imm, 1, list, false⟩ it = none := by
          unfold Wm.rowW Wm.dataW
          dsimp only
          repeat (first | rw [if_neg (by omega)] | rw [if_pos (by omega)])
          rw [hx]
        rw [hR]
        rw [search_is, cands_5]
        simp only [searchC]
        rw [takesP_3, fieldsP_0, takesP_4, fieldsP_1, takesP_5, fieldsP_2]
        rw [if_neg (off1 _ _ (by rw [hi]; exact fb))]
        rw [if_neg (by simp [hm]), if_neg (off12 _)]
        rfl
  · have hm := Wm.one_12 q2
    clear q1 q2
    have hd := Wm.one_12 h1
    have hn := Wm.one_12 h2
    clear h1 h2
    by_cases hq : rd ≠ 13 ∧ rm ≠ 13
    · have hR : Wm.rowW Wm.findF ⟨5, cond, rd, rn, rm, 0, 2, list, false⟩ it = some (59904 + 8 * 32 + 0 + rn, rd * 256 + rm) := by
        unfold Wm.rowW Wm.dataW
        dsimp only
        repeat (first | rw [if_neg (by omega)] | rw [if_pos (by omega)])
        rw [show Wm.opN 5 = 8 from rfl, Wm.fl_f _ _ _ _ _ _ _ _ (by decide), Wm.dN_lo _ _ _ _ _ _ _ _ _ (by decide), Wm.rN_no _ _ _ _ _ _ _ _ _ (by decide)]
        rw [if_pos hq]
      rw [hR]
      rw [search_is, cands_5]
      simp only [searchC]
      rw [takesP_3, fieldsP_0, takesP_4, fieldsP_1, takesP_5, fieldsP_2]
      rw [if_neg (off21 _)]
      rw [if_neg (off21' _)]
      rw [if_pos (by simp [hq.1, hq.2])]
      rw [join_reg 3942645760 rn rd rm false (by omega) (by omega) (by omega) (by omega) (by omega) (by omega) (by omega) (by omega) (by omega) (by omega) (by omega) (.inl rfl) (by omega), show sB false = 0 from rfl]
      exact some_split _ _ _ (by omega) (by omega) (by omega)
    · exact absurd ⟨by omega, by omega⟩ hq
theorem we_5 (cond rd rn rm imm mode list : Int) (s it : Bool) (hok : Nm.okB ⟨5, cond, rd, rn, rm, imm, mode, list, s⟩ = true) (hw : Nm.Wide list) :
    (searchP 5 cond rd rn rm imm mode list s it formT).map splitW = Wm.rowW Wm.findF ⟨5, cond, rd, rn, rm, imm, mode, list, s⟩ it := by
  cases s
  · exact we_5f cond rd rn rm imm mode list it hok hw
  · exact we_5t cond rd rn rm imm mode list it hok hw
theorem we_6t (cond rd rn rm imm mode list : Int) (it : Bool) (hok : Nm.okB ⟨6, cond, rd, rn, rm, imm, mode, list, true⟩ = true) (hw : Nm.Wide list) :
    (searchP 6 cond rd rn rm imm mode list true it formT).map splitW = Wm.rowW Wm.findF ⟨6, cond, rd, rn, rm, imm, mode, list, true⟩ it := by
  obtain ⟨_, h1, h2, h3, h4, h5, h6⟩ := Nm.ok_parts hok
  clear hok
  have h3' := Nm.last_cases h3
  clear h3
  dsimp only at h1 h2 h3' h4 h5 h6
  have hl := Nm.list_most h4 0 (by decide) rfl hw
  have hc : cond = 0 := by simpa [Im.condB] using h5
  clear h4 h5 h6
  rcases h3' with ⟨rfl, q1, q2, rfl, rfl⟩ | ⟨rfl, q1, q2, q3, q4, rfl⟩ | ⟨rfl, q1, q2, rfl⟩
  · exact absurd q1 (by decide)
  · replace q2 : 0 ≤ imm := q2
    replace q3 : imm ≤ 4294967295 := q3
    clear q1 q4
    have hd := Wm.one_12 h1
    have hn := Wm.one_12 h2
    clear h1 h2
    have hi : imm % 4294967296 = imm := by omega
    cases hx : Wm.findF imm with
    | some n =>
      obtain ⟨fb, fi, n0, n1⟩ := find_some q2 hx
      have hR : Wm.rowW Wm.findF ⟨6, cond, rd, rn, 0, imm, 1, list, true⟩ it = some (61440 + 10 * 32 + 16 + rn + Wm.x1 n, rd * 256 + Wm.x2 n) := by
        unfold Wm.rowW Wm.dataW
        dsimp only
        repeat (first | rw [if_neg (by omega)] | rw [if_pos (by omega)])
        rw [hx]
        dsimp only
        rw [show Wm.opN 6 = 10 from rfl, Wm.fl_t, Wm.dN_lo _ _ _ _ _ _ _ _ _ (by decide), Wm.rN_no _ _ _ _ _ _ _ _ _ (by decide)]
      rw [hR]
      rw [search_is, cands_6]
      simp only [searchC]
      rw [takesP_3, fieldsP_0, takesP_5, fieldsP_2]
      rw [if_pos (by rw [hi, fb]; rfl)]
      rw [join_expanded 4047503360 rn rd 0 imm true n (by rw [hi]; exact fi) n0 n1 (by omega) (by omega) (by omega) (by omega) (by omega) rfl (by omega) (by omega) (.inr (by omega)) (by omega) (by omega) (by omega) (by omega), show sB true = 1 from rfl]
      have hx := x_bd n
      exact some_split _ _ _ (by omega) (by omega) (by omega)
    | none =>
      have fb := find_none q2 hx
      have hR : Wm.rowW Wm.findF ⟨6, cond, rd, rn, 0, imm, 1, list, true⟩ it = none := by
        unfold Wm.rowW Wm.dataW
        dsimp only
        repeat (first | rw [if_neg (by omega)] | rw [if_pos (by omega)])
        rw [hx]
        try dsimp only
        repeat (first | rw [if_neg (by omega)] | rw [if_pos (by omega)])
      rw [hR]
      rw [search_is, cands_6]
      simp only [searchC]
      rw [takesP_3, fieldsP_0, takesP_5, fieldsP_2]
      rw [if_neg (off1 _ _ (by rw [hi]; exact fb))]
      rw [if_neg (off12 _)]
      rfl
  · have hm := Wm.one_12 q2
    clear q1 q2
    have hd := Wm.one_12 h1
    have hn := Wm.one_12 h2
    clear h1 h2
    by_cases hq : rd ≠ 13 ∧ rm ≠ 13
    · have hR : Wm.rowW Wm.findF ⟨6, cond, rd, rn, rm, 0, 2, list, true⟩ it = some (59904 + 10 * 32 + 16 + rn, rd * 256 + rm) := by
        unfold Wm.rowW Wm.dataW
        dsimp only
        repeat (first | rw [if_neg (by omega)] | rw [if_pos (by omega)])
        rw [show Wm.opN 6 = 10 from rfl, Wm.fl_t, Wm.dN_lo _ _ _ _ _ _ _ _ _ (by decide), Wm.rN_no _ _ _ _ _ _ _ _ _ (by decide)]
        rw [if_pos hq]
      rw [hR]
      rw [search_is, cands_6]
      simp only [searchC]
      rw [takesP_3, fieldsP_0, takesP_5, fieldsP_2]
      rw [if_neg (off21 _)]
      rw [if_pos (by simp [hq.1, hq.2])]
      rw [join_reg 3946840064 rn rd rm true (by omega) (by omega) (by omega) (by omega) (by omega) (by omega) (by omega) (by omega) (by omega) (by omega) (by omega) (.inr (by omega)) (by omega), show sB true = 1 from rfl]
      exact some_split _ _ _ (by omega) (by omega) (by omega)
    · exact absurd ⟨by omega, by omega⟩ hq
theorem we_6f (cond rd rn rm imm mode list : Int) (it : Bool) (hok : Nm.okB ⟨6, cond, rd, rn, rm, imm, mode, list, false⟩ = true) (hw : Nm.Wide list) :
    (searchP 6 cond rd rn rm imm mode list false it formT).map splitW = Wm.rowW Wm.findF ⟨6, cond, rd, rn, rm, imm, mode, list, false⟩ it := by
  obtain ⟨_, h1, h2, h3, h4, h5, h6⟩ := Nm.ok_parts hok
  clear hok
  have h3' := Nm.last_cases h3
  clear h3
  dsimp only at h1 h2 h3' h4 h5 h6
  have hl := Nm.list_most h4 0 (by decide) rfl hw
  have hc : cond = 0 := by simpa [Im.condB] using h5
  clear h4 h5 h6
  rcases h3' with ⟨rfl, q1, q2, rfl, rfl⟩ | ⟨rfl, q1, q2, q3, q4, rfl⟩ | ⟨rfl, q1, q2, rfl⟩
  · exact absurd q1 (by decide)
  · replace q2 : 0 ≤ imm := q2
    replace q3 : imm ≤ 4294967295 := q3
    clear q1 q4
    have hd := Wm.one_12 h1
    have hn := Wm.one_12 h2
    clear h1 h2
    have hi : imm % 4294967296 = imm := by omega
    cases hx : Wm.findF imm with
    | some n =>
      obtain ⟨fb, fi, n0, n1⟩ := find_some q2 hx
      have hR : Wm.rowW Wm.findF ⟨6, cond, rd, rn, 0, imm, 1, list, false⟩ it = some (61440 + 10 * 32 + 0 + rn + Wm.x1 n, rd * 256 + Wm.x2 n) := by
        unfold Wm.rowW Wm.dataW
        dsimp only
        repeat (first | rw [if_neg (by omega)] | rw [if_pos (by omega)])
        rw [hx]
        dsimp only
        rw [show Wm.opN 6 = 10 from rfl, Wm.fl_f _ _ _ _ _ _ _ _ (by decide), Wm.dN_lo _ _ _ _ _ _ _ _ _ (by decide), Wm.rN_no _ _ _ _ _ _ _ _ _ (by decide)]
      rw [hR]
      rw [search_is, cands_6]
      simp only [searchC]
      rw [takesP_3, fieldsP_0, takesP_5, fieldsP_2]
      rw [if_pos (by rw [hi, fb]; rfl)]
      rw [join_expanded 4047503360 rn rd 0 imm false n (by rw [hi]; exact fi) n0 n1 (by omega) (by omega) (by omega) (by omega) (by omega) rfl (by omega) (by omega) (.inl rfl) (by omega) (by omega) (by omega) (by omega), show sB false = 0 from rfl]
      have hx := x_bd n
      exact some_split _ _ _ (by omega) (by omega) (by omega)
    | none =>
      have fb := find_none q2 hx
      have hR : Wm.rowW Wm.findF ⟨6, cond, rd, rn, 0, imm, 1, list, false⟩ it = none := by
        unfold Wm.rowW Wm.dataW
        dsimp only
        repeat (first | rw [if_neg (by omega)] | rw [if_pos (by omega)])
        rw [hx]
        try dsimp only
        repeat (first | rw [if_neg (by omega)] | rw [if_pos (by omega)])
      rw [hR]
      rw [search_is, cands_6]
      simp only [searchC]
      rw [takesP_3, fieldsP_0, takesP_5, fieldsP_2]
      rw [if_neg (off1 _ _ (by rw [hi]; exact fb))]
      rw [if_neg (off12 _)]
      rfl
  · have hm := Wm.one_12 q2
    clear q1 q2
    have hd := Wm.one_12 h1
    have hn := Wm.one_12 h2
    clear h1 h2
    by_cases hq : rd ≠ 13 ∧ rm ≠ 13
    · have hR : Wm.rowW Wm.findF ⟨6, cond, rd, rn, rm, 0, 2, list, false⟩ it = some (59904 + 10 * 32 + 0 + rn, rd * 256 + rm) := by
        unfold Wm.rowW Wm.dataW
        dsimp only
        repeat (first | rw [if_neg (by omega)] | rw [if_pos (by omega)])
        rw [show Wm.opN 6 = 10 from rfl, Wm.fl_f _ _ _ _ _ _ _ _ (by decide), Wm.dN_lo _ _ _ _ _ _ _ _ _ (by decide), Wm.rN_no _ _ _ _ _ _ _ _ _ (by decide)]
        rw [if_pos hq]
      rw [hR]
      rw [search_is, cands_6]
      simp only [searchC]
      rw [takesP_3, fieldsP_0, takesP_5, fieldsP_2]
      rw [if_neg (off21 _)]
      rw [if_pos (by simp [hq.1, hq.2])]
      rw [join_reg 3946840064 rn rd rm false (by omega) (by omega) (by omega) (by omega) (by omega) (by omega) (by omega) (by omega) (by omega) (by omega) (by omega) (.inl rfl) (by omega), show sB false = 0 from rfl]
      exact some_split _ _ _ (by omega) (by omega) (by omega)
    · exact absurd ⟨by omega, by omega⟩ hq
theorem we_6 (cond rd rn rm imm mode list : Int) (s it : Bool) (hok : Nm.okB ⟨6, cond, rd, rn, rm, imm, mode, list, s⟩ = true) (hw : Nm.Wide list) :
    (searchP 6 cond rd rn rm imm mode list s it formT).map splitW = Wm.rowW Wm.findF ⟨6, cond, rd, rn, rm, imm, mode, list, s⟩ it := by
  cases s
  · exact we_6f cond rd rn rm imm mode list it hok hw
  · exact we_6t cond rd rn rm imm mode list it hok hw
theorem we_7t (cond rd rn rm imm mode list : Int) (it : Bool) (hok : Nm.okB ⟨7, cond, rd, rn, rm, imm, mode, list, true⟩ = true) (hw : Nm.Wide list) :
    (searchP 7 cond rd rn rm imm mode list true it formT).map splitW = Wm.rowW Wm.findF ⟨7, cond, rd, rn, rm, imm, mode, list, true⟩ it := by
  obtain ⟨_, h1, h2, h3, h4, h5, h6⟩ := Nm.ok_parts hok
  clear hok
  have h3' := Nm.last_cases h3
  clear h3
  dsimp only at h1 h2 h3' h4 h5 h6
  have hl := Nm.list_most h4 0 (by decide) rfl hw
  have hc : cond = 0 := by simpa [Im.condB] using h5
  clear h4 h5 h6
  rcases h3' with ⟨rfl, q1, q2, rfl, rfl⟩ | ⟨rfl, q1, q2, q3, q4, rfl⟩ | ⟨rfl, q1, q2, rfl⟩
  · exact absurd q1 (by decide)
  · replace q2 : 0 ≤ imm := q2
    replace q3 : imm ≤ 4294967295 := q3
    clear q1 q4
    have hd := Wm.one_12 h1
    have hn := Wm.one_12 h2
    clear h1 h2
    have hi : imm % 4294967296 = imm := by omega
    cases hx : Wm.findF imm with
    | some n =>
      obtain ⟨fb, fi, n0, n1⟩ := find_some q2 hx
      have hR : Wm.rowW Wm.findF ⟨7, cond, rd, rn, 0, imm, 1, list, true⟩ it = some (61440 + 13 * 32 + 16 + rn + Wm.x1 n, rd * 256 + Wm.x2 n) := by
        unfold Wm.rowW Wm.dataW
        dsimp only
        repeat (first | rw [if_neg (by omega)] | rw [if_pos (by omega)])
        rw [hx]
        dsimp only
        rw [show Wm.opN 7 = 13 from rfl, Wm.fl_t, Wm.dN_lo _ _ _ _ _ _ _ _ _ (by decide), Wm.rN_no _ _ _ _ _ _ _ _ _ (by decide)]
      rw [hR]
      rw [search_is, cands_7]
      simp only [searchC]
      rw [takesP_3, fieldsP_0, takesP_4, fieldsP_1, takesP_5, fieldsP_2]
      rw [if_pos (by rw [hi, fb]; rfl)]
      rw [join_expanded 4053794816 rn rd 0 imm true n (by rw [hi]; exact fi) n0 n1 (by omega) (by omega) (by omega) (by omega) (by omega) rfl (by omega) (by omega) (.inr (by omega)) (by omega) (by omega) (by omega) (by omega), show sB true = 1 from rfl]
      have hx := x_bd n
      exact some_split _ _ _ (by omega) (by omega) (by omega)
    | none =>
      have fb := find_none q2 hx
      have hR : Wm.rowW Wm.findF ⟨7, cond, rd, rn, 0, imm, 1, list, true⟩ it = none := by
        unfold Wm.rowW Wm.dataW
        dsimp only
        repeat (first | rw [if_neg (by omega)] | rw [if_pos (by omega)])
        rw [hx]
        dsimp only
        rw [if_neg (fun h => Bool.noConfusion h.2.1)]
      rw [hR]
      rw [search_is, cands_7]
      simp only [searchC]
      rw [takesP_3, fieldsP_0, takesP_4, fieldsP_1, takesP_5, fieldsP_2]
      rw [if_neg (off1 _ _ (by rw [hi]; exact fb))]
      rw [if_neg (offS _), if_neg (off12 _)]
      rfl
  · have hm := Wm.one_12 q2
    clear q1 q2
    have hd := Wm.one_12 h1
    have hn := Wm.one_12 h2
    clear h1 h2
    by_cases hq : rd ≠ 13 ∧ rm ≠ 13
    · have hR : Wm.rowW Wm.findF ⟨7, cond, rd, rn, rm, 0, 2, list, true⟩ it = some (59904 + 13 * 32 + 16 + rn, rd * 256 + rm) := by
        unfold Wm.rowW Wm.dataW
        dsimp only
        repeat (first | rw [if_neg (by omega)] | rw [if_pos (by omega)])
        rw [show Wm.opN 7 = 13 from rfl, Wm.fl_t, Wm.dN_lo _ _ _ _ _ _ _ _ _ (by decide), Wm.rN_no _ _ _ _ _ _ _ _ _ (by decide)]
        rw [if_pos hq]
      rw [hR]
      rw [search_is, cands_7]
      simp only [searchC]
      rw [takesP_3, fieldsP_0, takesP_4, fieldsP_1, takesP_5, fieldsP_2]
      rw [if_neg (off21 _)]
      rw [if_neg (off21' _)]
      rw [if_pos (by simp [hq.1, hq.2])]
      rw [join_reg 3953131520 rn rd rm true (by omega) (by omega) (by omega) (by omega) (by omega) (by omega) (by omega) (by omega) (by omega) (by omega) (by omega) (.inr (by omega)) (by omega), show sB true = 1 from rfl]
      exact some_split _ _ _ (by omega) (by omega) (by omega)
    · exact absurd ⟨by omega, by omega⟩ hq
theorem we_7f (cond rd rn rm imm mode list : Int) (it : Bool) (hok : Nm.okB ⟨7, cond, rd, rn, rm, imm, mode, list, false⟩ = true) (hw : Nm.Wide list) :
    (searchP 7 cond rd rn rm imm mode list false it formT).map splitW = Wm.rowW Wm.findF ⟨7, cond, rd, rn, rm, imm, mode, list, false⟩ it := by
  obtain ⟨_, h1, h2, h3, h4, h5, h6⟩ := Nm.ok_parts hok
  clear hok
  have h3' := Nm.last_cases h3
  clear h3
  dsimp only at h1 h2 h3' h4 h5 h6
  have hl := Nm.list_most h4 0 (by decide) rfl hw
  have hc : cond = 0 := by simpa [Im.condB] using h5
  clear h4 h5 h6
  rcases h3' with ⟨rfl, q1, q2, rfl, rfl⟩ | ⟨rfl, q1, q2, q3, q4, rfl⟩ | ⟨rfl, q1, q2, rfl⟩
  · exact absurd q1 (by decide)
  · replace q2 : 0 ≤ imm := q2
    replace q3 : imm ≤ 4294967295 := q3
    clear q1 q4
    have hd := Wm.one_12 h1
    have hn := Wm.one_12 h2
    clear h1 h2
    have hi : imm % 4294967296 = imm := by omega
    cases hx : Wm.findF imm with
    | some n =>
      obtain ⟨fb, fi, n0, n1⟩ := find_some q2 hx
      have hR : Wm.rowW Wm.findF ⟨7, cond, rd, rn, 0, imm, 1, list, false⟩ it = some (61440 + 13 * 32 + 0 + rn + Wm.x1 n, rd * 256 + Wm.x2 n) := by
        unfold Wm.rowW Wm.dataW
        dsimp only
        repeat (first | rw [if_neg (by omega)] | rw [if_pos (by omega)])
        rw [hx]
        dsimp only
        rw [show Wm.opN 7 = 13 from rfl, Wm.fl_f _ _ _ _ _ _ _ _ (by decide), Wm.dN_lo _ _ _ _ _ _ _ _ _ (by decide), Wm.rN_no _ _ _ _ _ _ _ _ _ (by decide)]
      rw [hR]
      rw [search_is, cands_7]
      simp only [searchC]
      rw [takesP_3, fieldsP_0, takesP_4, fieldsP_1, takesP_5, fieldsP_2]
      rw [if_pos (by rw [hi, fb]; rfl)]
      rw [join_expanded 4053794816 rn rd 0 imm false n (by rw [hi]; exact fi) n0 n1 (by omega) (by omega) (by omega) (by omega) (by omega) rfl (by omega) (by omega) (.inl rfl) (by omega) (by omega) (by omega) (by omega), show sB false = 0 from rfl]
      have hx := x_bd n
      exact some_split _ _ _ (by omega) (by omega) (by omega)
    | none =>
      have fb := find_none q2 hx
      by_cases hm : imm ≤ 4095
      · have hR : Wm.rowW Wm.findF ⟨7, cond, rd, rn, 0, imm, 1, list, false⟩ it = some (62112 + rn + Wm.x1 imm, rd * 256 + Wm.x2 imm) := by
          unfold Wm.rowW Wm.dataW
          dsimp only
          repeat (first | rw [if_neg (by omega)] | rw [if_pos (by omega)])
          rw [hx]
          dsimp only
          rw [if_pos ⟨.inr rfl, rfl, hm⟩]
          repeat (first | rw [if_neg (by omega)] | rw [if_pos (by omega)])
          rw [Wm.dN_lo _ _ _ _ _ _ _ _ _ (by decide), Wm.rN_no _ _ _ _ _ _ _ _ _ (by decide)]
        rw [hR]
        rw [search_is, cands_7]
        simp only [searchC]
        rw [takesP_3, fieldsP_0, takesP_4, fieldsP_1, takesP_5, fieldsP_2]
        rw [if_neg (off1 _ _ (by rw [hi]; exact fb))]
        rw [if_pos (by rw [decide_eq_true hm]; rfl)]
        rw [join_amount 4070572032 rn rd 0 imm imm false (dist_pos imm q2 (by omega)) q2 (by omega) (by omega) (by omega) (by omega) (by omega) rfl rfl (by omega) (by omega) (by omega) (by omega) (by omega) (by omega)]
        have hx := x_bd imm
        exact some_split _ _ _ (by omega) (by omega) (by omega)
      · have hR : Wm.rowW Wm.findF ⟨7, cond, rd, rn, 0, imm, 1, list, false⟩ it = none := by
          unfold Wm.rowW Wm.dataW
          dsimp only
          repeat (first | rw [if_neg (by omega)] | rw [if_pos (by omega)])
          rw [hx]
        rw [hR]
        rw [search_is, cands_7]
        simp only [searchC]
        rw [takesP_3, fieldsP_0, takesP_4, fieldsP_1, takesP_5, fieldsP_2]
        rw [if_neg (off1 _ _ (by rw [hi]; exact fb))]
        rw [if_neg (by simp [hm]), if_neg (off12 _)]
        rfl
  · have hm := Wm.one_12 q2
    clear q1 q2
    have hd := Wm.one_12 h1
    have hn := Wm.one_12 h2
    clear h1 h2
    by_cases hq : rd ≠ 13 ∧ rm ≠ 13
    · have hR : Wm.rowW Wm.findF ⟨7, cond, rd, rn, rm, 0, 2, list, false⟩ it = some (59904 + 13 * 32 + 0 + rn, rd * 256 + rm) := by
        unfold Wm.rowW Wm.dataW
        dsimp only
        repeat (first | rw [if_neg (by omega)] | rw [if_pos (by omega)])
        rw [show Wm.opN 7 = 13 from rfl, Wm.fl_f _ _ _ _ _ _ _ _ (by decide), Wm.dN_lo _ _ _ _ _ _ _ _ _ (by decide), Wm.rN_no _ _ _ _ _ _ _ _ _ (by decide)]
        rw [if_pos hq]
      rw [hR]
      rw [search_is, cands_7]
      simp only [searchC]
      rw [takesP_3, fieldsP_0, takesP_4, fieldsP_1, takesP_5, fieldsP_2]
      rw [if_neg (off21 _)]
      rw [if_neg (off21' _)]
      rw [if_pos (by simp [hq.1, hq.2])]
      rw [join_reg 3953131520 rn rd rm false (by omega) (by omega) (by omega) (by omega) (by omega) (by omega) (by omega) (by omega) (by omega) (by omega) (by omega) (.inl rfl) (by omega), show sB false = 0 from rfl]
      exact some_split _ _ _ (by omega) (by omega) (by omega)
    · exact absurd ⟨by omega, by omega⟩ hq
theorem we_7 (cond rd rn rm imm mode list : Int) (s it : Bool) (hok : Nm.okB ⟨7, cond, rd, rn, rm, imm, mode, list, s⟩ = true) (hw : Nm.Wide list) :
    (searchP 7 cond rd rn rm imm mode list s it formT).map splitW = Wm.rowW Wm.findF ⟨7, cond, rd, rn, rm, imm, mode, list, s⟩ it := by
  cases s
  · exact we_7f cond rd rn rm imm mode list it hok hw
  · exact we_7t cond rd rn rm imm mode list it hok hw
theorem we_8t (cond rd rn rm imm mode list : Int) (it : Bool) (hok : Nm.okB ⟨8, cond, rd, rn, rm, imm, mode, list, true⟩ = true) (hw : Nm.Wide list) :
    (searchP 8 cond rd rn rm imm mode list true it formT).map splitW = Wm.rowW Wm.findF ⟨8, cond, rd, rn, rm, imm, mode, list, true⟩ it := by
  obtain ⟨_, h1, h2, h3, h4, h5, h6⟩ := Nm.ok_parts hok
  clear hok
  have h3' := Nm.last_cases h3
  clear h3
  dsimp only at h1 h2 h3' h4 h5 h6
  have hl := Nm.list_most h4 0 (by decide) rfl hw
  have hc : cond = 0 := by simpa [Im.condB] using h5
  clear h4 h5 h6
  rcases h3' with ⟨rfl, q1, q2, rfl, rfl⟩ | ⟨rfl, q1, q2, q3, q4, rfl⟩ | ⟨rfl, q1, q2, rfl⟩
  · exact absurd q1 (by decide)
  · replace q2 : 0 ≤ imm := q2
    replace q3 : imm ≤ 4294967295 := q3
    clear q1 q4
    have hd := Wm.one_12 h1
    have hn := Wm.one_12 h2
    clear h1 h2
    have hi : imm % 4294967296 = imm := by omega
    cases hx : Wm.findF imm with
    | some n =>
      obtain ⟨fb, fi, n0, n1⟩ := find_some q2 hx
      have hR : Wm.rowW Wm.findF ⟨8, cond, rd, rn, 0, imm, 1, list, true⟩ it = some (61440 + 11 * 32 + 16 + rn + Wm.x1 n, rd * 256 + Wm.x2 n) := by
        unfold Wm.rowW Wm.dataW
        dsimp only
        repeat (first | rw [if_neg (by omega)] | rw [if_pos (by omega)])
        rw [hx]
        dsimp only
        rw [show Wm.opN 8 = 11 from rfl, Wm.fl_t, Wm.dN_lo _ _ _ _ _ _ _ _ _ (by decide), Wm.rN_no _ _ _ _ _ _ _ _ _ (by decide)]
      rw [hR]
      rw [search_is, cands_8]
      simp only [searchC]
      rw [takesP_3, fieldsP_0, takesP_5, fieldsP_2]
      rw [if_pos (by rw [hi, fb]; rfl)]
      rw [join_expanded 4049600512 rn rd 0 imm true n (by rw [hi]; exact fi) n0 n1 (by omega) (by omega) (by omega) (by omega) (by omega) rfl (by omega) (by omega) (.inr (by omega)) (by omega) (by omega) (by omega) (by omega), show sB true = 1 from rfl]
      have hx := x_bd n
      exact some_split _ _ _ (by omega) (by omega) (by omega)
    | none =>
      have fb := find_none q2 hx
      have hR : Wm.rowW Wm.findF ⟨8, cond, rd, rn, 0, imm, 1, list, true⟩ it = none := by
        unfold Wm.rowW Wm.dataW
        dsimp only
        repeat (first | rw [if_neg (by omega)] | rw [if_pos (by omega)])
        rw [hx]
        try dsimp only
        repeat (first | rw [if_neg (by omega)] | rw [if_pos (by omega)])
      rw [hR]
      rw [search_is, cands_8]
      simp only [searchC]
      rw [takesP_3, fieldsP_0, takesP_5, fieldsP_2]
      rw [if_neg (off1 _ _ (by rw [hi]; exact fb))]
      rw [if_neg (off12 _)]
      rfl
  · have hm := Wm.one_12 q2
    clear q1 q2
    have hd := Wm.one_12 h1
    have hn := Wm.one_12 h2
    clear h1 h2
    by_cases hq : rd ≠ 13 ∧ rm ≠ 13
    · have hR : Wm.rowW Wm.findF ⟨8, cond, rd, rn, rm, 0, 2, list, true⟩ it = some (59904 + 11 * 32 + 16 + rn, rd * 256 + rm) := by
        unfold Wm.rowW Wm.dataW
        dsimp only
        repeat (first | rw [if_neg (by omega)] | rw [if_pos (by omega)])
        rw [show Wm.opN 8 = 11 from rfl, Wm.fl_t, Wm.dN_lo _ _ _ _ _ _ _ _ _ (by decide), Wm.rN_no _ _ _ _ _ _ _ _ _ (by decide)]
        rw [if_pos hq]
      rw [hR]
      rw [search_is, cands_8]
      simp only [searchC]
      rw [takesP_3, fieldsP_0, takesP_5, fieldsP_2]
      rw [if_neg (off21 _)]
      rw [if_pos (by simp [hq.1, hq.2])]
      rw [join_reg 3948937216 rn rd rm true (by omega) (by omega) (by omega) (by omega) (by omega) (by omega) (by omega) (by omega) (by omega) (by omega) (by omega) (.inr (by omega)) (by omega), show sB true = 1 from rfl]
      exact some_split _ _ _ (by omega) (by omega) (by omega)
    · exact absurd ⟨by omega, by omega⟩ hq
theorem we_8f (cond rd rn rm imm mode list : Int) (it : Bool) (hok : Nm.okB ⟨8, cond, rd, rn, rm, imm, mode, list, false⟩ = true) (hw : Nm.Wide list) :
    (searchP 8 cond rd rn rm imm mode list false it formT).map splitW = Wm.rowW Wm.findF ⟨8, cond, rd, rn, rm, imm, mode, list, false⟩ it := by
  obtain ⟨_, h1, h2, h3, h4, h5, h6⟩ := Nm.ok_parts hok
  clear hok
  have h3' := Nm.last_cases h3
  clear h3
  dsimp only at h1 h2 h3' h4 h5 h6
  have hl := Nm.list_most h4 0 (by decide) rfl hw
  have hc : cond = 0 := by simpa [Im.condB] using h5
  clear h4 h5 h6
  rcases h3' with ⟨rfl, q1, q2, rfl, rfl⟩ | ⟨rfl, q1, q2, q3, q4, rfl⟩ | ⟨rfl, q1, q2, rfl⟩
  · exact absurd q1 (by decide)
  · replace q2 : 0 ≤ imm := q2
    replace q3 : imm ≤ 4294967295 := q3
    clear q1 q4
    have hd := Wm.one_12 h1
    have hn := Wm.one_12 h2
    clear h1 h2
    have hi : imm % 4294967296 = imm := by omega
    cases hx : Wm.findF imm with
    | some n =>
      obtain ⟨fb, fi, n0, n1⟩ := find_some q2 hx
      have hR : Wm.rowW Wm.findF ⟨8, cond, rd, rn, 0, imm, 1, list, false⟩ it = some (61440 + 11 * 32 + 0 + rn + Wm.x1 n, rd * 256 + Wm.x2 n) := by
        unfold Wm.rowW Wm.dataW
        dsimp only
        repeat (first | rw [if_neg (by omega)] | rw [if_pos (by omega)])
        rw [hx]
        dsimp only
        rw [show Wm.opN 8 = 11 from rfl, Wm.fl_f _ _ _ _ _ _ _ _ (by decide), Wm.dN_lo _ _ _ _ _ _ _ _ _ (by decide), Wm.rN_no _ _ _ _ _ _ _ _ _ (by decide)]
      rw [hR]
      rw [search_is, cands_8]
      simp only [searchC]
      rw [takesP_3, fieldsP_0, takesP_5, fieldsP_2]
      rw [if_pos (by rw [hi, fb]; rfl)]
      rw [join_expanded 4049600512 rn rd 0 imm false n (by rw [hi]; exact fi) n0 n1 (by omega) (by omega) (by omega) (by omega) (by omega) rfl (by omega) (by omega) (.inl rfl) (by omega) (by omega) (by omega) (by omega), show sB false = 0 from rfl]
      have hx := x_bd n
      exact some_split _ _ _ (by omega) (by omega) (by omega)
    | none =>
      have fb := find_none q2 hx
      have hR : Wm.rowW Wm.findF ⟨8, cond, rd, rn, 0, imm, 1, list, false⟩ it = none := by
        unfold Wm.rowW Wm.dataW
        dsimp only
        repeat (first | rw [if_neg (by omega)] | rw [if_pos (by omega)])
        rw [hx]
        try dsimp only
        repeat (first | rw [if_neg (by omega)] | rw [if_pos (by omega)])
      rw [hR]
      rw [search_is, cands_8]
      simp only [searchC]
      rw [takesP_3, fieldsP_0, takesP_5, fieldsP_2]
      rw [if_neg (off1 _ _ (by rw [hi]; exact fb))]
      rw [if_neg (off12 _)]
      rfl
  · have hm := Wm.one_12 q2
    clear q1 q2
    have hd := Wm.one_12 h1
    have hn := Wm.one_12 h2
    clear h1 h2
    by_cases hq : rd ≠ 13 ∧ rm ≠ 13
    · have hR : Wm.rowW Wm.findF ⟨8, cond, rd, rn, rm, 0, 2, list, false⟩ it = some (59904 + 11 * 32 + 0 + rn, rd * 256 + rm) := by
        unfold Wm.rowW Wm.dataW
        dsimp only
        repeat (first | rw [if_neg (by omega)] | rw [if_pos (by omega)])
        rw [show Wm.opN 8 = 11 from rfl, Wm.fl_f _ _ _ _ _ _ _ _ (by decide), Wm.dN_lo _ _ _ _ _ _ _ _ _ (by decide), Wm.rN_no _ _ _ _ _ _ _ _ _ (by decide)]
        rw [if_pos hq]
      rw [hR]
      rw [search_is, cands_8]
      simp only [searchC]
      rw [takesP_3, fieldsP_0, takesP_5, fieldsP_2]
      rw [if_neg (off21 _)]
      rw [if_pos (by simp [hq.1, hq.2])]
      rw [join_reg 3948937216 rn rd rm false (by omega) (by omega) (by omega) (by omega) (by omega) (by omega) (by omega) (by omega) (by omega) (by omega) (by omega) (.inl rfl) (by omega), show sB false = 0 from rfl]
      exact some_split _ _ _ (by omega) (by omega) (by omega)
    · exact absurd ⟨by omega, by omega⟩ hq
theorem we_8 (cond rd rn rm imm mode list : Int) (s it : Bool) (hok : Nm.okB ⟨8, cond, rd, rn, rm, imm, mode, list, s⟩ = true) (hw : Nm.Wide list) :
    (searchP 8 cond rd rn rm imm mode list s it formT).map splitW = Wm.rowW Wm.findF ⟨8, cond, rd, rn, rm, imm, mode, list, s⟩ it := by
  cases s
  · exact we_8f cond rd rn rm imm mode list it hok hw
  · exact we_8t cond rd rn rm imm mode list it hok hw
end Xw
end Go.Proofs.YtmofimgodmcdjaaDoor
