/- The instruction of an instruction's halfword is that instruction: operation by operation (text by gen_nd.py). -/
import Derived.Test.YtcphhojdfpedkaaDoorGa
namespace Go.Proofs.YtcphhojdfpedkaaDoor
namespace Nm
theorem dec_1 (cond rd rn rm imm mode list : Int) (s it : Bool) (h : Int) (hok : okB ⟨1, cond, rd, rn, rm, imm, mode, list, s⟩ = true) (hw : Wide list) (he : rowI ⟨1, cond, rd, rn, rm, imm, mode, list, s⟩ it = some h) :
    0 ≤ h ∧ h < 59392 ∧ decI h it = ⟨1, cond, rd, rn, rm, imm, mode, list, s⟩ := by
  obtain ⟨_, h1, h2, h3, h4, h5, h6⟩ := ok_parts hok
  clear hok
  have h3' := last_cases h3
  clear h3
  unfold rowI twoI at he
  dsimp only at he h1 h2 h3' h4 h5 h6
  have hl := list_most h4 0 (by decide) rfl hw
  have hc : cond = 0 := by simpa [Im.condB] using h5
  rcases h3' with ⟨rfl, q1, q2, rfl, rfl⟩ | ⟨rfl, q1, q2, q3, q4, rfl⟩ | ⟨rfl, q1, q2, rfl⟩
  · cases (show (1 : Int) = 0 from q1)
  · repeat (first | rw [if_neg (by omega)] at he | rw [if_pos (by omega)] at he)
    cases he
  · repeat (first | rw [if_neg (by omega)] at he | rw [if_pos (by omega)] at he)
    obtain ⟨hb, rfl⟩ := opt_is he
    simp only [Bool.and_eq_true, beq_iff_eq] at hb
    obtain ⟨rfl, hf, hd, hm⟩ := hb
    have hd := low_is hd
    have hm := low_is hm
    refine ⟨by omega, by omega, ?_⟩
    unfold decI dec1
    repeat (first | rw [if_neg (by omega)] | rw [if_pos (by omega)])
    exact mk_eq rfl (by omega) (by omega) (by omega) (by omega) (by omega) (by omega) (by omega) (flag_is hf).symm
theorem dec_2 (cond rd rn rm imm mode list : Int) (s it : Bool) (h : Int) (hok : okB ⟨2, cond, rd, rn, rm, imm, mode, list, s⟩ = true) (hw : Wide list) (he : rowI ⟨2, cond, rd, rn, rm, imm, mode, list, s⟩ it = some h) :
    0 ≤ h ∧ h < 59392 ∧ decI h it = ⟨2, cond, rd, rn, rm, imm, mode, list, s⟩ := by
  obtain ⟨_, h1, h2, h3, h4, h5, h6⟩ := ok_parts hok
  clear hok
  have h3' := last_cases h3
  clear h3
  unfold rowI twoI at he
  dsimp only at he h1 h2 h3' h4 h5 h6
  have hl := list_most h4 0 (by decide) rfl hw
  have hc : cond = 0 := by simpa [Im.condB] using h5
  rcases h3' with ⟨rfl, q1, q2, rfl, rfl⟩ | ⟨rfl, q1, q2, q3, q4, rfl⟩ | ⟨rfl, q1, q2, rfl⟩
  · cases (show (1 : Int) = 0 from q1)
  · repeat (first | rw [if_neg (by omega)] at he | rw [if_pos (by omega)] at he)
    cases he
  · repeat (first | rw [if_neg (by omega)] at he | rw [if_pos (by omega)] at he)
    obtain ⟨hb, rfl⟩ := opt_is he
    simp only [Bool.and_eq_true, beq_iff_eq] at hb
    obtain ⟨rfl, hf, hd, hm⟩ := hb
    have hd := low_is hd
    have hm := low_is hm
    refine ⟨by omega, by omega, ?_⟩
    unfold decI dec1
    repeat (first | rw [if_neg (by omega)] | rw [if_pos (by omega)])
    exact mk_eq rfl (by omega) (by omega) (by omega) (by omega) (by omega) (by omega) (by omega) (flag_is hf).symm
theorem dec_3 (cond rd rn rm imm mode list : Int) (s it : Bool) (h : Int) (hok : okB ⟨3, cond, rd, rn, rm, imm, mode, list, s⟩ = true) (hw : Wide list) (he : rowI ⟨3, cond, rd, rn, rm, imm, mode, list, s⟩ it = some h) :
    0 ≤ h ∧ h < 59392 ∧ decI h it = ⟨3, cond, rd, rn, rm, imm, mode, list, s⟩ := by
  obtain ⟨_, h1, h2, h3, h4, h5, h6⟩ := ok_parts hok
  clear hok
  have h3' := last_cases h3
  clear h3
  unfold rowI twoI at he
  dsimp only at he h1 h2 h3' h4 h5 h6
  have hl := list_most h4 0 (by decide) rfl hw
  have hc : cond = 0 := by simpa [Im.condB] using h5
  rcases h3' with ⟨rfl, q1, q2, rfl, rfl⟩ | ⟨rfl, q1, q2, q3, q4, rfl⟩ | ⟨rfl, q1, q2, rfl⟩
  · cases (show (1 : Int) = 0 from q1)
  · repeat (first | rw [if_neg (by omega)] at he | rw [if_pos (by omega)] at he)
    cases he
  · repeat (first | rw [if_neg (by omega)] at he | rw [if_pos (by omega)] at he)
    obtain ⟨hb, rfl⟩ := opt_is he
    simp only [Bool.and_eq_true, beq_iff_eq] at hb
    obtain ⟨rfl, hf, hd, hm⟩ := hb
    have hd := low_is hd
    have hm := low_is hm
    refine ⟨by omega, by omega, ?_⟩
    unfold decI dec1
    repeat (first | rw [if_neg (by omega)] | rw [if_pos (by omega)])
    exact mk_eq rfl (by omega) (by omega) (by omega) (by omega) (by omega) (by omega) (by omega) (flag_is hf).symm
theorem dec_4 (cond rd rn rm imm mode list : Int) (s it : Bool) (h : Int) (hok : okB ⟨4, cond, rd, rn, rm, imm, mode, list, s⟩ = true) (hw : Wide list) (he : rowI ⟨4, cond, rd, rn, rm, imm, mode, list, s⟩ it = some h) :
    0 ≤ h ∧ h < 59392 ∧ decI h it = ⟨4, cond, rd, rn, rm, imm, mode, list, s⟩ := by
  obtain ⟨_, h1, h2, h3, h4, h5, h6⟩ := ok_parts hok
  clear hok
  have h3' := last_cases h3
  clear h3
  unfold rowI twoI at he
  dsimp only at he h1 h2 h3' h4 h5 h6
  have hl := list_most h4 0 (by decide) rfl hw
  have hc : cond = 0 := by simpa [Im.condB] using h5
  rcases h3' with ⟨rfl, q1, q2, rfl, rfl⟩ | ⟨rfl, q1, q2, q3, q4, rfl⟩ | ⟨rfl, q1, q2, rfl⟩
  · cases (show (1 : Int) = 0 from q1)
  · repeat (first | rw [if_neg (by omega)] at he | rw [if_pos (by omega)] at he)
    cases he
  · repeat (first | rw [if_neg (by omega)] at he | rw [if_pos (by omega)] at he)
    obtain ⟨hb, rfl⟩ := opt_is he
    simp only [Bool.and_eq_true, beq_iff_eq] at hb
    obtain ⟨rfl, hf, hd, hm⟩ := hb
    have hd := low_is hd
    have hm := low_is hm
    refine ⟨by omega, by omega, ?_⟩
    unfold decI dec1
    repeat (first | rw [if_neg (by omega)] | rw [if_pos (by omega)])
    exact mk_eq rfl (by omega) (by omega) (by omega) (by omega) (by omega) (by omega) (by omega) (flag_is hf).symm
theorem dec_6 (cond rd rn rm imm mode list : Int) (s it : Bool) (h : Int) (hok : okB ⟨6, cond, rd, rn, rm, imm, mode, list, s⟩ = true) (hw : Wide list) (he : rowI ⟨6, cond, rd, rn, rm, imm, mode, list, s⟩ it = some h) :
    0 ≤ h ∧ h < 59392 ∧ decI h it = ⟨6, cond, rd, rn, rm, imm, mode, list, s⟩ := by
  obtain ⟨_, h1, h2, h3, h4, h5, h6⟩ := ok_parts hok
  clear hok
  have h3' := last_cases h3
  clear h3
  unfold rowI twoI at he
  dsimp only at he h1 h2 h3' h4 h5 h6
  have hl := list_most h4 0 (by decide) rfl hw
  have hc : cond = 0 := by simpa [Im.condB] using h5
  rcases h3' with ⟨rfl, q1, q2, rfl, rfl⟩ | ⟨rfl, q1, q2, q3, q4, rfl⟩ | ⟨rfl, q1, q2, rfl⟩
  · cases (show (1 : Int) = 0 from q1)
  · repeat (first | rw [if_neg (by omega)] at he | rw [if_pos (by omega)] at he)
    cases he
  · repeat (first | rw [if_neg (by omega)] at he | rw [if_pos (by omega)] at he)
    obtain ⟨hb, rfl⟩ := opt_is he
    simp only [Bool.and_eq_true, beq_iff_eq] at hb
    obtain ⟨rfl, hf, hd, hm⟩ := hb
    have hd := low_is hd
    have hm := low_is hm
    refine ⟨by omega, by omega, ?_⟩
    unfold decI dec1
    repeat (first | rw [if_neg (by omega)] | rw [if_pos (by omega)])
    exact mk_eq rfl (by omega) (by omega) (by omega) (by omega) (by omega) (by omega) (by omega) (flag_is hf).symm
theorem dec_8 (cond rd rn rm imm mode list : Int) (s it : Bool) (h : Int) (hok : okB ⟨8, cond, rd, rn, rm, imm, mode, list, s⟩ = true) (hw : Wide list) (he : rowI ⟨8, cond, rd, rn, rm, imm, mode, list, s⟩ it = some h) :
    0 ≤ h ∧ h < 59392 ∧ decI h it = ⟨8, cond, rd, rn, rm, imm, mode, list, s⟩ := by
  obtain ⟨_, h1, h2, h3, h4, h5, h6⟩ := ok_parts hok
  clear hok
  have h3' := last_cases h3
  clear h3
  unfold rowI twoI at he
  dsimp only at he h1 h2 h3' h4 h5 h6
  have hl := list_most h4 0 (by decide) rfl hw
  have hc : cond = 0 := by simpa [Im.condB] using h5
  rcases h3' with ⟨rfl, q1, q2, rfl, rfl⟩ | ⟨rfl, q1, q2, q3, q4, rfl⟩ | ⟨rfl, q1, q2, rfl⟩
  · cases (show (1 : Int) = 0 from q1)
  · repeat (first | rw [if_neg (by omega)] at he | rw [if_pos (by omega)] at he)
    cases he
  · repeat (first | rw [if_neg (by omega)] at he | rw [if_pos (by omega)] at he)
    obtain ⟨hb, rfl⟩ := opt_is he
    simp only [Bool.and_eq_true, beq_iff_eq] at hb
    obtain ⟨rfl, hf, hd, hm⟩ := hb
    have hd := low_is hd
    have hm := low_is hm
    refine ⟨by omega, by omega, ?_⟩
    unfold decI dec1
    repeat (first | rw [if_neg (by omega)] | rw [if_pos (by omega)])
    exact mk_eq rfl (by omega) (by omega) (by omega) (by omega) (by omega) (by omega) (by omega) (flag_is hf).symm
theorem dec_9 (cond rd rn rm imm mode list : Int) (s it : Bool) (h : Int) (hok : okB ⟨9, cond, rd, rn, rm, imm, mode, list, s⟩ = true) (hw : Wide list) (he : rowI ⟨9, cond, rd, rn, rm, imm, mode, list, s⟩ it = some h) :
    0 ≤ h ∧ h < 59392 ∧ decI h it = ⟨9, cond, rd, rn, rm, imm, mode, list, s⟩ := by
  obtain ⟨_, h1, h2, h3, h4, h5, h6⟩ := ok_parts hok
  clear hok
  have h3' := last_cases h3
  clear h3
  unfold rowI twoI at he
  dsimp only at he h1 h2 h3' h4 h5 h6
  have hl := list_most h4 0 (by decide) rfl hw
  have hc : cond = 0 := by simpa [Im.condB] using h5
  rcases h3' with ⟨rfl, q1, q2, rfl, rfl⟩ | ⟨rfl, q1, q2, q3, q4, rfl⟩ | ⟨rfl, q1, q2, rfl⟩
  · cases (show (1 : Int) = 0 from q1)
  · repeat (first | rw [if_neg (by omega)] at he | rw [if_pos (by omega)] at he)
    obtain ⟨hb, rfl⟩ := opt_is he
    simp only [Bool.and_eq_true, beq_iff_eq] at hb
    obtain ⟨_, rfl, hf, hd, hm⟩ := hb
    have hd := low_is hd
    have hm := low_is hm
    refine ⟨by omega, by omega, ?_⟩
    unfold decI dec1
    repeat (first | rw [if_neg (by omega)] | rw [if_pos (by omega)])
    exact mk_eq rfl (by omega) (by omega) (by omega) (by omega) (by omega) (by omega) (by omega) (flag_is hf).symm
  · repeat (first | rw [if_neg (by omega)] at he | rw [if_pos (by omega)] at he)
    obtain ⟨hb, rfl⟩ := opt_is he
    simp at hb
theorem dec_11 (cond rd rn rm imm mode list : Int) (s it : Bool) (h : Int) (hok : okB ⟨11, cond, rd, rn, rm, imm, mode, list, s⟩ = true) (hw : Wide list) (he : rowI ⟨11, cond, rd, rn, rm, imm, mode, list, s⟩ it = some h) :
    0 ≤ h ∧ h < 59392 ∧ decI h it = ⟨11, cond, rd, rn, rm, imm, mode, list, s⟩ := by
  obtain ⟨_, h1, h2, h3, h4, h5, h6⟩ := ok_parts hok
  clear hok
  have h3' := last_cases h3
  clear h3
  unfold rowI twoI at he
  dsimp only at he h1 h2 h3' h4 h5 h6
  have hl := list_most h4 0 (by decide) rfl hw
  have hc : cond = 0 := by simpa [Im.condB] using h5
  have hn := one_none h2
  rcases h3' with ⟨rfl, q1, q2, rfl, rfl⟩ | ⟨rfl, q1, q2, q3, q4, rfl⟩ | ⟨rfl, q1, q2, rfl⟩
  · cases (show (1 : Int) = 0 from q1)
  · repeat (first | rw [if_neg (by omega)] at he | rw [if_pos (by omega)] at he)
    cases he
  · repeat (first | rw [if_neg (by omega)] at he | rw [if_pos (by omega)] at he)
    obtain ⟨hb, rfl⟩ := opt_is he
    simp only [Bool.and_eq_true] at hb
    obtain ⟨hf, hd, hm⟩ := hb
    have hd := low_is hd
    have hm := low_is hm
    refine ⟨by omega, by omega, ?_⟩
    unfold decI dec1
    repeat (first | rw [if_neg (by omega)] | rw [if_pos (by omega)])
    exact mk_eq rfl (by omega) (by omega) (by omega) (by omega) (by omega) (by omega) (by omega) (flag_is hf).symm
theorem dec_13 (cond rd rn rm imm mode list : Int) (s it : Bool) (h : Int) (hok : okB ⟨13, cond, rd, rn, rm, imm, mode, list, s⟩ = true) (hw : Wide list) (he : rowI ⟨13, cond, rd, rn, rm, imm, mode, list, s⟩ it = some h) :
    0 ≤ h ∧ h < 59392 ∧ decI h it = ⟨13, cond, rd, rn, rm, imm, mode, list, s⟩ := by
  obtain ⟨_, h1, h2, h3, h4, h5, h6⟩ := ok_parts hok
  clear hok
  have h3' := last_cases h3
  clear h3
  unfold rowI twoI at he
  dsimp only at he h1 h2 h3' h4 h5 h6
  have hl := list_most h4 0 (by decide) rfl hw
  have hc : cond = 0 := by simpa [Im.condB] using h5
  have hn := one_none h1
  rcases h3' with ⟨rfl, q1, q2, rfl, rfl⟩ | ⟨rfl, q1, q2, q3, q4, rfl⟩ | ⟨rfl, q1, q2, rfl⟩
  · cases (show (1 : Int) = 0 from q1)
  · repeat (first | rw [if_neg (by omega)] at he | rw [if_pos (by omega)] at he)
    cases he
  · repeat (first | rw [if_neg (by omega)] at he | rw [if_pos (by omega)] at he)
    obtain ⟨hb, rfl⟩ := opt_is he
    simp only [Bool.and_eq_true] at hb
    obtain ⟨hd, hm⟩ := hb
    have hd := low_is hd
    have hm := low_is hm
    refine ⟨by omega, by omega, ?_⟩
    unfold decI dec1
    repeat (first | rw [if_neg (by omega)] | rw [if_pos (by omega)])
    exact mk_eq rfl (by omega) (by omega) (by omega) (by omega) (by omega) (by omega) (by omega) (flag_off h6 (by decide))
theorem dec_14 (cond rd rn rm imm mode list : Int) (s it : Bool) (h : Int) (hok : okB ⟨14, cond, rd, rn, rm, imm, mode, list, s⟩ = true) (hw : Wide list) (he : rowI ⟨14, cond, rd, rn, rm, imm, mode, list, s⟩ it = some h) :
    0 ≤ h ∧ h < 59392 ∧ decI h it = ⟨14, cond, rd, rn, rm, imm, mode, list, s⟩ := by
  obtain ⟨_, h1, h2, h3, h4, h5, h6⟩ := ok_parts hok
  clear hok
  have h3' := last_cases h3
  clear h3
  unfold rowI twoI at he
  dsimp only at he h1 h2 h3' h4 h5 h6
  have hl := list_most h4 0 (by decide) rfl hw
  have hc : cond = 0 := by simpa [Im.condB] using h5
  have hn := one_none h1
  rcases h3' with ⟨rfl, q1, q2, rfl, rfl⟩ | ⟨rfl, q1, q2, q3, q4, rfl⟩ | ⟨rfl, q1, q2, rfl⟩
  · cases (show (1 : Int) = 0 from q1)
  · repeat (first | rw [if_neg (by omega)] at he | rw [if_pos (by omega)] at he)
    cases he
  · repeat (first | rw [if_neg (by omega)] at he | rw [if_pos (by omega)] at he)
    obtain ⟨hb, rfl⟩ := opt_is he
    simp only [Bool.and_eq_true] at hb
    obtain ⟨hd, hm⟩ := hb
    have hd := low_is hd
    have hm := low_is hm
    refine ⟨by omega, by omega, ?_⟩
    unfold decI dec1
    repeat (first | rw [if_neg (by omega)] | rw [if_pos (by omega)])
    exact mk_eq rfl (by omega) (by omega) (by omega) (by omega) (by omega) (by omega) (by omega) (flag_off h6 (by decide))
theorem dec_20 (cond rd rn rm imm mode list : Int) (s it : Bool) (h : Int) (hok : okB ⟨20, cond, rd, rn, rm, imm, mode, list, s⟩ = true) (hw : Wide list) (he : rowI ⟨20, cond, rd, rn, rm, imm, mode, list, s⟩ it = some h) :
    0 ≤ h ∧ h < 59392 ∧ decI h it = ⟨20, cond, rd, rn, rm, imm, mode, list, s⟩ := by
  obtain ⟨_, h1, h2, h3, h4, h5, h6⟩ := ok_parts hok
  clear hok
  have h3' := last_cases h3
  clear h3
  unfold rowI twoI at he
  dsimp only at he h1 h2 h3' h4 h5 h6
  have hl := list_most h4 0 (by decide) rfl hw
  have hc : cond = 0 := by simpa [Im.condB] using h5
  rcases h3' with ⟨rfl, q1, q2, rfl, rfl⟩ | ⟨rfl, q1, q2, q3, q4, rfl⟩ | ⟨rfl, q1, q2, rfl⟩
  · cases (show (24575 : Int) = 0 from q2)
  · exact absurd rfl q1
  · repeat (first | rw [if_neg (by omega)] at he | rw [if_pos (by omega)] at he)
    obtain ⟨hb, rfl⟩ := opt_is he
    simp only [Bool.and_eq_true, beq_iff_eq] at hb
    obtain ⟨_, rfl, hd, hm⟩ := hb
    have hd := low_is hd
    have hm := low_is hm
    refine ⟨by omega, by omega, ?_⟩
    unfold decI dec1
    repeat (first | rw [if_neg (by omega)] | rw [if_pos (by omega)])
    exact mk_eq rfl (by omega) (by omega) (by omega) (by omega) (by omega) (by omega) (by omega) (flag_off h6 (by decide))
theorem dec_12 (cond rd rn rm imm mode list : Int) (s it : Bool) (h : Int) (hok : okB ⟨12, cond, rd, rn, rm, imm, mode, list, s⟩ = true) (hw : Wide list) (he : rowI ⟨12, cond, rd, rn, rm, imm, mode, list, s⟩ it = some h) :
    0 ≤ h ∧ h < 59392 ∧ decI h it = ⟨12, cond, rd, rn, rm, imm, mode, list, s⟩ := by
  obtain ⟨_, h1, h2, h3, h4, h5, h6⟩ := ok_parts hok
  clear hok
  have h3' := last_cases h3
  clear h3
  unfold rowI moveI at he
  dsimp only at he h1 h2 h3' h4 h5 h6
  have hl := list_most h4 0 (by decide) rfl hw
  have hc : cond = 0 := by simpa [Im.condB] using h5
  have hn := one_none h1
  have hr := one_in (set := 24575) h2 (by decide)
  rcases h3' with ⟨rfl, q1, q2, rfl, rfl⟩ | ⟨rfl, q1, q2, q3, q4, rfl⟩ | ⟨rfl, q1, q2, rfl⟩
  · cases (show (1 : Int) = 0 from q1)
  · repeat (first | rw [if_neg (by omega)] at he | rw [if_pos (by omega)] at he)
    obtain ⟨hb, rfl⟩ := opt_is he
    simp only [Bool.and_eq_true, decide_eq_true_eq] at hb
    obtain ⟨hd, hm⟩ := hb
    have hd := low_is hd
    replace q2 : (0 : Int) ≤ imm := q2
    refine ⟨by omega, by omega, ?_⟩
    unfold decI dec0
    repeat (first | rw [if_neg (by omega)] | rw [if_pos (by omega)])
    exact mk_eq rfl (by omega) (by omega) (by omega) (by omega) (by omega) (by omega) (by omega) (flag_off h6 (by decide))
  · repeat (first | rw [if_neg (by omega)] at he | rw [if_pos (by omega)] at he)
    have hm := one_in (set := 24575) q2 (by decide)
    split at he
    · rename_i hb
      obtain rfl := Option.some.inj he
      simp only [Bool.and_eq_true] at hb
      have hx := low_is hb.1
      have hy := low_is hb.2
      refine ⟨by omega, by omega, ?_⟩
      unfold decI dec1
      repeat (first | rw [if_neg (by omega)] | rw [if_pos (by omega)])
      exact mk_eq rfl (by omega) (by omega) (by omega) (by omega) (by omega) (by omega) (by omega) (flag_off h6 (by decide))
    · rename_i hb
      obtain rfl := Option.some.inj he
      unfold up
      refine ⟨by omega, by omega, ?_⟩
      unfold decI dec2 hi4
      repeat (first | rw [if_neg (by omega)] | rw [if_pos (by omega)])
      exact mk_eq rfl (by omega) (by omega) (by omega) (by omega) (by omega) (by omega) (by omega) (flag_off h6 (by decide))
theorem dec_10 (cond rd rn rm imm mode list : Int) (s it : Bool) (h : Int) (hok : okB ⟨10, cond, rd, rn, rm, imm, mode, list, s⟩ = true) (hw : Wide list) (he : rowI ⟨10, cond, rd, rn, rm, imm, mode, list, s⟩ it = some h) :
    0 ≤ h ∧ h < 59392 ∧ decI h it = ⟨10, cond, rd, rn, rm, imm, mode, list, s⟩ := by
  obtain ⟨_, h1, h2, h3, h4, h5, h6⟩ := ok_parts hok
  clear hok
  have h3' := last_cases h3
  clear h3
  unfold rowI moveI at he
  dsimp only at he h1 h2 h3' h4 h5 h6
  have hl : 0 ≤ list ∧ list ≤ 0 := by
    refine list_most h4 0 (by decide) ?_ hw
    by_cases c : mode = 2 ∧ s = false
    · obtain ⟨rfl, rfl⟩ := c; rfl
    · unfold Im.fieldsI; rw [if_neg (by omega), if_pos (by omega), if_neg (fun x => c x.2)]; rfl
  have hc : cond = 0 := by simpa [Im.condB] using h5
  have hn : rn = 0 ∧ 0 ≤ rd ∧ rd ≤ 15 := by
    by_cases c : mode = 2 ∧ s = false
    · obtain ⟨rfl, rfl⟩ := c; exact ⟨one_none h2, one_in h1 (by decide)⟩
    · have hf : Im.fieldsI 10 mode s = ⟨24575, 0, 24575, 0, 4294967295, 1, 0, 0⟩ := by unfold Im.fieldsI; rw [if_neg (by omega), if_pos (by omega), if_neg (fun x => c x.2)]
      rw [hf] at h1 h2
      exact ⟨one_none h2, one_in h1 (by decide)⟩
  rcases h3' with ⟨rfl, q1, q2, rfl, rfl⟩ | ⟨rfl, q1, q2, q3, q4, rfl⟩ | ⟨rfl, q1, q2, rfl⟩
  · unfold Im.fieldsI at q1
    rw [if_neg (by omega), if_pos (by omega), if_neg (by omega)] at q1
    cases q1
  · repeat (first | rw [if_neg (by omega)] at he | rw [if_pos (by omega)] at he)
    obtain ⟨hb, rfl⟩ := opt_is he
    simp only [Bool.and_eq_true, decide_eq_true_eq] at hb
    obtain ⟨hd, hm, hf⟩ := hb
    have hd := low_is hd
    replace q2 : (0 : Int) ≤ imm := q2
    refine ⟨by omega, by omega, ?_⟩
    unfold decI dec0
    repeat (first | rw [if_neg (by omega)] | rw [if_pos (by omega)])
    exact mk_eq rfl (by omega) (by omega) (by omega) (by omega) (by omega) (by omega) (by omega) (flag_is hf).symm
  · cases s with
    | true =>
      repeat (first | rw [if_neg (by omega)] at he | rw [if_pos (by omega)] at he)
      rw [if_pos rfl] at he
      obtain ⟨hb, rfl⟩ := opt_is he
      simp only [Bool.and_eq_true] at hb
      have hx := low_is hb.2.1
      have hy := low_is hb.2.2
      refine ⟨by omega, by omega, ?_⟩
      unfold decI dec0
      repeat (first | rw [if_neg (by omega)] | rw [if_pos (by omega)])
      exact mk_eq rfl (by omega) (by omega) (by omega) (by omega) (by omega) (by omega) (by omega) rfl
    | false =>
      repeat (first | rw [if_neg (by omega)] at he | rw [if_pos (by omega)] at he)
      rw [if_neg (by decide)] at he
      obtain rfl := Option.some.inj he
      have hm := one_in q2 (by decide)
      unfold up
      refine ⟨by omega, by omega, ?_⟩
      unfold decI dec2 hi4
      repeat (first | rw [if_neg (by omega)] | rw [if_pos (by omega)])
      exact mk_eq rfl (by omega) (by omega) (by omega) (by omega) (by omega) (by omega) (by omega) rfl
theorem dec_5 (cond rd rn rm imm mode list : Int) (s it : Bool) (h : Int) (hok : okB ⟨5, cond, rd, rn, rm, imm, mode, list, s⟩ = true) (hw : Wide list) (he : rowI ⟨5, cond, rd, rn, rm, imm, mode, list, s⟩ it = some h) :
    0 ≤ h ∧ h < 59392 ∧ decI h it = ⟨5, cond, rd, rn, rm, imm, mode, list, s⟩ := by
  obtain ⟨_, h1, h2, h3, h4, h5, h6⟩ := ok_parts hok
  clear hok
  have h3' := last_cases h3
  clear h3
  unfold rowI sumI subI at he
  dsimp only at he h1 h2 h3' h4 h5 h6
  have hl := list_most h4 0 (by decide) rfl hw
  have hc : cond = 0 := by simpa [Im.condB] using h5
  rcases h3' with ⟨rfl, q1, q2, rfl, rfl⟩ | ⟨rfl, q1, q2, q3, q4, rfl⟩ | ⟨rfl, q1, q2, rfl⟩
  · cases (show (1 : Int) = 0 from q1)
  · repeat (first | rw [if_neg (by omega)] at he | rw [if_pos (by omega)] at he)
    replace q2 : (0 : Int) ≤ imm := q2
    split at he
    · rename_i hb
      obtain rfl := Option.some.inj he
      simp only [Bool.and_eq_true, decide_eq_true_eq] at hb
      obtain ⟨hf, hd, hm, hi⟩ := hb
      have hd := low_is hd
      have hm := low_is hm
      refine ⟨by omega, by omega, ?_⟩
      unfold decI dec0
      repeat (first | rw [if_neg (by omega)] | rw [if_pos (by omega)])
      exact mk_eq rfl (by omega) (by omega) (by omega) (by omega) (by omega) (by omega) (by omega) (flag_is hf).symm
    · rename_i hb
      obtain ⟨hb, rfl⟩ := opt_is he
      simp only [Bool.and_eq_true, beq_iff_eq, decide_eq_true_eq] at hb
      obtain ⟨hf, rfl, hd, hi⟩ := hb
      have hd := low_is hd
      refine ⟨by omega, by omega, ?_⟩
      unfold decI dec0
      repeat (first | rw [if_neg (by omega)] | rw [if_pos (by omega)])
      exact mk_eq rfl (by omega) (by omega) (by omega) (by omega) (by omega) (by omega) (by omega) (flag_is hf).symm
  · repeat (first | rw [if_neg (by omega)] at he | rw [if_pos (by omega)] at he)
    split at he
    · rename_i hb
      obtain rfl := Option.some.inj he
      simp only [Bool.and_eq_true] at hb
      obtain ⟨hf, hd, hn, hm⟩ := hb
      have hd := low_is hd
      have hn := low_is hn
      have hm := low_is hm
      refine ⟨by omega, by omega, ?_⟩
      unfold decI dec0
      repeat (first | rw [if_neg (by omega)] | rw [if_pos (by omega)])
      exact mk_eq rfl (by omega) (by omega) (by omega) (by omega) (by omega) (by omega) (by omega) (flag_is hf).symm
    · obtain ⟨hb, rfl⟩ := opt_is he
      simp only [Bool.and_eq_true, beq_iff_eq, Bool.not_eq_true'] at hb
      obtain ⟨_, rfl, hs⟩ := hb
      have hx := one_in (set := 24575) h1 (by decide)
      have hy := one_in (set := 24575) q2 (by decide)
      unfold up
      refine ⟨by omega, by omega, ?_⟩
      unfold decI dec2 hi4
      repeat (first | rw [if_neg (by omega)] | rw [if_pos (by omega)])
      exact mk_eq rfl (by omega) (by omega) (by omega) (by omega) (by omega) (by omega) (by omega) hs.symm
theorem dec_7 (cond rd rn rm imm mode list : Int) (s it : Bool) (h : Int) (hok : okB ⟨7, cond, rd, rn, rm, imm, mode, list, s⟩ = true) (hw : Wide list) (he : rowI ⟨7, cond, rd, rn, rm, imm, mode, list, s⟩ it = some h) :
    0 ≤ h ∧ h < 59392 ∧ decI h it = ⟨7, cond, rd, rn, rm, imm, mode, list, s⟩ := by
  obtain ⟨_, h1, h2, h3, h4, h5, h6⟩ := ok_parts hok
  clear hok
  have h3' := last_cases h3
  clear h3
  unfold rowI sumI subI at he
  dsimp only at he h1 h2 h3' h4 h5 h6
  have hl := list_most h4 0 (by decide) rfl hw
  have hc : cond = 0 := by simpa [Im.condB] using h5
  rcases h3' with ⟨rfl, q1, q2, rfl, rfl⟩ | ⟨rfl, q1, q2, q3, q4, rfl⟩ | ⟨rfl, q1, q2, rfl⟩
  · cases (show (1 : Int) = 0 from q1)
  · repeat (first | rw [if_neg (by omega)] at he | rw [if_pos (by omega)] at he)
    replace q2 : (0 : Int) ≤ imm := q2
    split at he
    · rename_i hb
      obtain rfl := Option.some.inj he
      simp only [Bool.and_eq_true, decide_eq_true_eq] at hb
      obtain ⟨hf, hd, hm, hi⟩ := hb
      have hd := low_is hd
      have hm := low_is hm
      refine ⟨by omega, by omega, ?_⟩
      unfold decI dec0
      repeat (first | rw [if_neg (by omega)] | rw [if_pos (by omega)])
      exact mk_eq rfl (by omega) (by omega) (by omega) (by omega) (by omega) (by omega) (by omega) (flag_is hf).symm
    · rename_i hb
      obtain ⟨hb, rfl⟩ := opt_is he
      simp only [Bool.and_eq_true, beq_iff_eq, decide_eq_true_eq] at hb
      obtain ⟨hf, rfl, hd, hi⟩ := hb
      have hd := low_is hd
      refine ⟨by omega, by omega, ?_⟩
      unfold decI dec0
      repeat (first | rw [if_neg (by omega)] | rw [if_pos (by omega)])
      exact mk_eq rfl (by omega) (by omega) (by omega) (by omega) (by omega) (by omega) (by omega) (flag_is hf).symm
  · repeat (first | rw [if_neg (by omega)] at he | rw [if_pos (by omega)] at he)
    split at he
    · rename_i hb
      obtain rfl := Option.some.inj he
      simp only [Bool.and_eq_true] at hb
      obtain ⟨hf, hd, hn, hm⟩ := hb
      have hd := low_is hd
      have hn := low_is hn
      have hm := low_is hm
      refine ⟨by omega, by omega, ?_⟩
      unfold decI dec0
      repeat (first | rw [if_neg (by omega)] | rw [if_pos (by omega)])
      exact mk_eq rfl (by omega) (by omega) (by omega) (by omega) (by omega) (by omega) (by omega) (flag_is hf).symm
    · obtain ⟨hb, rfl⟩ := opt_is he
      simp at hb
theorem dec_16 (cond rd rn rm imm mode list : Int) (s it : Bool) (h : Int) (hok : okB ⟨16, cond, rd, rn, rm, imm, mode, list, s⟩ = true) (hw : Wide list) (he : rowI ⟨16, cond, rd, rn, rm, imm, mode, list, s⟩ it = some h) :
    0 ≤ h ∧ h < 59392 ∧ decI h it = ⟨16, cond, rd, rn, rm, imm, mode, list, s⟩ := by
  obtain ⟨_, h1, h2, h3, h4, h5, h6⟩ := ok_parts hok
  clear hok
  have h3' := last_cases h3
  clear h3
  unfold rowI shiftI at he
  dsimp only at he h1 h2 h3' h4 h5 h6
  have hl := list_most h4 0 (by decide) rfl hw
  have hc : cond = 0 := by simpa [Im.condB] using h5
  rcases h3' with ⟨rfl, q1, q2, rfl, rfl⟩ | ⟨rfl, q1, q2, q3, q4, rfl⟩ | ⟨rfl, q1, q2, rfl⟩
  · cases (show (1 : Int) = 0 from q1)
  · repeat (first | rw [if_neg (by omega)] at he | rw [if_pos (by omega)] at he)
    obtain ⟨hb, rfl⟩ := opt_is he
    simp only [Bool.and_eq_true] at hb
    obtain ⟨_, hf, hd, hm⟩ := hb
    have hd := low_is hd
    have hm := low_is hm
    replace q2 : (1 : Int) ≤ imm := q2
    replace q3 : imm ≤ 31 := q3
    refine ⟨by omega, by omega, ?_⟩
    unfold decI dec0
    repeat (first | rw [if_neg (by omega)] | rw [if_pos (by omega)])
    exact mk_eq rfl (by omega) (by omega) (by omega) (by omega) (by omega) (by omega) (by omega) (flag_is hf).symm
  · repeat (first | rw [if_neg (by omega)] at he | rw [if_pos (by omega)] at he)
    obtain ⟨hb, rfl⟩ := opt_is he
    simp only [Bool.and_eq_true, beq_iff_eq] at hb
    obtain ⟨hf, rfl, hd, hm⟩ := hb
    have hd := low_is hd
    have hm := low_is hm
    refine ⟨by omega, by omega, ?_⟩
    unfold decI dec1
    repeat (first | rw [if_neg (by omega)] | rw [if_pos (by omega)])
    exact mk_eq rfl (by omega) (by omega) (by omega) (by omega) (by omega) (by omega) (by omega) (flag_is hf).symm
theorem dec_17 (cond rd rn rm imm mode list : Int) (s it : Bool) (h : Int) (hok : okB ⟨17, cond, rd, rn, rm, imm, mode, list, s⟩ = true) (hw : Wide list) (he : rowI ⟨17, cond, rd, rn, rm, imm, mode, list, s⟩ it = some h) :
    0 ≤ h ∧ h < 59392 ∧ decI h it = ⟨17, cond, rd, rn, rm, imm, mode, list, s⟩ := by
  obtain ⟨_, h1, h2, h3, h4, h5, h6⟩ := ok_parts hok
  clear hok
  have h3' := last_cases h3
  clear h3
  unfold rowI shiftI at he
  dsimp only at he h1 h2 h3' h4 h5 h6
  have hl := list_most h4 0 (by decide) rfl hw
  have hc : cond = 0 := by simpa [Im.condB] using h5
  rcases h3' with ⟨rfl, q1, q2, rfl, rfl⟩ | ⟨rfl, q1, q2, q3, q4, rfl⟩ | ⟨rfl, q1, q2, rfl⟩
  · cases (show (1 : Int) = 0 from q1)
  · repeat (first | rw [if_neg (by omega)] at he | rw [if_pos (by omega)] at he)
    obtain ⟨hb, rfl⟩ := opt_is he
    simp only [Bool.and_eq_true] at hb
    obtain ⟨_, hf, hd, hm⟩ := hb
    have hd := low_is hd
    have hm := low_is hm
    replace q2 : (1 : Int) ≤ imm := q2
    replace q3 : imm ≤ 32 := q3
    by_cases h32 : imm = 32
    · subst h32
      refine ⟨by omega, by omega, ?_⟩
      unfold decI dec0
      repeat (first | rw [if_neg (by omega)] | rw [if_pos (by omega)])
      exact mk_eq rfl (by omega) (by omega) (by omega) (by omega) (by omega) (by omega) (by omega) (flag_is hf).symm
    · refine ⟨by omega, by omega, ?_⟩
      unfold decI dec0
      repeat (first | rw [if_neg (by omega)] | rw [if_pos (by omega)])
      exact mk_eq rfl (by omega) (by omega) (by omega) (by omega) (by omega) (by omega) (by omega) (flag_is hf).symm
  · repeat (first | rw [if_neg (by omega)] at he | rw [if_pos (by omega)] at he)
    obtain ⟨hb, rfl⟩ := opt_is he
    simp only [Bool.and_eq_true, beq_iff_eq] at hb
    obtain ⟨hf, rfl, hd, hm⟩ := hb
    have hd := low_is hd
    have hm := low_is hm
    refine ⟨by omega, by omega, ?_⟩
    unfold decI dec1
    repeat (first | rw [if_neg (by omega)] | rw [if_pos (by omega)])
    exact mk_eq rfl (by omega) (by omega) (by omega) (by omega) (by omega) (by omega) (by omega) (flag_is hf).symm
theorem dec_18 (cond rd rn rm imm mode list : Int) (s it : Bool) (h : Int) (hok : okB ⟨18, cond, rd, rn, rm, imm, mode, list, s⟩ = true) (hw : Wide list) (he : rowI ⟨18, cond, rd, rn, rm, imm, mode, list, s⟩ it = some h) :
    0 ≤ h ∧ h < 59392 ∧ decI h it = ⟨18, cond, rd, rn, rm, imm, mode, list, s⟩ := by
  obtain ⟨_, h1, h2, h3, h4, h5, h6⟩ := ok_parts hok
  clear hok
  have h3' := last_cases h3
  clear h3
  unfold rowI shiftI at he
  dsimp only at he h1 h2 h3' h4 h5 h6
  have hl := list_most h4 0 (by decide) rfl hw
  have hc : cond = 0 := by simpa [Im.condB] using h5
  rcases h3' with ⟨rfl, q1, q2, rfl, rfl⟩ | ⟨rfl, q1, q2, q3, q4, rfl⟩ | ⟨rfl, q1, q2, rfl⟩
  · cases (show (1 : Int) = 0 from q1)
  · repeat (first | rw [if_neg (by omega)] at he | rw [if_pos (by omega)] at he)
    obtain ⟨hb, rfl⟩ := opt_is he
    simp only [Bool.and_eq_true] at hb
    obtain ⟨_, hf, hd, hm⟩ := hb
    have hd := low_is hd
    have hm := low_is hm
    replace q2 : (1 : Int) ≤ imm := q2
    replace q3 : imm ≤ 32 := q3
    by_cases h32 : imm = 32
    · subst h32
      refine ⟨by omega, by omega, ?_⟩
      unfold decI dec0
      repeat (first | rw [if_neg (by omega)] | rw [if_pos (by omega)])
      exact mk_eq rfl (by omega) (by omega) (by omega) (by omega) (by omega) (by omega) (by omega) (flag_is hf).symm
    · refine ⟨by omega, by omega, ?_⟩
      unfold decI dec0
      repeat (first | rw [if_neg (by omega)] | rw [if_pos (by omega)])
      exact mk_eq rfl (by omega) (by omega) (by omega) (by omega) (by omega) (by omega) (by omega) (flag_is hf).symm
  · repeat (first | rw [if_neg (by omega)] at he | rw [if_pos (by omega)] at he)
    obtain ⟨hb, rfl⟩ := opt_is he
    simp only [Bool.and_eq_true, beq_iff_eq] at hb
    obtain ⟨hf, rfl, hd, hm⟩ := hb
    have hd := low_is hd
    have hm := low_is hm
    refine ⟨by omega, by omega, ?_⟩
    unfold decI dec1
    repeat (first | rw [if_neg (by omega)] | rw [if_pos (by omega)])
    exact mk_eq rfl (by omega) (by omega) (by omega) (by omega) (by omega) (by omega) (by omega) (flag_is hf).symm
theorem dec_19 (cond rd rn rm imm mode list : Int) (s it : Bool) (h : Int) (hok : okB ⟨19, cond, rd, rn, rm, imm, mode, list, s⟩ = true) (hw : Wide list) (he : rowI ⟨19, cond, rd, rn, rm, imm, mode, list, s⟩ it = some h) :
    0 ≤ h ∧ h < 59392 ∧ decI h it = ⟨19, cond, rd, rn, rm, imm, mode, list, s⟩ := by
  obtain ⟨_, h1, h2, h3, h4, h5, h6⟩ := ok_parts hok
  clear hok
  have h3' := last_cases h3
  clear h3
  unfold rowI shiftI at he
  dsimp only at he h1 h2 h3' h4 h5 h6
  have hl := list_most h4 0 (by decide) rfl hw
  have hc : cond = 0 := by simpa [Im.condB] using h5
  rcases h3' with ⟨rfl, q1, q2, rfl, rfl⟩ | ⟨rfl, q1, q2, q3, q4, rfl⟩ | ⟨rfl, q1, q2, rfl⟩
  · cases (show (1 : Int) = 0 from q1)
  · repeat (first | rw [if_neg (by omega)] at he | rw [if_pos (by omega)] at he)
    obtain ⟨hb, rfl⟩ := opt_is he
    simp at hb
  · repeat (first | rw [if_neg (by omega)] at he | rw [if_pos (by omega)] at he)
    obtain ⟨hb, rfl⟩ := opt_is he
    simp only [Bool.and_eq_true, beq_iff_eq] at hb
    obtain ⟨hf, rfl, hd, hm⟩ := hb
    have hd := low_is hd
    have hm := low_is hm
    refine ⟨by omega, by omega, ?_⟩
    unfold decI dec1
    repeat (first | rw [if_neg (by omega)] | rw [if_pos (by omega)])
    exact mk_eq rfl (by omega) (by omega) (by omega) (by omega) (by omega) (by omega) (by omega) (flag_is hf).symm
theorem dec_25 (cond rd rn rm imm mode list : Int) (s it : Bool) (h : Int) (hok : okB ⟨25, cond, rd, rn, rm, imm, mode, list, s⟩ = true) (hw : Wide list) (he : rowI ⟨25, cond, rd, rn, rm, imm, mode, list, s⟩ it = some h) :
    0 ≤ h ∧ h < 59392 ∧ decI h it = ⟨25, cond, rd, rn, rm, imm, mode, list, s⟩ := by
  obtain ⟨_, h1, h2, h3, h4, h5, h6⟩ := ok_parts hok
  clear hok
  have h3' := last_cases h3
  clear h3
  unfold rowI loadI regB immB byB at he
  dsimp only at he h1 h2 h3' h4 h5 h6
  have hl := list_most h4 0 (by decide) rfl hw
  have hc : cond = 0 := by simpa [Im.condB] using h5
  rcases h3' with ⟨rfl, q1, q2, rfl, rfl⟩ | ⟨rfl, q1, q2, q3, q4, rfl⟩ | ⟨rfl, q1, q2, rfl⟩
  · cases (show (1 : Int) = 0 from q1)
  · replace q2 : (0 : Int) ≤ imm := q2
    by_cases h13 : rn = 13
    · subst h13
      repeat (first | rw [if_neg (by omega)] at he | rw [if_pos (by omega)] at he)
      obtain ⟨hb, rfl⟩ := opt_is he
      simp only [Bool.and_eq_true, beq_iff_eq, decide_eq_true_eq] at hb
      obtain ⟨_, hd, h4, hi⟩ := hb
      have hd := low_is hd
      refine ⟨by omega, by omega, ?_⟩
      unfold decI dec3
      repeat (first | rw [if_neg (by omega)] | rw [if_pos (by omega)])
      exact mk_eq rfl (by omega) (by omega) (by omega) (by omega) (by omega) (by omega) (by omega) (flag_off h6 (by decide))
    · repeat (first | rw [if_neg (by omega)] at he | rw [if_pos (by omega)] at he)
      obtain ⟨hb, rfl⟩ := opt_is he
      simp only [Bool.and_eq_true, beq_iff_eq, decide_eq_true_eq] at hb
      obtain ⟨hd, hn, h4, hi⟩ := hb
      have hd := low_is hd
      have hn := low_is hn
      refine ⟨by omega, by omega, ?_⟩
      unfold decI dec3
      repeat (first | rw [if_neg (by omega)] | rw [if_pos (by omega)])
      exact mk_eq rfl (by omega) (by omega) (by omega) (by omega) (by omega) (by omega) (by omega) (flag_off h6 (by decide))
  · repeat (first | rw [if_neg (by omega)] at he | rw [if_pos (by omega)] at he)
    obtain ⟨hb, rfl⟩ := opt_is he
    simp only [Bool.and_eq_true] at hb
    obtain ⟨hd, hn, hm⟩ := hb
    have hd := low_is hd
    have hn := low_is hn
    have hm := low_is hm
    refine ⟨by omega, by omega, ?_⟩
    unfold decI dec3
    repeat (first | rw [if_neg (by omega)] | rw [if_pos (by omega)])
    exact mk_eq rfl (by omega) (by omega) (by omega) (by omega) (by omega) (by omega) (by omega) (flag_off h6 (by decide))
theorem dec_26 (cond rd rn rm imm mode list : Int) (s it : Bool) (h : Int) (hok : okB ⟨26, cond, rd, rn, rm, imm, mode, list, s⟩ = true) (hw : Wide list) (he : rowI ⟨26, cond, rd, rn, rm, imm, mode, list, s⟩ it = some h) :
    0 ≤ h ∧ h < 59392 ∧ decI h it = ⟨26, cond, rd, rn, rm, imm, mode, list, s⟩ := by
  obtain ⟨_, h1, h2, h3, h4, h5, h6⟩ := ok_parts hok
  clear hok
  have h3' := last_cases h3
  clear h3
  unfold rowI loadI regB immB byB at he
  dsimp only at he h1 h2 h3' h4 h5 h6
  have hl := list_most h4 0 (by decide) rfl hw
  have hc : cond = 0 := by simpa [Im.condB] using h5
  rcases h3' with ⟨rfl, q1, q2, rfl, rfl⟩ | ⟨rfl, q1, q2, q3, q4, rfl⟩ | ⟨rfl, q1, q2, rfl⟩
  · cases (show (1 : Int) = 0 from q1)
  · replace q2 : (0 : Int) ≤ imm := q2
    by_cases h13 : rn = 13
    · subst h13
      repeat (first | rw [if_neg (by omega)] at he | rw [if_pos (by omega)] at he)
      obtain ⟨hb, rfl⟩ := opt_is he
      simp at hb
    · repeat (first | rw [if_neg (by omega)] at he | rw [if_pos (by omega)] at he)
      obtain ⟨hb, rfl⟩ := opt_is he
      simp only [Bool.and_eq_true, beq_iff_eq, decide_eq_true_eq] at hb
      obtain ⟨hd, hn, h4, hi⟩ := hb
      have hd := low_is hd
      have hn := low_is hn
      refine ⟨by omega, by omega, ?_⟩
      unfold decI dec3
      repeat (first | rw [if_neg (by omega)] | rw [if_pos (by omega)])
      exact mk_eq rfl (by omega) (by omega) (by omega) (by omega) (by omega) (by omega) (by omega) (flag_off h6 (by decide))
  · repeat (first | rw [if_neg (by omega)] at he | rw [if_pos (by omega)] at he)
    obtain ⟨hb, rfl⟩ := opt_is he
    simp only [Bool.and_eq_true] at hb
    obtain ⟨hd, hn, hm⟩ := hb
    have hd := low_is hd
    have hn := low_is hn
    have hm := low_is hm
    refine ⟨by omega, by omega, ?_⟩
    unfold decI dec3
    repeat (first | rw [if_neg (by omega)] | rw [if_pos (by omega)])
    exact mk_eq rfl (by omega) (by omega) (by omega) (by omega) (by omega) (by omega) (by omega) (flag_off h6 (by decide))
theorem dec_27 (cond rd rn rm imm mode list : Int) (s it : Bool) (h : Int) (hok : okB ⟨27, cond, rd, rn, rm, imm, mode, list, s⟩ = true) (hw : Wide list) (he : rowI ⟨27, cond, rd, rn, rm, imm, mode, list, s⟩ it = some h) :
    0 ≤ h ∧ h < 59392 ∧ decI h it = ⟨27, cond, rd, rn, rm, imm, mode, list, s⟩ := by
  obtain ⟨_, h1, h2, h3, h4, h5, h6⟩ := ok_parts hok
  clear hok
  have h3' := last_cases h3
  clear h3
  unfold rowI loadI regB immB byB at he
  dsimp only at he h1 h2 h3' h4 h5 h6
  have hl := list_most h4 0 (by decide) rfl hw
  have hc : cond = 0 := by simpa [Im.condB] using h5
  rcases h3' with ⟨rfl, q1, q2, rfl, rfl⟩ | ⟨rfl, q1, q2, q3, q4, rfl⟩ | ⟨rfl, q1, q2, rfl⟩
  · cases (show (1 : Int) = 0 from q1)
  · replace q2 : (0 : Int) ≤ imm := q2
    by_cases h13 : rn = 13
    · subst h13
      repeat (first | rw [if_neg (by omega)] at he | rw [if_pos (by omega)] at he)
      obtain ⟨hb, rfl⟩ := opt_is he
      simp at hb
    · repeat (first | rw [if_neg (by omega)] at he | rw [if_pos (by omega)] at he)
      obtain ⟨hb, rfl⟩ := opt_is he
      simp only [Bool.and_eq_true, beq_iff_eq, decide_eq_true_eq] at hb
      obtain ⟨hd, hn, h4, hi⟩ := hb
      have hd := low_is hd
      have hn := low_is hn
      refine ⟨by omega, by omega, ?_⟩
      unfold decI dec3
      repeat (first | rw [if_neg (by omega)] | rw [if_pos (by omega)])
      exact mk_eq rfl (by omega) (by omega) (by omega) (by omega) (by omega) (by omega) (by omega) (flag_off h6 (by decide))
  · repeat (first | rw [if_neg (by omega)] at he | rw [if_pos (by omega)] at he)
    obtain ⟨hb, rfl⟩ := opt_is he
    simp only [Bool.and_eq_true] at hb
    obtain ⟨hd, hn, hm⟩ := hb
    have hd := low_is hd
    have hn := low_is hn
    have hm := low_is hm
    refine ⟨by omega, by omega, ?_⟩
    unfold decI dec3
    repeat (first | rw [if_neg (by omega)] | rw [if_pos (by omega)])
    exact mk_eq rfl (by omega) (by omega) (by omega) (by omega) (by omega) (by omega) (by omega) (flag_off h6 (by decide))
theorem dec_28 (cond rd rn rm imm mode list : Int) (s it : Bool) (h : Int) (hok : okB ⟨28, cond, rd, rn, rm, imm, mode, list, s⟩ = true) (hw : Wide list) (he : rowI ⟨28, cond, rd, rn, rm, imm, mode, list, s⟩ it = some h) :
    0 ≤ h ∧ h < 59392 ∧ decI h it = ⟨28, cond, rd, rn, rm, imm, mode, list, s⟩ := by
  obtain ⟨_, h1, h2, h3, h4, h5, h6⟩ := ok_parts hok
  clear hok
  have h3' := last_cases h3
  clear h3
  unfold rowI loadI regB immB byB at he
  dsimp only at he h1 h2 h3' h4 h5 h6
  have hl := list_most h4 0 (by decide) rfl hw
  have hc : cond = 0 := by simpa [Im.condB] using h5
  rcases h3' with ⟨rfl, q1, q2, rfl, rfl⟩ | ⟨rfl, q1, q2, q3, q4, rfl⟩ | ⟨rfl, q1, q2, rfl⟩
  · cases (show (1 : Int) = 0 from q1)
  · replace q2 : (0 : Int) ≤ imm := q2
    by_cases h13 : rn = 13
    · subst h13
      repeat (first | rw [if_neg (by omega)] at he | rw [if_pos (by omega)] at he)
      obtain ⟨hb, rfl⟩ := opt_is he
      simp only [Bool.and_eq_true, beq_iff_eq, decide_eq_true_eq] at hb
      obtain ⟨_, hd, h4, hi⟩ := hb
      have hd := low_is hd
      refine ⟨by omega, by omega, ?_⟩
      unfold decI dec3
      repeat (first | rw [if_neg (by omega)] | rw [if_pos (by omega)])
      exact mk_eq rfl (by omega) (by omega) (by omega) (by omega) (by omega) (by omega) (by omega) (flag_off h6 (by decide))
    · repeat (first | rw [if_neg (by omega)] at he | rw [if_pos (by omega)] at he)
      obtain ⟨hb, rfl⟩ := opt_is he
      simp only [Bool.and_eq_true, beq_iff_eq, decide_eq_true_eq] at hb
      obtain ⟨hd, hn, h4, hi⟩ := hb
      have hd := low_is hd
      have hn := low_is hn
      refine ⟨by omega, by omega, ?_⟩
      unfold decI dec3
      repeat (first | rw [if_neg (by omega)] | rw [if_pos (by omega)])
      exact mk_eq rfl (by omega) (by omega) (by omega) (by omega) (by omega) (by omega) (by omega) (flag_off h6 (by decide))
  · repeat (first | rw [if_neg (by omega)] at he | rw [if_pos (by omega)] at he)
    obtain ⟨hb, rfl⟩ := opt_is he
    simp only [Bool.and_eq_true] at hb
    obtain ⟨hd, hn, hm⟩ := hb
    have hd := low_is hd
    have hn := low_is hn
    have hm := low_is hm
    refine ⟨by omega, by omega, ?_⟩
    unfold decI dec3
    repeat (first | rw [if_neg (by omega)] | rw [if_pos (by omega)])
    exact mk_eq rfl (by omega) (by omega) (by omega) (by omega) (by omega) (by omega) (by omega) (flag_off h6 (by decide))
theorem dec_29 (cond rd rn rm imm mode list : Int) (s it : Bool) (h : Int) (hok : okB ⟨29, cond, rd, rn, rm, imm, mode, list, s⟩ = true) (hw : Wide list) (he : rowI ⟨29, cond, rd, rn, rm, imm, mode, list, s⟩ it = some h) :
    0 ≤ h ∧ h < 59392 ∧ decI h it = ⟨29, cond, rd, rn, rm, imm, mode, list, s⟩ := by
  obtain ⟨_, h1, h2, h3, h4, h5, h6⟩ := ok_parts hok
  clear hok
  have h3' := last_cases h3
  clear h3
  unfold rowI loadI regB immB byB at he
  dsimp only at he h1 h2 h3' h4 h5 h6
  have hl := list_most h4 0 (by decide) rfl hw
  have hc : cond = 0 := by simpa [Im.condB] using h5
  rcases h3' with ⟨rfl, q1, q2, rfl, rfl⟩ | ⟨rfl, q1, q2, q3, q4, rfl⟩ | ⟨rfl, q1, q2, rfl⟩
  · cases (show (1 : Int) = 0 from q1)
  · replace q2 : (0 : Int) ≤ imm := q2
    by_cases h13 : rn = 13
    · subst h13
      repeat (first | rw [if_neg (by omega)] at he | rw [if_pos (by omega)] at he)
      obtain ⟨hb, rfl⟩ := opt_is he
      simp at hb
    · repeat (first | rw [if_neg (by omega)] at he | rw [if_pos (by omega)] at he)
      obtain ⟨hb, rfl⟩ := opt_is he
      simp only [Bool.and_eq_true, beq_iff_eq, decide_eq_true_eq] at hb
      obtain ⟨hd, hn, h4, hi⟩ := hb
      have hd := low_is hd
      have hn := low_is hn
      refine ⟨by omega, by omega, ?_⟩
      unfold decI dec3
      repeat (first | rw [if_neg (by omega)] | rw [if_pos (by omega)])
      exact mk_eq rfl (by omega) (by omega) (by omega) (by omega) (by omega) (by omega) (by omega) (flag_off h6 (by decide))
  · repeat (first | rw [if_neg (by omega)] at he | rw [if_pos (by omega)] at he)
    obtain ⟨hb, rfl⟩ := opt_is he
    simp only [Bool.and_eq_true] at hb
    obtain ⟨hd, hn, hm⟩ := hb
    have hd := low_is hd
    have hn := low_is hn
    have hm := low_is hm
    refine ⟨by omega, by omega, ?_⟩
    unfold decI dec3
    repeat (first | rw [if_neg (by omega)] | rw [if_pos (by omega)])
    exact mk_eq rfl (by omega) (by omega) (by omega) (by omega) (by omega) (by omega) (by omega) (flag_off h6 (by decide))
theorem dec_30 (cond rd rn rm imm mode list : Int) (s it : Bool) (h : Int) (hok : okB ⟨30, cond, rd, rn, rm, imm, mode, list, s⟩ = true) (hw : Wide list) (he : rowI ⟨30, cond, rd, rn, rm, imm, mode, list, s⟩ it = some h) :
    0 ≤ h ∧ h < 59392 ∧ decI h it = ⟨30, cond, rd, rn, rm, imm, mode, list, s⟩ := by
  obtain ⟨_, h1, h2, h3, h4, h5, h6⟩ := ok_parts hok
  clear hok
  have h3' := last_cases h3
  clear h3
  unfold rowI loadI regB immB byB at he
  dsimp only at he h1 h2 h3' h4 h5 h6
  have hl := list_most h4 0 (by decide) rfl hw
  have hc : cond = 0 := by simpa [Im.condB] using h5
  rcases h3' with ⟨rfl, q1, q2, rfl, rfl⟩ | ⟨rfl, q1, q2, q3, q4, rfl⟩ | ⟨rfl, q1, q2, rfl⟩
  · cases (show (1 : Int) = 0 from q1)
  · replace q2 : (0 : Int) ≤ imm := q2
    by_cases h13 : rn = 13
    · subst h13
      repeat (first | rw [if_neg (by omega)] at he | rw [if_pos (by omega)] at he)
      obtain ⟨hb, rfl⟩ := opt_is he
      simp at hb
    · repeat (first | rw [if_neg (by omega)] at he | rw [if_pos (by omega)] at he)
      obtain ⟨hb, rfl⟩ := opt_is he
      simp only [Bool.and_eq_true, beq_iff_eq, decide_eq_true_eq] at hb
      obtain ⟨hd, hn, h4, hi⟩ := hb
      have hd := low_is hd
      have hn := low_is hn
      refine ⟨by omega, by omega, ?_⟩
      unfold decI dec3
      repeat (first | rw [if_neg (by omega)] | rw [if_pos (by omega)])
      exact mk_eq rfl (by omega) (by omega) (by omega) (by omega) (by omega) (by omega) (by omega) (flag_off h6 (by decide))
  · repeat (first | rw [if_neg (by omega)] at he | rw [if_pos (by omega)] at he)
    obtain ⟨hb, rfl⟩ := opt_is he
    simp only [Bool.and_eq_true] at hb
    obtain ⟨hd, hn, hm⟩ := hb
    have hd := low_is hd
    have hn := low_is hn
    have hm := low_is hm
    refine ⟨by omega, by omega, ?_⟩
    unfold decI dec3
    repeat (first | rw [if_neg (by omega)] | rw [if_pos (by omega)])
    exact mk_eq rfl (by omega) (by omega) (by omega) (by omega) (by omega) (by omega) (by omega) (flag_off h6 (by decide))
theorem dec_35 (cond rd rn rm imm mode list : Int) (s it : Bool) (h : Int) (hok : okB ⟨35, cond, rd, rn, rm, imm, mode, list, s⟩ = true) (hw : Wide list) (he : rowI ⟨35, cond, rd, rn, rm, imm, mode, list, s⟩ it = some h) :
    0 ≤ h ∧ h < 59392 ∧ decI h it = ⟨35, cond, rd, rn, rm, imm, mode, list, s⟩ := by
  obtain ⟨_, h1, h2, h3, h4, h5, h6⟩ := ok_parts hok
  clear hok
  have h3' := last_cases h3
  clear h3
  unfold rowI branchI at he
  dsimp only at he h1 h2 h3' h4 h5 h6
  have hl := list_most h4 0 (by decide) rfl hw
  have hn := one_none h1
  have hr := one_none h2
  have hc : 0 ≤ cond ∧ cond ≤ 14 := by simpa [Im.condB] using h5
  rcases h3' with ⟨rfl, q1, q2, rfl, rfl⟩ | ⟨rfl, q1, q2, q3, q4, rfl⟩ | ⟨rfl, q1, q2, rfl⟩
  · cases (show (2 : Int) = 0 from q1)
  · replace q2 : (-16777216 : Int) ≤ imm := q2
    by_cases h14 : cond = 14
    · subst h14
      repeat (first | rw [if_neg (by omega)] at he | rw [if_pos (by omega)] at he)
      obtain ⟨hb, rfl⟩ := opt_is he
      simp only [fits2, Bool.and_eq_true, beq_iff_eq, decide_eq_true_eq] at hb
      refine ⟨by omega, by omega, ?_⟩
      unfold decI
      by_cases hp : 0 ≤ imm
      · repeat (first | rw [if_neg (by omega)] | rw [if_pos (by omega)])
        exact mk_eq rfl (by omega) (by omega) (by omega) (by omega) (by omega) (by omega) (by omega) (flag_off h6 (by decide))
      · repeat (first | rw [if_neg (by omega)] | rw [if_pos (by omega)])
        exact mk_eq rfl (by omega) (by omega) (by omega) (by omega) (by omega) (by omega) (by omega) (flag_off h6 (by decide))
    · repeat (first | rw [if_neg (by omega)] at he | rw [if_pos (by omega)] at he)
      obtain ⟨hb, rfl⟩ := opt_is he
      simp only [fits1, Bool.and_eq_true, beq_iff_eq, decide_eq_true_eq] at hb
      refine ⟨by omega, by omega, ?_⟩
      unfold decI
      by_cases hp : 0 ≤ imm
      · repeat (first | rw [if_neg (by omega)] | rw [if_pos (by omega)])
        exact mk_eq rfl (by omega) (by omega) (by omega) (by omega) (by omega) (by omega) (by omega) (flag_off h6 (by decide))
      · repeat (first | rw [if_neg (by omega)] | rw [if_pos (by omega)])
        exact mk_eq rfl (by omega) (by omega) (by omega) (by omega) (by omega) (by omega) (by omega) (flag_off h6 (by decide))
  · exact absurd rfl q1
theorem dec_37 (cond rd rn rm imm mode list : Int) (s it : Bool) (h : Int) (hok : okB ⟨37, cond, rd, rn, rm, imm, mode, list, s⟩ = true) (hw : Wide list) (he : rowI ⟨37, cond, rd, rn, rm, imm, mode, list, s⟩ it = some h) :
    0 ≤ h ∧ h < 59392 ∧ decI h it = ⟨37, cond, rd, rn, rm, imm, mode, list, s⟩ := by
  obtain ⟨_, h1, h2, h3, h4, h5, h6⟩ := ok_parts hok
  clear hok
  have h3' := last_cases h3
  clear h3
  unfold rowI branchI at he
  dsimp only at he h1 h2 h3' h4 h5 h6
  have hl := list_most h4 0 (by decide) rfl hw
  have hc : cond = 0 := by simpa [Im.condB] using h5
  have hn := one_none h1
  have hx : 0 ≤ rn ∧ rn ≤ 7 := low_of h2
  rcases h3' with ⟨rfl, q1, q2, rfl, rfl⟩ | ⟨rfl, q1, q2, q3, q4, rfl⟩ | ⟨rfl, q1, q2, rfl⟩
  · cases (show (2 : Int) = 0 from q1)
  · replace q2 : (0 : Int) ≤ imm := q2
    replace q3 : imm ≤ 126 := q3
    replace q4 : Int.tmod imm 2 = 0 := q4
    rw [Int.tmod_eq_emod_of_nonneg q2] at q4
    repeat (first | rw [if_neg (by omega)] at he | rw [if_pos (by omega)] at he)
    obtain ⟨hb, rfl⟩ := opt_is he
    refine ⟨by omega, by omega, ?_⟩
    unfold decI dec4
    repeat (first | rw [if_neg (by omega)] | rw [if_pos (by omega)])
    exact mk_eq rfl (by omega) (by omega) (by omega) (by omega) (by omega) (by omega) (by omega) (flag_off h6 (by decide))
  · exact absurd rfl q1
theorem dec_38 (cond rd rn rm imm mode list : Int) (s it : Bool) (h : Int) (hok : okB ⟨38, cond, rd, rn, rm, imm, mode, list, s⟩ = true) (hw : Wide list) (he : rowI ⟨38, cond, rd, rn, rm, imm, mode, list, s⟩ it = some h) :
    0 ≤ h ∧ h < 59392 ∧ decI h it = ⟨38, cond, rd, rn, rm, imm, mode, list, s⟩ := by
  obtain ⟨_, h1, h2, h3, h4, h5, h6⟩ := ok_parts hok
  clear hok
  have h3' := last_cases h3
  clear h3
  unfold rowI branchI at he
  dsimp only at he h1 h2 h3' h4 h5 h6
  have hl := list_most h4 0 (by decide) rfl hw
  have hc : cond = 0 := by simpa [Im.condB] using h5
  have hn := one_none h1
  have hx : 0 ≤ rn ∧ rn ≤ 7 := low_of h2
  rcases h3' with ⟨rfl, q1, q2, rfl, rfl⟩ | ⟨rfl, q1, q2, q3, q4, rfl⟩ | ⟨rfl, q1, q2, rfl⟩
  · cases (show (2 : Int) = 0 from q1)
  · replace q2 : (0 : Int) ≤ imm := q2
    replace q3 : imm ≤ 126 := q3
    replace q4 : Int.tmod imm 2 = 0 := q4
    rw [Int.tmod_eq_emod_of_nonneg q2] at q4
    repeat (first | rw [if_neg (by omega)] at he | rw [if_pos (by omega)] at he)
    obtain ⟨hb, rfl⟩ := opt_is he
    refine ⟨by omega, by omega, ?_⟩
    unfold decI dec4
    repeat (first | rw [if_neg (by omega)] | rw [if_pos (by omega)])
    exact mk_eq rfl (by omega) (by omega) (by omega) (by omega) (by omega) (by omega) (by omega) (flag_off h6 (by decide))
  · exact absurd rfl q1
theorem dec_31 (cond rd rn rm imm mode list : Int) (s it : Bool) (h : Int) (hok : okB ⟨31, cond, rd, rn, rm, imm, mode, list, s⟩ = true) (hw : Wide list) (he : rowI ⟨31, cond, rd, rn, rm, imm, mode, list, s⟩ it = some h) :
    0 ≤ h ∧ h < 59392 ∧ decI h it = ⟨31, cond, rd, rn, rm, imm, mode, list, s⟩ := by
  obtain ⟨_, h1, h2, h3, h4, h5, h6⟩ := ok_parts hok
  clear hok
  have h3' := last_cases h3
  clear h3
  unfold rowI restI at he
  dsimp only at he h1 h2 h3' h4 h5 h6
  have hl := list_most h4 24575 (by decide) rfl hw
  have hc : cond = 0 := by simpa [Im.condB] using h5
  have hn := one_none h1
  have hr := one_in (set := 24575) h2 (by decide)
  rcases h3' with ⟨rfl, q1, q2, rfl, rfl⟩ | ⟨rfl, q1, q2, q3, q4, rfl⟩ | ⟨rfl, q1, q2, rfl⟩
  · repeat (first | rw [if_neg (by omega)] at he | rw [if_pos (by omega)] at he)
    obtain ⟨hb, rfl⟩ := opt_is he
    simp only [Bool.and_eq_true, decide_eq_true_eq] at hb
    have hx := low_is hb.1
    refine ⟨by omega, by omega, ?_⟩
    unfold decI
    repeat (first | rw [if_neg (by omega)] | rw [if_pos (by omega)])
    exact mk_eq rfl (by omega) (by omega) (by omega) (by omega) (by omega) (by omega) (by omega) (flag_off h6 (by decide))
  · exact absurd rfl q1
  · exact absurd rfl q1
theorem dec_32 (cond rd rn rm imm mode list : Int) (s it : Bool) (h : Int) (hok : okB ⟨32, cond, rd, rn, rm, imm, mode, list, s⟩ = true) (hw : Wide list) (he : rowI ⟨32, cond, rd, rn, rm, imm, mode, list, s⟩ it = some h) :
    0 ≤ h ∧ h < 59392 ∧ decI h it = ⟨32, cond, rd, rn, rm, imm, mode, list, s⟩ := by
  obtain ⟨_, h1, h2, h3, h4, h5, h6⟩ := ok_parts hok
  clear hok
  have h3' := last_cases h3
  clear h3
  unfold rowI restI at he
  dsimp only at he h1 h2 h3' h4 h5 h6
  have hl := list_most h4 24575 (by decide) rfl hw
  have hc : cond = 0 := by simpa [Im.condB] using h5
  have hn := one_none h1
  have hr := one_in (set := 24575) h2 (by decide)
  rcases h3' with ⟨rfl, q1, q2, rfl, rfl⟩ | ⟨rfl, q1, q2, q3, q4, rfl⟩ | ⟨rfl, q1, q2, rfl⟩
  · repeat (first | rw [if_neg (by omega)] at he | rw [if_pos (by omega)] at he)
    obtain ⟨hb, rfl⟩ := opt_is he
    simp only [Bool.and_eq_true, decide_eq_true_eq] at hb
    have hx := low_is hb.1
    refine ⟨by omega, by omega, ?_⟩
    unfold decI
    repeat (first | rw [if_neg (by omega)] | rw [if_pos (by omega)])
    exact mk_eq rfl (by omega) (by omega) (by omega) (by omega) (by omega) (by omega) (by omega) (flag_off h6 (by decide))
  · exact absurd rfl q1
  · exact absurd rfl q1
theorem dec_33 (cond rd rn rm imm mode list : Int) (s it : Bool) (h : Int) (hok : okB ⟨33, cond, rd, rn, rm, imm, mode, list, s⟩ = true) (hw : Wide list) (he : rowI ⟨33, cond, rd, rn, rm, imm, mode, list, s⟩ it = some h) :
    0 ≤ h ∧ h < 59392 ∧ decI h it = ⟨33, cond, rd, rn, rm, imm, mode, list, s⟩ := by
  obtain ⟨_, h1, h2, h3, h4, h5, h6⟩ := ok_parts hok
  clear hok
  have h3' := last_cases h3
  clear h3
  unfold rowI restI at he
  dsimp only at he h1 h2 h3' h4 h5 h6
  have hl := list_most h4 24575 (by decide) rfl hw
  have hc : cond = 0 := by simpa [Im.condB] using h5
  have hn := one_none h1
  have hr := one_none h2
  rcases h3' with ⟨rfl, q1, q2, rfl, rfl⟩ | ⟨rfl, q1, q2, q3, q4, rfl⟩ | ⟨rfl, q1, q2, rfl⟩
  · repeat (first | rw [if_neg (by omega)] at he | rw [if_pos (by omega)] at he)
    obtain ⟨hb, rfl⟩ := opt_is he
    simp only [beq_iff_eq] at hb
    refine ⟨by omega, by omega, ?_⟩
    unfold decI dec4
    repeat (first | rw [if_neg (by omega)] | rw [if_pos (by omega)])
    exact mk_eq rfl (by omega) (by omega) (by omega) (by omega) (by omega) (by omega) (by omega) (flag_off h6 (by decide))
  · exact absurd rfl q1
  · exact absurd rfl q1
theorem dec_34 (cond rd rn rm imm mode list : Int) (s it : Bool) (h : Int) (hok : okB ⟨34, cond, rd, rn, rm, imm, mode, list, s⟩ = true) (hw : Wide list) (he : rowI ⟨34, cond, rd, rn, rm, imm, mode, list, s⟩ it = some h) :
    0 ≤ h ∧ h < 59392 ∧ decI h it = ⟨34, cond, rd, rn, rm, imm, mode, list, s⟩ := by
  obtain ⟨_, h1, h2, h3, h4, h5, h6⟩ := ok_parts hok
  clear hok
  have h3' := last_cases h3
  clear h3
  unfold rowI restI at he
  dsimp only at he h1 h2 h3' h4 h5 h6
  have hl := list_most h4 57343 (by decide) rfl hw
  have hc : cond = 0 := by simpa [Im.condB] using h5
  have hn := one_none h1
  have hr := one_none h2
  rcases h3' with ⟨rfl, q1, q2, rfl, rfl⟩ | ⟨rfl, q1, q2, q3, q4, rfl⟩ | ⟨rfl, q1, q2, rfl⟩
  · repeat (first | rw [if_neg (by omega)] at he | rw [if_pos (by omega)] at he)
    obtain ⟨hb, rfl⟩ := opt_is he
    simp only [beq_iff_eq] at hb
    refine ⟨by omega, by omega, ?_⟩
    unfold decI dec4
    repeat (first | rw [if_neg (by omega)] | rw [if_pos (by omega)])
    exact mk_eq rfl (by omega) (by omega) (by omega) (by omega) (by omega) (by omega) (by omega) (flag_off h6 (by decide))
  · exact absurd rfl q1
  · exact absurd rfl q1
theorem dec_39 (cond rd rn rm imm mode list : Int) (s it : Bool) (h : Int) (hok : okB ⟨39, cond, rd, rn, rm, imm, mode, list, s⟩ = true) (hw : Wide list) (he : rowI ⟨39, cond, rd, rn, rm, imm, mode, list, s⟩ it = some h) :
    0 ≤ h ∧ h < 59392 ∧ decI h it = ⟨39, cond, rd, rn, rm, imm, mode, list, s⟩ := by
  obtain ⟨_, h1, h2, h3, h4, h5, h6⟩ := ok_parts hok
  clear hok
  have h3' := last_cases h3
  clear h3
  unfold rowI restI at he
  dsimp only at he h1 h2 h3' h4 h5 h6
  have hl := list_most h4 0 (by decide) rfl hw
  have hc : cond = 0 := by simpa [Im.condB] using h5
  have hn := one_none h1
  have hr := one_none h2
  rcases h3' with ⟨rfl, q1, q2, rfl, rfl⟩ | ⟨rfl, q1, q2, q3, q4, rfl⟩ | ⟨rfl, q1, q2, rfl⟩
  · cases (show (32767 : Int) = 0 from q2)
  · exact absurd rfl q1
  · repeat (first | rw [if_neg (by omega)] at he | rw [if_pos (by omega)] at he)
    obtain rfl := Option.some.inj he
    have hm := one_in (set := 32767) q2 (by decide)
    refine ⟨by omega, by omega, ?_⟩
    unfold decI dec2
    repeat (first | rw [if_neg (by omega)] | rw [if_pos (by omega)])
    exact mk_eq rfl (by omega) (by omega) (by omega) (by omega) (by omega) (by omega) (by omega) (flag_off h6 (by decide))
theorem dec_40 (cond rd rn rm imm mode list : Int) (s it : Bool) (h : Int) (hok : okB ⟨40, cond, rd, rn, rm, imm, mode, list, s⟩ = true) (hw : Wide list) (he : rowI ⟨40, cond, rd, rn, rm, imm, mode, list, s⟩ it = some h) :
    0 ≤ h ∧ h < 59392 ∧ decI h it = ⟨40, cond, rd, rn, rm, imm, mode, list, s⟩ := by
  obtain ⟨_, h1, h2, h3, h4, h5, h6⟩ := ok_parts hok
  clear hok
  have h3' := last_cases h3
  clear h3
  unfold rowI restI at he
  dsimp only at he h1 h2 h3' h4 h5 h6
  have hl := list_most h4 0 (by decide) rfl hw
  have hc : cond = 0 := by simpa [Im.condB] using h5
  have hr := one_none h2
  rcases h3' with ⟨rfl, q1, q2, rfl, rfl⟩ | ⟨rfl, q1, q2, q3, q4, rfl⟩ | ⟨rfl, q1, q2, rfl⟩
  · cases (show (1 : Int) = 0 from q1)
  · repeat (first | rw [if_neg (by omega)] at he | rw [if_pos (by omega)] at he)
    obtain ⟨hb, rfl⟩ := opt_is he
    simp only [Bool.and_eq_true, beq_iff_eq, decide_eq_true_eq] at hb
    have hx := low_is hb.1
    refine ⟨by omega, by omega, ?_⟩
    unfold decI
    repeat (first | rw [if_neg (by omega)] | rw [if_pos (by omega)])
    exact mk_eq rfl (by omega) (by omega) (by omega) (by omega) (by omega) (by omega) (by omega) (flag_off h6 (by decide))
  · exact absurd rfl q1
theorem dec_41 (cond rd rn rm imm mode list : Int) (s it : Bool) (h : Int) (hok : okB ⟨41, cond, rd, rn, rm, imm, mode, list, s⟩ = true) (hw : Wide list) (he : rowI ⟨41, cond, rd, rn, rm, imm, mode, list, s⟩ it = some h) :
    0 ≤ h ∧ h < 59392 ∧ decI h it = ⟨41, cond, rd, rn, rm, imm, mode, list, s⟩ := by
  obtain ⟨_, h1, h2, h3, h4, h5, h6⟩ := ok_parts hok
  clear hok
  have h3' := last_cases h3
  clear h3
  unfold rowI restI at he
  dsimp only at he h1 h2 h3' h4 h5 h6
  have hl := list_most h4 0 (by decide) rfl hw
  have hc : cond = 0 := by simpa [Im.condB] using h5
  have hr := one_none h2
  rcases h3' with ⟨rfl, q1, q2, rfl, rfl⟩ | ⟨rfl, q1, q2, q3, q4, rfl⟩ | ⟨rfl, q1, q2, rfl⟩
  · cases (show (1 : Int) = 0 from q1)
  · repeat (first | rw [if_neg (by omega)] at he | rw [if_pos (by omega)] at he)
    obtain ⟨hb, rfl⟩ := opt_is he
    simp only [Bool.and_eq_true, beq_iff_eq, decide_eq_true_eq] at hb
    have hx := low_is hb.1
    refine ⟨by omega, by omega, ?_⟩
    unfold decI
    repeat (first | rw [if_neg (by omega)] | rw [if_pos (by omega)])
    exact mk_eq rfl (by omega) (by omega) (by omega) (by omega) (by omega) (by omega) (by omega) (flag_off h6 (by decide))
  · exact absurd rfl q1
theorem dec_42 (cond rd rn rm imm mode list : Int) (s it : Bool) (h : Int) (hok : okB ⟨42, cond, rd, rn, rm, imm, mode, list, s⟩ = true) (hw : Wide list) (he : rowI ⟨42, cond, rd, rn, rm, imm, mode, list, s⟩ it = some h) :
    0 ≤ h ∧ h < 59392 ∧ decI h it = ⟨42, cond, rd, rn, rm, imm, mode, list, s⟩ := by
  obtain ⟨_, h1, h2, h3, h4, h5, h6⟩ := ok_parts hok
  clear hok
  have h3' := last_cases h3
  clear h3
  unfold rowI restI at he
  dsimp only at he h1 h2 h3' h4 h5 h6
  have hl := list_most h4 0 (by decide) rfl hw
  have hc : Cm.condsI cond imm ≠ [] := by simpa [Im.condB] using h5
  have hc := conds_is hc
  have hn := one_none h1
  have hr := one_none h2
  rcases h3' with ⟨rfl, q1, q2, rfl, rfl⟩ | ⟨rfl, q1, q2, q3, q4, rfl⟩ | ⟨rfl, q1, q2, rfl⟩
  · cases (show (1 : Int) = 0 from q1)
  · repeat (first | rw [if_neg (by omega)] at he | rw [if_pos (by omega)] at he)
    obtain ⟨hb, rfl⟩ := opt_is he
    refine ⟨by omega, by omega, ?_⟩
    unfold decI dec4
    repeat (first | rw [if_neg (by omega)] | rw [if_pos (by omega)])
    exact mk_eq rfl (by omega) (by omega) (by omega) (by omega) (by omega) (by omega) (by omega) (flag_off h6 (by decide))
  · exact absurd rfl q1
theorem dec_43 (cond rd rn rm imm mode list : Int) (s it : Bool) (h : Int) (hok : okB ⟨43, cond, rd, rn, rm, imm, mode, list, s⟩ = true) (hw : Wide list) (he : rowI ⟨43, cond, rd, rn, rm, imm, mode, list, s⟩ it = some h) :
    0 ≤ h ∧ h < 59392 ∧ decI h it = ⟨43, cond, rd, rn, rm, imm, mode, list, s⟩ := by
  obtain ⟨_, h1, h2, h3, h4, h5, h6⟩ := ok_parts hok
  clear hok
  have h3' := last_cases h3
  clear h3
  unfold rowI restI at he
  dsimp only at he h1 h2 h3' h4 h5 h6
  have hl := list_most h4 0 (by decide) rfl hw
  have hc : cond = 0 := by simpa [Im.condB] using h5
  have hn := one_none h1
  have hr := one_none h2
  rcases h3' with ⟨rfl, q1, q2, rfl, rfl⟩ | ⟨rfl, q1, q2, q3, q4, rfl⟩ | ⟨rfl, q1, q2, rfl⟩
  · repeat (first | rw [if_neg (by omega)] at he | rw [if_pos (by omega)] at he)
    obtain rfl := Option.some.inj he
    refine ⟨by omega, by omega, ?_⟩
    unfold decI dec4
    repeat (first | rw [if_neg (by omega)] | rw [if_pos (by omega)])
    exact mk_eq rfl (by omega) (by omega) (by omega) (by omega) (by omega) (by omega) (by omega) (flag_off h6 (by decide))
  · exact absurd rfl q1
  · exact absurd rfl q1
theorem dec_44 (cond rd rn rm imm mode list : Int) (s it : Bool) (h : Int) (hok : okB ⟨44, cond, rd, rn, rm, imm, mode, list, s⟩ = true) (hw : Wide list) (he : rowI ⟨44, cond, rd, rn, rm, imm, mode, list, s⟩ it = some h) :
    0 ≤ h ∧ h < 59392 ∧ decI h it = ⟨44, cond, rd, rn, rm, imm, mode, list, s⟩ := by
  obtain ⟨_, h1, h2, h3, h4, h5, h6⟩ := ok_parts hok
  clear hok
  have h3' := last_cases h3
  clear h3
  unfold rowI restI at he
  dsimp only at he h1 h2 h3' h4 h5 h6
  have hl := list_most h4 0 (by decide) rfl hw
  have hc : cond = 0 := by simpa [Im.condB] using h5
  have hn := one_none h1
  have hr := one_none h2
  rcases h3' with ⟨rfl, q1, q2, rfl, rfl⟩ | ⟨rfl, q1, q2, q3, q4, rfl⟩ | ⟨rfl, q1, q2, rfl⟩
  · cases (show (1 : Int) = 0 from q1)
  · repeat (first | rw [if_neg (by omega)] at he | rw [if_pos (by omega)] at he)
    obtain rfl := Option.some.inj he
    replace q2 : (0 : Int) ≤ imm := q2
    replace q3 : imm ≤ 255 := q3
    refine ⟨by omega, by omega, ?_⟩
    unfold decI dec4
    repeat (first | rw [if_neg (by omega)] | rw [if_pos (by omega)])
    exact mk_eq rfl (by omega) (by omega) (by omega) (by omega) (by omega) (by omega) (by omega) (flag_off h6 (by decide))
  · exact absurd rfl q1
theorem dec_15 (cond rd rn rm imm mode list : Int) (s it : Bool) (h : Int) (hok : okB ⟨15, cond, rd, rn, rm, imm, mode, list, s⟩ = true) (_hw : Wide list) (he : rowI ⟨15, cond, rd, rn, rm, imm, mode, list, s⟩ it = some h) :
    0 ≤ h ∧ h < 59392 ∧ decI h it = ⟨15, cond, rd, rn, rm, imm, mode, list, s⟩ := by
  obtain ⟨_, h1, h2, h3, h4, h5, h6⟩ := ok_parts hok
  clear hok
  have h3' := last_cases h3
  clear h3
  unfold rowI restI at he
  dsimp only at he h1 h2 h3' h4 h5 h6
  repeat (first | rw [if_neg (by omega)] at he | rw [if_pos (by omega)] at he)
  cases he
theorem dec_21 (cond rd rn rm imm mode list : Int) (s it : Bool) (h : Int) (hok : okB ⟨21, cond, rd, rn, rm, imm, mode, list, s⟩ = true) (_hw : Wide list) (he : rowI ⟨21, cond, rd, rn, rm, imm, mode, list, s⟩ it = some h) :
    0 ≤ h ∧ h < 59392 ∧ decI h it = ⟨21, cond, rd, rn, rm, imm, mode, list, s⟩ := by
  obtain ⟨_, h1, h2, h3, h4, h5, h6⟩ := ok_parts hok
  clear hok
  have h3' := last_cases h3
  clear h3
  unfold rowI restI at he
  dsimp only at he h1 h2 h3' h4 h5 h6
  repeat (first | rw [if_neg (by omega)] at he | rw [if_pos (by omega)] at he)
  cases he
theorem dec_22 (cond rd rn rm imm mode list : Int) (s it : Bool) (h : Int) (hok : okB ⟨22, cond, rd, rn, rm, imm, mode, list, s⟩ = true) (_hw : Wide list) (he : rowI ⟨22, cond, rd, rn, rm, imm, mode, list, s⟩ it = some h) :
    0 ≤ h ∧ h < 59392 ∧ decI h it = ⟨22, cond, rd, rn, rm, imm, mode, list, s⟩ := by
  obtain ⟨_, h1, h2, h3, h4, h5, h6⟩ := ok_parts hok
  clear hok
  have h3' := last_cases h3
  clear h3
  unfold rowI restI at he
  dsimp only at he h1 h2 h3' h4 h5 h6
  repeat (first | rw [if_neg (by omega)] at he | rw [if_pos (by omega)] at he)
  cases he
theorem dec_23 (cond rd rn rm imm mode list : Int) (s it : Bool) (h : Int) (hok : okB ⟨23, cond, rd, rn, rm, imm, mode, list, s⟩ = true) (_hw : Wide list) (he : rowI ⟨23, cond, rd, rn, rm, imm, mode, list, s⟩ it = some h) :
    0 ≤ h ∧ h < 59392 ∧ decI h it = ⟨23, cond, rd, rn, rm, imm, mode, list, s⟩ := by
  obtain ⟨_, h1, h2, h3, h4, h5, h6⟩ := ok_parts hok
  clear hok
  have h3' := last_cases h3
  clear h3
  unfold rowI restI at he
  dsimp only at he h1 h2 h3' h4 h5 h6
  repeat (first | rw [if_neg (by omega)] at he | rw [if_pos (by omega)] at he)
  cases he
theorem dec_24 (cond rd rn rm imm mode list : Int) (s it : Bool) (h : Int) (hok : okB ⟨24, cond, rd, rn, rm, imm, mode, list, s⟩ = true) (_hw : Wide list) (he : rowI ⟨24, cond, rd, rn, rm, imm, mode, list, s⟩ it = some h) :
    0 ≤ h ∧ h < 59392 ∧ decI h it = ⟨24, cond, rd, rn, rm, imm, mode, list, s⟩ := by
  obtain ⟨_, h1, h2, h3, h4, h5, h6⟩ := ok_parts hok
  clear hok
  have h3' := last_cases h3
  clear h3
  unfold rowI restI at he
  dsimp only at he h1 h2 h3' h4 h5 h6
  repeat (first | rw [if_neg (by omega)] at he | rw [if_pos (by omega)] at he)
  cases he
theorem dec_36 (cond rd rn rm imm mode list : Int) (s it : Bool) (h : Int) (hok : okB ⟨36, cond, rd, rn, rm, imm, mode, list, s⟩ = true) (_hw : Wide list) (he : rowI ⟨36, cond, rd, rn, rm, imm, mode, list, s⟩ it = some h) :
    0 ≤ h ∧ h < 59392 ∧ decI h it = ⟨36, cond, rd, rn, rm, imm, mode, list, s⟩ := by
  obtain ⟨_, h1, h2, h3, h4, h5, h6⟩ := ok_parts hok
  clear hok
  have h3' := last_cases h3
  clear h3
  unfold rowI restI at he
  dsimp only at he h1 h2 h3' h4 h5 h6
  repeat (first | rw [if_neg (by omega)] at he | rw [if_pos (by omega)] at he)
  cases he
theorem dec_45 (cond rd rn rm imm mode list : Int) (s it : Bool) (h : Int) (hok : okB ⟨45, cond, rd, rn, rm, imm, mode, list, s⟩ = true) (_hw : Wide list) (he : rowI ⟨45, cond, rd, rn, rm, imm, mode, list, s⟩ it = some h) :
    0 ≤ h ∧ h < 59392 ∧ decI h it = ⟨45, cond, rd, rn, rm, imm, mode, list, s⟩ := by
  obtain ⟨_, h1, h2, h3, h4, h5, h6⟩ := ok_parts hok
  clear hok
  have h3' := last_cases h3
  clear h3
  unfold rowI restI at he
  dsimp only at he h1 h2 h3' h4 h5 h6
  repeat (first | rw [if_neg (by omega)] at he | rw [if_pos (by omega)] at he)
  cases he
theorem dec_row (i : I) (it : Bool) (h : Int) (hok : okB i = true) (hw : Wide i.list) (he : rowI i it = some h) : 0 ≤ h ∧ h < 59392 ∧ decI h it = i := by
  obtain ⟨op, cond, rd, rn, rm, imm, mode, list, s⟩ := i
  have hop : 1 ≤ op ∧ op ≤ 45 := (ok_parts hok).1
  rcases (by omega : op = 1 ∨ op = 2 ∨ op = 3 ∨ op = 4 ∨ op = 5 ∨ op = 6 ∨ op = 7 ∨ op = 8 ∨ op = 9 ∨ op = 10 ∨ op = 11 ∨ op = 12 ∨ op = 13 ∨ op = 14 ∨ op = 15 ∨ op = 16 ∨ op = 17 ∨ op = 18 ∨ op = 19 ∨ op = 20 ∨ op = 21 ∨ op = 22 ∨ op = 23 ∨ op = 24 ∨ op = 25 ∨ op = 26 ∨ op = 27 ∨ op = 28 ∨ op = 29 ∨ op = 30 ∨ op = 31 ∨ op = 32 ∨ op = 33 ∨ op = 34 ∨ op = 35 ∨ op = 36 ∨ op = 37 ∨ op = 38 ∨ op = 39 ∨ op = 40 ∨ op = 41 ∨ op = 42 ∨ op = 43 ∨ op = 44 ∨ op = 45) with rfl | rfl | rfl | rfl | rfl | rfl | rfl | rfl | rfl | rfl | rfl | rfl | rfl | rfl | rfl | rfl | rfl | rfl | rfl | rfl | rfl | rfl | rfl | rfl | rfl | rfl | rfl | rfl | rfl | rfl | rfl | rfl | rfl | rfl | rfl | rfl | rfl | rfl | rfl | rfl | rfl | rfl | rfl | rfl | rfl
  · exact dec_1 _ _ _ _ _ _ _ _ _ _ hok hw he
  · exact dec_2 _ _ _ _ _ _ _ _ _ _ hok hw he
  · exact dec_3 _ _ _ _ _ _ _ _ _ _ hok hw he
  · exact dec_4 _ _ _ _ _ _ _ _ _ _ hok hw he
  · exact dec_5 _ _ _ _ _ _ _ _ _ _ hok hw he
  · exact dec_6 _ _ _ _ _ _ _ _ _ _ hok hw he
  · exact dec_7 _ _ _ _ _ _ _ _ _ _ hok hw he
  · exact dec_8 _ _ _ _ _ _ _ _ _ _ hok hw he
  · exact dec_9 _ _ _ _ _ _ _ _ _ _ hok hw he
  · exact dec_10 _ _ _ _ _ _ _ _ _ _ hok hw he
  · exact dec_11 _ _ _ _ _ _ _ _ _ _ hok hw he
  · exact dec_12 _ _ _ _ _ _ _ _ _ _ hok hw he
  · exact dec_13 _ _ _ _ _ _ _ _ _ _ hok hw he
  · exact dec_14 _ _ _ _ _ _ _ _ _ _ hok hw he
  · exact dec_15 _ _ _ _ _ _ _ _ _ _ hok hw he
  · exact dec_16 _ _ _ _ _ _ _ _ _ _ hok hw he
  · exact dec_17 _ _ _ _ _ _ _ _ _ _ hok hw he
  · exact dec_18 _ _ _ _ _ _ _ _ _ _ hok hw he
  · exact dec_19 _ _ _ _ _ _ _ _ _ _ hok hw he
  · exact dec_20 _ _ _ _ _ _ _ _ _ _ hok hw he
  · exact dec_21 _ _ _ _ _ _ _ _ _ _ hok hw he
  · exact dec_22 _ _ _ _ _ _ _ _ _ _ hok hw he
  · exact dec_23 _ _ _ _ _ _ _ _ _ _ hok hw he
  · exact dec_24 _ _ _ _ _ _ _ _ _ _ hok hw he
  · exact dec_25 _ _ _ _ _ _ _ _ _ _ hok hw he
  · exact dec_26 _ _ _ _ _ _ _ _ _ _ hok hw he
  · exact dec_27 _ _ _ _ _ _ _ _ _ _ hok hw he
  · exact dec_28 _ _ _ _ _ _ _ _ _ _ hok hw he
  · exact dec_29 _ _ _ _ _ _ _ _ _ _ hok hw he
  · exact dec_30 _ _ _ _ _ _ _ _ _ _ hok hw he
  · exact dec_31 _ _ _ _ _ _ _ _ _ _ hok hw he
  · exact dec_32 _ _ _ _ _ _ _ _ _ _ hok hw he
  · exact dec_33 _ _ _ _ _ _ _ _ _ _ hok hw he
  · exact dec_34 _ _ _ _ _ _ _ _ _ _ hok hw he
  · exact dec_35 _ _ _ _ _ _ _ _ _ _ hok hw he
  · exact dec_36 _ _ _ _ _ _ _ _ _ _ hok hw he
  · exact dec_37 _ _ _ _ _ _ _ _ _ _ hok hw he
  · exact dec_38 _ _ _ _ _ _ _ _ _ _ hok hw he
  · exact dec_39 _ _ _ _ _ _ _ _ _ _ hok hw he
  · exact dec_40 _ _ _ _ _ _ _ _ _ _ hok hw he
  · exact dec_41 _ _ _ _ _ _ _ _ _ _ hok hw he
  · exact dec_42 _ _ _ _ _ _ _ _ _ _ hok hw he
  · exact dec_43 _ _ _ _ _ _ _ _ _ _ hok hw he
  · exact dec_44 _ _ _ _ _ _ _ _ _ _ hok hw he
  · exact dec_45 _ _ _ _ _ _ _ _ _ _ hok hw he
end Nm
end Go.Proofs.YtcphhojdfpedkaaDoor
