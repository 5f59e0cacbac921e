/- The search over wide's forms, plainly: lists, branches, and the rest (text by gen_xi.py). No conditions but those that each fact names. -/
import Derived.Test.YtmofimgodmcdjaaDoorXp
namespace Go.Proofs.YtmofimgodmcdjaaDoor
open Go.ChangeShapes Go.WideShapes Go.ChangeAt Go.RowKit
namespace Xw

theorem several_all : ((List.range 256).all fun a => (List.range 256).all fun b => ((a * 256 + b) &&& (a * 256 + b - 1) != 0) == decide (2 ≤ Im.pop (a * 256 + b))) = true := by decide +kernel
theorem several_nat (n : Nat) (h : n < 65536) : (n &&& (n - 1) != 0) = decide (2 ≤ Im.pop n) := by
  have h1 := List.all_eq_true.1 several_all (n / 256) (List.mem_range.2 (by omega))
  have h2 := List.all_eq_true.1 h1 (n % 256) (List.mem_range.2 (by omega))
  rw [show n / 256 * 256 + n % 256 = n by omega] at h2
  exact beq_iff_eq.1 h2
theorem several (list : Int) (h0 : 0 ≤ list) (h1 : list < 65536) : severalB list = decide (2 ≤ Im.pop list.toNat) := by
  obtain ⟨n, rfl⟩ := Int.eq_ofNat_of_zero_le h0
  unfold severalB
  rw [Int.toNat_natCast, ← several_nat n (by omega)]
  by_cases hn : n = 0
  · subst hn
    decide +kernel
  · have e1 : wrap64 ((n : Int) - 1) = ((n - 1 : Nat) : Int) := by unfold wrap64; omega
    have h : bits .and .i64 (n : Int) ((n - 1 : Nat) : Int) = ((n &&& (n - 1) : Nat) : Int) := by
      have hc : n &&& (n - 1) ≤ n := Nat.and_le_left
      have h2 : bits .and .i64 (n : Int) ((n - 1 : Nat) : Int) = IntKind.i64.wrap (((BitVec.ofInt 64 (n : Int)).toNat &&& (BitVec.ofInt 64 ((n - 1 : Nat) : Int)).toNat : Nat) : Int) := by
        rw [← BitVec.toNat_and]; rfl
      have ea : (BitVec.ofInt 64 (n : Int)).toNat = n := by rw [BitVec.toNat_ofInt]; omega
      have eb : (BitVec.ofInt 64 ((n - 1 : Nat) : Int)).toNat = n - 1 := by rw [BitVec.toNat_ofInt]; omega
      rw [h2, ea, eb, IntKind.wrap_i64]
      omega
    rw [e1, h]
    generalize n &&& (n - 1) = k
    by_cases hk : k = 0
    · subst hk; rfl
    · rw [show (((k : Nat) : Int) != 0) = true by simp; omega, show (k != 0) = true by simp; omega]
theorem fits4 (n : Int) (h0 : -16777216 ≤ n) (h1 : n ≤ 16777214) (h2 : n % 2 = 0) : fitsB 4 n = true := by
  unfold fitsB highI lowI
  simp
  omega
theorem fits3 (n : Int) (h0 : -1048576 ≤ n) (h1 : n ≤ 1048574) (h2 : n % 2 = 0) : fitsB 3 n = true := by
  unfold fitsB highI lowI
  simp
  omega
theorem off4 (n : Int) (h : fitsB 4 n = true) : offR 4 n = bits .or .u32 (Wm.p4a n % 4294967296 * 65536 % 4294967296) (Wm.p4b n % 4294967296) := by
  have hs := Om.fits_spec h
  unfold highI lowI at hs
  simp at hs
  have hp := Om.put_4 n (by omega) (by omega) (by omega)
  unfold offR offA offB
  rw [if_pos h, if_pos h, hp.1, hp.2]
  rfl
theorem near3 (n cond : Int) (h : fitsB 3 n = true) (c0 : 0 ≤ cond) (c1 : cond ≤ 15) : nearR cond n = bits .or .u32 (cond * 4194304) (bits .or .u32 (Wm.p3a n % 4294967296 * 65536 % 4294967296) (Wm.p3b n % 4294967296)) := by
  have hs := Om.fits_spec h
  unfold highI lowI at hs
  simp at hs
  have hp := Om.put_3 n (by omega) (by omega) (by omega)
  unfold nearR offR offA offB
  rw [if_pos h, if_pos h, hp.1, hp.2, show cond % 4294967296 * 4194304 % 4294967296 = cond * 4194304 by omega]
  rfl
theorem we_31 (cond rd rn rm imm mode list : Int) (s it : Bool) (hok : Nm.okB ⟨31, cond, rd, rn, rm, imm, mode, list, s⟩ = true) (hw : Nm.Wide list) :
    (searchP 31 cond rd rn rm imm mode list s it formT).map splitW = Wm.rowW Wm.findF ⟨31, cond, rd, rn, rm, imm, mode, list, s⟩ it := by
  obtain ⟨_, h1, h2, h3, h4, h5, h6⟩ := Nm.ok_parts hok
  clear hok
  have h3' := Nm.last_cases h3
  clear h3
  dsimp only at h1 h2 h3' h4 h5 h6
  have hs := Nm.flag_off h6 rfl
  subst hs
  have hl := Nm.list_most h4 24575 (by decide) rfl hw
  have hc : cond = 0 := by simpa [Im.condB] using h5
  clear h5 h6
  clear h4
  rcases h3' with ⟨rfl, q1, q2, rfl, rfl⟩ | ⟨rfl, q1, q2, q3, q4, rfl⟩ | ⟨rfl, q1, q2, rfl⟩
  · have hd := Nm.one_none h1
    have hn := Wm.one_12 h2
    clear h1 h2
    have hR : Wm.rowW Wm.findF ⟨31, cond, rd, rn, 0, 0, 0, list, false⟩ it = some (59568 + rn, list) := by
      unfold Wm.rowW Wm.restW
      dsimp only
      repeat (first | rw [if_neg (by omega)] | rw [if_pos (by omega)])
    rw [hR]
    rw [search_is, cands_31]
    simp only [searchC]
    rw [takesP_0, fieldsP_6]
    rw [if_pos rfl]
    rw [join_listed 3903848448 rn list (by omega) (by omega) (by omega) (by omega) (by omega) (by omega) (by omega) (by omega)]
    exact some_split _ _ _ (by omega) (by omega) (by omega)
  · exact absurd rfl q1
  · exact absurd rfl q1
theorem we_32 (cond rd rn rm imm mode list : Int) (s it : Bool) (hok : Nm.okB ⟨32, cond, rd, rn, rm, imm, mode, list, s⟩ = true) (hw : Nm.Wide list) :
    (searchP 32 cond rd rn rm imm mode list s it formT).map splitW = Wm.rowW Wm.findF ⟨32, cond, rd, rn, rm, imm, mode, list, s⟩ it := by
  obtain ⟨_, h1, h2, h3, h4, h5, h6⟩ := Nm.ok_parts hok
  clear hok
  have h3' := Nm.last_cases h3
  clear h3
  dsimp only at h1 h2 h3' h4 h5 h6
  have hs := Nm.flag_off h6 rfl
  subst hs
  have hl := Nm.list_most h4 24575 (by decide) rfl hw
  have hc : cond = 0 := by simpa [Im.condB] using h5
  clear h5 h6
  clear h4
  rcases h3' with ⟨rfl, q1, q2, rfl, rfl⟩ | ⟨rfl, q1, q2, q3, q4, rfl⟩ | ⟨rfl, q1, q2, rfl⟩
  · have hd := Nm.one_none h1
    have hn := Wm.one_12 h2
    clear h1 h2
    have hR : Wm.rowW Wm.findF ⟨32, cond, rd, rn, 0, 0, 0, list, false⟩ it = some (59552 + rn, list) := by
      unfold Wm.rowW Wm.restW
      dsimp only
      repeat (first | rw [if_neg (by omega)] | rw [if_pos (by omega)])
    rw [hR]
    rw [search_is, cands_32]
    simp only [searchC]
    rw [takesP_0, fieldsP_6]
    rw [if_pos rfl]
    rw [join_listed 3902799872 rn list (by omega) (by omega) (by omega) (by omega) (by omega) (by omega) (by omega) (by omega)]
    exact some_split _ _ _ (by omega) (by omega) (by omega)
  · exact absurd rfl q1
  · exact absurd rfl q1
theorem we_33 (cond rd rn rm imm mode list : Int) (s it : Bool) (hok : Nm.okB ⟨33, cond, rd, rn, rm, imm, mode, list, s⟩ = true) (hw : Nm.Wide list) :
    (searchP 33 cond rd rn rm imm mode list s it formT).map splitW = Wm.rowW Wm.findF ⟨33, cond, rd, rn, rm, imm, mode, list, s⟩ it := by
  obtain ⟨_, h1, h2, h3, h4, h5, h6⟩ := Nm.ok_parts hok
  clear hok
  have h3' := Nm.last_cases h3
  clear h3
  dsimp only at h1 h2 h3' h4 h5 h6
  have hs := Nm.flag_off h6 rfl
  subst hs
  have hl := Nm.list_most h4 24575 (by decide) rfl hw
  have hc : cond = 0 := by simpa [Im.condB] using h5
  clear h5 h6
  clear h4
  rcases h3' with ⟨rfl, q1, q2, rfl, rfl⟩ | ⟨rfl, q1, q2, q3, q4, rfl⟩ | ⟨rfl, q1, q2, rfl⟩
  · have hd := Nm.one_none h1
    have hn := Nm.one_none h2
    clear h1 h2
    have hv := several list hl.1 (by omega)
    by_cases hp : 2 ≤ Im.pop list.toNat
    · have hR : Wm.rowW Wm.findF ⟨33, cond, rd, rn, 0, 0, 0, list, false⟩ it = some (59693, list) := by
        unfold Wm.rowW Wm.restW
        dsimp only
        repeat (first | rw [if_neg (by omega)] | rw [if_pos (by omega)])
        try rw [if_pos hp]
      rw [hR]
      rw [search_is, cands_33]
      simp only [searchC]
      rw [takesP_6, fieldsP_6]
      rw [if_pos (by rw [hv]; exact decide_eq_true hp)]
      rw [join_listed 3912040448 rn list (by omega) (by omega) (by omega) (by omega) (by omega) (by omega) (by omega) (by omega)]
      exact some_split _ _ _ (by omega) (by omega) (by omega)
    · have hR : Wm.rowW Wm.findF ⟨33, cond, rd, rn, 0, 0, 0, list, false⟩ it = none := by
        unfold Wm.rowW Wm.restW
        dsimp only
        repeat (first | rw [if_neg (by omega)] | rw [if_pos (by omega)])
        try rw [if_neg hp]
      rw [hR]
      rw [search_is, cands_33]
      simp only [searchC]
      rw [takesP_6, fieldsP_6]
      rw [if_neg (by rw [hv]; simpa using hp)]
      rfl
  · exact absurd rfl q1
  · exact absurd rfl q1
theorem we_34 (cond rd rn rm imm mode list : Int) (s it : Bool) (hok : Nm.okB ⟨34, cond, rd, rn, rm, imm, mode, list, s⟩ = true) (hw : Nm.Wide list) :
    (searchP 34 cond rd rn rm imm mode list s it formT).map splitW = Wm.rowW Wm.findF ⟨34, cond, rd, rn, rm, imm, mode, list, s⟩ it := by
  obtain ⟨_, h1, h2, h3, h4, h5, h6⟩ := Nm.ok_parts hok
  clear hok
  have h3' := Nm.last_cases h3
  clear h3
  dsimp only at h1 h2 h3' h4 h5 h6
  have hs := Nm.flag_off h6 rfl
  subst hs
  have hl := Nm.list_most h4 57343 (by decide) rfl hw
  have hc : cond = 0 := by simpa [Im.condB] using h5
  clear h5 h6
  clear h4
  rcases h3' with ⟨rfl, q1, q2, rfl, rfl⟩ | ⟨rfl, q1, q2, q3, q4, rfl⟩ | ⟨rfl, q1, q2, rfl⟩
  · have hd := Nm.one_none h1
    have hn := Nm.one_none h2
    clear h1 h2
    have hv := several list hl.1 (by omega)
    by_cases hp : 2 ≤ Im.pop list.toNat
    · have hR : Wm.rowW Wm.findF ⟨34, cond, rd, rn, 0, 0, 0, list, false⟩ it = some (59581, list) := by
        unfold Wm.rowW Wm.restW
        dsimp only
        repeat (first | rw [if_neg (by omega)] | rw [if_pos (by omega)])
        try rw [if_pos hp]
      rw [hR]
      rw [search_is, cands_34]
      simp only [searchC]
      rw [takesP_6, fieldsP_6]
      rw [if_pos (by rw [hv]; exact decide_eq_true hp)]
      rw [join_listed 3904700416 rn list (by omega) (by omega) (by omega) (by omega) (by omega) (by omega) (by omega) (by omega)]
      exact some_split _ _ _ (by omega) (by omega) (by omega)
    · have hR : Wm.rowW Wm.findF ⟨34, cond, rd, rn, 0, 0, 0, list, false⟩ it = none := by
        unfold Wm.rowW Wm.restW
        dsimp only
        repeat (first | rw [if_neg (by omega)] | rw [if_pos (by omega)])
        try rw [if_neg hp]
      rw [hR]
      rw [search_is, cands_34]
      simp only [searchC]
      rw [takesP_6, fieldsP_6]
      rw [if_neg (by rw [hv]; simpa using hp)]
      rfl
  · exact absurd rfl q1
  · exact absurd rfl q1
theorem we_35 (cond rd rn rm imm mode list : Int) (s it : Bool) (hok : Nm.okB ⟨35, cond, rd, rn, rm, imm, mode, list, s⟩ = true) (hw : Nm.Wide list) :
    (searchP 35 cond rd rn rm imm mode list s it formT).map splitW = Wm.rowW Wm.findF ⟨35, cond, rd, rn, rm, imm, mode, list, s⟩ it := by
  obtain ⟨_, h1, h2, h3, h4, h5, h6⟩ := Nm.ok_parts hok
  clear hok
  have h3' := Nm.last_cases h3
  clear h3
  dsimp only at h1 h2 h3' h4 h5 h6
  have hs := Nm.flag_off h6 rfl
  subst hs
  have hl := Nm.list_most h4 0 (by decide) rfl hw
  have hc : 0 ≤ cond ∧ cond ≤ 14 := by simpa [Im.condB] using h5
  clear h4 h5 h6
  rcases h3' with ⟨rfl, q1, q2, rfl, rfl⟩ | ⟨rfl, q1, q2, q3, q4, rfl⟩ | ⟨rfl, q1, q2, rfl⟩
  · exact absurd q1 (by decide)
  · have hd := Nm.one_none h1
    have hn := Nm.one_none h2
    have q5 := Wm.even_of (show Int.tmod imm 2 = 0 from q4)
    replace q2 : -16777216 ≤ imm := q2
    replace q3 : imm ≤ 16777214 := q3
    clear q1 q4 h1 h2
    by_cases hb : cond = 14
    · have hf := fits4 imm q2 q3 q5
      obtain ⟨t, u, x, y, z, e1, e2, hs, t0, t1, hx, hy, z0, z1, e3⟩ := Wm.p4_parts q2 q3 q5
      have hR : Wm.rowW Wm.findF ⟨35, cond, rd, rn, 0, imm, 1, list, false⟩ it = some (61440 + Wm.p4a imm, 36864 + Wm.p4b imm) := by
        unfold Wm.rowW Wm.branchW
        dsimp only
        repeat (first | rw [if_neg (by omega)] | rw [if_pos (by omega)])
      rw [hR]
      rw [search_is, cands_35]
      simp only [searchC]
      rw [takesP_7, fieldsP_7, takesP_8, fieldsP_8]
      rw [if_neg (by simp [hb]), if_pos (by simp [hb])]
      rw [off4 imm hf]
      rw [join_off 4026568704 t u x y z (Wm.p4a imm) (Wm.p4b imm) e1 e2 (by omega) (by omega) (by omega) (by omega) (by omega) (by omega) (by omega) (by omega) (by omega) (by omega) (by omega) (by omega) (by omega) (by omega) (by omega) (by omega)]
      exact some_split _ _ _ (by omega) (by omega) (by omega)
    · have hb1 : (cond != 14) = true := by simp [hb]
      have hb2 : ¬ (cond == 14) = true := by simp [hb]
      by_cases hi : it = false ∧ -1048576 ≤ imm ∧ imm ≤ 1048574 ∧ imm % 2 = 0
      · obtain ⟨rfl, i0, i1, i2⟩ := hi
        have hf := fits3 imm i0 i1 i2
        obtain ⟨t, u, x, y, z, e1, e2, hs, t0, t1, hx, hy, z0, z1, e3⟩ := Wm.p3_parts i0 i1 i2
        have hR : Wm.rowW Wm.findF ⟨35, cond, rd, rn, 0, imm, 1, list, false⟩ false = some (61440 + cond * 64 + Wm.p3a imm, 32768 + Wm.p3b imm) := by
          unfold Wm.rowW Wm.branchW
          dsimp only
          repeat (first | rw [if_neg (by omega)] | rw [if_pos (by omega)])
          try rw [if_pos ⟨rfl, i0, i1, i2⟩]
        rw [hR]
        rw [search_is, cands_35]
        simp only [searchC]
        rw [takesP_7, fieldsP_7, takesP_8, fieldsP_8]
        rw [if_pos (by rw [hb1, hf]; rfl)]
        rw [near3 imm cond hf (by omega) (by omega), or_as, or_at 4026564608 cond 22 4 4194304 16 (by decide) (by decide) (by decide) (by omega) (by omega) (by omega) (by omega) (by omega)]
        rw [join_off (4026564608 + cond * 4194304) t u x y z (Wm.p3a imm) (Wm.p3b imm) e1 e2 (by omega) (by omega) (by omega) (by omega) (by omega) (by omega) (by omega) (by omega) (by omega) (by omega) (by omega) (by omega) (by omega) (by omega) (by omega) (by omega)]
        exact some_split _ _ _ (by omega) (by omega) (by omega)
      · have hz : ¬ ((cond != 14) && (!it && fitsB 3 imm)) = true := by
          intro h
          simp only [Bool.and_eq_true, Bool.not_eq_true'] at h
          have h' := Om.fits_spec h.2.2
          unfold highI lowI at h'
          simp at h'
          exact hi ⟨h.2.1, by omega, by omega, by omega⟩
        have hR : Wm.rowW Wm.findF ⟨35, cond, rd, rn, 0, imm, 1, list, false⟩ it = none := by
          unfold Wm.rowW Wm.branchW
          dsimp only
          repeat (first | rw [if_neg (by omega)] | rw [if_pos (by omega)])
          try rw [if_neg hi]
        rw [hR]
        rw [search_is, cands_35]
        simp only [searchC]
        rw [takesP_7, fieldsP_7, takesP_8, fieldsP_8]
        rw [if_neg hz, if_neg hb2]
        rfl
  · exact absurd rfl q1
theorem we_36 (cond rd rn rm imm mode list : Int) (s it : Bool) (hok : Nm.okB ⟨36, cond, rd, rn, rm, imm, mode, list, s⟩ = true) (hw : Nm.Wide list) :
    (searchP 36 cond rd rn rm imm mode list s it formT).map splitW = Wm.rowW Wm.findF ⟨36, cond, rd, rn, rm, imm, mode, list, s⟩ it := by
  obtain ⟨_, h1, h2, h3, h4, h5, h6⟩ := Nm.ok_parts hok
  clear hok
  have h3' := Nm.last_cases h3
  clear h3
  dsimp only at h1 h2 h3' h4 h5 h6
  have hs := Nm.flag_off h6 rfl
  subst hs
  have hl := Nm.list_most h4 0 (by decide) rfl hw
  have hc : cond = 0 := by simpa [Im.condB] using h5
  clear h4 h5 h6
  rcases h3' with ⟨rfl, q1, q2, rfl, rfl⟩ | ⟨rfl, q1, q2, q3, q4, rfl⟩ | ⟨rfl, q1, q2, rfl⟩
  · exact absurd q1 (by decide)
  · have hd := Nm.one_none h1
    have hn := Nm.one_none h2
    have q5 := Wm.even_of (show Int.tmod imm 2 = 0 from q4)
    replace q2 : -16777216 ≤ imm := q2
    replace q3 : imm ≤ 16777214 := q3
    clear q1 q4 h1 h2
    have hf := fits4 imm q2 q3 q5
    obtain ⟨t, u, x, y, z, e1, e2, hs, t0, t1, hx, hy, z0, z1, e3⟩ := Wm.p4_parts q2 q3 q5
    have hR : Wm.rowW Wm.findF ⟨36, cond, rd, rn, 0, imm, 1, list, false⟩ it = some (61440 + Wm.p4a imm, 53248 + Wm.p4b imm) := by
      unfold Wm.rowW Wm.branchW
      dsimp only
      repeat (first | rw [if_neg (by omega)] | rw [if_pos (by omega)])
    rw [hR]
    rw [search_is, cands_36]
    simp only [searchC]
    rw [takesP_0, fieldsP_8]
    rw [if_pos rfl]
    rw [off4 imm hf]
    rw [join_off 4026585088 t u x y z (Wm.p4a imm) (Wm.p4b imm) e1 e2 (by omega) (by omega) (by omega) (by omega) (by omega) (by omega) (by omega) (by omega) (by omega) (by omega) (by omega) (by omega) (by omega) (by omega) (by omega) (by omega)]
    exact some_split _ _ _ (by omega) (by omega) (by omega)
  · exact absurd rfl q1
theorem we_43 (cond rd rn rm imm mode list : Int) (s it : Bool) (hok : Nm.okB ⟨43, cond, rd, rn, rm, imm, mode, list, s⟩ = true) (hw : Nm.Wide list) :
    (searchP 43 cond rd rn rm imm mode list s it formT).map splitW = Wm.rowW Wm.findF ⟨43, cond, rd, rn, rm, imm, mode, list, s⟩ it := by
  obtain ⟨_, h1, h2, h3, h4, h5, h6⟩ := Nm.ok_parts hok
  clear hok
  have h3' := Nm.last_cases h3
  clear h3
  dsimp only at h1 h2 h3' h4 h5 h6
  have hs := Nm.flag_off h6 rfl
  subst hs
  have hl := Nm.list_most h4 0 (by decide) rfl hw
  have hc : cond = 0 := by simpa [Im.condB] using h5
  clear h5 h6
  clear h4
  rcases h3' with ⟨rfl, q1, q2, rfl, rfl⟩ | ⟨rfl, q1, q2, q3, q4, rfl⟩ | ⟨rfl, q1, q2, rfl⟩
  · have hd := Nm.one_none h1
    have hn := Nm.one_none h2
    clear h1 h2
    have hR : Wm.rowW Wm.findF ⟨43, cond, rd, rn, 0, 0, 0, list, false⟩ it = some (62383, 32768) := by
      unfold Wm.rowW Wm.restW
      dsimp only
      repeat (first | rw [if_neg (by omega)] | rw [if_pos (by omega)])
    rw [hR]
    rw [search_is, cands_43]
    simp only [searchC]
    rw [takesP_0, fieldsP_2]
    rw [if_pos rfl]
    rw [join_reg 4088365056 rn rd 0 false (by omega) (by omega) (by omega) (by omega) (by omega) (by omega) (by omega) (by omega) (by omega) (by omega) (by omega) (.inl rfl) (by omega), show sB false = 0 from rfl]
    exact some_split _ _ _ (by omega) (by omega) (by omega)
  · exact absurd rfl q1
  · exact absurd rfl q1
theorem we_45 (cond rd rn rm imm mode list : Int) (s it : Bool) (hok : Nm.okB ⟨45, cond, rd, rn, rm, imm, mode, list, s⟩ = true) (hw : Nm.Wide list) :
    (searchP 45 cond rd rn rm imm mode list s it formT).map splitW = Wm.rowW Wm.findF ⟨45, cond, rd, rn, rm, imm, mode, list, s⟩ it := by
  obtain ⟨_, h1, h2, h3, h4, h5, h6⟩ := Nm.ok_parts hok
  clear hok
  have h3' := Nm.last_cases h3
  clear h3
  dsimp only at h1 h2 h3' h4 h5 h6
  have hs := Nm.flag_off h6 rfl
  subst hs
  have hl := Nm.list_most h4 0 (by decide) rfl hw
  have hc : cond = 0 := by simpa [Im.condB] using h5
  clear h5 h6
  clear h4
  rcases h3' with ⟨rfl, q1, q2, rfl, rfl⟩ | ⟨rfl, q1, q2, q3, q4, rfl⟩ | ⟨rfl, q1, q2, rfl⟩
  · exact absurd q2 (by decide)
  · exact absurd rfl q1
  · have hd := Nm.one_none h1
    have hn := Wm.one_12 h2
    have hm := Wm.one_12 q2
    clear h1 h2 q1 q2
    have hR : Wm.rowW Wm.findF ⟨45, cond, rd, rn, rm, 0, 2, list, false⟩ it = some (59600 + rn, 61440 + rm) := by
      unfold Wm.rowW Wm.restW
      dsimp only
      repeat (first | rw [if_neg (by omega)] | rw [if_pos (by omega)])
    rw [hR]
    rw [search_is, cands_45]
    simp only [searchC]
    rw [takesP_0, fieldsP_2]
    rw [if_pos rfl]
    rw [join_reg 3906007040 rn rd rm false (by omega) (by omega) (by omega) (by omega) (by omega) (by omega) (by omega) (by omega) (by omega) (by omega) (by omega) (.inl rfl) (by omega), show sB false = 0 from rfl]
    exact some_split _ _ _ (by omega) (by omega) (by omega)
theorem we_37 (cond rd rn rm imm mode list : Int) (s it : Bool) : (searchP 37 cond rd rn rm imm mode list s it formT).map splitW = Wm.rowW Wm.findF ⟨37, cond, rd, rn, rm, imm, mode, list, s⟩ it := by
  rw [search_is, cands_37]
  rfl
theorem we_38 (cond rd rn rm imm mode list : Int) (s it : Bool) : (searchP 38 cond rd rn rm imm mode list s it formT).map splitW = Wm.rowW Wm.findF ⟨38, cond, rd, rn, rm, imm, mode, list, s⟩ it := by
  rw [search_is, cands_38]
  rfl
theorem we_39 (cond rd rn rm imm mode list : Int) (s it : Bool) : (searchP 39 cond rd rn rm imm mode list s it formT).map splitW = Wm.rowW Wm.findF ⟨39, cond, rd, rn, rm, imm, mode, list, s⟩ it := by
  rw [search_is, cands_39]
  rfl
theorem we_42 (cond rd rn rm imm mode list : Int) (s it : Bool) : (searchP 42 cond rd rn rm imm mode list s it formT).map splitW = Wm.rowW Wm.findF ⟨42, cond, rd, rn, rm, imm, mode, list, s⟩ it := by
  rw [search_is, cands_42]
  rfl
theorem we_44 (cond rd rn rm imm mode list : Int) (s it : Bool) : (searchP 44 cond rd rn rm imm mode list s it formT).map splitW = Wm.rowW Wm.findF ⟨44, cond, rd, rn, rm, imm, mode, list, s⟩ it := by
  rw [search_is, cands_44]
  rfl
end Xw
end Go.Proofs.YtmofimgodmcdjaaDoor
