/- The same of branches and of the operations on data (text by gen_wg.py). -/
import Derived.Test.YtmofimgodmcdjaaDoorGw
namespace Go.Proofs.YtmofimgodmcdjaaDoor
namespace Wm
open Nm (I)

theorem p4_parts {n : Int} (h0 : -16777216 ≤ n) (h1 : n ≤ 16777214) (h2 : n % 2 = 0) :
    ∃ s t x y z, p4a n = s * 1024 + t ∧ p4b n = x * 8192 + y * 2048 + z ∧ (s = 0 ∨ s = 1) ∧ 0 ≤ t ∧ t < 1024 ∧ (x = 0 ∨ x = 1) ∧ (y = 0 ∨ y = 1) ∧ 0 ≤ z ∧ z < 2048 ∧ n = t * 4096 + (1 + x + s) % 2 * 8388608 + (1 + y + s) % 2 * 4194304 + z * 2 - s * 16777216 := by
  refine ⟨sg n, n / 4096 % 1024, (1 + n / 8388608 % 2 + sg n) % 2, (1 + n / 4194304 % 2 + sg n) % 2, n / 2 % 2048, rfl, rfl, ?_, by omega, by omega, by omega, by omega, by omega, by omega, ?_⟩
  · unfold sg
    split <;> omega
  · unfold sg
    split <;> omega
theorem p3_parts {n : Int} (h0 : -1048576 ≤ n) (h1 : n ≤ 1048574) (h2 : n % 2 = 0) :
    ∃ s t x y z, p3a n = s * 1024 + t ∧ p3b n = x * 8192 + y * 2048 + z ∧ (s = 0 ∨ s = 1) ∧ 0 ≤ t ∧ t < 64 ∧ (x = 0 ∨ x = 1) ∧ (y = 0 ∨ y = 1) ∧ 0 ≤ z ∧ z < 2048 ∧ n = t * 4096 + x * 262144 + y * 524288 + z * 2 - s * 1048576 := by
  refine ⟨sg n, n / 4096 % 64, n / 262144 % 2, n / 524288 % 2, n / 2 % 2048, rfl, rfl, ?_, by omega, by omega, by omega, by omega, by omega, by omega, ?_⟩
  · unfold sg
    split <;> omega
  · unfold sg
    split <;> omega
theorem fl_hi (op c d n m x o l : Int) (h : 12 ≤ op ∧ op ≤ 15) : fl ⟨op, c, d, n, m, x, o, l, false⟩ = 16 := if_pos (.inr h)
theorem dN_lo (op c d n m x o l : Int) (s : Bool) (h : op < 12) : dN ⟨op, c, d, n, m, x, o, l, s⟩ = d := if_neg (by dsimp only; omega)
theorem dN_hi (op c d n m x o l : Int) (s : Bool) (h : 12 ≤ op) : dN ⟨op, c, d, n, m, x, o, l, s⟩ = 15 := if_pos h
theorem rN_no (op c d n m x o l : Int) (s : Bool) (h : op < 10 ∨ 11 < op) : rN ⟨op, c, d, n, m, x, o, l, s⟩ = n := if_neg (by dsimp only; omega)
theorem rN_15 (op c d n m x o l : Int) (s : Bool) (h : op = 10 ∨ op = 11) : rN ⟨op, c, d, n, m, x, o, l, s⟩ = 15 := if_pos h
theorem decW_A (E : Int → Int) {a b : Int} (h0 : 59904 ≤ a) (h1 : a < 61440) : decW E a b = decA a b := by
  unfold decW
  rw [if_neg (by omega), if_neg (by omega), if_neg (by omega), if_neg (by omega), if_neg (by omega), if_pos h1]
theorem decA_at (E : Int → Int) {c f r d m : Int} (c0 : 0 ≤ c) (c1 : c ≤ 15) (hf : f = 0 ∨ f = 16) (r0 : 0 ≤ r) (r1 : r ≤ 15) (d0 : 0 ≤ d) (d1 : d ≤ 15) (m0 : 0 ≤ m) (m1 : m ≤ 15) :
    decW E (59904 + c * 32 + f + r) (d * 256 + m) = dataD c r d m 0 2 (f == 16) := by
  rw [decW_A E (by omega) (by omega)]
  unfold decA
  rw [if_neg (by omega), show (59904 + c * 32 + f + r - 59904) / 32 = c by omega, show (59904 + c * 32 + f + r) % 16 = r by omega, show (d * 256 + m) / 256 = d by omega, show (d * 256 + m) % 256 = m by omega]
  rcases hf with rfl | rfl
  · rw [show ((59904 + c * 32 + 0 + r) / 16 % 2 == 1) = ((0 : Int) == 16) from beq_eq_false_iff_ne.mpr (by omega)]
  · rw [show ((59904 + c * 32 + 16 + r) / 16 % 2 == 1) = ((16 : Int) == 16) from beq_iff_eq.mpr (by omega)]
theorem decC_at (E : Int → Int) {c f r d n : Int} (c0 : 0 ≤ c) (c1 : c ≤ 15) (hf : f = 0 ∨ f = 16) (r0 : 0 ≤ r) (r1 : r ≤ 15) (d0 : 0 ≤ d) (d1 : d ≤ 15) (n0 : 0 ≤ n) (n1 : n < 4096) :
    59392 ≤ 61440 + c * 32 + f + r + x1 n ∧ 61440 + c * 32 + f + r + x1 n < 65536 ∧ 0 ≤ d * 256 + x2 n ∧ d * 256 + x2 n < 65536 ∧
      decW E (61440 + c * 32 + f + r + x1 n) (d * 256 + x2 n) = dataD c r d 0 (E n) 1 (f == 16) := by
  have en := num_x (61440 + c * 32 + f + r) n (d * 256) n0 n1 (by omega) (by omega) (by omega)
  obtain ⟨u, v, w, e1, e2, u0, u1, v0, v1, w0, w1, e3⟩ := x_parts n0 n1
  rw [e1, e2] at en ⊢
  refine ⟨by omega, by omega, by omega, by omega, ?_⟩
  have hu : u = 0 ∨ u = 1 := by omega
  clear e1 e2 e3
  rw [decW_C E (by omega) (by omega) (by omega), decC_op E (by rcases hu with rfl | rfl <;> omega), en,
    show (61440 + c * 32 + f + r + u * 1024) / 32 % 16 = c by rcases hu with rfl | rfl <;> omega,
    show (61440 + c * 32 + f + r + u * 1024) % 16 = r by omega, show (d * 256 + (v * 4096 + w)) / 256 % 16 = d by omega]
  rcases hf with rfl | rfl
  · rw [show ((61440 + c * 32 + 0 + r + u * 1024) / 16 % 2 == 1) = ((0 : Int) == 16) from beq_eq_false_iff_ne.mpr (by omega)]
  · rw [show ((61440 + c * 32 + 16 + r + u * 1024) / 16 % 2 == 1) = ((16 : Int) == 16) from beq_iff_eq.mpr (by omega)]
theorem dec5_at (E : Int → Int) {r d n : Int} (r0 : 0 ≤ r) (r1 : r ≤ 14) (d0 : 0 ≤ d) (d1 : d ≤ 15) (n0 : 0 ≤ n) (n1 : n < 4096) :
    59392 ≤ 61952 + r + x1 n ∧ 61952 + r + x1 n < 65536 ∧ 0 ≤ d * 256 + x2 n ∧ d * 256 + x2 n < 65536 ∧
      decW E (61952 + r + x1 n) (d * 256 + x2 n) = ⟨5, 0, d, r, 0, n, 1, 0, false⟩ := by
  have en := num_x (61952 + r) n (d * 256) n0 n1 (by omega) (by omega) (by omega)
  obtain ⟨u, v, w, e1, e2, u0, u1, v0, v1, w0, w1, e3⟩ := x_parts n0 n1
  rw [e1, e2] at en ⊢
  refine ⟨by omega, by omega, by omega, by omega, ?_⟩
  clear e1 e2 e3
  rw [decW_C E (by omega) (by omega) (by omega)]
  rcases (show u = 0 ∨ u = 1 by omega) with rfl | rfl
  all_goals
    unfold decC
    rw [if_neg (by omega), if_neg (by omega), if_neg (by omega), if_pos (by omega), if_neg (by omega), en]
    exact Nm.mk_eq rfl rfl (by omega) (by omega) rfl rfl rfl rfl rfl
theorem dec7_at (E : Int → Int) {r d n : Int} (r0 : 0 ≤ r) (r1 : r ≤ 14) (d0 : 0 ≤ d) (d1 : d ≤ 15) (n0 : 0 ≤ n) (n1 : n < 4096) :
    59392 ≤ 62112 + r + x1 n ∧ 62112 + r + x1 n < 65536 ∧ 0 ≤ d * 256 + x2 n ∧ d * 256 + x2 n < 65536 ∧
      decW E (62112 + r + x1 n) (d * 256 + x2 n) = ⟨7, 0, d, r, 0, n, 1, 0, false⟩ := by
  have en := num_x (62112 + r) n (d * 256) n0 n1 (by omega) (by omega) (by omega)
  obtain ⟨u, v, w, e1, e2, u0, u1, v0, v1, w0, w1, e3⟩ := x_parts n0 n1
  rw [e1, e2] at en ⊢
  refine ⟨by omega, by omega, by omega, by omega, ?_⟩
  clear e1 e2 e3
  rw [decW_C E (by omega) (by omega) (by omega)]
  rcases (show u = 0 ∨ u = 1 by omega) with rfl | rfl
  all_goals
    unfold decC
    rw [if_neg (by omega), if_neg (by omega), if_neg (by omega), if_neg (by omega), if_neg (by omega), en]
    exact Nm.mk_eq rfl rfl (by omega) (by omega) rfl rfl rfl rfl rfl
theorem wdec_35 (E : Int → Int) (F : Int → Option Int) (cond rd rn rm imm mode list : Int) (s it : Bool) (a b : Int) (hok : Nm.okB ⟨35, cond, rd, rn, rm, imm, mode, list, s⟩ = true) (hw : Nm.Wide list) (he : rowW F ⟨35, cond, rd, rn, rm, imm, mode, list, s⟩ it = some (a, b)) :
    59392 ≤ a ∧ a < 65536 ∧ 0 ≤ b ∧ b < 65536 ∧ decW E a b = ⟨35, cond, rd, rn, rm, imm, mode, list, s⟩ := by
  obtain ⟨_, h1, h2, h3, h4, h5, h6⟩ := Nm.ok_parts hok
  clear hok
  have h3' := Nm.last_cases h3
  clear h3
  unfold rowW branchW at he
  dsimp only at he h1 h2 h3' h4 h5 h6
  have hs := Nm.flag_off h6 rfl
  subst hs
  have hl := Nm.list_most h4 0 (by decide) rfl hw
  have hc : 0 ≤ cond ∧ cond ≤ 14 := by simpa [Im.condB] using h5
  clear h4 h5 h6
  rcases h3' with ⟨rfl, q1, q2, rfl, rfl⟩ | ⟨rfl, q1, q2, q3, q4, rfl⟩ | ⟨rfl, q1, q2, rfl⟩
  · exact absurd q1 (by decide)
  · have hd := Nm.one_none h1
    have hn := Nm.one_none h2
    have q5 := even_of (show Int.tmod imm 2 = 0 from q4)
    replace q2 : -16777216 ≤ imm := q2
    replace q3 : imm ≤ 16777214 := q3
    clear q1 q4 h1 h2
    by_cases hb : cond = 14
    · repeat (first | rw [if_neg (by omega)] at he | rw [if_pos (by omega)] at he)
      obtain ⟨s, t, x, y, z, e1, e2, hs, t0, t1, hx, hy, z0, z1, e3⟩ := p4_parts q2 q3 q5
      rw [e1, e2] at he
      simp only [Option.some.injEq, Prod.mk.injEq] at he
      obtain ⟨rfl, rfl⟩ := he
      refine ⟨by omega, by omega, by omega, by omega, ?_⟩
      clear e1 e2
      unfold decW decB
      rcases hs with rfl | rfl <;> rcases hx with rfl | rfl <;> rcases hy with rfl | rfl
      all_goals
        repeat (first | rw [if_neg (by omega)] | rw [if_pos (by omega)])
        exact Nm.mk_eq (by omega) (by omega) (by omega) (by omega) (by omega) (by omega) (by omega) (by omega) rfl
    · repeat (first | rw [if_neg (by omega)] at he | rw [if_pos (by omega)] at he)
      split at he
      case isFalse => cases he
      rename_i hi
      obtain ⟨s, t, x, y, z, e1, e2, hs, t0, t1, hx, hy, z0, z1, e3⟩ := p3_parts hi.2.1 hi.2.2.1 q5
      rw [e1, e2] at he
      simp only [Option.some.injEq, Prod.mk.injEq] at he
      obtain ⟨rfl, rfl⟩ := he
      refine ⟨by omega, by omega, by omega, by omega, ?_⟩
      clear e1 e2 hi
      unfold decW decB
      rcases hs with rfl | rfl <;> rcases hx with rfl | rfl <;> rcases hy with rfl | rfl
      all_goals
        repeat (first | rw [if_neg (by omega)] | rw [if_pos (by omega)])
        exact Nm.mk_eq (by omega) (by omega) (by omega) (by omega) (by omega) (by omega) (by omega) (by omega) rfl
  · exact absurd rfl q1
theorem wdec_36 (E : Int → Int) (F : Int → Option Int) (cond rd rn rm imm mode list : Int) (s it : Bool) (a b : Int) (hok : Nm.okB ⟨36, cond, rd, rn, rm, imm, mode, list, s⟩ = true) (hw : Nm.Wide list) (he : rowW F ⟨36, cond, rd, rn, rm, imm, mode, list, s⟩ it = some (a, b)) :
    59392 ≤ a ∧ a < 65536 ∧ 0 ≤ b ∧ b < 65536 ∧ decW E a b = ⟨36, cond, rd, rn, rm, imm, mode, list, s⟩ := by
  obtain ⟨_, h1, h2, h3, h4, h5, h6⟩ := Nm.ok_parts hok
  clear hok
  have h3' := Nm.last_cases h3
  clear h3
  unfold rowW branchW at he
  dsimp only at he h1 h2 h3' h4 h5 h6
  have hs := Nm.flag_off h6 rfl
  subst hs
  have hl := Nm.list_most h4 0 (by decide) rfl hw
  have hc : cond = 0 := by simpa [Im.condB] using h5
  clear h4 h5 h6
  rcases h3' with ⟨rfl, q1, q2, rfl, rfl⟩ | ⟨rfl, q1, q2, q3, q4, rfl⟩ | ⟨rfl, q1, q2, rfl⟩
  · exact absurd q1 (by decide)
  · have hd := Nm.one_none h1
    have hn := Nm.one_none h2
    have q5 := even_of (show Int.tmod imm 2 = 0 from q4)
    replace q2 : -16777216 ≤ imm := q2
    replace q3 : imm ≤ 16777214 := q3
    clear q1 q4 h1 h2
    repeat (first | rw [if_neg (by omega)] at he | rw [if_pos (by omega)] at he)
    obtain ⟨s, t, x, y, z, e1, e2, hs, t0, t1, hx, hy, z0, z1, e3⟩ := p4_parts q2 q3 q5
    rw [e1, e2] at he
    simp only [Option.some.injEq, Prod.mk.injEq] at he
    obtain ⟨rfl, rfl⟩ := he
    refine ⟨by omega, by omega, by omega, by omega, ?_⟩
    clear e1 e2
    unfold decW decB
    rcases hs with rfl | rfl <;> rcases hx with rfl | rfl <;> rcases hy with rfl | rfl
    all_goals
      repeat (first | rw [if_neg (by omega)] | rw [if_pos (by omega)])
      exact Nm.mk_eq (by omega) (by omega) (by omega) (by omega) (by omega) (by omega) (by omega) (by omega) rfl
  · exact absurd rfl q1
theorem wdec_1t (E : Int → Int) (F : Int → Option Int) (hF : Finds F E) (cond rd rn rm imm mode list : Int) (it : Bool) (a b : Int) (hok : Nm.okB ⟨1, cond, rd, rn, rm, imm, mode, list, true⟩ = true) (hw : Nm.Wide list) (he : rowW F ⟨1, cond, rd, rn, rm, imm, mode, list, true⟩ it = some (a, b)) :
    59392 ≤ a ∧ a < 65536 ∧ 0 ≤ b ∧ b < 65536 ∧ decW E a b = ⟨1, cond, rd, rn, rm, imm, mode, list, true⟩ := by
  obtain ⟨_, h1, h2, h3, h4, h5, h6⟩ := Nm.ok_parts hok
  clear hok
  have h3' := Nm.last_cases h3
  clear h3
  unfold rowW dataW at he
  dsimp only at he h1 h2 h3' h4 h5 h6
  have hl := Nm.list_most h4 0 (by decide) rfl hw
  have hc : cond = 0 := by simpa [Im.condB] using h5
  clear h4 h5 h6
  rcases h3' with ⟨rfl, q1, q2, rfl, rfl⟩ | ⟨rfl, q1, q2, q3, q4, rfl⟩ | ⟨rfl, q1, q2, rfl⟩
  · exact absurd q1 (by decide)
  · replace q2 : 0 ≤ imm := q2
    replace q3 : imm ≤ 4294967295 := q3
    clear q1 q4
    have hd := one_12 h1
    have hn := one_12 h2
    clear h1 h2
    repeat (first | rw [if_neg (by omega)] at he | rw [if_pos (by omega)] at he)
    cases hx : F imm with
    | some n =>
      rw [hx] at he
      dsimp only at he
      obtain ⟨n0, n1, En⟩ := hF imm n hx
      rw [show opN 1 = 0 from rfl, fl_t, dN_lo _ _ _ _ _ _ _ _ _ (by decide), rN_no _ _ _ _ _ _ _ _ _ (by decide)] at he
      simp only [Option.some.injEq, Prod.mk.injEq] at he
      obtain ⟨rfl, rfl⟩ := he
      obtain ⟨g1, g2, g3, g4, g5⟩ := decC_at E (c := 0) (f := 16) (r := rn) (d := rd) (n := n) (by omega) (by omega) (by omega) (by omega) (by omega) (by omega) (by omega) n0 n1
      refine ⟨g1, g2, g3, g4, ?_⟩
      rw [g5, En]
      unfold dataD
      repeat (first | rw [if_neg (by omega)] | rw [if_pos (by omega)])
      exact Nm.mk_eq (by omega) (by omega) (by omega) (by omega) (by omega) (by omega) (by omega) (by omega) rfl
    | none =>
      rw [hx] at he
      dsimp only at he
      repeat (first | rw [if_neg (by omega)] at he | rw [if_pos (by omega)] at he)
      cases he
  · have hm := one_12 q2
    clear q1 q2
    have hd := one_12 h1
    have hn := one_12 h2
    clear h1 h2
    repeat (first | rw [if_neg (by omega)] at he | rw [if_pos (by omega)] at he)
    rw [show opN 1 = 0 from rfl, fl_t, dN_lo _ _ _ _ _ _ _ _ _ (by decide), rN_no _ _ _ _ _ _ _ _ _ (by decide)] at he
    split at he
    case isFalse => cases he
    rename_i hi
    simp only [Option.some.injEq, Prod.mk.injEq] at he
    obtain ⟨rfl, rfl⟩ := he
    refine ⟨by omega, by omega, by omega, by omega, ?_⟩
    have g5 := decA_at E (c := 0) (f := 16) (r := rn) (d := rd) (m := rm) (by omega) (by omega) (by omega) (by omega) (by omega) (by omega) (by omega) (by omega) (by omega)
    rw [g5]
    unfold dataD
    repeat (first | rw [if_neg (by omega)] | rw [if_pos (by omega)])
    exact Nm.mk_eq (by omega) (by omega) (by omega) (by omega) (by omega) (by omega) (by omega) (by omega) rfl
theorem wdec_1f (E : Int → Int) (F : Int → Option Int) (hF : Finds F E) (cond rd rn rm imm mode list : Int) (it : Bool) (a b : Int) (hok : Nm.okB ⟨1, cond, rd, rn, rm, imm, mode, list, false⟩ = true) (hw : Nm.Wide list) (he : rowW F ⟨1, cond, rd, rn, rm, imm, mode, list, false⟩ it = some (a, b)) :
    59392 ≤ a ∧ a < 65536 ∧ 0 ≤ b ∧ b < 65536 ∧ decW E a b = ⟨1, cond, rd, rn, rm, imm, mode, list, false⟩ := by
  obtain ⟨_, h1, h2, h3, h4, h5, h6⟩ := Nm.ok_parts hok
  clear hok
  have h3' := Nm.last_cases h3
  clear h3
  unfold rowW dataW at he
  dsimp only at he h1 h2 h3' h4 h5 h6
  have hl := Nm.list_most h4 0 (by decide) rfl hw
  have hc : cond = 0 := by simpa [Im.condB] using h5
  clear h4 h5 h6
  rcases h3' with ⟨rfl, q1, q2, rfl, rfl⟩ | ⟨rfl, q1, q2, q3, q4, rfl⟩ | ⟨rfl, q1, q2, rfl⟩
  · exact absurd q1 (by decide)
  · replace q2 : 0 ≤ imm := q2
    replace q3 : imm ≤ 4294967295 := q3
    clear q1 q4
    have hd := one_12 h1
    have hn := one_12 h2
    clear h1 h2
    repeat (first | rw [if_neg (by omega)] at he | rw [if_pos (by omega)] at he)
    cases hx : F imm with
    | some n =>
      rw [hx] at he
      dsimp only at he
      obtain ⟨n0, n1, En⟩ := hF imm n hx
      rw [show opN 1 = 0 from rfl, fl_f _ _ _ _ _ _ _ _ (by decide), dN_lo _ _ _ _ _ _ _ _ _ (by decide), rN_no _ _ _ _ _ _ _ _ _ (by decide)] at he
      simp only [Option.some.injEq, Prod.mk.injEq] at he
      obtain ⟨rfl, rfl⟩ := he
      obtain ⟨g1, g2, g3, g4, g5⟩ := decC_at E (c := 0) (f := 0) (r := rn) (d := rd) (n := n) (by omega) (by omega) (by omega) (by omega) (by omega) (by omega) (by omega) n0 n1
      refine ⟨g1, g2, g3, g4, ?_⟩
      rw [g5, En]
      unfold dataD
      repeat (first | rw [if_neg (by omega)] | rw [if_pos (by omega)])
      exact Nm.mk_eq (by omega) (by omega) (by omega) (by omega) (by omega) (by omega) (by omega) (by omega) rfl
    | none =>
      rw [hx] at he
      dsimp only at he
      repeat (first | rw [if_neg (by omega)] at he | rw [if_pos (by omega)] at he)
      cases he
  · have hm := one_12 q2
    clear q1 q2
    have hd := one_12 h1
    have hn := one_12 h2
    clear h1 h2
    repeat (first | rw [if_neg (by omega)] at he | rw [if_pos (by omega)] at he)
    rw [show opN 1 = 0 from rfl, fl_f _ _ _ _ _ _ _ _ (by decide), dN_lo _ _ _ _ _ _ _ _ _ (by decide), rN_no _ _ _ _ _ _ _ _ _ (by decide)] at he
    split at he
    case isFalse => cases he
    rename_i hi
    simp only [Option.some.injEq, Prod.mk.injEq] at he
    obtain ⟨rfl, rfl⟩ := he
    refine ⟨by omega, by omega, by omega, by omega, ?_⟩
    have g5 := decA_at E (c := 0) (f := 0) (r := rn) (d := rd) (m := rm) (by omega) (by omega) (by omega) (by omega) (by omega) (by omega) (by omega) (by omega) (by omega)
    rw [g5]
    unfold dataD
    repeat (first | rw [if_neg (by omega)] | rw [if_pos (by omega)])
    exact Nm.mk_eq (by omega) (by omega) (by omega) (by omega) (by omega) (by omega) (by omega) (by omega) rfl
theorem wdec_1 (E : Int → Int) (F : Int → Option Int) (hF : Finds F E) (cond rd rn rm imm mode list : Int) (s it : Bool) (a b : Int) (hok : Nm.okB ⟨1, cond, rd, rn, rm, imm, mode, list, s⟩ = true) (hw : Nm.Wide list) (he : rowW F ⟨1, cond, rd, rn, rm, imm, mode, list, s⟩ it = some (a, b)) :
    59392 ≤ a ∧ a < 65536 ∧ 0 ≤ b ∧ b < 65536 ∧ decW E a b = ⟨1, cond, rd, rn, rm, imm, mode, list, s⟩ := by
  cases s
  · exact wdec_1f E F hF cond rd rn rm imm mode list it a b hok hw he
  · exact wdec_1t E F hF cond rd rn rm imm mode list it a b hok hw he
theorem wdec_2t (E : Int → Int) (F : Int → Option Int) (hF : Finds F E) (cond rd rn rm imm mode list : Int) (it : Bool) (a b : Int) (hok : Nm.okB ⟨2, cond, rd, rn, rm, imm, mode, list, true⟩ = true) (hw : Nm.Wide list) (he : rowW F ⟨2, cond, rd, rn, rm, imm, mode, list, true⟩ it = some (a, b)) :
    59392 ≤ a ∧ a < 65536 ∧ 0 ≤ b ∧ b < 65536 ∧ decW E a b = ⟨2, cond, rd, rn, rm, imm, mode, list, true⟩ := by
  obtain ⟨_, h1, h2, h3, h4, h5, h6⟩ := Nm.ok_parts hok
  clear hok
  have h3' := Nm.last_cases h3
  clear h3
  unfold rowW dataW at he
  dsimp only at he h1 h2 h3' h4 h5 h6
  have hl := Nm.list_most h4 0 (by decide) rfl hw
  have hc : cond = 0 := by simpa [Im.condB] using h5
  clear h4 h5 h6
  rcases h3' with ⟨rfl, q1, q2, rfl, rfl⟩ | ⟨rfl, q1, q2, q3, q4, rfl⟩ | ⟨rfl, q1, q2, rfl⟩
  · exact absurd q1 (by decide)
  · replace q2 : 0 ≤ imm := q2
    replace q3 : imm ≤ 4294967295 := q3
    clear q1 q4
    have hd := one_12 h1
    have hn := one_12 h2
    clear h1 h2
    repeat (first | rw [if_neg (by omega)] at he | rw [if_pos (by omega)] at he)
    cases hx : F imm with
    | some n =>
      rw [hx] at he
      dsimp only at he
      obtain ⟨n0, n1, En⟩ := hF imm n hx
      rw [show opN 2 = 4 from rfl, fl_t, dN_lo _ _ _ _ _ _ _ _ _ (by decide), rN_no _ _ _ _ _ _ _ _ _ (by decide)] at he
      simp only [Option.some.injEq, Prod.mk.injEq] at he
      obtain ⟨rfl, rfl⟩ := he
      obtain ⟨g1, g2, g3, g4, g5⟩ := decC_at E (c := 4) (f := 16) (r := rn) (d := rd) (n := n) (by omega) (by omega) (by omega) (by omega) (by omega) (by omega) (by omega) n0 n1
      refine ⟨g1, g2, g3, g4, ?_⟩
      rw [g5, En]
      unfold dataD
      repeat (first | rw [if_neg (by omega)] | rw [if_pos (by omega)])
      exact Nm.mk_eq (by omega) (by omega) (by omega) (by omega) (by omega) (by omega) (by omega) (by omega) rfl
    | none =>
      rw [hx] at he
      dsimp only at he
      repeat (first | rw [if_neg (by omega)] at he | rw [if_pos (by omega)] at he)
      cases he
  · have hm := one_12 q2
    clear q1 q2
    have hd := one_12 h1
    have hn := one_12 h2
    clear h1 h2
    repeat (first | rw [if_neg (by omega)] at he | rw [if_pos (by omega)] at he)
    rw [show opN 2 = 4 from rfl, fl_t, dN_lo _ _ _ _ _ _ _ _ _ (by decide), rN_no _ _ _ _ _ _ _ _ _ (by decide)] at he
    split at he
    case isFalse => cases he
    rename_i hi
    simp only [Option.some.injEq, Prod.mk.injEq] at he
    obtain ⟨rfl, rfl⟩ := he
    refine ⟨by omega, by omega, by omega, by omega, ?_⟩
    have g5 := decA_at E (c := 4) (f := 16) (r := rn) (d := rd) (m := rm) (by omega) (by omega) (by omega) (by omega) (by omega) (by omega) (by omega) (by omega) (by omega)
    rw [g5]
    unfold dataD
    repeat (first | rw [if_neg (by omega)] | rw [if_pos (by omega)])
    exact Nm.mk_eq (by omega) (by omega) (by omega) (by omega) (by omega) (by omega) (by omega) (by omega) rfl
theorem wdec_2f (E : Int → Int) (F : Int → Option Int) (hF : Finds F E) (cond rd rn rm imm mode list : Int) (it : Bool) (a b : Int) (hok : Nm.okB ⟨2, cond, rd, rn, rm, imm, mode, list, false⟩ = true) (hw : Nm.Wide list) (he : rowW F ⟨2, cond, rd, rn, rm, imm, mode, list, false⟩ it = some (a, b)) :
    59392 ≤ a ∧ a < 65536 ∧ 0 ≤ b ∧ b < 65536 ∧ decW E a b = ⟨2, cond, rd, rn, rm, imm, mode, list, false⟩ := by
  obtain ⟨_, h1, h2, h3, h4, h5, h6⟩ := Nm.ok_parts hok
  clear hok
  have h3' := Nm.last_cases h3
  clear h3
  unfold rowW dataW at he
  dsimp only at he h1 h2 h3' h4 h5 h6
  have hl := Nm.list_most h4 0 (by decide) rfl hw
  have hc : cond = 0 := by simpa [Im.condB] using h5
  clear h4 h5 h6
  rcases h3' with ⟨rfl, q1, q2, rfl, rfl⟩ | ⟨rfl, q1, q2, q3, q4, rfl⟩ | ⟨rfl, q1, q2, rfl⟩
  · exact absurd q1 (by decide)
  · replace q2 : 0 ≤ imm := q2
    replace q3 : imm ≤ 4294967295 := q3
    clear q1 q4
    have hd := one_12 h1
    have hn := one_12 h2
    clear h1 h2
    repeat (first | rw [if_neg (by omega)] at he | rw [if_pos (by omega)] at he)
    cases hx : F imm with
    | some n =>
      rw [hx] at he
      dsimp only at he
      obtain ⟨n0, n1, En⟩ := hF imm n hx
      rw [show opN 2 = 4 from rfl, fl_f _ _ _ _ _ _ _ _ (by decide), dN_lo _ _ _ _ _ _ _ _ _ (by decide), rN_no _ _ _ _ _ _ _ _ _ (by decide)] at he
      simp only [Option.some.injEq, Prod.mk.injEq] at he
      obtain ⟨rfl, rfl⟩ := he
      obtain ⟨g1, g2, g3, g4, g5⟩ := decC_at E (c := 4) (f := 0) (r := rn) (d := rd) (n := n) (by omega) (by omega) (by omega) (by omega) (by omega) (by omega) (by omega) n0 n1
      refine ⟨g1, g2, g3, g4, ?_⟩
      rw [g5, En]
      unfold dataD
      repeat (first | rw [if_neg (by omega)] | rw [if_pos (by omega)])
      exact Nm.mk_eq (by omega) (by omega) (by omega) (by omega) (by omega) (by omega) (by omega) (by omega) rfl
    | none =>
      rw [hx] at he
      dsimp only at he
      repeat (first | rw [if_neg (by omega)] at he | rw [if_pos (by omega)] at he)
      cases he
  · have hm := one_12 q2
    clear q1 q2
    have hd := one_12 h1
    have hn := one_12 h2
    clear h1 h2
    repeat (first | rw [if_neg (by omega)] at he | rw [if_pos (by omega)] at he)
    rw [show opN 2 = 4 from rfl, fl_f _ _ _ _ _ _ _ _ (by decide), dN_lo _ _ _ _ _ _ _ _ _ (by decide), rN_no _ _ _ _ _ _ _ _ _ (by decide)] at he
    split at he
    case isFalse => cases he
    rename_i hi
    simp only [Option.some.injEq, Prod.mk.injEq] at he
    obtain ⟨rfl, rfl⟩ := he
    refine ⟨by omega, by omega, by omega, by omega, ?_⟩
    have g5 := decA_at E (c := 4) (f := 0) (r := rn) (d := rd) (m := rm) (by omega) (by omega) (by omega) (by omega) (by omega) (by omega) (by omega) (by omega) (by omega)
    rw [g5]
    unfold dataD
    repeat (first | rw [if_neg (by omega)] | rw [if_pos (by omega)])
    exact Nm.mk_eq (by omega) (by omega) (by omega) (by omega) (by omega) (by omega) (by omega) (by omega) rfl
theorem wdec_2 (E : Int → Int) (F : Int → Option Int) (hF : Finds F E) (cond rd rn rm imm mode list : Int) (s it : Bool) (a b : Int) (hok : Nm.okB ⟨2, cond, rd, rn, rm, imm, mode, list, s⟩ = true) (hw : Nm.Wide list) (he : rowW F ⟨2, cond, rd, rn, rm, imm, mode, list, s⟩ it = some (a, b)) :
    59392 ≤ a ∧ a < 65536 ∧ 0 ≤ b ∧ b < 65536 ∧ decW E a b = ⟨2, cond, rd, rn, rm, imm, mode, list, s⟩ := by
  cases s
  · exact wdec_2f E F hF cond rd rn rm imm mode list it a b hok hw he
  · exact wdec_2t E F hF cond rd rn rm imm mode list it a b hok hw he
theorem wdec_3t (E : Int → Int) (F : Int → Option Int) (hF : Finds F E) (cond rd rn rm imm mode list : Int) (it : Bool) (a b : Int) (hok : Nm.okB ⟨3, cond, rd, rn, rm, imm, mode, list, true⟩ = true) (hw : Nm.Wide list) (he : rowW F ⟨3, cond, rd, rn, rm, imm, mode, list, true⟩ it = some (a, b)) :
    59392 ≤ a ∧ a < 65536 ∧ 0 ≤ b ∧ b < 65536 ∧ decW E a b = ⟨3, cond, rd, rn, rm, imm, mode, list, true⟩ := by
  obtain ⟨_, h1, h2, h3, h4, h5, h6⟩ := Nm.ok_parts hok
  clear hok
  have h3' := Nm.last_cases h3
  clear h3
  unfold rowW dataW at he
  dsimp only at he h1 h2 h3' h4 h5 h6
  have hl := Nm.list_most h4 0 (by decide) rfl hw
  have hc : cond = 0 := by simpa [Im.condB] using h5
  clear h4 h5 h6
  rcases h3' with ⟨rfl, q1, q2, rfl, rfl⟩ | ⟨rfl, q1, q2, q3, q4, rfl⟩ | ⟨rfl, q1, q2, rfl⟩
  · exact absurd q1 (by decide)
  · replace q2 : 0 ≤ imm := q2
    replace q3 : imm ≤ 4294967295 := q3
    clear q1 q4
    have hd := one_12 h1
    have hn := one_12 h2
    clear h1 h2
    repeat (first | rw [if_neg (by omega)] at he | rw [if_pos (by omega)] at he)
    cases hx : F imm with
    | some n =>
      rw [hx] at he
      dsimp only at he
      obtain ⟨n0, n1, En⟩ := hF imm n hx
      rw [show opN 3 = 2 from rfl, fl_t, dN_lo _ _ _ _ _ _ _ _ _ (by decide), rN_no _ _ _ _ _ _ _ _ _ (by decide)] at he
      simp only [Option.some.injEq, Prod.mk.injEq] at he
      obtain ⟨rfl, rfl⟩ := he
      obtain ⟨g1, g2, g3, g4, g5⟩ := decC_at E (c := 2) (f := 16) (r := rn) (d := rd) (n := n) (by omega) (by omega) (by omega) (by omega) (by omega) (by omega) (by omega) n0 n1
      refine ⟨g1, g2, g3, g4, ?_⟩
      rw [g5, En]
      unfold dataD
      repeat (first | rw [if_neg (by omega)] | rw [if_pos (by omega)])
      exact Nm.mk_eq (by omega) (by omega) (by omega) (by omega) (by omega) (by omega) (by omega) (by omega) rfl
    | none =>
      rw [hx] at he
      dsimp only at he
      repeat (first | rw [if_neg (by omega)] at he | rw [if_pos (by omega)] at he)
      cases he
  · have hm := one_12 q2
    clear q1 q2
    have hd := one_12 h1
    have hn := one_12 h2
    clear h1 h2
    repeat (first | rw [if_neg (by omega)] at he | rw [if_pos (by omega)] at he)
    rw [show opN 3 = 2 from rfl, fl_t, dN_lo _ _ _ _ _ _ _ _ _ (by decide), rN_no _ _ _ _ _ _ _ _ _ (by decide)] at he
    split at he
    case isFalse => cases he
    rename_i hi
    simp only [Option.some.injEq, Prod.mk.injEq] at he
    obtain ⟨rfl, rfl⟩ := he
    refine ⟨by omega, by omega, by omega, by omega, ?_⟩
    have g5 := decA_at E (c := 2) (f := 16) (r := rn) (d := rd) (m := rm) (by omega) (by omega) (by omega) (by omega) (by omega) (by omega) (by omega) (by omega) (by omega)
    rw [g5]
    unfold dataD
    repeat (first | rw [if_neg (by omega)] | rw [if_pos (by omega)])
    exact Nm.mk_eq (by omega) (by omega) (by omega) (by omega) (by omega) (by omega) (by omega) (by omega) rfl
theorem wdec_3f (E : Int → Int) (F : Int → Option Int) (hF : Finds F E) (cond rd rn rm imm mode list : Int) (it : Bool) (a b : Int) (hok : Nm.okB ⟨3, cond, rd, rn, rm, imm, mode, list, false⟩ = true) (hw : Nm.Wide list) (he : rowW F ⟨3, cond, rd, rn, rm, imm, mode, list, false⟩ it = some (a, b)) :
    59392 ≤ a ∧ a < 65536 ∧ 0 ≤ b ∧ b < 65536 ∧ decW E a b = ⟨3, cond, rd, rn, rm, imm, mode, list, false⟩ := by
  obtain ⟨_, h1, h2, h3, h4, h5, h6⟩ := Nm.ok_parts hok
  clear hok
  have h3' := Nm.last_cases h3
  clear h3
  unfold rowW dataW at he
  dsimp only at he h1 h2 h3' h4 h5 h6
  have hl := Nm.list_most h4 0 (by decide) rfl hw
  have hc : cond = 0 := by simpa [Im.condB] using h5
  clear h4 h5 h6
  rcases h3' with ⟨rfl, q1, q2, rfl, rfl⟩ | ⟨rfl, q1, q2, q3, q4, rfl⟩ | ⟨rfl, q1, q2, rfl⟩
  · exact absurd q1 (by decide)
  · replace q2 : 0 ≤ imm := q2
    replace q3 : imm ≤ 4294967295 := q3
    clear q1 q4
    have hd := one_12 h1
    have hn := one_12 h2
    clear h1 h2
    repeat (first | rw [if_neg (by omega)] at he | rw [if_pos (by omega)] at he)
    cases hx : F imm with
    | some n =>
      rw [hx] at he
      dsimp only at he
      obtain ⟨n0, n1, En⟩ := hF imm n hx
      rw [show opN 3 = 2 from rfl, fl_f _ _ _ _ _ _ _ _ (by decide), dN_lo _ _ _ _ _ _ _ _ _ (by decide), rN_no _ _ _ _ _ _ _ _ _ (by decide)] at he
      simp only [Option.some.injEq, Prod.mk.injEq] at he
      obtain ⟨rfl, rfl⟩ := he
      obtain ⟨g1, g2, g3, g4, g5⟩ := decC_at E (c := 2) (f := 0) (r := rn) (d := rd) (n := n) (by omega) (by omega) (by omega) (by omega) (by omega) (by omega) (by omega) n0 n1
      refine ⟨g1, g2, g3, g4, ?_⟩
      rw [g5, En]
      unfold dataD
      repeat (first | rw [if_neg (by omega)] | rw [if_pos (by omega)])
      exact Nm.mk_eq (by omega) (by omega) (by omega) (by omega) (by omega) (by omega) (by omega) (by omega) rfl
    | none =>
      rw [hx] at he
      dsimp only at he
      repeat (first | rw [if_neg (by omega)] at he | rw [if_pos (by omega)] at he)
      cases he
  · have hm := one_12 q2
    clear q1 q2
    have hd := one_12 h1
    have hn := one_12 h2
    clear h1 h2
    repeat (first | rw [if_neg (by omega)] at he | rw [if_pos (by omega)] at he)
    rw [show opN 3 = 2 from rfl, fl_f _ _ _ _ _ _ _ _ (by decide), dN_lo _ _ _ _ _ _ _ _ _ (by decide), rN_no _ _ _ _ _ _ _ _ _ (by decide)] at he
    split at he
    case isFalse => cases he
    rename_i hi
    simp only [Option.some.injEq, Prod.mk.injEq] at he
    obtain ⟨rfl, rfl⟩ := he
    refine ⟨by omega, by omega, by omega, by omega, ?_⟩
    have g5 := decA_at E (c := 2) (f := 0) (r := rn) (d := rd) (m := rm) (by omega) (by omega) (by omega) (by omega) (by omega) (by omega) (by omega) (by omega) (by omega)
    rw [g5]
    unfold dataD
    repeat (first | rw [if_neg (by omega)] | rw [if_pos (by omega)])
    exact Nm.mk_eq (by omega) (by omega) (by omega) (by omega) (by omega) (by omega) (by omega) (by omega) rfl
theorem wdec_3 (E : Int → Int) (F : Int → Option Int) (hF : Finds F E) (cond rd rn rm imm mode list : Int) (s it : Bool) (a b : Int) (hok : Nm.okB ⟨3, cond, rd, rn, rm, imm, mode, list, s⟩ = true) (hw : Nm.Wide list) (he : rowW F ⟨3, cond, rd, rn, rm, imm, mode, list, s⟩ it = some (a, b)) :
    59392 ≤ a ∧ a < 65536 ∧ 0 ≤ b ∧ b < 65536 ∧ decW E a b = ⟨3, cond, rd, rn, rm, imm, mode, list, s⟩ := by
  cases s
  · exact wdec_3f E F hF cond rd rn rm imm mode list it a b hok hw he
  · exact wdec_3t E F hF cond rd rn rm imm mode list it a b hok hw he
theorem wdec_4t (E : Int → Int) (F : Int → Option Int) (hF : Finds F E) (cond rd rn rm imm mode list : Int) (it : Bool) (a b : Int) (hok : Nm.okB ⟨4, cond, rd, rn, rm, imm, mode, list, true⟩ = true) (hw : Nm.Wide list) (he : rowW F ⟨4, cond, rd, rn, rm, imm, mode, list, true⟩ it = some (a, b)) :
    59392 ≤ a ∧ a < 65536 ∧ 0 ≤ b ∧ b < 65536 ∧ decW E a b = ⟨4, cond, rd, rn, rm, imm, mode, list, true⟩ := by
  obtain ⟨_, h1, h2, h3, h4, h5, h6⟩ := Nm.ok_parts hok
  clear hok
  have h3' := Nm.last_cases h3
  clear h3
  unfold rowW dataW at he
  dsimp only at he h1 h2 h3' h4 h5 h6
  have hl := Nm.list_most h4 0 (by decide) rfl hw
  have hc : cond = 0 := by simpa [Im.condB] using h5
  clear h4 h5 h6
  rcases h3' with ⟨rfl, q1, q2, rfl, rfl⟩ | ⟨rfl, q1, q2, q3, q4, rfl⟩ | ⟨rfl, q1, q2, rfl⟩
  · exact absurd q1 (by decide)
  · replace q2 : 0 ≤ imm := q2
    replace q3 : imm ≤ 4294967295 := q3
    clear q1 q4
    have hd := one_12 h1
    have hn := one_12 h2
    clear h1 h2
    repeat (first | rw [if_neg (by omega)] at he | rw [if_pos (by omega)] at he)
    cases hx : F imm with
    | some n =>
      rw [hx] at he
      dsimp only at he
      obtain ⟨n0, n1, En⟩ := hF imm n hx
      rw [show opN 4 = 1 from rfl, fl_t, dN_lo _ _ _ _ _ _ _ _ _ (by decide), rN_no _ _ _ _ _ _ _ _ _ (by decide)] at he
      simp only [Option.some.injEq, Prod.mk.injEq] at he
      obtain ⟨rfl, rfl⟩ := he
      obtain ⟨g1, g2, g3, g4, g5⟩ := decC_at E (c := 1) (f := 16) (r := rn) (d := rd) (n := n) (by omega) (by omega) (by omega) (by omega) (by omega) (by omega) (by omega) n0 n1
      refine ⟨g1, g2, g3, g4, ?_⟩
      rw [g5, En]
      unfold dataD
      repeat (first | rw [if_neg (by omega)] | rw [if_pos (by omega)])
      exact Nm.mk_eq (by omega) (by omega) (by omega) (by omega) (by omega) (by omega) (by omega) (by omega) rfl
    | none =>
      rw [hx] at he
      dsimp only at he
      repeat (first | rw [if_neg (by omega)] at he | rw [if_pos (by omega)] at he)
      cases he
  · have hm := one_12 q2
    clear q1 q2
    have hd := one_12 h1
    have hn := one_12 h2
    clear h1 h2
    repeat (first | rw [if_neg (by omega)] at he | rw [if_pos (by omega)] at he)
    rw [show opN 4 = 1 from rfl, fl_t, dN_lo _ _ _ _ _ _ _ _ _ (by decide), rN_no _ _ _ _ _ _ _ _ _ (by decide)] at he
    split at he
    case isFalse => cases he
    rename_i hi
    simp only [Option.some.injEq, Prod.mk.injEq] at he
    obtain ⟨rfl, rfl⟩ := he
    refine ⟨by omega, by omega, by omega, by omega, ?_⟩
    have g5 := decA_at E (c := 1) (f := 16) (r := rn) (d := rd) (m := rm) (by omega) (by omega) (by omega) (by omega) (by omega) (by omega) (by omega) (by omega) (by omega)
    rw [g5]
    unfold dataD
    repeat (first | rw [if_neg (by omega)] | rw [if_pos (by omega)])
    exact Nm.mk_eq (by omega) (by omega) (by omega) (by omega) (by omega) (by omega) (by omega) (by omega) rfl
theorem wdec_4f (E : Int → Int) (F : Int → Option Int) (hF : Finds F E) (cond rd rn rm imm mode list : Int) (it : Bool) (a b : Int) (hok : Nm.okB ⟨4, cond, rd, rn, rm, imm, mode, list, false⟩ = true) (hw : Nm.Wide list) (he : rowW F ⟨4, cond, rd, rn, rm, imm, mode, list, false⟩ it = some (a, b)) :
    59392 ≤ a ∧ a < 65536 ∧ 0 ≤ b ∧ b < 65536 ∧ decW E a b = ⟨4, cond, rd, rn, rm, imm, mode, list, false⟩ := by
  obtain ⟨_, h1, h2, h3, h4, h5, h6⟩ := Nm.ok_parts hok
  clear hok
  have h3' := Nm.last_cases h3
  clear h3
  unfold rowW dataW at he
  dsimp only at he h1 h2 h3' h4 h5 h6
  have hl := Nm.list_most h4 0 (by decide) rfl hw
  have hc : cond = 0 := by simpa [Im.condB] using h5
  clear h4 h5 h6
  rcases h3' with ⟨rfl, q1, q2, rfl, rfl⟩ | ⟨rfl, q1, q2, q3, q4, rfl⟩ | ⟨rfl, q1, q2, rfl⟩
  · exact absurd q1 (by decide)
  · replace q2 : 0 ≤ imm := q2
    replace q3 : imm ≤ 4294967295 := q3
    clear q1 q4
    have hd := one_12 h1
    have hn := one_12 h2
    clear h1 h2
    repeat (first | rw [if_neg (by omega)] at he | rw [if_pos (by omega)] at he)
    cases hx : F imm with
    | some n =>
      rw [hx] at he
      dsimp only at he
      obtain ⟨n0, n1, En⟩ := hF imm n hx
      rw [show opN 4 = 1 from rfl, fl_f _ _ _ _ _ _ _ _ (by decide), dN_lo _ _ _ _ _ _ _ _ _ (by decide), rN_no _ _ _ _ _ _ _ _ _ (by decide)] at he
      simp only [Option.some.injEq, Prod.mk.injEq] at he
      obtain ⟨rfl, rfl⟩ := he
      obtain ⟨g1, g2, g3, g4, g5⟩ := decC_at E (c := 1) (f := 0) (r := rn) (d := rd) (n := n) (by omega) (by omega) (by omega) (by omega) (by omega) (by omega) (by omega) n0 n1
      refine ⟨g1, g2, g3, g4, ?_⟩
      rw [g5, En]
      unfold dataD
      repeat (first | rw [if_neg (by omega)] | rw [if_pos (by omega)])
      exact Nm.mk_eq (by omega) (by omega) (by omega) (by omega) (by omega) (by omega) (by omega) (by omega) rfl
    | none =>
      rw [hx] at he
      dsimp only at he
      repeat (first | rw [if_neg (by omega)] at he | rw [if_pos (by omega)] at he)
      cases he
  · have hm := one_12 q2
    clear q1 q2
    have hd := one_12 h1
    have hn := one_12 h2
    clear h1 h2
    repeat (first | rw [if_neg (by omega)] at he | rw [if_pos (by omega)] at he)
    rw [show opN 4 = 1 from rfl, fl_f _ _ _ _ _ _ _ _ (by decide), dN_lo _ _ _ _ _ _ _ _ _ (by decide), rN_no _ _ _ _ _ _ _ _ _ (by decide)] at he
    split at he
    case isFalse => cases he
    rename_i hi
    simp only [Option.some.injEq, Prod.mk.injEq] at he
    obtain ⟨rfl, rfl⟩ := he
    refine ⟨by omega, by omega, by omega, by omega, ?_⟩
    have g5 := decA_at E (c := 1) (f := 0) (r := rn) (d := rd) (m := rm) (by omega) (by omega) (by omega) (by omega) (by omega) (by omega) (by omega) (by omega) (by omega)
    rw [g5]
    unfold dataD
    repeat (first | rw [if_neg (by omega)] | rw [if_pos (by omega)])
    exact Nm.mk_eq (by omega) (by omega) (by omega) (by omega) (by omega) (by omega) (by omega) (by omega) rfl
theorem wdec_4 (E : Int → Int) (F : Int → Option Int) (hF : Finds F E) (cond rd rn rm imm mode list : Int) (s it : Bool) (a b : Int) (hok : Nm.okB ⟨4, cond, rd, rn, rm, imm, mode, list, s⟩ = true) (hw : Nm.Wide list) (he : rowW F ⟨4, cond, rd, rn, rm, imm, mode, list, s⟩ it = some (a, b)) :
    59392 ≤ a ∧ a < 65536 ∧ 0 ≤ b ∧ b < 65536 ∧ decW E a b = ⟨4, cond, rd, rn, rm, imm, mode, list, s⟩ := by
  cases s
  · exact wdec_4f E F hF cond rd rn rm imm mode list it a b hok hw he
  · exact wdec_4t E F hF cond rd rn rm imm mode list it a b hok hw he
theorem wdec_5t (E : Int → Int) (F : Int → Option Int) (hF : Finds F E) (cond rd rn rm imm mode list : Int) (it : Bool) (a b : Int) (hok : Nm.okB ⟨5, cond, rd, rn, rm, imm, mode, list, true⟩ = true) (hw : Nm.Wide list) (he : rowW F ⟨5, cond, rd, rn, rm, imm, mode, list, true⟩ it = some (a, b)) :
    59392 ≤ a ∧ a < 65536 ∧ 0 ≤ b ∧ b < 65536 ∧ decW E a b = ⟨5, cond, rd, rn, rm, imm, mode, list, true⟩ := by
  obtain ⟨_, h1, h2, h3, h4, h5, h6⟩ := Nm.ok_parts hok
  clear hok
  have h3' := Nm.last_cases h3
  clear h3
  unfold rowW dataW at he
  dsimp only at he h1 h2 h3' h4 h5 h6
  have hl := Nm.list_most h4 0 (by decide) rfl hw
  have hc : cond = 0 := by simpa [Im.condB] using h5
  clear h4 h5 h6
  rcases h3' with ⟨rfl, q1, q2, rfl, rfl⟩ | ⟨rfl, q1, q2, q3, q4, rfl⟩ | ⟨rfl, q1, q2, rfl⟩
  · exact absurd q1 (by decide)
  · replace q2 : 0 ≤ imm := q2
    replace q3 : imm ≤ 4294967295 := q3
    clear q1 q4
    have hd := one_12 h1
    have hn := one_12 h2
    clear h1 h2
    repeat (first | rw [if_neg (by omega)] at he | rw [if_pos (by omega)] at he)
    cases hx : F imm with
    | some n =>
      rw [hx] at he
      dsimp only at he
      obtain ⟨n0, n1, En⟩ := hF imm n hx
      rw [show opN 5 = 8 from rfl, fl_t, dN_lo _ _ _ _ _ _ _ _ _ (by decide), rN_no _ _ _ _ _ _ _ _ _ (by decide)] at he
      simp only [Option.some.injEq, Prod.mk.injEq] at he
      obtain ⟨rfl, rfl⟩ := he
      obtain ⟨g1, g2, g3, g4, g5⟩ := decC_at E (c := 8) (f := 16) (r := rn) (d := rd) (n := n) (by omega) (by omega) (by omega) (by omega) (by omega) (by omega) (by omega) n0 n1
      refine ⟨g1, g2, g3, g4, ?_⟩
      rw [g5, En]
      unfold dataD
      repeat (first | rw [if_neg (by omega)] | rw [if_pos (by omega)])
      exact Nm.mk_eq (by omega) (by omega) (by omega) (by omega) (by omega) (by omega) (by omega) (by omega) rfl
    | none =>
      rw [hx] at he
      dsimp only at he
      rw [if_neg (fun h => Bool.noConfusion h.2.1)] at he
      cases he
  · have hm := one_12 q2
    clear q1 q2
    have hd := one_12 h1
    have hn := one_12 h2
    clear h1 h2
    repeat (first | rw [if_neg (by omega)] at he | rw [if_pos (by omega)] at he)
    rw [show opN 5 = 8 from rfl, fl_t, dN_lo _ _ _ _ _ _ _ _ _ (by decide), rN_no _ _ _ _ _ _ _ _ _ (by decide)] at he
    split at he
    case isFalse => cases he
    rename_i hi
    simp only [Option.some.injEq, Prod.mk.injEq] at he
    obtain ⟨rfl, rfl⟩ := he
    refine ⟨by omega, by omega, by omega, by omega, ?_⟩
    have g5 := decA_at E (c := 8) (f := 16) (r := rn) (d := rd) (m := rm) (by omega) (by omega) (by omega) (by omega) (by omega) (by omega) (by omega) (by omega) (by omega)
    rw [g5]
    unfold dataD
    repeat (first | rw [if_neg (by omega)] | rw [if_pos (by omega)])
    exact Nm.mk_eq (by omega) (by omega) (by omega) (by omega) (by omega) (by omega) (by omega) (by omega) rfl
theorem wdec_5f (E : Int → Int) (F : Int → Option Int) (hF : Finds F E) (cond rd rn rm imm mode list : Int) (it : Bool) (a b : Int) (hok : Nm.okB ⟨5, cond, rd, rn, rm, imm, mode, list, false⟩ = true) (hw : Nm.Wide list) (he : rowW F ⟨5, cond, rd, rn, rm, imm, mode, list, false⟩ it = some (a, b)) :
    59392 ≤ a ∧ a < 65536 ∧ 0 ≤ b ∧ b < 65536 ∧ decW E a b = ⟨5, cond, rd, rn, rm, imm, mode, list, false⟩ := by
  obtain ⟨_, h1, h2, h3, h4, h5, h6⟩ := Nm.ok_parts hok
  clear hok
  have h3' := Nm.last_cases h3
  clear h3
  unfold rowW dataW at he
  dsimp only at he h1 h2 h3' h4 h5 h6
  have hl := Nm.list_most h4 0 (by decide) rfl hw
  have hc : cond = 0 := by simpa [Im.condB] using h5
  clear h4 h5 h6
  rcases h3' with ⟨rfl, q1, q2, rfl, rfl⟩ | ⟨rfl, q1, q2, q3, q4, rfl⟩ | ⟨rfl, q1, q2, rfl⟩
  · exact absurd q1 (by decide)
  · replace q2 : 0 ≤ imm := q2
    replace q3 : imm ≤ 4294967295 := q3
    clear q1 q4
    have hd := one_12 h1
    have hn := one_12 h2
    clear h1 h2
    repeat (first | rw [if_neg (by omega)] at he | rw [if_pos (by omega)] at he)
    cases hx : F imm with
    | some n =>
      rw [hx] at he
      dsimp only at he
      obtain ⟨n0, n1, En⟩ := hF imm n hx
      rw [show opN 5 = 8 from rfl, fl_f _ _ _ _ _ _ _ _ (by decide), dN_lo _ _ _ _ _ _ _ _ _ (by decide), rN_no _ _ _ _ _ _ _ _ _ (by decide)] at he
      simp only [Option.some.injEq, Prod.mk.injEq] at he
      obtain ⟨rfl, rfl⟩ := he
      obtain ⟨g1, g2, g3, g4, g5⟩ := decC_at E (c := 8) (f := 0) (r := rn) (d := rd) (n := n) (by omega) (by omega) (by omega) (by omega) (by omega) (by omega) (by omega) n0 n1
      refine ⟨g1, g2, g3, g4, ?_⟩
      rw [g5, En]
      unfold dataD
      repeat (first | rw [if_neg (by omega)] | rw [if_pos (by omega)])
      exact Nm.mk_eq (by omega) (by omega) (by omega) (by omega) (by omega) (by omega) (by omega) (by omega) rfl
    | none =>
      rw [hx] at he
      dsimp only at he
      by_cases hi : imm ≤ 4095
      · rw [if_pos ⟨.inl rfl, rfl, hi⟩] at he
        repeat (first | rw [if_neg (by omega)] at he | rw [if_pos (by omega)] at he)
        rw [dN_lo _ _ _ _ _ _ _ _ _ (by decide), rN_no _ _ _ _ _ _ _ _ _ (by decide)] at he
        simp only [Option.some.injEq, Prod.mk.injEq] at he
        obtain ⟨rfl, rfl⟩ := he
        obtain ⟨g1, g2, g3, g4, g5⟩ := dec5_at E (r := rn) (d := rd) (n := imm) (by omega) (by omega) (by omega) (by omega) (by omega) (by omega)
        refine ⟨g1, g2, g3, g4, ?_⟩
        rw [g5]
        exact Nm.mk_eq (by omega) (by omega) (by omega) (by omega) (by omega) (by omega) (by omega) (by omega) rfl
      · rw [if_neg (fun h => hi h.2.2)] at he
        cases he
  · have hm := one_12 q2
    clear q1 q2
    have hd := one_12 h1
    have hn := one_12 h2
    clear h1 h2
    repeat (first | rw [if_neg (by omega)] at he | rw [if_pos (by omega)] at he)
    rw [show opN 5 = 8 from rfl, fl_f _ _ _ _ _ _ _ _ (by decide), dN_lo _ _ _ _ _ _ _ _ _ (by decide), rN_no _ _ _ _ _ _ _ _ _ (by decide)] at he
    split at he
    case isFalse => cases he
    rename_i hi
    simp only [Option.some.injEq, Prod.mk.injEq] at he
    obtain ⟨rfl, rfl⟩ := he
    refine ⟨by omega, by omega, by omega, by omega, ?_⟩
    have g5 := decA_at E (c := 8) (f := 0) (r := rn) (d := rd) (m := rm) (by omega) (by omega) (by omega) (by omega) (by omega) (by omega) (by omega) (by omega) (by omega)
    rw [g5]
    unfold dataD
    repeat (first | rw [if_neg (by omega)] | rw [if_pos (by omega)])
    exact Nm.mk_eq (by omega) (by omega) (by omega) (by omega) (by omega) (by omega) (by omega) (by omega) rfl
theorem wdec_5 (E : Int → Int) (F : Int → Option Int) (hF : Finds F E) (cond rd rn rm imm mode list : Int) (s it : Bool) (a b : Int) (hok : Nm.okB ⟨5, cond, rd, rn, rm, imm, mode, list, s⟩ = true) (hw : Nm.Wide list) (he : rowW F ⟨5, cond, rd, rn, rm, imm, mode, list, s⟩ it = some (a, b)) :
    59392 ≤ a ∧ a < 65536 ∧ 0 ≤ b ∧ b < 65536 ∧ decW E a b = ⟨5, cond, rd, rn, rm, imm, mode, list, s⟩ := by
  cases s
  · exact wdec_5f E F hF cond rd rn rm imm mode list it a b hok hw he
  · exact wdec_5t E F hF cond rd rn rm imm mode list it a b hok hw he
theorem wdec_6t (E : Int → Int) (F : Int → Option Int) (hF : Finds F E) (cond rd rn rm imm mode list : Int) (it : Bool) (a b : Int) (hok : Nm.okB ⟨6, cond, rd, rn, rm, imm, mode, list, true⟩ = true) (hw : Nm.Wide list) (he : rowW F ⟨6, cond, rd, rn, rm, imm, mode, list, true⟩ it = some (a, b)) :
    59392 ≤ a ∧ a < 65536 ∧ 0 ≤ b ∧ b < 65536 ∧ decW E a b = ⟨6, cond, rd, rn, rm, imm, mode, list, true⟩ := by
  obtain ⟨_, h1, h2, h3, h4, h5, h6⟩ := Nm.ok_parts hok
  clear hok
  have h3' := Nm.last_cases h3
  clear h3
  unfold rowW dataW at he
  dsimp only at he h1 h2 h3' h4 h5 h6
  have hl := Nm.list_most h4 0 (by decide) rfl hw
  have hc : cond = 0 := by simpa [Im.condB] using h5
  clear h4 h5 h6
  rcases h3' with ⟨rfl, q1, q2, rfl, rfl⟩ | ⟨rfl, q1, q2, q3, q4, rfl⟩ | ⟨rfl, q1, q2, rfl⟩
  · exact absurd q1 (by decide)
  · replace q2 : 0 ≤ imm := q2
    replace q3 : imm ≤ 4294967295 := q3
    clear q1 q4
    have hd := one_12 h1
    have hn := one_12 h2
    clear h1 h2
    repeat (first | rw [if_neg (by omega)] at he | rw [if_pos (by omega)] at he)
    cases hx : F imm with
    | some n =>
      rw [hx] at he
      dsimp only at he
      obtain ⟨n0, n1, En⟩ := hF imm n hx
      rw [show opN 6 = 10 from rfl, fl_t, dN_lo _ _ _ _ _ _ _ _ _ (by decide), rN_no _ _ _ _ _ _ _ _ _ (by decide)] at he
      simp only [Option.some.injEq, Prod.mk.injEq] at he
      obtain ⟨rfl, rfl⟩ := he
      obtain ⟨g1, g2, g3, g4, g5⟩ := decC_at E (c := 10) (f := 16) (r := rn) (d := rd) (n := n) (by omega) (by omega) (by omega) (by omega) (by omega) (by omega) (by omega) n0 n1
      refine ⟨g1, g2, g3, g4, ?_⟩
      rw [g5, En]
      unfold dataD
      repeat (first | rw [if_neg (by omega)] | rw [if_pos (by omega)])
      exact Nm.mk_eq (by omega) (by omega) (by omega) (by omega) (by omega) (by omega) (by omega) (by omega) rfl
    | none =>
      rw [hx] at he
      dsimp only at he
      repeat (first | rw [if_neg (by omega)] at he | rw [if_pos (by omega)] at he)
      cases he
  · have hm := one_12 q2
    clear q1 q2
    have hd := one_12 h1
    have hn := one_12 h2
    clear h1 h2
    repeat (first | rw [if_neg (by omega)] at he | rw [if_pos (by omega)] at he)
    rw [show opN 6 = 10 from rfl, fl_t, dN_lo _ _ _ _ _ _ _ _ _ (by decide), rN_no _ _ _ _ _ _ _ _ _ (by decide)] at he
    split at he
    case isFalse => cases he
    rename_i hi
    simp only [Option.some.injEq, Prod.mk.injEq] at he
    obtain ⟨rfl, rfl⟩ := he
    refine ⟨by omega, by omega, by omega, by omega, ?_⟩
    have g5 := decA_at E (c := 10) (f := 16) (r := rn) (d := rd) (m := rm) (by omega) (by omega) (by omega) (by omega) (by omega) (by omega) (by omega) (by omega) (by omega)
    rw [g5]
    unfold dataD
    repeat (first | rw [if_neg (by omega)] | rw [if_pos (by omega)])
    exact Nm.mk_eq (by omega) (by omega) (by omega) (by omega) (by omega) (by omega) (by omega) (by omega) rfl
theorem wdec_6f (E : Int → Int) (F : Int → Option Int) (hF : Finds F E) (cond rd rn rm imm mode list : Int) (it : Bool) (a b : Int) (hok : Nm.okB ⟨6, cond, rd, rn, rm, imm, mode, list, false⟩ = true) (hw : Nm.Wide list) (he : rowW F ⟨6, cond, rd, rn, rm, imm, mode, list, false⟩ it = some (a, b)) :
    59392 ≤ a ∧ a < 65536 ∧ 0 ≤ b ∧ b < 65536 ∧ decW E a b = ⟨6, cond, rd, rn, rm, imm, mode, list, false⟩ := by
  obtain ⟨_, h1, h2, h3, h4, h5, h6⟩ := Nm.ok_parts hok
  clear hok
  have h3' := Nm.last_cases h3
  clear h3
  unfold rowW dataW at he
  dsimp only at he h1 h2 h3' h4 h5 h6
  have hl := Nm.list_most h4 0 (by decide) rfl hw
  have hc : cond = 0 := by simpa [Im.condB] using h5
  clear h4 h5 h6
  rcases h3' with ⟨rfl, q1, q2, rfl, rfl⟩ | ⟨rfl, q1, q2, q3, q4, rfl⟩ | ⟨rfl, q1, q2, rfl⟩
  · exact absurd q1 (by decide)
  · replace q2 : 0 ≤ imm := q2
    replace q3 : imm ≤ 4294967295 := q3
    clear q1 q4
    have hd := one_12 h1
    have hn := one_12 h2
    clear h1 h2
    repeat (first | rw [if_neg (by omega)] at he | rw [if_pos (by omega)] at he)
    cases hx : F imm with
    | some n =>
      rw [hx] at he
      dsimp only at he
      obtain ⟨n0, n1, En⟩ := hF imm n hx
      rw [show opN 6 = 10 from rfl, fl_f _ _ _ _ _ _ _ _ (by decide), dN_lo _ _ _ _ _ _ _ _ _ (by decide), rN_no _ _ _ _ _ _ _ _ _ (by decide)] at he
      simp only [Option.some.injEq, Prod.mk.injEq] at he
      obtain ⟨rfl, rfl⟩ := he
      obtain ⟨g1, g2, g3, g4, g5⟩ := decC_at E (c := 10) (f := 0) (r := rn) (d := rd) (n := n) (by omega) (by omega) (by omega) (by omega) (by omega) (by omega) (by omega) n0 n1
      refine ⟨g1, g2, g3, g4, ?_⟩
      rw [g5, En]
      unfold dataD
      repeat (first | rw [if_neg (by omega)] | rw [if_pos (by omega)])
      exact Nm.mk_eq (by omega) (by omega) (by omega) (by omega) (by omega) (by omega) (by omega) (by omega) rfl
    | none =>
      rw [hx] at he
      dsimp only at he
      repeat (first | rw [if_neg (by omega)] at he | rw [if_pos (by omega)] at he)
      cases he
  · have hm := one_12 q2
    clear q1 q2
    have hd := one_12 h1
    have hn := one_12 h2
    clear h1 h2
    repeat (first | rw [if_neg (by omega)] at he | rw [if_pos (by omega)] at he)
    rw [show opN 6 = 10 from rfl, fl_f _ _ _ _ _ _ _ _ (by decide), dN_lo _ _ _ _ _ _ _ _ _ (by decide), rN_no _ _ _ _ _ _ _ _ _ (by decide)] at he
    split at he
    case isFalse => cases he
    rename_i hi
    simp only [Option.some.injEq, Prod.mk.injEq] at he
    obtain ⟨rfl, rfl⟩ := he
    refine ⟨by omega, by omega, by omega, by omega, ?_⟩
    have g5 := decA_at E (c := 10) (f := 0) (r := rn) (d := rd) (m := rm) (by omega) (by omega) (by omega) (by omega) (by omega) (by omega) (by omega) (by omega) (by omega)
    rw [g5]
    unfold dataD
    repeat (first | rw [if_neg (by omega)] | rw [if_pos (by omega)])
    exact Nm.mk_eq (by omega) (by omega) (by omega) (by omega) (by omega) (by omega) (by omega) (by omega) rfl
theorem wdec_6 (E : Int → Int) (F : Int → Option Int) (hF : Finds F E) (cond rd rn rm imm mode list : Int) (s it : Bool) (a b : Int) (hok : Nm.okB ⟨6, cond, rd, rn, rm, imm, mode, list, s⟩ = true) (hw : Nm.Wide list) (he : rowW F ⟨6, cond, rd, rn, rm, imm, mode, list, s⟩ it = some (a, b)) :
    59392 ≤ a ∧ a < 65536 ∧ 0 ≤ b ∧ b < 65536 ∧ decW E a b = ⟨6, cond, rd, rn, rm, imm, mode, list, s⟩ := by
  cases s
  · exact wdec_6f E F hF cond rd rn rm imm mode list it a b hok hw he
  · exact wdec_6t E F hF cond rd rn rm imm mode list it a b hok hw he
theorem wdec_7t (E : Int → Int) (F : Int → Option Int) (hF : Finds F E) (cond rd rn rm imm mode list : Int) (it : Bool) (a b : Int) (hok : Nm.okB ⟨7, cond, rd, rn, rm, imm, mode, list, true⟩ = true) (hw : Nm.Wide list) (he : rowW F ⟨7, cond, rd, rn, rm, imm, mode, list, true⟩ it = some (a, b)) :
    59392 ≤ a ∧ a < 65536 ∧ 0 ≤ b ∧ b < 65536 ∧ decW E a b = ⟨7, cond, rd, rn, rm, imm, mode, list, true⟩ := by
  obtain ⟨_, h1, h2, h3, h4, h5, h6⟩ := Nm.ok_parts hok
  clear hok
  have h3' := Nm.last_cases h3
  clear h3
  unfold rowW dataW at he
  dsimp only at he h1 h2 h3' h4 h5 h6
  have hl := Nm.list_most h4 0 (by decide) rfl hw
  have hc : cond = 0 := by simpa [Im.condB] using h5
  clear h4 h5 h6
  rcases h3' with ⟨rfl, q1, q2, rfl, rfl⟩ | ⟨rfl, q1, q2, q3, q4, rfl⟩ | ⟨rfl, q1, q2, rfl⟩
  · exact absurd q1 (by decide)
  · replace q2 : 0 ≤ imm := q2
    replace q3 : imm ≤ 4294967295 := q3
    clear q1 q4
    have hd := one_12 h1
    have hn := one_12 h2
    clear h1 h2
    repeat (first | rw [if_neg (by omega)] at he | rw [if_pos (by omega)] at he)
    cases hx : F imm with
    | some n =>
      rw [hx] at he
      dsimp only at he
      obtain ⟨n0, n1, En⟩ := hF imm n hx
      rw [show opN 7 = 13 from rfl, fl_t, dN_lo _ _ _ _ _ _ _ _ _ (by decide), rN_no _ _ _ _ _ _ _ _ _ (by decide)] at he
      simp only [Option.some.injEq, Prod.mk.injEq] at he
      obtain ⟨rfl, rfl⟩ := he
      obtain ⟨g1, g2, g3, g4, g5⟩ := decC_at E (c := 13) (f := 16) (r := rn) (d := rd) (n := n) (by omega) (by omega) (by omega) (by omega) (by omega) (by omega) (by omega) n0 n1
      refine ⟨g1, g2, g3, g4, ?_⟩
      rw [g5, En]
      unfold dataD
      repeat (first | rw [if_neg (by omega)] | rw [if_pos (by omega)])
      exact Nm.mk_eq (by omega) (by omega) (by omega) (by omega) (by omega) (by omega) (by omega) (by omega) rfl
    | none =>
      rw [hx] at he
      dsimp only at he
      rw [if_neg (fun h => Bool.noConfusion h.2.1)] at he
      cases he
  · have hm := one_12 q2
    clear q1 q2
    have hd := one_12 h1
    have hn := one_12 h2
    clear h1 h2
    repeat (first | rw [if_neg (by omega)] at he | rw [if_pos (by omega)] at he)
    rw [show opN 7 = 13 from rfl, fl_t, dN_lo _ _ _ _ _ _ _ _ _ (by decide), rN_no _ _ _ _ _ _ _ _ _ (by decide)] at he
    split at he
    case isFalse => cases he
    rename_i hi
    simp only [Option.some.injEq, Prod.mk.injEq] at he
    obtain ⟨rfl, rfl⟩ := he
    refine ⟨by omega, by omega, by omega, by omega, ?_⟩
    have g5 := decA_at E (c := 13) (f := 16) (r := rn) (d := rd) (m := rm) (by omega) (by omega) (by omega) (by omega) (by omega) (by omega) (by omega) (by omega) (by omega)
    rw [g5]
    unfold dataD
    repeat (first | rw [if_neg (by omega)] | rw [if_pos (by omega)])
    exact Nm.mk_eq (by omega) (by omega) (by omega) (by omega) (by omega) (by omega) (by omega) (by omega) rfl
theorem wdec_7f (E : Int → Int) (F : Int → Option Int) (hF : Finds F E) (cond rd rn rm imm mode list : Int) (it : Bool) (a b : Int) (hok : Nm.okB ⟨7, cond, rd, rn, rm, imm, mode, list, false⟩ = true) (hw : Nm.Wide list) (he : rowW F ⟨7, cond, rd, rn, rm, imm, mode, list, false⟩ it = some (a, b)) :
    59392 ≤ a ∧ a < 65536 ∧ 0 ≤ b ∧ b < 65536 ∧ decW E a b = ⟨7, cond, rd, rn, rm, imm, mode, list, false⟩ := by
  obtain ⟨_, h1, h2, h3, h4, h5, h6⟩ := Nm.ok_parts hok
  clear hok
  have h3' := Nm.last_cases h3
  clear h3
  unfold rowW dataW at he
  dsimp only at he h1 h2 h3' h4 h5 h6
  have hl := Nm.list_most h4 0 (by decide) rfl hw
  have hc : cond = 0 := by simpa [Im.condB] using h5
  clear h4 h5 h6
  rcases h3' with ⟨rfl, q1, q2, rfl, rfl⟩ | ⟨rfl, q1, q2, q3, q4, rfl⟩ | ⟨rfl, q1, q2, rfl⟩
  · exact absurd q1 (by decide)
  · replace q2 : 0 ≤ imm := q2
    replace q3 : imm ≤ 4294967295 := q3
    clear q1 q4
    have hd := one_12 h1
    have hn := one_12 h2
    clear h1 h2
    repeat (first | rw [if_neg (by omega)] at he | rw [if_pos (by omega)] at he)
    cases hx : F imm with
    | some n =>
      rw [hx] at he
      dsimp only at he
      obtain ⟨n0, n1, En⟩ := hF imm n hx
      rw [show opN 7 = 13 from rfl, fl_f _ _ _ _ _ _ _ _ (by decide), dN_lo _ _ _ _ _ _ _ _ _ (by decide), rN_no _ _ _ _ _ _ _ _ _ (by decide)] at he
      simp only [Option.some.injEq, Prod.mk.injEq] at he
      obtain ⟨rfl, rfl⟩ := he
      obtain ⟨g1, g2, g3, g4, g5⟩ := decC_at E (c := 13) (f := 0) (r := rn) (d := rd) (n := n) (by omega) (by omega) (by omega) (by omega) (by omega) (by omega) (by omega) n0 n1
      refine ⟨g1, g2, g3, g4, ?_⟩
      rw [g5, En]
      unfold dataD
      repeat (first | rw [if_neg (by omega)] | rw [if_pos (by omega)])
      exact Nm.mk_eq (by omega) (by omega) (by omega) (by omega) (by omega) (by omega) (by omega) (by omega) rfl
    | none =>
      rw [hx] at he
      dsimp only at he
      by_cases hi : imm ≤ 4095
      · rw [if_pos ⟨.inr rfl, rfl, hi⟩] at he
        repeat (first | rw [if_neg (by omega)] at he | rw [if_pos (by omega)] at he)
        rw [dN_lo _ _ _ _ _ _ _ _ _ (by decide), rN_no _ _ _ _ _ _ _ _ _ (by decide)] at he
        simp only [Option.some.injEq, Prod.mk.injEq] at he
        obtain ⟨rfl, rfl⟩ := he
        obtain ⟨g1, g2, g3, g4, g5⟩ := dec7_at E (r := rn) (d := rd) (n := imm) (by omega) (by omega) (by omega) (by omega) (by omega) (by omega)
        refine ⟨g1, g2, g3, g4, ?_⟩
        rw [g5]
        exact Nm.mk_eq (by omega) (by omega) (by omega) (by omega) (by omega) (by omega) (by omega) (by omega) rfl
      · rw [if_neg (fun h => hi h.2.2)] at he
        cases he
  · have hm := one_12 q2
    clear q1 q2
    have hd := one_12 h1
    have hn := one_12 h2
    clear h1 h2
    repeat (first | rw [if_neg (by omega)] at he | rw [if_pos (by omega)] at he)
    rw [show opN 7 = 13 from rfl, fl_f _ _ _ _ _ _ _ _ (by decide), dN_lo _ _ _ _ _ _ _ _ _ (by decide), rN_no _ _ _ _ _ _ _ _ _ (by decide)] at he
    split at he
    case isFalse => cases he
    rename_i hi
    simp only [Option.some.injEq, Prod.mk.injEq] at he
    obtain ⟨rfl, rfl⟩ := he
    refine ⟨by omega, by omega, by omega, by omega, ?_⟩
    have g5 := decA_at E (c := 13) (f := 0) (r := rn) (d := rd) (m := rm) (by omega) (by omega) (by omega) (by omega) (by omega) (by omega) (by omega) (by omega) (by omega)
    rw [g5]
    unfold dataD
    repeat (first | rw [if_neg (by omega)] | rw [if_pos (by omega)])
    exact Nm.mk_eq (by omega) (by omega) (by omega) (by omega) (by omega) (by omega) (by omega) (by omega) rfl
theorem wdec_7 (E : Int → Int) (F : Int → Option Int) (hF : Finds F E) (cond rd rn rm imm mode list : Int) (s it : Bool) (a b : Int) (hok : Nm.okB ⟨7, cond, rd, rn, rm, imm, mode, list, s⟩ = true) (hw : Nm.Wide list) (he : rowW F ⟨7, cond, rd, rn, rm, imm, mode, list, s⟩ it = some (a, b)) :
    59392 ≤ a ∧ a < 65536 ∧ 0 ≤ b ∧ b < 65536 ∧ decW E a b = ⟨7, cond, rd, rn, rm, imm, mode, list, s⟩ := by
  cases s
  · exact wdec_7f E F hF cond rd rn rm imm mode list it a b hok hw he
  · exact wdec_7t E F hF cond rd rn rm imm mode list it a b hok hw he
theorem wdec_8t (E : Int → Int) (F : Int → Option Int) (hF : Finds F E) (cond rd rn rm imm mode list : Int) (it : Bool) (a b : Int) (hok : Nm.okB ⟨8, cond, rd, rn, rm, imm, mode, list, true⟩ = true) (hw : Nm.Wide list) (he : rowW F ⟨8, cond, rd, rn, rm, imm, mode, list, true⟩ it = some (a, b)) :
    59392 ≤ a ∧ a < 65536 ∧ 0 ≤ b ∧ b < 65536 ∧ decW E a b = ⟨8, cond, rd, rn, rm, imm, mode, list, true⟩ := by
  obtain ⟨_, h1, h2, h3, h4, h5, h6⟩ := Nm.ok_parts hok
  clear hok
  have h3' := Nm.last_cases h3
  clear h3
  unfold rowW dataW at he
  dsimp only at he h1 h2 h3' h4 h5 h6
  have hl := Nm.list_most h4 0 (by decide) rfl hw
  have hc : cond = 0 := by simpa [Im.condB] using h5
  clear h4 h5 h6
  rcases h3' with ⟨rfl, q1, q2, rfl, rfl⟩ | ⟨rfl, q1, q2, q3, q4, rfl⟩ | ⟨rfl, q1, q2, rfl⟩
  · exact absurd q1 (by decide)
  · replace q2 : 0 ≤ imm := q2
    replace q3 : imm ≤ 4294967295 := q3
    clear q1 q4
    have hd := one_12 h1
    have hn := one_12 h2
    clear h1 h2
    repeat (first | rw [if_neg (by omega)] at he | rw [if_pos (by omega)] at he)
    cases hx : F imm with
    | some n =>
      rw [hx] at he
      dsimp only at he
      obtain ⟨n0, n1, En⟩ := hF imm n hx
      rw [show opN 8 = 11 from rfl, fl_t, dN_lo _ _ _ _ _ _ _ _ _ (by decide), rN_no _ _ _ _ _ _ _ _ _ (by decide)] at he
      simp only [Option.some.injEq, Prod.mk.injEq] at he
      obtain ⟨rfl, rfl⟩ := he
      obtain ⟨g1, g2, g3, g4, g5⟩ := decC_at E (c := 11) (f := 16) (r := rn) (d := rd) (n := n) (by omega) (by omega) (by omega) (by omega) (by omega) (by omega) (by omega) n0 n1
      refine ⟨g1, g2, g3, g4, ?_⟩
      rw [g5, En]
      unfold dataD
      repeat (first | rw [if_neg (by omega)] | rw [if_pos (by omega)])
      exact Nm.mk_eq (by omega) (by omega) (by omega) (by omega) (by omega) (by omega) (by omega) (by omega) rfl
    | none =>
      rw [hx] at he
      dsimp only at he
      repeat (first | rw [if_neg (by omega)] at he | rw [if_pos (by omega)] at he)
      cases he
  · have hm := one_12 q2
    clear q1 q2
    have hd := one_12 h1
    have hn := one_12 h2
    clear h1 h2
    repeat (first | rw [if_neg (by omega)] at he | rw [if_pos (by omega)] at he)
    rw [show opN 8 = 11 from rfl, fl_t, dN_lo _ _ _ _ _ _ _ _ _ (by decide), rN_no _ _ _ _ _ _ _ _ _ (by decide)] at he
    split at he
    case isFalse => cases he
    rename_i hi
    simp only [Option.some.injEq, Prod.mk.injEq] at he
    obtain ⟨rfl, rfl⟩ := he
    refine ⟨by omega, by omega, by omega, by omega, ?_⟩
    have g5 := decA_at E (c := 11) (f := 16) (r := rn) (d := rd) (m := rm) (by omega) (by omega) (by omega) (by omega) (by omega) (by omega) (by omega) (by omega) (by omega)
    rw [g5]
    unfold dataD
    repeat (first | rw [if_neg (by omega)] | rw [if_pos (by omega)])
    exact Nm.mk_eq (by omega) (by omega) (by omega) (by omega) (by omega) (by omega) (by omega) (by omega) rfl
theorem wdec_8f (E : Int → Int) (F : Int → Option Int) (hF : Finds F E) (cond rd rn rm imm mode list : Int) (it : Bool) (a b : Int) (hok : Nm.okB ⟨8, cond, rd, rn, rm, imm, mode, list, false⟩ = true) (hw : Nm.Wide list) (he : rowW F ⟨8, cond, rd, rn, rm, imm, mode, list, false⟩ it = some (a, b)) :
    59392 ≤ a ∧ a < 65536 ∧ 0 ≤ b ∧ b < 65536 ∧ decW E a b = ⟨8, cond, rd, rn, rm, imm, mode, list, false⟩ := by
  obtain ⟨_, h1, h2, h3, h4, h5, h6⟩ := Nm.ok_parts hok
  clear hok
  have h3' := Nm.last_cases h3
  clear h3
  unfold rowW dataW at he
  dsimp only at he h1 h2 h3' h4 h5 h6
  have hl := Nm.list_most h4 0 (by decide) rfl hw
  have hc : cond = 0 := by simpa [Im.condB] using h5
  clear h4 h5 h6
  rcases h3' with ⟨rfl, q1, q2, rfl, rfl⟩ | ⟨rfl, q1, q2, q3, q4, rfl⟩ | ⟨rfl, q1, q2, rfl⟩
  · exact absurd q1 (by decide)
  · replace q2 : 0 ≤ imm := q2
    replace q3 : imm ≤ 4294967295 := q3
    clear q1 q4
    have hd := one_12 h1
    have hn := one_12 h2
    clear h1 h2
    repeat (first | rw [if_neg (by omega)] at he | rw [if_pos (by omega)] at he)
    cases hx : F imm with
    | some n =>
      rw [hx] at he
      dsimp only at he
      obtain ⟨n0, n1, En⟩ := hF imm n hx
      rw [show opN 8 = 11 from rfl, fl_f _ _ _ _ _ _ _ _ (by decide), dN_lo _ _ _ _ _ _ _ _ _ (by decide), rN_no _ _ _ _ _ _ _ _ _ (by decide)] at he
      simp only [Option.some.injEq, Prod.mk.injEq] at he
      obtain ⟨rfl, rfl⟩ := he
      obtain ⟨g1, g2, g3, g4, g5⟩ := decC_at E (c := 11) (f := 0) (r := rn) (d := rd) (n := n) (by omega) (by omega) (by omega) (by omega) (by omega) (by omega) (by omega) n0 n1
      refine ⟨g1, g2, g3, g4, ?_⟩
      rw [g5, En]
      unfold dataD
      repeat (first | rw [if_neg (by omega)] | rw [if_pos (by omega)])
      exact Nm.mk_eq (by omega) (by omega) (by omega) (by omega) (by omega) (by omega) (by omega) (by omega) rfl
    | none =>
      rw [hx] at he
      dsimp only at he
      repeat (first | rw [if_neg (by omega)] at he | rw [if_pos (by omega)] at he)
      cases he
  · have hm := one_12 q2
    clear q1 q2
    have hd := one_12 h1
    have hn := one_12 h2
    clear h1 h2
    repeat (first | rw [if_neg (by omega)] at he | rw [if_pos (by omega)] at he)
    rw [show opN 8 = 11 from rfl, fl_f _ _ _ _ _ _ _ _ (by decide), dN_lo _ _ _ _ _ _ _ _ _ (by decide), rN_no _ _ _ _ _ _ _ _ _ (by decide)] at he
    split at he
    case isFalse => cases he
    rename_i hi
    simp only [Option.some.injEq, Prod.mk.injEq] at he
    obtain ⟨rfl, rfl⟩ := he
    refine ⟨by omega, by omega, by omega, by omega, ?_⟩
    have g5 := decA_at E (c := 11) (f := 0) (r := rn) (d := rd) (m := rm) (by omega) (by omega) (by omega) (by omega) (by omega) (by omega) (by omega) (by omega) (by omega)
    rw [g5]
    unfold dataD
    repeat (first | rw [if_neg (by omega)] | rw [if_pos (by omega)])
    exact Nm.mk_eq (by omega) (by omega) (by omega) (by omega) (by omega) (by omega) (by omega) (by omega) rfl
theorem wdec_8 (E : Int → Int) (F : Int → Option Int) (hF : Finds F E) (cond rd rn rm imm mode list : Int) (s it : Bool) (a b : Int) (hok : Nm.okB ⟨8, cond, rd, rn, rm, imm, mode, list, s⟩ = true) (hw : Nm.Wide list) (he : rowW F ⟨8, cond, rd, rn, rm, imm, mode, list, s⟩ it = some (a, b)) :
    59392 ≤ a ∧ a < 65536 ∧ 0 ≤ b ∧ b < 65536 ∧ decW E a b = ⟨8, cond, rd, rn, rm, imm, mode, list, s⟩ := by
  cases s
  · exact wdec_8f E F hF cond rd rn rm imm mode list it a b hok hw he
  · exact wdec_8t E F hF cond rd rn rm imm mode list it a b hok hw he
theorem wdec_9t (E : Int → Int) (F : Int → Option Int) (hF : Finds F E) (cond rd rn rm imm mode list : Int) (it : Bool) (a b : Int) (hok : Nm.okB ⟨9, cond, rd, rn, rm, imm, mode, list, true⟩ = true) (hw : Nm.Wide list) (he : rowW F ⟨9, cond, rd, rn, rm, imm, mode, list, true⟩ it = some (a, b)) :
    59392 ≤ a ∧ a < 65536 ∧ 0 ≤ b ∧ b < 65536 ∧ decW E a b = ⟨9, cond, rd, rn, rm, imm, mode, list, true⟩ := by
  obtain ⟨_, h1, h2, h3, h4, h5, h6⟩ := Nm.ok_parts hok
  clear hok
  have h3' := Nm.last_cases h3
  clear h3
  unfold rowW dataW at he
  dsimp only at he h1 h2 h3' h4 h5 h6
  have hl := Nm.list_most h4 0 (by decide) rfl hw
  have hc : cond = 0 := by simpa [Im.condB] using h5
  clear h4 h5 h6
  rcases h3' with ⟨rfl, q1, q2, rfl, rfl⟩ | ⟨rfl, q1, q2, q3, q4, rfl⟩ | ⟨rfl, q1, q2, rfl⟩
  · exact absurd q1 (by decide)
  · replace q2 : 0 ≤ imm := q2
    replace q3 : imm ≤ 4294967295 := q3
    clear q1 q4
    have hd := one_12 h1
    have hn := one_12 h2
    clear h1 h2
    repeat (first | rw [if_neg (by omega)] at he | rw [if_pos (by omega)] at he)
    cases hx : F imm with
    | some n =>
      rw [hx] at he
      dsimp only at he
      obtain ⟨n0, n1, En⟩ := hF imm n hx
      rw [show opN 9 = 14 from rfl, fl_t, dN_lo _ _ _ _ _ _ _ _ _ (by decide), rN_no _ _ _ _ _ _ _ _ _ (by decide)] at he
      simp only [Option.some.injEq, Prod.mk.injEq] at he
      obtain ⟨rfl, rfl⟩ := he
      obtain ⟨g1, g2, g3, g4, g5⟩ := decC_at E (c := 14) (f := 16) (r := rn) (d := rd) (n := n) (by omega) (by omega) (by omega) (by omega) (by omega) (by omega) (by omega) n0 n1
      refine ⟨g1, g2, g3, g4, ?_⟩
      rw [g5, En]
      unfold dataD
      repeat (first | rw [if_neg (by omega)] | rw [if_pos (by omega)])
      exact Nm.mk_eq (by omega) (by omega) (by omega) (by omega) (by omega) (by omega) (by omega) (by omega) rfl
    | none =>
      rw [hx] at he
      dsimp only at he
      repeat (first | rw [if_neg (by omega)] at he | rw [if_pos (by omega)] at he)
      cases he
  · have hm := one_12 q2
    clear q1 q2
    have hd := one_12 h1
    have hn := one_12 h2
    clear h1 h2
    repeat (first | rw [if_neg (by omega)] at he | rw [if_pos (by omega)] at he)
    rw [show opN 9 = 14 from rfl, fl_t, dN_lo _ _ _ _ _ _ _ _ _ (by decide), rN_no _ _ _ _ _ _ _ _ _ (by decide)] at he
    split at he
    case isFalse => cases he
    rename_i hi
    simp only [Option.some.injEq, Prod.mk.injEq] at he
    obtain ⟨rfl, rfl⟩ := he
    refine ⟨by omega, by omega, by omega, by omega, ?_⟩
    have g5 := decA_at E (c := 14) (f := 16) (r := rn) (d := rd) (m := rm) (by omega) (by omega) (by omega) (by omega) (by omega) (by omega) (by omega) (by omega) (by omega)
    rw [g5]
    unfold dataD
    repeat (first | rw [if_neg (by omega)] | rw [if_pos (by omega)])
    exact Nm.mk_eq (by omega) (by omega) (by omega) (by omega) (by omega) (by omega) (by omega) (by omega) rfl
theorem wdec_9f (E : Int → Int) (F : Int → Option Int) (hF : Finds F E) (cond rd rn rm imm mode list : Int) (it : Bool) (a b : Int) (hok : Nm.okB ⟨9, cond, rd, rn, rm, imm, mode, list, false⟩ = true) (hw : Nm.Wide list) (he : rowW F ⟨9, cond, rd, rn, rm, imm, mode, list, false⟩ it = some (a, b)) :
    59392 ≤ a ∧ a < 65536 ∧ 0 ≤ b ∧ b < 65536 ∧ decW E a b = ⟨9, cond, rd, rn, rm, imm, mode, list, false⟩ := by
  obtain ⟨_, h1, h2, h3, h4, h5, h6⟩ := Nm.ok_parts hok
  clear hok
  have h3' := Nm.last_cases h3
  clear h3
  unfold rowW dataW at he
  dsimp only at he h1 h2 h3' h4 h5 h6
  have hl := Nm.list_most h4 0 (by decide) rfl hw
  have hc : cond = 0 := by simpa [Im.condB] using h5
  clear h4 h5 h6
  rcases h3' with ⟨rfl, q1, q2, rfl, rfl⟩ | ⟨rfl, q1, q2, q3, q4, rfl⟩ | ⟨rfl, q1, q2, rfl⟩
  · exact absurd q1 (by decide)
  · replace q2 : 0 ≤ imm := q2
    replace q3 : imm ≤ 4294967295 := q3
    clear q1 q4
    have hd := one_12 h1
    have hn := one_12 h2
    clear h1 h2
    repeat (first | rw [if_neg (by omega)] at he | rw [if_pos (by omega)] at he)
    cases hx : F imm with
    | some n =>
      rw [hx] at he
      dsimp only at he
      obtain ⟨n0, n1, En⟩ := hF imm n hx
      rw [show opN 9 = 14 from rfl, fl_f _ _ _ _ _ _ _ _ (by decide), dN_lo _ _ _ _ _ _ _ _ _ (by decide), rN_no _ _ _ _ _ _ _ _ _ (by decide)] at he
      simp only [Option.some.injEq, Prod.mk.injEq] at he
      obtain ⟨rfl, rfl⟩ := he
      obtain ⟨g1, g2, g3, g4, g5⟩ := decC_at E (c := 14) (f := 0) (r := rn) (d := rd) (n := n) (by omega) (by omega) (by omega) (by omega) (by omega) (by omega) (by omega) n0 n1
      refine ⟨g1, g2, g3, g4, ?_⟩
      rw [g5, En]
      unfold dataD
      repeat (first | rw [if_neg (by omega)] | rw [if_pos (by omega)])
      exact Nm.mk_eq (by omega) (by omega) (by omega) (by omega) (by omega) (by omega) (by omega) (by omega) rfl
    | none =>
      rw [hx] at he
      dsimp only at he
      repeat (first | rw [if_neg (by omega)] at he | rw [if_pos (by omega)] at he)
      cases he
  · have hm := one_12 q2
    clear q1 q2
    have hd := one_12 h1
    have hn := one_12 h2
    clear h1 h2
    repeat (first | rw [if_neg (by omega)] at he | rw [if_pos (by omega)] at he)
    rw [show opN 9 = 14 from rfl, fl_f _ _ _ _ _ _ _ _ (by decide), dN_lo _ _ _ _ _ _ _ _ _ (by decide), rN_no _ _ _ _ _ _ _ _ _ (by decide)] at he
    split at he
    case isFalse => cases he
    rename_i hi
    simp only [Option.some.injEq, Prod.mk.injEq] at he
    obtain ⟨rfl, rfl⟩ := he
    refine ⟨by omega, by omega, by omega, by omega, ?_⟩
    have g5 := decA_at E (c := 14) (f := 0) (r := rn) (d := rd) (m := rm) (by omega) (by omega) (by omega) (by omega) (by omega) (by omega) (by omega) (by omega) (by omega)
    rw [g5]
    unfold dataD
    repeat (first | rw [if_neg (by omega)] | rw [if_pos (by omega)])
    exact Nm.mk_eq (by omega) (by omega) (by omega) (by omega) (by omega) (by omega) (by omega) (by omega) rfl
theorem wdec_9 (E : Int → Int) (F : Int → Option Int) (hF : Finds F E) (cond rd rn rm imm mode list : Int) (s it : Bool) (a b : Int) (hok : Nm.okB ⟨9, cond, rd, rn, rm, imm, mode, list, s⟩ = true) (hw : Nm.Wide list) (he : rowW F ⟨9, cond, rd, rn, rm, imm, mode, list, s⟩ it = some (a, b)) :
    59392 ≤ a ∧ a < 65536 ∧ 0 ≤ b ∧ b < 65536 ∧ decW E a b = ⟨9, cond, rd, rn, rm, imm, mode, list, s⟩ := by
  cases s
  · exact wdec_9f E F hF cond rd rn rm imm mode list it a b hok hw he
  · exact wdec_9t E F hF cond rd rn rm imm mode list it a b hok hw he
theorem wdec_10t (E : Int → Int) (F : Int → Option Int) (hF : Finds F E) (cond rd rn rm imm mode list : Int) (it : Bool) (a b : Int) (hok : Nm.okB ⟨10, cond, rd, rn, rm, imm, mode, list, true⟩ = true) (hw : Nm.Wide list) (he : rowW F ⟨10, cond, rd, rn, rm, imm, mode, list, true⟩ it = some (a, b)) :
    59392 ≤ a ∧ a < 65536 ∧ 0 ≤ b ∧ b < 65536 ∧ decW E a b = ⟨10, cond, rd, rn, rm, imm, mode, list, true⟩ := by
  obtain ⟨_, h1, h2, h3, h4, h5, h6⟩ := Nm.ok_parts hok
  clear hok
  have h3' := Nm.last_cases h3
  clear h3
  unfold rowW dataW at he
  dsimp only at he h1 h2 h3' h4 h5 h6
  have hc : cond = 0 := by simpa [Im.condB] using h5
  clear h5 h6
  rcases h3' with ⟨rfl, q1, q2, rfl, rfl⟩ | ⟨rfl, q1, q2, q3, q4, rfl⟩ | ⟨rfl, q1, q2, rfl⟩
  · exact absurd q1 (by decide)
  · replace q2 : 0 ≤ imm := q2
    replace q3 : imm ≤ 4294967295 := q3
    clear q1 q4
    have hl := Nm.list_most h4 0 (by decide) rfl hw
    clear h4
    have hd := one_12 h1
    have hn := Nm.one_none h2
    clear h1 h2
    repeat (first | rw [if_neg (by omega)] at he | rw [if_pos (by omega)] at he)
    cases hx : F imm with
    | some n =>
      rw [hx] at he
      dsimp only at he
      obtain ⟨n0, n1, En⟩ := hF imm n hx
      rw [show opN 10 = 2 from rfl, fl_t, dN_lo _ _ _ _ _ _ _ _ _ (by decide), rN_15 _ _ _ _ _ _ _ _ _ (by decide)] at he
      simp only [Option.some.injEq, Prod.mk.injEq] at he
      obtain ⟨rfl, rfl⟩ := he
      obtain ⟨g1, g2, g3, g4, g5⟩ := decC_at E (c := 2) (f := 16) (r := 15) (d := rd) (n := n) (by omega) (by omega) (by omega) (by omega) (by omega) (by omega) (by omega) n0 n1
      refine ⟨g1, g2, g3, g4, ?_⟩
      rw [g5, En]
      unfold dataD
      repeat (first | rw [if_neg (by omega)] | rw [if_pos (by omega)])
      exact Nm.mk_eq (by omega) (by omega) (by omega) (by omega) (by omega) (by omega) (by omega) (by omega) rfl
    | none =>
      rw [hx] at he
      dsimp only at he
      repeat (first | rw [if_neg (by omega)] at he | rw [if_pos (by omega)] at he)
      cases he
  · have hm := one_12 q2
    clear q1 q2
    have hl := Nm.list_most h4 0 (by decide) rfl hw
    clear h4
    have hd := one_12 h1
    have hn := Nm.one_none h2
    clear h1 h2
    repeat (first | rw [if_neg (by omega)] at he | rw [if_pos (by omega)] at he)
    rw [show opN 10 = 2 from rfl, fl_t, dN_lo _ _ _ _ _ _ _ _ _ (by decide), rN_15 _ _ _ _ _ _ _ _ _ (by decide)] at he
    split at he
    case isFalse => cases he
    rename_i hi
    simp only [Option.some.injEq, Prod.mk.injEq] at he
    obtain ⟨rfl, rfl⟩ := he
    refine ⟨by omega, by omega, by omega, by omega, ?_⟩
    have g5 := decA_at E (c := 2) (f := 16) (r := 15) (d := rd) (m := rm) (by omega) (by omega) (by omega) (by omega) (by omega) (by omega) (by omega) (by omega) (by omega)
    rw [g5]
    unfold dataD
    repeat (first | rw [if_neg (by omega)] | rw [if_pos (by omega)])
    exact Nm.mk_eq (by omega) (by omega) (by omega) (by omega) (by omega) (by omega) (by omega) (by omega) rfl
theorem wdec_10f (E : Int → Int) (F : Int → Option Int) (hF : Finds F E) (cond rd rn rm imm mode list : Int) (it : Bool) (a b : Int) (hok : Nm.okB ⟨10, cond, rd, rn, rm, imm, mode, list, false⟩ = true) (hw : Nm.Wide list) (he : rowW F ⟨10, cond, rd, rn, rm, imm, mode, list, false⟩ it = some (a, b)) :
    59392 ≤ a ∧ a < 65536 ∧ 0 ≤ b ∧ b < 65536 ∧ decW E a b = ⟨10, cond, rd, rn, rm, imm, mode, list, false⟩ := by
  obtain ⟨_, h1, h2, h3, h4, h5, h6⟩ := Nm.ok_parts hok
  clear hok
  have h3' := Nm.last_cases h3
  clear h3
  unfold rowW dataW at he
  dsimp only at he h1 h2 h3' h4 h5 h6
  have hc : cond = 0 := by simpa [Im.condB] using h5
  clear h5 h6
  rcases h3' with ⟨rfl, q1, q2, rfl, rfl⟩ | ⟨rfl, q1, q2, q3, q4, rfl⟩ | ⟨rfl, q1, q2, rfl⟩
  · exact absurd q1 (by decide)
  · replace q2 : 0 ≤ imm := q2
    replace q3 : imm ≤ 4294967295 := q3
    clear q1 q4
    have hl := Nm.list_most h4 0 (by decide) rfl hw
    clear h4
    have hd := one_12 h1
    have hn := Nm.one_none h2
    clear h1 h2
    repeat (first | rw [if_neg (by omega)] at he | rw [if_pos (by omega)] at he)
    cases hx : F imm with
    | some n =>
      rw [hx] at he
      dsimp only at he
      obtain ⟨n0, n1, En⟩ := hF imm n hx
      rw [show opN 10 = 2 from rfl, fl_f _ _ _ _ _ _ _ _ (by decide), dN_lo _ _ _ _ _ _ _ _ _ (by decide), rN_15 _ _ _ _ _ _ _ _ _ (by decide)] at he
      simp only [Option.some.injEq, Prod.mk.injEq] at he
      obtain ⟨rfl, rfl⟩ := he
      obtain ⟨g1, g2, g3, g4, g5⟩ := decC_at E (c := 2) (f := 0) (r := 15) (d := rd) (n := n) (by omega) (by omega) (by omega) (by omega) (by omega) (by omega) (by omega) n0 n1
      refine ⟨g1, g2, g3, g4, ?_⟩
      rw [g5, En]
      unfold dataD
      repeat (first | rw [if_neg (by omega)] | rw [if_pos (by omega)])
      exact Nm.mk_eq (by omega) (by omega) (by omega) (by omega) (by omega) (by omega) (by omega) (by omega) rfl
    | none =>
      rw [hx] at he
      dsimp only at he
      repeat (first | rw [if_neg (by omega)] at he | rw [if_pos (by omega)] at he)
      cases he
  · have hm := one_14 q2
    clear q1 q2
    have hl := Nm.list_most h4 0 (by decide) rfl hw
    clear h4
    have hd := one_14 h1
    have hn := Nm.one_none h2
    clear h1 h2
    repeat (first | rw [if_neg (by omega)] at he | rw [if_pos (by omega)] at he)
    rw [show opN 10 = 2 from rfl, fl_f _ _ _ _ _ _ _ _ (by decide), dN_lo _ _ _ _ _ _ _ _ _ (by decide), rN_15 _ _ _ _ _ _ _ _ _ (by decide)] at he
    split at he
    case isFalse => cases he
    rename_i hi
    simp only [Option.some.injEq, Prod.mk.injEq] at he
    obtain ⟨rfl, rfl⟩ := he
    refine ⟨by omega, by omega, by omega, by omega, ?_⟩
    have g5 := decA_at E (c := 2) (f := 0) (r := 15) (d := rd) (m := rm) (by omega) (by omega) (by omega) (by omega) (by omega) (by omega) (by omega) (by omega) (by omega)
    rw [g5]
    unfold dataD
    repeat (first | rw [if_neg (by omega)] | rw [if_pos (by omega)])
    exact Nm.mk_eq (by omega) (by omega) (by omega) (by omega) (by omega) (by omega) (by omega) (by omega) rfl
theorem wdec_10 (E : Int → Int) (F : Int → Option Int) (hF : Finds F E) (cond rd rn rm imm mode list : Int) (s it : Bool) (a b : Int) (hok : Nm.okB ⟨10, cond, rd, rn, rm, imm, mode, list, s⟩ = true) (hw : Nm.Wide list) (he : rowW F ⟨10, cond, rd, rn, rm, imm, mode, list, s⟩ it = some (a, b)) :
    59392 ≤ a ∧ a < 65536 ∧ 0 ≤ b ∧ b < 65536 ∧ decW E a b = ⟨10, cond, rd, rn, rm, imm, mode, list, s⟩ := by
  cases s
  · exact wdec_10f E F hF cond rd rn rm imm mode list it a b hok hw he
  · exact wdec_10t E F hF cond rd rn rm imm mode list it a b hok hw he
theorem wdec_11t (E : Int → Int) (F : Int → Option Int) (hF : Finds F E) (cond rd rn rm imm mode list : Int) (it : Bool) (a b : Int) (hok : Nm.okB ⟨11, cond, rd, rn, rm, imm, mode, list, true⟩ = true) (hw : Nm.Wide list) (he : rowW F ⟨11, cond, rd, rn, rm, imm, mode, list, true⟩ it = some (a, b)) :
    59392 ≤ a ∧ a < 65536 ∧ 0 ≤ b ∧ b < 65536 ∧ decW E a b = ⟨11, cond, rd, rn, rm, imm, mode, list, true⟩ := by
  obtain ⟨_, h1, h2, h3, h4, h5, h6⟩ := Nm.ok_parts hok
  clear hok
  have h3' := Nm.last_cases h3
  clear h3
  unfold rowW dataW at he
  dsimp only at he h1 h2 h3' h4 h5 h6
  have hl := Nm.list_most h4 0 (by decide) rfl hw
  have hc : cond = 0 := by simpa [Im.condB] using h5
  clear h4 h5 h6
  rcases h3' with ⟨rfl, q1, q2, rfl, rfl⟩ | ⟨rfl, q1, q2, q3, q4, rfl⟩ | ⟨rfl, q1, q2, rfl⟩
  · exact absurd q1 (by decide)
  · replace q2 : 0 ≤ imm := q2
    replace q3 : imm ≤ 4294967295 := q3
    clear q1 q4
    have hd := one_12 h1
    have hn := Nm.one_none h2
    clear h1 h2
    repeat (first | rw [if_neg (by omega)] at he | rw [if_pos (by omega)] at he)
    cases hx : F imm with
    | some n =>
      rw [hx] at he
      dsimp only at he
      obtain ⟨n0, n1, En⟩ := hF imm n hx
      rw [show opN 11 = 3 from rfl, fl_t, dN_lo _ _ _ _ _ _ _ _ _ (by decide), rN_15 _ _ _ _ _ _ _ _ _ (by decide)] at he
      simp only [Option.some.injEq, Prod.mk.injEq] at he
      obtain ⟨rfl, rfl⟩ := he
      obtain ⟨g1, g2, g3, g4, g5⟩ := decC_at E (c := 3) (f := 16) (r := 15) (d := rd) (n := n) (by omega) (by omega) (by omega) (by omega) (by omega) (by omega) (by omega) n0 n1
      refine ⟨g1, g2, g3, g4, ?_⟩
      rw [g5, En]
      unfold dataD
      repeat (first | rw [if_neg (by omega)] | rw [if_pos (by omega)])
      exact Nm.mk_eq (by omega) (by omega) (by omega) (by omega) (by omega) (by omega) (by omega) (by omega) rfl
    | none =>
      rw [hx] at he
      dsimp only at he
      repeat (first | rw [if_neg (by omega)] at he | rw [if_pos (by omega)] at he)
      cases he
  · have hm := one_12 q2
    clear q1 q2
    have hd := one_12 h1
    have hn := Nm.one_none h2
    clear h1 h2
    repeat (first | rw [if_neg (by omega)] at he | rw [if_pos (by omega)] at he)
    rw [show opN 11 = 3 from rfl, fl_t, dN_lo _ _ _ _ _ _ _ _ _ (by decide), rN_15 _ _ _ _ _ _ _ _ _ (by decide)] at he
    split at he
    case isFalse => cases he
    rename_i hi
    simp only [Option.some.injEq, Prod.mk.injEq] at he
    obtain ⟨rfl, rfl⟩ := he
    refine ⟨by omega, by omega, by omega, by omega, ?_⟩
    have g5 := decA_at E (c := 3) (f := 16) (r := 15) (d := rd) (m := rm) (by omega) (by omega) (by omega) (by omega) (by omega) (by omega) (by omega) (by omega) (by omega)
    rw [g5]
    unfold dataD
    repeat (first | rw [if_neg (by omega)] | rw [if_pos (by omega)])
    exact Nm.mk_eq (by omega) (by omega) (by omega) (by omega) (by omega) (by omega) (by omega) (by omega) rfl
theorem wdec_11f (E : Int → Int) (F : Int → Option Int) (hF : Finds F E) (cond rd rn rm imm mode list : Int) (it : Bool) (a b : Int) (hok : Nm.okB ⟨11, cond, rd, rn, rm, imm, mode, list, false⟩ = true) (hw : Nm.Wide list) (he : rowW F ⟨11, cond, rd, rn, rm, imm, mode, list, false⟩ it = some (a, b)) :
    59392 ≤ a ∧ a < 65536 ∧ 0 ≤ b ∧ b < 65536 ∧ decW E a b = ⟨11, cond, rd, rn, rm, imm, mode, list, false⟩ := by
  obtain ⟨_, h1, h2, h3, h4, h5, h6⟩ := Nm.ok_parts hok
  clear hok
  have h3' := Nm.last_cases h3
  clear h3
  unfold rowW dataW at he
  dsimp only at he h1 h2 h3' h4 h5 h6
  have hl := Nm.list_most h4 0 (by decide) rfl hw
  have hc : cond = 0 := by simpa [Im.condB] using h5
  clear h4 h5 h6
  rcases h3' with ⟨rfl, q1, q2, rfl, rfl⟩ | ⟨rfl, q1, q2, q3, q4, rfl⟩ | ⟨rfl, q1, q2, rfl⟩
  · exact absurd q1 (by decide)
  · replace q2 : 0 ≤ imm := q2
    replace q3 : imm ≤ 4294967295 := q3
    clear q1 q4
    have hd := one_12 h1
    have hn := Nm.one_none h2
    clear h1 h2
    repeat (first | rw [if_neg (by omega)] at he | rw [if_pos (by omega)] at he)
    cases hx : F imm with
    | some n =>
      rw [hx] at he
      dsimp only at he
      obtain ⟨n0, n1, En⟩ := hF imm n hx
      rw [show opN 11 = 3 from rfl, fl_f _ _ _ _ _ _ _ _ (by decide), dN_lo _ _ _ _ _ _ _ _ _ (by decide), rN_15 _ _ _ _ _ _ _ _ _ (by decide)] at he
      simp only [Option.some.injEq, Prod.mk.injEq] at he
      obtain ⟨rfl, rfl⟩ := he
      obtain ⟨g1, g2, g3, g4, g5⟩ := decC_at E (c := 3) (f := 0) (r := 15) (d := rd) (n := n) (by omega) (by omega) (by omega) (by omega) (by omega) (by omega) (by omega) n0 n1
      refine ⟨g1, g2, g3, g4, ?_⟩
      rw [g5, En]
      unfold dataD
      repeat (first | rw [if_neg (by omega)] | rw [if_pos (by omega)])
      exact Nm.mk_eq (by omega) (by omega) (by omega) (by omega) (by omega) (by omega) (by omega) (by omega) rfl
    | none =>
      rw [hx] at he
      dsimp only at he
      repeat (first | rw [if_neg (by omega)] at he | rw [if_pos (by omega)] at he)
      cases he
  · have hm := one_12 q2
    clear q1 q2
    have hd := one_12 h1
    have hn := Nm.one_none h2
    clear h1 h2
    repeat (first | rw [if_neg (by omega)] at he | rw [if_pos (by omega)] at he)
    rw [show opN 11 = 3 from rfl, fl_f _ _ _ _ _ _ _ _ (by decide), dN_lo _ _ _ _ _ _ _ _ _ (by decide), rN_15 _ _ _ _ _ _ _ _ _ (by decide)] at he
    split at he
    case isFalse => cases he
    rename_i hi
    simp only [Option.some.injEq, Prod.mk.injEq] at he
    obtain ⟨rfl, rfl⟩ := he
    refine ⟨by omega, by omega, by omega, by omega, ?_⟩
    have g5 := decA_at E (c := 3) (f := 0) (r := 15) (d := rd) (m := rm) (by omega) (by omega) (by omega) (by omega) (by omega) (by omega) (by omega) (by omega) (by omega)
    rw [g5]
    unfold dataD
    repeat (first | rw [if_neg (by omega)] | rw [if_pos (by omega)])
    exact Nm.mk_eq (by omega) (by omega) (by omega) (by omega) (by omega) (by omega) (by omega) (by omega) rfl
theorem wdec_11 (E : Int → Int) (F : Int → Option Int) (hF : Finds F E) (cond rd rn rm imm mode list : Int) (s it : Bool) (a b : Int) (hok : Nm.okB ⟨11, cond, rd, rn, rm, imm, mode, list, s⟩ = true) (hw : Nm.Wide list) (he : rowW F ⟨11, cond, rd, rn, rm, imm, mode, list, s⟩ it = some (a, b)) :
    59392 ≤ a ∧ a < 65536 ∧ 0 ≤ b ∧ b < 65536 ∧ decW E a b = ⟨11, cond, rd, rn, rm, imm, mode, list, s⟩ := by
  cases s
  · exact wdec_11f E F hF cond rd rn rm imm mode list it a b hok hw he
  · exact wdec_11t E F hF cond rd rn rm imm mode list it a b hok hw he
theorem wdec_12 (E : Int → Int) (F : Int → Option Int) (hF : Finds F E) (cond rd rn rm imm mode list : Int) (s it : Bool) (a b : Int) (hok : Nm.okB ⟨12, cond, rd, rn, rm, imm, mode, list, s⟩ = true) (hw : Nm.Wide list) (he : rowW F ⟨12, cond, rd, rn, rm, imm, mode, list, s⟩ it = some (a, b)) :
    59392 ≤ a ∧ a < 65536 ∧ 0 ≤ b ∧ b < 65536 ∧ decW E a b = ⟨12, cond, rd, rn, rm, imm, mode, list, s⟩ := by
  obtain ⟨_, h1, h2, h3, h4, h5, h6⟩ := Nm.ok_parts hok
  clear hok
  have h3' := Nm.last_cases h3
  clear h3
  unfold rowW dataW at he
  dsimp only at he h1 h2 h3' h4 h5 h6
  have hs := Nm.flag_off h6 rfl
  subst hs
  have hl := Nm.list_most h4 0 (by decide) rfl hw
  have hc : cond = 0 := by simpa [Im.condB] using h5
  clear h4 h5 h6
  rcases h3' with ⟨rfl, q1, q2, rfl, rfl⟩ | ⟨rfl, q1, q2, q3, q4, rfl⟩ | ⟨rfl, q1, q2, rfl⟩
  · exact absurd q1 (by decide)
  · replace q2 : 0 ≤ imm := q2
    replace q3 : imm ≤ 4294967295 := q3
    clear q1 q4
    have hd := Nm.one_none h1
    have hn := one_12 h2
    clear h1 h2
    repeat (first | rw [if_neg (by omega)] at he | rw [if_pos (by omega)] at he)
    cases hx : F imm with
    | some n =>
      rw [hx] at he
      dsimp only at he
      obtain ⟨n0, n1, En⟩ := hF imm n hx
      rw [show opN 12 = 13 from rfl, fl_hi _ _ _ _ _ _ _ _ (by decide), dN_hi _ _ _ _ _ _ _ _ _ (by decide), rN_no _ _ _ _ _ _ _ _ _ (by decide)] at he
      simp only [Option.some.injEq, Prod.mk.injEq] at he
      obtain ⟨rfl, rfl⟩ := he
      obtain ⟨g1, g2, g3, g4, g5⟩ := decC_at E (c := 13) (f := 16) (r := rn) (d := 15) (n := n) (by omega) (by omega) (by omega) (by omega) (by omega) (by omega) (by omega) n0 n1
      refine ⟨g1, g2, g3, g4, ?_⟩
      rw [g5, En]
      unfold dataD
      repeat (first | rw [if_neg (by omega)] | rw [if_pos (by omega)])
      exact Nm.mk_eq (by omega) (by omega) (by omega) (by omega) (by omega) (by omega) (by omega) (by omega) rfl
    | none =>
      rw [hx] at he
      dsimp only at he
      repeat (first | rw [if_neg (by omega)] at he | rw [if_pos (by omega)] at he)
      cases he
  · have hm := one_12 q2
    clear q1 q2
    have hd := Nm.one_none h1
    have hn := one_12 h2
    clear h1 h2
    repeat (first | rw [if_neg (by omega)] at he | rw [if_pos (by omega)] at he)
    rw [show opN 12 = 13 from rfl, fl_hi _ _ _ _ _ _ _ _ (by decide), dN_hi _ _ _ _ _ _ _ _ _ (by decide), rN_no _ _ _ _ _ _ _ _ _ (by decide)] at he
    split at he
    case isFalse => cases he
    rename_i hi
    simp only [Option.some.injEq, Prod.mk.injEq] at he
    obtain ⟨rfl, rfl⟩ := he
    refine ⟨by omega, by omega, by omega, by omega, ?_⟩
    have g5 := decA_at E (c := 13) (f := 16) (r := rn) (d := 15) (m := rm) (by omega) (by omega) (by omega) (by omega) (by omega) (by omega) (by omega) (by omega) (by omega)
    rw [g5]
    unfold dataD
    repeat (first | rw [if_neg (by omega)] | rw [if_pos (by omega)])
    exact Nm.mk_eq (by omega) (by omega) (by omega) (by omega) (by omega) (by omega) (by omega) (by omega) rfl
theorem wdec_13 (E : Int → Int) (F : Int → Option Int) (hF : Finds F E) (cond rd rn rm imm mode list : Int) (s it : Bool) (a b : Int) (hok : Nm.okB ⟨13, cond, rd, rn, rm, imm, mode, list, s⟩ = true) (hw : Nm.Wide list) (he : rowW F ⟨13, cond, rd, rn, rm, imm, mode, list, s⟩ it = some (a, b)) :
    59392 ≤ a ∧ a < 65536 ∧ 0 ≤ b ∧ b < 65536 ∧ decW E a b = ⟨13, cond, rd, rn, rm, imm, mode, list, s⟩ := by
  obtain ⟨_, h1, h2, h3, h4, h5, h6⟩ := Nm.ok_parts hok
  clear hok
  have h3' := Nm.last_cases h3
  clear h3
  unfold rowW dataW at he
  dsimp only at he h1 h2 h3' h4 h5 h6
  have hs := Nm.flag_off h6 rfl
  subst hs
  have hl := Nm.list_most h4 0 (by decide) rfl hw
  have hc : cond = 0 := by simpa [Im.condB] using h5
  clear h4 h5 h6
  rcases h3' with ⟨rfl, q1, q2, rfl, rfl⟩ | ⟨rfl, q1, q2, q3, q4, rfl⟩ | ⟨rfl, q1, q2, rfl⟩
  · exact absurd q1 (by decide)
  · replace q2 : 0 ≤ imm := q2
    replace q3 : imm ≤ 4294967295 := q3
    clear q1 q4
    have hd := Nm.one_none h1
    have hn := one_12 h2
    clear h1 h2
    repeat (first | rw [if_neg (by omega)] at he | rw [if_pos (by omega)] at he)
    cases hx : F imm with
    | some n =>
      rw [hx] at he
      dsimp only at he
      obtain ⟨n0, n1, En⟩ := hF imm n hx
      rw [show opN 13 = 8 from rfl, fl_hi _ _ _ _ _ _ _ _ (by decide), dN_hi _ _ _ _ _ _ _ _ _ (by decide), rN_no _ _ _ _ _ _ _ _ _ (by decide)] at he
      simp only [Option.some.injEq, Prod.mk.injEq] at he
      obtain ⟨rfl, rfl⟩ := he
      obtain ⟨g1, g2, g3, g4, g5⟩ := decC_at E (c := 8) (f := 16) (r := rn) (d := 15) (n := n) (by omega) (by omega) (by omega) (by omega) (by omega) (by omega) (by omega) n0 n1
      refine ⟨g1, g2, g3, g4, ?_⟩
      rw [g5, En]
      unfold dataD
      repeat (first | rw [if_neg (by omega)] | rw [if_pos (by omega)])
      exact Nm.mk_eq (by omega) (by omega) (by omega) (by omega) (by omega) (by omega) (by omega) (by omega) rfl
    | none =>
      rw [hx] at he
      dsimp only at he
      repeat (first | rw [if_neg (by omega)] at he | rw [if_pos (by omega)] at he)
      cases he
  · have hm := one_12 q2
    clear q1 q2
    have hd := Nm.one_none h1
    have hn := one_12 h2
    clear h1 h2
    repeat (first | rw [if_neg (by omega)] at he | rw [if_pos (by omega)] at he)
    rw [show opN 13 = 8 from rfl, fl_hi _ _ _ _ _ _ _ _ (by decide), dN_hi _ _ _ _ _ _ _ _ _ (by decide), rN_no _ _ _ _ _ _ _ _ _ (by decide)] at he
    split at he
    case isFalse => cases he
    rename_i hi
    simp only [Option.some.injEq, Prod.mk.injEq] at he
    obtain ⟨rfl, rfl⟩ := he
    refine ⟨by omega, by omega, by omega, by omega, ?_⟩
    have g5 := decA_at E (c := 8) (f := 16) (r := rn) (d := 15) (m := rm) (by omega) (by omega) (by omega) (by omega) (by omega) (by omega) (by omega) (by omega) (by omega)
    rw [g5]
    unfold dataD
    repeat (first | rw [if_neg (by omega)] | rw [if_pos (by omega)])
    exact Nm.mk_eq (by omega) (by omega) (by omega) (by omega) (by omega) (by omega) (by omega) (by omega) rfl
theorem wdec_14 (E : Int → Int) (F : Int → Option Int) (hF : Finds F E) (cond rd rn rm imm mode list : Int) (s it : Bool) (a b : Int) (hok : Nm.okB ⟨14, cond, rd, rn, rm, imm, mode, list, s⟩ = true) (hw : Nm.Wide list) (he : rowW F ⟨14, cond, rd, rn, rm, imm, mode, list, s⟩ it = some (a, b)) :
    59392 ≤ a ∧ a < 65536 ∧ 0 ≤ b ∧ b < 65536 ∧ decW E a b = ⟨14, cond, rd, rn, rm, imm, mode, list, s⟩ := by
  obtain ⟨_, h1, h2, h3, h4, h5, h6⟩ := Nm.ok_parts hok
  clear hok
  have h3' := Nm.last_cases h3
  clear h3
  unfold rowW dataW at he
  dsimp only at he h1 h2 h3' h4 h5 h6
  have hs := Nm.flag_off h6 rfl
  subst hs
  have hl := Nm.list_most h4 0 (by decide) rfl hw
  have hc : cond = 0 := by simpa [Im.condB] using h5
  clear h4 h5 h6
  rcases h3' with ⟨rfl, q1, q2, rfl, rfl⟩ | ⟨rfl, q1, q2, q3, q4, rfl⟩ | ⟨rfl, q1, q2, rfl⟩
  · exact absurd q1 (by decide)
  · replace q2 : 0 ≤ imm := q2
    replace q3 : imm ≤ 4294967295 := q3
    clear q1 q4
    have hd := Nm.one_none h1
    have hn := one_12 h2
    clear h1 h2
    repeat (first | rw [if_neg (by omega)] at he | rw [if_pos (by omega)] at he)
    cases hx : F imm with
    | some n =>
      rw [hx] at he
      dsimp only at he
      obtain ⟨n0, n1, En⟩ := hF imm n hx
      rw [show opN 14 = 0 from rfl, fl_hi _ _ _ _ _ _ _ _ (by decide), dN_hi _ _ _ _ _ _ _ _ _ (by decide), rN_no _ _ _ _ _ _ _ _ _ (by decide)] at he
      simp only [Option.some.injEq, Prod.mk.injEq] at he
      obtain ⟨rfl, rfl⟩ := he
      obtain ⟨g1, g2, g3, g4, g5⟩ := decC_at E (c := 0) (f := 16) (r := rn) (d := 15) (n := n) (by omega) (by omega) (by omega) (by omega) (by omega) (by omega) (by omega) n0 n1
      refine ⟨g1, g2, g3, g4, ?_⟩
      rw [g5, En]
      unfold dataD
      repeat (first | rw [if_neg (by omega)] | rw [if_pos (by omega)])
      exact Nm.mk_eq (by omega) (by omega) (by omega) (by omega) (by omega) (by omega) (by omega) (by omega) rfl
    | none =>
      rw [hx] at he
      dsimp only at he
      repeat (first | rw [if_neg (by omega)] at he | rw [if_pos (by omega)] at he)
      cases he
  · have hm := one_12 q2
    clear q1 q2
    have hd := Nm.one_none h1
    have hn := one_12 h2
    clear h1 h2
    repeat (first | rw [if_neg (by omega)] at he | rw [if_pos (by omega)] at he)
    rw [show opN 14 = 0 from rfl, fl_hi _ _ _ _ _ _ _ _ (by decide), dN_hi _ _ _ _ _ _ _ _ _ (by decide), rN_no _ _ _ _ _ _ _ _ _ (by decide)] at he
    split at he
    case isFalse => cases he
    rename_i hi
    simp only [Option.some.injEq, Prod.mk.injEq] at he
    obtain ⟨rfl, rfl⟩ := he
    refine ⟨by omega, by omega, by omega, by omega, ?_⟩
    have g5 := decA_at E (c := 0) (f := 16) (r := rn) (d := 15) (m := rm) (by omega) (by omega) (by omega) (by omega) (by omega) (by omega) (by omega) (by omega) (by omega)
    rw [g5]
    unfold dataD
    repeat (first | rw [if_neg (by omega)] | rw [if_pos (by omega)])
    exact Nm.mk_eq (by omega) (by omega) (by omega) (by omega) (by omega) (by omega) (by omega) (by omega) rfl
theorem wdec_15 (E : Int → Int) (F : Int → Option Int) (hF : Finds F E) (cond rd rn rm imm mode list : Int) (s it : Bool) (a b : Int) (hok : Nm.okB ⟨15, cond, rd, rn, rm, imm, mode, list, s⟩ = true) (hw : Nm.Wide list) (he : rowW F ⟨15, cond, rd, rn, rm, imm, mode, list, s⟩ it = some (a, b)) :
    59392 ≤ a ∧ a < 65536 ∧ 0 ≤ b ∧ b < 65536 ∧ decW E a b = ⟨15, cond, rd, rn, rm, imm, mode, list, s⟩ := by
  obtain ⟨_, h1, h2, h3, h4, h5, h6⟩ := Nm.ok_parts hok
  clear hok
  have h3' := Nm.last_cases h3
  clear h3
  unfold rowW dataW at he
  dsimp only at he h1 h2 h3' h4 h5 h6
  have hs := Nm.flag_off h6 rfl
  subst hs
  have hl := Nm.list_most h4 0 (by decide) rfl hw
  have hc : cond = 0 := by simpa [Im.condB] using h5
  clear h4 h5 h6
  rcases h3' with ⟨rfl, q1, q2, rfl, rfl⟩ | ⟨rfl, q1, q2, q3, q4, rfl⟩ | ⟨rfl, q1, q2, rfl⟩
  · exact absurd q1 (by decide)
  · replace q2 : 0 ≤ imm := q2
    replace q3 : imm ≤ 4294967295 := q3
    clear q1 q4
    have hd := Nm.one_none h1
    have hn := one_12 h2
    clear h1 h2
    repeat (first | rw [if_neg (by omega)] at he | rw [if_pos (by omega)] at he)
    cases hx : F imm with
    | some n =>
      rw [hx] at he
      dsimp only at he
      obtain ⟨n0, n1, En⟩ := hF imm n hx
      rw [show opN 15 = 4 from rfl, fl_hi _ _ _ _ _ _ _ _ (by decide), dN_hi _ _ _ _ _ _ _ _ _ (by decide), rN_no _ _ _ _ _ _ _ _ _ (by decide)] at he
      simp only [Option.some.injEq, Prod.mk.injEq] at he
      obtain ⟨rfl, rfl⟩ := he
      obtain ⟨g1, g2, g3, g4, g5⟩ := decC_at E (c := 4) (f := 16) (r := rn) (d := 15) (n := n) (by omega) (by omega) (by omega) (by omega) (by omega) (by omega) (by omega) n0 n1
      refine ⟨g1, g2, g3, g4, ?_⟩
      rw [g5, En]
      unfold dataD
      repeat (first | rw [if_neg (by omega)] | rw [if_pos (by omega)])
      exact Nm.mk_eq (by omega) (by omega) (by omega) (by omega) (by omega) (by omega) (by omega) (by omega) rfl
    | none =>
      rw [hx] at he
      dsimp only at he
      repeat (first | rw [if_neg (by omega)] at he | rw [if_pos (by omega)] at he)
      cases he
  · have hm := one_12 q2
    clear q1 q2
    have hd := Nm.one_none h1
    have hn := one_12 h2
    clear h1 h2
    repeat (first | rw [if_neg (by omega)] at he | rw [if_pos (by omega)] at he)
    rw [show opN 15 = 4 from rfl, fl_hi _ _ _ _ _ _ _ _ (by decide), dN_hi _ _ _ _ _ _ _ _ _ (by decide), rN_no _ _ _ _ _ _ _ _ _ (by decide)] at he
    split at he
    case isFalse => cases he
    rename_i hi
    simp only [Option.some.injEq, Prod.mk.injEq] at he
    obtain ⟨rfl, rfl⟩ := he
    refine ⟨by omega, by omega, by omega, by omega, ?_⟩
    have g5 := decA_at E (c := 4) (f := 16) (r := rn) (d := 15) (m := rm) (by omega) (by omega) (by omega) (by omega) (by omega) (by omega) (by omega) (by omega) (by omega)
    rw [g5]
    unfold dataD
    repeat (first | rw [if_neg (by omega)] | rw [if_pos (by omega)])
    exact Nm.mk_eq (by omega) (by omega) (by omega) (by omega) (by omega) (by omega) (by omega) (by omega) rfl
end Wm
end Go.Proofs.YtmofimgodmcdjaaDoor
