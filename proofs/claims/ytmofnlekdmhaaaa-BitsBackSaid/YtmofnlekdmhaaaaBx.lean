/- Contracts of Put: the program's and the document's own answer. -/
import Derived.Test.YtmofnlekdmhaaaaRows
import Derived.Test.YtmofnlekdmhaaaaBw
namespace Go.Proofs.Ytmofnlekdmhaaaa
open Go.ChangeShapes Go.WideShapes Go.ChangeAt Go.RowKit

theorem put_eq (x hi lo v : Int) (hx0 : 0 ≤ x) (hx : x < 4294967296) (hv0 : 0 ≤ v) (hv : v < 4294967296) (h1 : 0 ≤ lo) (h2 : lo ≤ hi) (h3 : hi < 32) :
    bits .or .u32 (bits .andNot .u32 x (((2 ^ (hi - lo + 1).toNat - 1 : Nat) : Int) * 2 ^ lo.toNat % 4294967296)) (bits .and .u32 (v * 2 ^ lo.toNat % 4294967296) (((2 ^ (hi - lo + 1).toNat - 1 : Nat) : Int) * 2 ^ lo.toNat % 4294967296)) = putI x hi lo v := by
  unfold putI
  rw [if_pos ⟨h1, h2, h3⟩]
  obtain ⟨X, rfl⟩ := Int.eq_ofNat_of_zero_le hx0
  obtain ⟨V, rfl⟩ := Int.eq_ofNat_of_zero_le hv0
  obtain ⟨L, rfl⟩ := Int.eq_ofNat_of_zero_le h1
  obtain ⟨H, rfl⟩ := Int.eq_ofNat_of_zero_le (Int.le_trans h1 h2)
  have e2 : ((H : Int) - (L : Int) + 1).toNat = H + 1 - L := by omega
  have hF := Bm.field_lt (lo := L) (n := H + 1 - L) (by omega)
  have e3 : (((2 ^ (H + 1 - L) - 1 : Nat) : Int) * 2 ^ L % 4294967296) = ((Bm.fieldU L (H + 1 - L) : Nat) : Int) := by
    rw [ofNat_shl, show (2 ^ (H + 1 - L) - 1) * 2 ^ L = Bm.fieldU L (H + 1 - L) from rfl, Nat.mod_eq_of_lt hF]
  simp only [Int.toNat_natCast]
  rw [e2, e3, ofNat_shl, u32_andNot_nat _ _ (by omega) hF, u32_and_nat _ _ (Nat.mod_lt _ (by decide)) hF]
  rw [u32_or_nat _ _ (Nat.lt_of_le_of_lt Nat.and_le_left (by omega)) (Nat.lt_of_le_of_lt Nat.and_le_right hF)]
  rfl

theorem put_c (x hi lo v : Int) (w : World) (hx0 : 0 ≤ x) (hx : x < 4294967296) (hv0 : 0 ≤ v) (hv : v < 4294967296) :
    Calls Try.prog 11 #[.int .u32 x, .int .i64 hi, .int .i64 lo, .int .u32 v] w fun e w' => e = .returned (.int .u32 (putI x hi lo v)) ∧ ∃ n, w' = w.drewN n := by
  by_cases hf : 0 ≤ lo ∧ lo ≤ hi ∧ hi < 32
  · obtain ⟨h1, h2, h3⟩ := hf
    go_enter Try.func11, Try.ntmps11
    go_wp2_with (first | (go_at_call 23; refine (isField_yes _ _ _ h1 h2 h3).mono ?_; rintro e w' ⟨rfl, n, rfl⟩) | (go_at_call 24; refine (ones_c _ _ (by omega) (by omega)).mono ?_; rintro e w' ⟨rfl, n2, rfl⟩))
    go_ret
    exact ⟨ret_int (put_eq x hi lo v hx0 hx hv0 hv h1 h2 h3), n + n2, rfl⟩
  · go_enter Try.func11, Try.ntmps11
    go_wp2_with ((go_at_call 23; refine (isField_no _ _ _ hf).mono ?_; rintro e w' ⟨rfl, n, rfl⟩))
    go_ret
    exact ⟨ret_int (by unfold putI; rw [if_neg hf]), n, rfl⟩

/-- what the document's loop holds behind the bits below i -/
theorem rput_eq (x lo i v X V : Int) (hx0 : 0 ≤ x) (hx : x < 4294967296) (hv0 : 0 ≤ v) (hX : ((Bm.putU x.toNat lo.toNat (i - lo).toNat v.toNat : Nat) : Int) = X) (hV : v / 2 ^ (i - lo).toNat = V) (h0 : 0 ≤ lo) (h1 : lo ≤ i) (h2 : i < 32) :
    (V % 2 = 1 → bits .or .u32 (bits .andNot .u32 X (2 ^ i.toNat % 4294967296)) (2 ^ i.toNat % 4294967296) = ((Bm.putU x.toNat lo.toNat (i + 1 - lo).toNat v.toNat : Nat) : Int)) ∧
    (¬ V % 2 = 1 → bits .andNot .u32 X (2 ^ i.toNat % 4294967296) = ((Bm.putU x.toNat lo.toNat (i + 1 - lo).toNat v.toNat : Nat) : Int)) ∧
    V / 2 = v / 2 ^ (i + 1 - lo).toNat := by
  obtain ⟨x, rfl⟩ := Int.eq_ofNat_of_zero_le hx0
  obtain ⟨v, rfl⟩ := Int.eq_ofNat_of_zero_le hv0
  obtain ⟨lo, rfl⟩ := Int.eq_ofNat_of_zero_le h0
  obtain ⟨i, rfl⟩ := Int.eq_ofNat_of_zero_le (Int.le_trans h0 h1)
  obtain ⟨n, rfl⟩ : ∃ n : Nat, i = lo + n := ⟨i - lo, by omega⟩
  simp only [Int.toNat_natCast] at *
  have e1 : (((lo + n : Nat) : Int) - (lo : Int)).toNat = n := by omega
  have e2 : (((lo + n : Nat) : Int) + 1 - (lo : Int)).toNat = n + 1 := by omega
  have hp : 2 ^ (lo + n) < 4294967296 := by
    have h2 : 2 ^ (lo + n) < 2 ^ 32 := Nat.pow_lt_pow_right (by omega) (by omega)
    simpa using h2
  have e3 : ((2 : Int) ^ (lo + n) % 4294967296) = ((2 ^ (lo + n) : Nat) : Int) := by
    rw [show ((2 : Int) ^ (lo + n)) = ((2 ^ (lo + n) : Nat) : Int) by simp]
    generalize 2 ^ (lo + n) = q at *
    omega
  rw [e1] at hX hV
  rw [e2, e3]
  subst hX hV
  have hb := Bm.put_lt x lo n v (by omega)
  have hs := Bm.put_step (X := x) (lo := lo) (n := n) (V := v) (by omega) (by omega)
  have hbit : ((v : Int) / 2 ^ n % 2 = 1) ↔ v / 2 ^ n % 2 = 1 := by rw [ofNat_div]; omega
  rw [u32_andNot_nat _ _ hb hp, u32_or_nat _ _ (Nat.lt_of_le_of_lt Nat.and_le_left hb) hp]
  refine ⟨fun h => ?_, fun h => ?_, ?_⟩
  · rw [hs, if_pos (hbit.1 h)]
  · rw [hs, if_neg (fun h' => h (hbit.2 h'))]
  · rw [ofNat_div, ofNat_div, Nat.pow_succ, ← Nat.div_div_eq_div_mul]; omega

theorem putv_bd (x lo n v : Int) (hx0 : 0 ≤ x) (hx : x < 4294967296) : 0 ≤ ((Bm.putU x.toNat lo.toNat n.toNat v.toNat : Nat) : Int) ∧ ((Bm.putU x.toNat lo.toNat n.toNat v.toNat : Nat) : Int) < 4294967296 := by
  have := Bm.put_lt x.toNat lo.toNat n.toNat v.toNat (by omega)
  omega
theorem div_bd (v : Int) (n : Nat) (h0 : 0 ≤ v) (h : v < 4294967296) : 0 ≤ v / 2 ^ n ∧ v / 2 ^ n < 4294967296 := by
  obtain ⟨v, rfl⟩ := Int.eq_ofNat_of_zero_le h0
  rw [ofNat_div]
  have := Nat.div_le_self v (2 ^ n)
  generalize v / 2 ^ n = q at *
  omega
theorem and1_i (V : Int) (h0 : 0 ≤ V) (h : V < 4294967296) : bits .and .u32 V 1 = V % 2 := by
  obtain ⟨V, rfl⟩ := Int.eq_ofNat_of_zero_le h0
  rw [u32_and1 _ (by omega)]; omega

theorem rput_c (x hi lo v : Int) (w : World) (hx0 : 0 ≤ x) (hx : x < 4294967296) (hv0 : 0 ≤ v) (hv : v < 4294967296) :
    Calls Try.prog 12 #[.int .u32 x, .int .i64 hi, .int .i64 lo, .int .u32 v] w fun e w' => e = .returned (.int .u32 (putI x hi lo v)) ∧ ∃ n, w' = w.drewN n := by
  by_cases hf : 0 ≤ lo ∧ lo ≤ hi ∧ hi < 32
  · obtain ⟨h1, h2, h3⟩ := hf
    go_enter Try.func12, Try.ntmps12
    go_wp2
    go_loop [0, 3, 9] (fun x' v' i => ∃ i' X V : Int, lo ≤ i' ∧ i' ≤ hi + 1 ∧ i = .int .i64 i' ∧ ((Bm.putU x.toNat lo.toNat (i' - lo).toNat v.toNat : Nat) : Int) = X ∧ v / 2 ^ (i' - lo).toNat = V ∧ x' = .int .u32 X ∧ v' = .int .u32 V) (fun _ _ i => (hi + 1 - intOf i).toNat)
    case atStart => exact ⟨lo, x, v, by omega, by omega, rfl, by rw [show (lo - lo).toNat = 0 by omega, Bm.put_zero (by omega) (by omega)]; omega, by rw [show (lo - lo).toNat = 0 by omega]; simp, rfl, rfl⟩
    case round =>
      obtain ⟨i', X, V, hi1, hi2, rfl, hX, hV, rfl, rfl⟩ := hrel
      have hb := putv_bd x lo (i' - lo) v hx0 hx
      rw [hX] at hb
      obtain ⟨hb0, hb1⟩ := hb
      have hc := div_bd v (i' - lo).toNat hv0 hv
      rw [hV] at hc
      obtain ⟨hc0, hc1⟩ := hc
      have HX := Lib.hid hX; clear hX
      have HV := Lib.hid hV; clear hV
      by_cases hlt : i' ≤ hi
      · have H := Lib.hid (rput_eq x lo i' v X V hx0 hx hv0 HX.out HV.out h1 hi1 (by omega))
        by_cases hbit : V % 2 = 1
        · have hB : (bits .and .u32 V 1 == 1) = true := by rw [and1_i V hc0 hc1]; simp [hbit]
          have Hb := Lib.hid hbit; clear hbit
          go_wp2
          go_round
          case rel => exact ⟨i' + 1, _, _, by omega, by omega, rfl, (H.out.1 Hb.out).symm, H.out.2.2.symm, rfl, rfl⟩
          case measure => simp [intOf]; omega
        · have hB : (bits .and .u32 V 1 == 1) = false := by rw [and1_i V hc0 hc1]; simp [hbit]
          have Hb := Lib.hid hbit; clear hbit
          go_wp2
          go_round
          case rel => exact ⟨i' + 1, _, _, by omega, by omega, rfl, (H.out.2.1 Hb.out).symm, H.out.2.2.symm, rfl, rfl⟩
          case measure => simp [intOf]; omega
      · go_wp2
        go_ret
        exact ⟨ret_int (by rw [← HX.out, show (i' - lo).toNat = hi.toNat + 1 - lo.toNat by omega]; unfold putI; rw [if_pos ⟨h1, h2, h3⟩]), 0, rfl⟩
  · have hP : putI x hi lo v = x := by unfold putI; rw [if_neg hf]
    rw [hP]
    clear hP
    by_cases c1 : lo < 0
    · clear hf
      go_enter Try.func12, Try.ntmps12
      go_wp2
      go_ret
      exact ⟨rfl, 0, rfl⟩
    · by_cases c2 : hi < lo
      · clear hf
        go_enter Try.func12, Try.ntmps12
        go_wp2
        go_ret
        exact ⟨rfl, 0, rfl⟩
      · have c3 : 31 < hi := by omega
        clear hf
        go_enter Try.func12, Try.ntmps12
        go_wp2
        go_ret
        exact ⟨rfl, 0, rfl⟩
end Go.Proofs.Ytmofnlekdmhaaaa
