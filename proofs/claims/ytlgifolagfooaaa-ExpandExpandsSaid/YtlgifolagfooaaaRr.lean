/- Contracts of Ror: the program's and the document's own answer. -/
import Derived.Test.YtlgifolagfooaaaRows
import Derived.Test.YtlgifolagfooaaaGt
namespace Go.Proofs.Ytlgifolagfooaaa
open Go.ChangeShapes Go.WideShapes Go.ChangeAt Go.RowKit

/-- x turned right by n bits, by its least number from 0 to 31 -/
def rorI (x n : Int) : Int := ((Bm.rorB x.toNat (n % 32).toNat : Nat) : Int)

theorem u64_tmod (n : Int) : (IntKind.u64.wrap n).tmod 32 = n % 32 := by
  rw [IntKind.wrap_u64, tmod_of_emod]; omega

theorem ror_eq (x n t : Int) (hx0 : 0 ≤ x) (hx : x < 4294967296) (ht : n % 32 = t) :
    bits .or .u32 (x / 2 ^ t.toNat) (x * 2 ^ (32 - t).toNat % 4294967296) = rorI x n := by
  subst ht
  unfold rorI
  obtain ⟨X, rfl⟩ := Int.eq_ofNat_of_zero_le hx0
  rw [ofNat_div, ofNat_shl, u32_or_nat _ _ (Nat.lt_of_le_of_lt (Nat.div_le_self _ _) (by omega)) (Nat.mod_lt _ (by decide)), show (32 - n % 32).toNat = 32 - (n % 32).toNat by omega]
  rfl

theorem ror_c (x n : Int) (w : World) (hx0 : 0 ≤ x) (hx : x < 4294967296) :
    Calls Try.prog 16 #[.int .u32 x, .int .i64 n] w fun e w' => e = .returned (.int .u32 (rorI x n)) ∧ ∃ n, w' = w.drewN n := by
  have e := u64_tmod n
  have h0 : 0 ≤ n % 32 := by omega
  have h1 : n % 32 < 32 := by omega
  generalize ht : n % 32 = t at *
  have HT := Lib.hid ht; clear ht
  go_enter Try.func16, Try.ntmps16
  go_wp2
  go_ret
  exact ⟨ret_int (ror_eq x n t hx0 hx HT.out), 0, rfl⟩

theorem rror_eq (x n t V : Int) (hx0 : 0 ≤ x) (hx : x < 4294967296) (hV : rorI x (n - t) = V) :
    bits .or .u32 (V / 2) (V * 2147483648 % 4294967296) = rorI x (n - (t - 1)) := by
  subst hV
  unfold rorI
  obtain ⟨X, rfl⟩ := Int.eq_ofNat_of_zero_le hx0
  have hl := Bm.ror_lt X ((n - t) % 32).toNat (by omega)
  have h := Bm.ror_ror (X := X) (a := ((n - t) % 32).toNat) (b := 1) (by omega) (by omega) (by omega)
  rw [Int.toNat_natCast, show ((n - (t - 1)) % 32).toNat = (((n - t) % 32).toNat + 1) % 32 by omega, ← h]
  generalize Bm.rorB X ((n - t) % 32).toNat = R at *
  rw [show ((R : Int) / 2) = ((R / 2 ^ 1 : Nat) : Int) by simp, show ((R : Int) * 2147483648 % 4294967296) = ((R * 2 ^ (32 - 1) % 4294967296 : Nat) : Int) by simp,
    u32_or_nat _ _ (Nat.lt_of_le_of_lt (Nat.div_le_self _ _) hl) (Nat.mod_lt _ (by decide))]
  rfl

theorem rorv_bd (x n : Int) (hx0 : 0 ≤ x) (hx : x < 4294967296) : 0 ≤ rorI x n ∧ rorI x n < 4294967296 := by
  unfold rorI
  have := Bm.ror_lt x.toNat (n % 32).toNat (by omega)
  omega
theorem rorI_mod (x n m : Int) (h : n % 32 = m % 32) : rorI x n = rorI x m := by unfold rorI; rw [h]
theorem rorI_zero (x : Int) (hx0 : 0 ≤ x) (hx : x < 4294967296) : rorI x 0 = x := by
  unfold rorI
  rw [show ((0 : Int) % 32).toNat = 0 by rfl, Bm.ror_zero (by omega)]; omega

theorem rror_c (x n : Int) (w : World) (hx0 : 0 ≤ x) (hx : x < 4294967296) :
    Calls Try.prog 17 #[.int .u32 x, .int .i64 n] w fun e w' => e = .returned (.int .u32 (rorI x n)) ∧ ∃ n, w' = w.drewN n := by
  have hm1 : -32 < n.tmod 32 := Int.lt_tmod_of_pos _ (by decide)
  have hm2 : n.tmod 32 < 32 := Int.tmod_lt_of_pos _ (by decide)
  have hm3 : (n - n.tmod 32) % 32 = 0 := by rw [Int.tmod_eq_emod]; split <;> omega
  have HM := Lib.hid hm3; clear hm3
  by_cases hneg : n.tmod 32 < 0
  · go_enter Try.func17, Try.ntmps17
    go_wp2
    go_loop [0, 1] (fun x' i => ∃ t V : Int, 0 ≤ t ∧ t < 32 ∧ i = .int .i64 t ∧ rorI x (n - t) = V ∧ x' = .int .u32 V) (fun _ i => (intOf i).toNat)
    case atStart => exact ⟨n.tmod 32 + 32, x, by omega, by omega, rfl, by rw [rorI_mod x _ 0 (by have := HM.out; omega)]; exact rorI_zero x hx0 hx, rfl⟩
    case round =>
      obtain ⟨t, V, ht0, ht1, rfl, hV, rfl⟩ := hrel
      have hb := rorv_bd x (n - t) hx0 hx
      rw [hV] at hb
      obtain ⟨hb0, hb1⟩ := hb
      have HV := Lib.hid hV; clear hV
      by_cases hlt : 0 < t
      · go_wp2
        go_round
        case rel => exact ⟨t - 1, _, by omega, by omega, rfl, (rror_eq x n t V hx0 hx HV.out).symm, rfl⟩
        case measure => simp [intOf]; omega
      · go_wp2
        go_ret
        exact ⟨ret_int (by rw [← HV.out]; exact rorI_mod _ _ _ (by omega)), 0, rfl⟩
  · go_enter Try.func17, Try.ntmps17
    go_wp2
    go_loop [0, 1] (fun x' i => ∃ t V : Int, 0 ≤ t ∧ t < 32 ∧ i = .int .i64 t ∧ rorI x (n - t) = V ∧ x' = .int .u32 V) (fun _ i => (intOf i).toNat)
    case atStart => exact ⟨n.tmod 32, x, by omega, by omega, rfl, by rw [rorI_mod x _ 0 (by have := HM.out; omega)]; exact rorI_zero x hx0 hx, rfl⟩
    case round =>
      obtain ⟨t, V, ht0, ht1, rfl, hV, rfl⟩ := hrel
      have hb := rorv_bd x (n - t) hx0 hx
      rw [hV] at hb
      obtain ⟨hb0, hb1⟩ := hb
      have HV := Lib.hid hV; clear hV
      by_cases hlt : 0 < t
      · go_wp2
        go_round
        case rel => exact ⟨t - 1, _, by omega, by omega, rfl, (rror_eq x n t V hx0 hx HV.out).symm, rfl⟩
        case measure => simp [intOf]; omega
      · go_wp2
        go_ret
        exact ⟨ret_int (by rw [← HV.out]; exact rorI_mod _ _ _ (by omega)), 0, rfl⟩

end Go.Proofs.Ytlgifolagfooaaa
