/- Contract of the program's Put. -/
import Derived.Test.YthpoficikcicmaaDoorRows
import Derived.Test.YthpoficikcicmaaDoorBw
namespace Go.Proofs.YthpoficikcicmaaDoor
open Go.ChangeShapes Go.WideShapes Go.ChangeAt Go.RowKit

theorem put_eq (x hi lo v : Int) (hx0 : 0 ≤ x) (hx : x < 4294967296) (hv0 : 0 ≤ v) (hv : v < 4294967296) (h1 : 0 ≤ lo) (h2 : lo ≤ hi) (h3 : hi < 32) :
    bits .or .u32 (bits .andNot .u32 x (((2 ^ (hi - lo + 1).toNat - 1 : Nat) : Int) * 2 ^ lo.toNat % 4294967296)) (bits .and .u32 (v * 2 ^ lo.toNat % 4294967296) (((2 ^ (hi - lo + 1).toNat - 1 : Nat) : Int) * 2 ^ lo.toNat % 4294967296)) = putI x hi lo v := by
  unfold putI
  rw [if_pos ⟨h1, h2, h3⟩]
  obtain ⟨X, rfl⟩ := Int.eq_ofNat_of_zero_le hx0
  obtain ⟨V, rfl⟩ := Int.eq_ofNat_of_zero_le hv0
  obtain ⟨L, rfl⟩ := Int.eq_ofNat_of_zero_le h1
  obtain ⟨H, rfl⟩ := Int.eq_ofNat_of_zero_le (Int.le_trans h1 h2)
  have e2 : ((H : Int) - (L : Int) + 1).toNat = H + 1 - L := by omega
  have hF := Bm.field_lt (lo := L) (n := H + 1 - L) (by omega)
  have e3 : (((2 ^ (H + 1 - L) - 1 : Nat) : Int) * 2 ^ L % 4294967296) = ((Bm.fieldU L (H + 1 - L) : Nat) : Int) := by
    rw [ofNat_shl, show (2 ^ (H + 1 - L) - 1) * 2 ^ L = Bm.fieldU L (H + 1 - L) from rfl, Nat.mod_eq_of_lt hF]
  simp only [Int.toNat_natCast]
  rw [e2, e3, ofNat_shl, u32_andNot_nat _ _ (by omega) hF, u32_and_nat _ _ (Nat.mod_lt _ (by decide)) hF]
  rw [u32_or_nat _ _ (Nat.lt_of_le_of_lt Nat.and_le_left (by omega)) (Nat.lt_of_le_of_lt Nat.and_le_right hF)]
  rfl

theorem put_c (x hi lo v : Int) (w : World) (hx0 : 0 ≤ x) (hx : x < 4294967296) (hv0 : 0 ≤ v) (hv : v < 4294967296) :
    Calls Tryd.prog 37 #[.int .u32 x, .int .i64 hi, .int .i64 lo, .int .u32 v] w fun e w' => e = .returned (.int .u32 (putI x hi lo v)) ∧ ∃ n, w' = w.drewN n := by
  by_cases hf : 0 ≤ lo ∧ lo ≤ hi ∧ hi < 32
  · obtain ⟨h1, h2, h3⟩ := hf
    go_enter Tryd.func37, Tryd.ntmps37
    go_wp2_with (first | (go_at_call 57; refine (isField_yes _ _ _ h1 h2 h3).mono ?_; rintro e w' ⟨rfl, n, rfl⟩) | (go_at_call 58; refine (bones_c _ _ (by omega) (by omega)).mono ?_; rintro e w' ⟨rfl, n2, rfl⟩))
    go_ret
    exact ⟨ret_int (put_eq x hi lo v hx0 hx hv0 hv h1 h2 h3), n + n2, rfl⟩
  · go_enter Tryd.func37, Tryd.ntmps37
    go_wp2_with ((go_at_call 57; refine (isField_no _ _ _ hf).mono ?_; rintro e w' ⟨rfl, n, rfl⟩))
    go_ret
    exact ⟨ret_int (by unfold putI; rw [if_neg hf]), n, rfl⟩

end Go.Proofs.YthpoficikcicmaaDoor
