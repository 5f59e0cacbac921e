/- Contracts of the program's functions on words, and of the document's own answers for them. -/
import Derived.Test.YthpoficikcicmaaDoorRows
import Derived.Test.YthpoficikcicmaaDoorBm
import Derived.Test.YthpoficikcicmaaDoorTg
namespace Go.Proofs.YthpoficikcicmaaDoor
open Go.ChangeShapes Go.WideShapes Go.ChangeAt Go.RowKit

theorem two_pow_wrap (n : Nat) (h1 : 1 ≤ n) (h2 : n ≤ 32) : ((2 : Int) ^ n % 4294967296 - 1) % 4294967296 = ((2 ^ n - 1 : Nat) : Int) := by
  have e : ((2 : Int) ^ n) = ((2 ^ n : Nat) : Int) := by simp
  rw [e]
  have hp := Nat.two_pow_pos n
  have hl : 2 ^ n ≤ 2 ^ 32 := Nat.pow_le_pow_right (by omega) h2
  have h3 : (2 : Nat) ^ 32 = 4294967296 := by decide
  have h4 : 2 ^ 1 ≤ 2 ^ n := Nat.pow_le_pow_right (by omega) h1
  generalize 2 ^ n = q at *
  omega

theorem bones_c (n : Int) (w : World) (h1 : 1 ≤ n) (h2 : n ≤ 32) :
    Calls Tryd.prog 58 #[.int .i64 n] w fun e w' => e = .returned (.int .u32 ((2 ^ n.toNat - 1 : Nat) : Int)) ∧ ∃ n, w' = w.drewN n := by
  go_enter Tryd.func58, Tryd.ntmps58
  go_wp2
  go_ret
  exact ⟨ret_int (two_pow_wrap _ (by omega) (by omega)), 0, rfl⟩

theorem isField_yes (hi lo : Int) (w : World) (h1 : 0 ≤ lo) (h2 : lo ≤ hi) (h3 : hi < 32) :
    Calls Tryd.prog 57 #[.int .i64 hi, .int .i64 lo] w fun e w' => e = .returned (.bool true) ∧ ∃ n, w' = w.drewN n := by
  go_enter Tryd.func57, Tryd.ntmps57
  go_wp2
  go_ret
  exact ⟨rfl, 0, rfl⟩

theorem isField_no (hi lo : Int) (w : World) (h : ¬ (0 ≤ lo ∧ lo ≤ hi ∧ hi < 32)) :
    Calls Tryd.prog 57 #[.int .i64 hi, .int .i64 lo] w fun e w' => e = .returned (.bool false) ∧ ∃ n, w' = w.drewN n := by
  by_cases h3 : hi < 32
  · by_cases h2 : lo ≤ hi
    · have h1 : ¬ (0 ≤ lo) := by omega
      clear h
      go_enter Tryd.func57, Tryd.ntmps57
      go_wp2
      go_ret
      exact ⟨rfl, 0, rfl⟩
    · clear h
      go_enter Tryd.func57, Tryd.ntmps57
      go_wp2
      go_ret
      exact ⟨rfl, 0, rfl⟩
  · clear h
    go_enter Tryd.func57, Tryd.ntmps57
    go_wp2
    go_ret
    exact ⟨rfl, 0, rfl⟩

/-- the bits from hi to lo; 0 where these are no field -/
def getI (x hi lo : Int) : Int := if 0 ≤ lo ∧ lo ≤ hi ∧ hi < 32 then ((Bm.getB x.toNat hi.toNat lo.toNat : Nat) : Int) else 0
/-- x with the lowest bits of v there; x where these are no field -/
def putI (x hi lo v : Int) : Int := if 0 ≤ lo ∧ lo ≤ hi ∧ hi < 32 then ((Bm.putU x.toNat lo.toNat (hi.toNat + 1 - lo.toNat) v.toNat : Nat) : Int) else x

theorem get_eq (x hi lo : Int) (hx0 : 0 ≤ x) (hx : x < 4294967296) (h1 : 0 ≤ lo) (h2 : lo ≤ hi) (h3 : hi < 32) :
    bits .and .u32 (x / 2 ^ lo.toNat) ((2 ^ (hi - lo + 1).toNat - 1 : Nat) : Int) = getI x hi lo := by
  unfold getI
  rw [if_pos ⟨h1, h2, h3⟩]
  obtain ⟨X, rfl⟩ := Int.eq_ofNat_of_zero_le hx0
  obtain ⟨L, rfl⟩ := Int.eq_ofNat_of_zero_le h1
  obtain ⟨H, rfl⟩ := Int.eq_ofNat_of_zero_le (Int.le_trans h1 h2)
  have e : ((X : Int) / 2 ^ (L : Int).toNat) = ((X / 2 ^ L : Nat) : Int) := by simp
  have e2 : ((H : Int) - (L : Int) + 1).toNat = H + 1 - L := by omega
  have hl : 2 ^ (H + 1 - L) ≤ 2 ^ 32 := Nat.pow_le_pow_right (by omega) (by omega)
  have h4 : (2 : Nat) ^ 32 = 4294967296 := by decide
  have hp := Nat.two_pow_pos (H + 1 - L)
  rw [e, e2, u32_and_nat _ _ (Nat.lt_of_le_of_lt (Nat.div_le_self _ _) (by omega)) (by omega), Nat.and_two_pow_sub_one_eq_mod]
  simp [Bm.getB]

theorem get_c (x hi lo : Int) (w : World) (hx0 : 0 ≤ x) (hx : x < 4294967296) :
    Calls Tryd.prog 36 #[.int .u32 x, .int .i64 hi, .int .i64 lo] w fun e w' => e = .returned (.int .u32 (getI x hi lo)) ∧ ∃ n, w' = w.drewN n := by
  by_cases hf : 0 ≤ lo ∧ lo ≤ hi ∧ hi < 32
  · obtain ⟨h1, h2, h3⟩ := hf
    go_enter Tryd.func36, Tryd.ntmps36
    go_wp2_with ((go_at_call 57; refine (isField_yes _ _ _ h1 h2 h3).mono ?_; rintro e w' ⟨rfl, n, rfl⟩))
    go_quiet ((go_at_call 58; first | exact Calls.quiet_of (bones_c _ _ (by omega) (by omega)) | exact drawn_on (bones_c _ _ (by omega) (by omega))))
    go_wp2
    go_ret
    exact ⟨ret_int (get_eq x hi lo hx0 hx h1 h2 h3), n + nq, World.drewN_drewN ..⟩
  · go_enter Tryd.func36, Tryd.ntmps36
    go_wp2_with ((go_at_call 57; refine (isField_no _ _ _ hf).mono ?_; rintro e w' ⟨rfl, n, rfl⟩))
    go_ret
    exact ⟨ret_int (by unfold getI; rw [if_neg hf]), n, rfl⟩

theorem ofNat_shl (X k : Nat) : ((X : Int) * 2 ^ k % 4294967296) = ((X * 2 ^ k % 4294967296 : Nat) : Int) := by simp
theorem getv_bd (x hi i : Int) (hx0 : 0 ≤ x) (hx : x < 4294967296) : 0 ≤ ((Bm.getB x.toNat hi.toNat i.toNat : Nat) : Int) ∧ ((Bm.getB x.toNat hi.toNat i.toNat : Nat) : Int) < 4294967296 := by
  have := Bm.get_lt x.toNat hi.toNat i.toNat (by omega)
  omega

end Go.Proofs.YthpoficikcicmaaDoor
