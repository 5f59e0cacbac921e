/- Contracts of the program's functions on words, and of the document's own answers for them. -/
import Derived.Test.YtioeoiginimjhaaDoorRows
import Derived.Test.YtioeoiginimjhaaDoorBm
import Derived.WalkKit
import Derived.ProofKit
import Derived.OpenShut
import Derived.WalkLawsBesides
import Derived.Lib.Hide
import Derived.Outline
import Derived.Deep.QuietTactic
import Derived.BigQuiet
namespace Go.Proofs.YtioeoiginimjhaaDoor
open Go.ChangeShapes Go.WideShapes Go.ChangeAt Go.RowKit

theorem ret_int {k : IntKind} {a b : Int} (h : a = b) : Ending.returned (.int k a) = .returned (.int k b) := by rw [h]

/-- a callee that only draws, met behind draws already counted: all draws together are a count again -/
theorem drawn_on {P : Program} {g : FuncId} {xs : Array Value} {r : Value} {w : World} {a k : Nat}
    (c : Calls P g xs (w.drewN (a + k)) fun e w' => e = .returned r ∧ ∃ m, w' = (w.drewN (a + k)).drewN m) :
    Calls P g xs (w.drewN (a + k)) fun e w' => e = .returned r ∧ ∃ m, w' = w.drewN (a + m) := by
  refine c.mono ?_
  rintro e w' ⟨he, m, rfl⟩
  exact ⟨he, k + m, by rw [World.drewN_drewN, Nat.add_assoc]⟩

theorem two_pow_wrap (n : Nat) (h1 : 1 ≤ n) (h2 : n ≤ 32) : ((2 : Int) ^ n % 4294967296 - 1) % 4294967296 = ((2 ^ n - 1 : Nat) : Int) := by
  have e : ((2 : Int) ^ n) = ((2 ^ n : Nat) : Int) := by simp
  rw [e]
  have hp := Nat.two_pow_pos n
  have hl : 2 ^ n ≤ 2 ^ 32 := Nat.pow_le_pow_right (by omega) h2
  have h3 : (2 : Nat) ^ 32 = 4294967296 := by decide
  have h4 : 2 ^ 1 ≤ 2 ^ n := Nat.pow_le_pow_right (by omega) h1
  generalize 2 ^ n = q at *
  omega

theorem ones_c (n : Int) (w : World) (h1 : 1 ≤ n) (h2 : n ≤ 32) :
    Calls Tryd.prog 27 #[.int .i64 n] w fun e w' => e = .returned (.int .u32 ((2 ^ n.toNat - 1 : Nat) : Int)) ∧ ∃ n, w' = w.drewN n := by
  go_enter Tryd.func27, Tryd.ntmps27
  go_wp2
  go_ret
  exact ⟨ret_int (two_pow_wrap _ (by omega) (by omega)), 0, rfl⟩

theorem isField_yes (hi lo : Int) (w : World) (h1 : 0 ≤ lo) (h2 : lo ≤ hi) (h3 : hi < 32) :
    Calls Tryd.prog 26 #[.int .i64 hi, .int .i64 lo] w fun e w' => e = .returned (.bool true) ∧ ∃ n, w' = w.drewN n := by
  go_enter Tryd.func26, Tryd.ntmps26
  go_wp2
  go_ret
  exact ⟨rfl, 0, rfl⟩

theorem isField_no (hi lo : Int) (w : World) (h : ¬ (0 ≤ lo ∧ lo ≤ hi ∧ hi < 32)) :
    Calls Tryd.prog 26 #[.int .i64 hi, .int .i64 lo] w fun e w' => e = .returned (.bool false) ∧ ∃ n, w' = w.drewN n := by
  by_cases h3 : hi < 32
  · by_cases h2 : lo ≤ hi
    · have h1 : ¬ (0 ≤ lo) := by omega
      clear h
      go_enter Tryd.func26, Tryd.ntmps26
      go_wp2
      go_ret
      exact ⟨rfl, 0, rfl⟩
    · clear h
      go_enter Tryd.func26, Tryd.ntmps26
      go_wp2
      go_ret
      exact ⟨rfl, 0, rfl⟩
  · clear h
    go_enter Tryd.func26, Tryd.ntmps26
    go_wp2
    go_ret
    exact ⟨rfl, 0, rfl⟩

/-- the bits from hi to lo; 0 where these are no field -/
def getI (x hi lo : Int) : Int := if 0 ≤ lo ∧ lo ≤ hi ∧ hi < 32 then ((Bm.getB x.toNat hi.toNat lo.toNat : Nat) : Int) else 0
/-- x with the lowest bits of v there; x where these are no field -/
def putI (x hi lo v : Int) : Int := if 0 ≤ lo ∧ lo ≤ hi ∧ hi < 32 then ((Bm.putU x.toNat lo.toNat (hi.toNat + 1 - lo.toNat) v.toNat : Nat) : Int) else x

theorem get_eq (x hi lo : Int) (hx0 : 0 ≤ x) (hx : x < 4294967296) (h1 : 0 ≤ lo) (h2 : lo ≤ hi) (h3 : hi < 32) :
    bits .and .u32 (x / 2 ^ lo.toNat) ((2 ^ (hi - lo + 1).toNat - 1 : Nat) : Int) = getI x hi lo := by
  unfold getI
  rw [if_pos ⟨h1, h2, h3⟩]
  obtain ⟨X, rfl⟩ := Int.eq_ofNat_of_zero_le hx0
  obtain ⟨L, rfl⟩ := Int.eq_ofNat_of_zero_le h1
  obtain ⟨H, rfl⟩ := Int.eq_ofNat_of_zero_le (Int.le_trans h1 h2)
  have e : ((X : Int) / 2 ^ (L : Int).toNat) = ((X / 2 ^ L : Nat) : Int) := by simp
  have e2 : ((H : Int) - (L : Int) + 1).toNat = H + 1 - L := by omega
  have hl : 2 ^ (H + 1 - L) ≤ 2 ^ 32 := Nat.pow_le_pow_right (by omega) (by omega)
  have h4 : (2 : Nat) ^ 32 = 4294967296 := by decide
  have hp := Nat.two_pow_pos (H + 1 - L)
  rw [e, e2, u32_and_nat _ _ (Nat.lt_of_le_of_lt (Nat.div_le_self _ _) (by omega)) (by omega), Nat.and_two_pow_sub_one_eq_mod]
  simp [Bm.getB]

theorem get_c (x hi lo : Int) (w : World) (hx0 : 0 ≤ x) (hx : x < 4294967296) :
    Calls Tryd.prog 18 #[.int .u32 x, .int .i64 hi, .int .i64 lo] w fun e w' => e = .returned (.int .u32 (getI x hi lo)) ∧ ∃ n, w' = w.drewN n := by
  by_cases hf : 0 ≤ lo ∧ lo ≤ hi ∧ hi < 32
  · obtain ⟨h1, h2, h3⟩ := hf
    go_enter Tryd.func18, Tryd.ntmps18
    go_wp2_with ((go_at_call 26; refine (isField_yes _ _ _ h1 h2 h3).mono ?_; rintro e w' ⟨rfl, n, rfl⟩))
    go_quiet ((go_at_call 27; first | exact Calls.quiet_of (ones_c _ _ (by omega) (by omega)) | exact drawn_on (ones_c _ _ (by omega) (by omega))))
    go_wp2
    go_ret
    exact ⟨ret_int (get_eq x hi lo hx0 hx h1 h2 h3), n + nq, World.drewN_drewN ..⟩
  · go_enter Tryd.func18, Tryd.ntmps18
    go_wp2_with ((go_at_call 26; refine (isField_no _ _ _ hf).mono ?_; rintro e w' ⟨rfl, n, rfl⟩))
    go_ret
    exact ⟨ret_int (by unfold getI; rw [if_neg hf]), n, rfl⟩

theorem ofNat_div (X k : Nat) : ((X : Int) / 2 ^ k) = ((X / 2 ^ k : Nat) : Int) := by simp
theorem ofNat_shl (X k : Nat) : ((X : Int) * 2 ^ k % 4294967296) = ((X * 2 ^ k % 4294967296 : Nat) : Int) := by simp
theorem u32_and1 (X : Nat) (hX : X < 4294967296) : bits .and .u32 (X : Int) 1 = ((X % 2 : Nat) : Int) := by
  rw [show (1 : Int) = ((1 : Nat) : Int) by rfl, u32_and_nat _ _ hX (by omega), nat_mask1]

theorem rget_eq (X H k V : Nat) (hX : X < 4294967296) (hV : Bm.getB X H (k + 1) = V) (hk : k ≤ H) (hH : H < 32) :
    bits .or .u32 ((V : Int) * 2 % 4294967296) (bits .and .u32 ((X : Int) / 2 ^ k) 1) = ((Bm.getB X H k : Nat) : Int) := by
  have h1 : X / 2 ^ k < 4294967296 := Nat.lt_of_le_of_lt (Nat.div_le_self _ _) hX
  rw [ofNat_div, u32_and1 _ h1, show ((V : Int) * 2 % 4294967296) = ((V * 2 % 4294967296 : Nat) : Int) by simp, u32_or_nat _ _ (Nat.mod_lt _ (by decide)) (by omega), Bm.get_step hk hH, hV]

theorem rget_eq' (x hi i' V : Int) (hx0 : 0 ≤ x) (hx : x < 4294967296) (hV : ((Bm.getB x.toNat hi.toNat (i' + 1).toNat : Nat) : Int) = V) (h0 : 0 ≤ i') (h1 : i' ≤ hi) (h2 : hi < 32) :
    bits .or .u32 (V * 2 % 4294967296) (bits .and .u32 (x / 2 ^ i'.toNat) 1) = ((Bm.getB x.toNat hi.toNat (i' - 1 + 1).toNat : Nat) : Int) := by
  obtain ⟨X, rfl⟩ := Int.eq_ofNat_of_zero_le hx0
  rw [show (i' - 1 + 1).toNat = i'.toNat by omega]
  rw [show (i' + 1).toNat = i'.toNat + 1 by omega] at hV
  subst hV
  exact rget_eq _ _ _ _ (by omega) rfl (by omega) (by omega)
theorem getv_bd (x hi i : Int) (hx0 : 0 ≤ x) (hx : x < 4294967296) : 0 ≤ ((Bm.getB x.toNat hi.toNat i.toNat : Nat) : Int) ∧ ((Bm.getB x.toNat hi.toNat i.toNat : Nat) : Int) < 4294967296 := by
  have := Bm.get_lt x.toNat hi.toNat i.toNat (by omega)
  omega

theorem rget_c (x hi lo : Int) (w : World) (hx0 : 0 ≤ x) (hx : x < 4294967296) :
    Calls Tryd.prog 24 #[.int .u32 x, .int .i64 hi, .int .i64 lo] w fun e w' => e = .returned (.int .u32 (getI x hi lo)) ∧ ∃ n, w' = w.drewN n := by
  by_cases hf : 0 ≤ lo ∧ lo ≤ hi ∧ hi < 32
  · obtain ⟨h1, h2, h3⟩ := hf
    go_enter Tryd.func24, Tryd.ntmps24
    go_wp2
    go_loop [7, 8] (fun v i => ∃ i' V : Int, lo - 1 ≤ i' ∧ i' ≤ hi ∧ i = .int .i64 i' ∧ ((Bm.getB x.toNat hi.toNat (i' + 1).toNat : Nat) : Int) = V ∧ v = .int .u32 V) (fun _ i => (intOf i + 1 - lo).toNat)
    case atStart => exact ⟨hi, 0, by omega, by omega, rfl, by rw [show (hi + 1).toNat = hi.toNat + 1 by omega, Bm.get_top]; rfl, rfl⟩
    case round =>
      obtain ⟨i', V, hi1, hi2, rfl, hV, rfl⟩ := hrel
      have hb := getv_bd x hi (i' + 1) hx0 hx
      rw [hV] at hb
      obtain ⟨hb0, hb1⟩ := hb
      have HV := Lib.hid hV; clear hV
      by_cases hlt : lo ≤ i'
      · go_wp2
        go_round
        case rel => exact ⟨i' - 1, _, by omega, by omega, rfl, (rget_eq' x hi i' V hx0 hx HV.out (by omega) hi2 h3).symm, rfl⟩
        case measure => simp [intOf]; omega
      · go_wp2
        go_ret
        exact ⟨ret_int (by rw [← HV.out, show (i' + 1).toNat = lo.toNat by omega]; unfold getI; rw [if_pos ⟨h1, h2, h3⟩]), 0, rfl⟩
  · by_cases c1 : lo < 0
    · clear hf
      go_enter Tryd.func24, Tryd.ntmps24
      go_wp2
      go_ret
      exact ⟨ret_int (by unfold getI; rw [if_neg (by omega)]), 0, rfl⟩
    · by_cases c2 : hi < lo
      · clear hf
        go_enter Tryd.func24, Tryd.ntmps24
        go_wp2
        go_ret
        exact ⟨ret_int (by unfold getI; rw [if_neg (by omega)]), 0, rfl⟩
      · have c3 : 31 < hi := by omega
        clear hf
        go_enter Tryd.func24, Tryd.ntmps24
        go_wp2
        go_ret
        exact ⟨ret_int (by unfold getI; rw [if_neg (by omega)]), 0, rfl⟩
end Go.Proofs.YtioeoiginimjhaaDoor
