/- Contract of the document's own Mask. -/
import Derived.Test.YtndeknebpimiaaaDoorRows
import Derived.Test.YtndeknebpimiaaaDoorCk
namespace Go.Proofs.YtndeknebpimiaaaDoor
open Go.ChangeShapes Go.WideShapes Go.ChangeAt Go.RowKit

theorem rmask_no_c (c : Int) (A : Option Addr) (cap : Nat) (xs : List Bool) (w : World) (h : ¬ (0 ≤ c ∧ c ≤ 14 ∧ xs.length ≤ 3)) :
    Calls Tryd.prog 20 #[.int .i64 c, .slice A xs.length cap] w fun e w' => e = .returned (.int .i64 (Cm.maskI c xs)) ∧ ∃ n, w' = w.drewN n := by
  rw [Cm.mask_no h]
  by_cases hc0 : 0 ≤ c
  · by_cases hc1 : c ≤ 14
    · have hl' : decide ((3 : Int) < (xs.length : Int)) = true := by simp; omega
      clear h
      go_enter Tryd.func20, Tryd.ntmps20
      go_wp2
      go_ret
      exact ⟨rfl, 0, rfl⟩
    · have hc2 : 14 < c := by omega
      clear h hc1
      go_enter Tryd.func20, Tryd.ntmps20
      go_wp2
      go_ret
      exact ⟨rfl, 0, rfl⟩
  · have hc2 : c < 0 := by omega
    clear h hc0
    go_enter Tryd.func20, Tryd.ntmps20
    go_wp2
    go_ret
    exact ⟨rfl, 0, rfl⟩

set_option maxHeartbeats 1000000 in
theorem rmask_yes_c (c : Int) (A : Option Addr) (cap : Nat) (xs : List Bool) (w : World) (hA : BoolsAt w w.heap.size A xs) (hc0 : 0 ≤ c) (hc1 : c ≤ 14) (hl : xs.length ≤ 3) :
    Calls Tryd.prog 20 #[.int .i64 c, .slice A xs.length cap] w fun e w' => e = .returned (.int .i64 (Cm.maskI c xs)) ∧ ∃ n, w' = w.drewN n := by
  have hl' : decide ((3 : Int) < (xs.length : Int)) = false := by simp; omega
  have HI := Lib.hid (mask_is c xs ⟨hc0, hc1⟩ hl)
  go_enter Tryd.func20, Tryd.ntmps20
  go_wp2
  go_loopw [5, 6, 7] (fun ms ats is wr => ∃ (k n : Nat) (m a : Int), k ≤ xs.length ∧ is = .int .i64 k ∧ ms = .int .i64 m ∧ ats = .int .i64 a ∧ 0 ≤ m ∧ 0 ≤ a ∧ m + 2 * a ≤ 16 ∧ RowKit.Hid (Cm.maskFrom c m a (xs.drop k) = Cm.maskI c xs) ∧ wr = w.drewN n) (fun _ _ is _ => xs.length - (intOf is).toNat)
  case atStart => exact ⟨0, 0, 0, 8, by omega, rfl, rfl, rfl, by omega, by omega, by omega, HI, rfl⟩
  case round =>
    obtain ⟨k, n, m, a, hk, rfl, rfl, rfl, hm0, ha0, hma, HF, rfl⟩ := hrel
    by_cases hlt : k < xs.length
    · obtain ⟨b, off, rfl, hb, hcell⟩ := (hA.drewN n).at_ hlt
      have hs := mask_step c m a xs k hlt
      rw [HF.out] at hs
      generalize xs.getD k false = s at *
      clear HF
      have hlt' : (k : Int) < (xs.length : Int) := by omega
      have hi0 : (0 : Int) ≤ (k : Int) := by omega
      cases s with
      | true =>
        rw [if_pos rfl] at hs
        have HS := Lib.hid hs
        clear hs
        rcases (by omega : c % 2 = 0 ∨ c % 2 = 1) with hp | hp
        all_goals
          have HP := Lib.hid hp
          go_wp2
          go_roundw
          case rel => exact ⟨k + 1, n, _, _, by omega, by go_num, rfl, rfl, by omega, by omega, by omega, Lib.hid (by rw [HS.out, HP.out]; congr 1; omega), rfl⟩
          case measure => simp [intOf]; omega
      | false =>
        rw [if_neg (by simp)] at hs
        by_cases h14 : c = 14
        · rw [if_pos h14] at hs
          have HS := Lib.hid hs
          subst h14
          clear hs
          go_wp2
          go_ret
          exact ⟨ret_int HS.out.symm, _, rfl⟩
        · rw [if_neg h14] at hs
          have HS := Lib.hid hs
          have h14' : (c == 14) = false := by simp [h14]
          clear hs h14
          rcases (by omega : c % 2 = 0 ∨ c % 2 = 1) with hp | hp
          all_goals
            have HP := Lib.hid hp
            go_wp2
            go_roundw
            case rel => exact ⟨k + 1, n, _, _, by omega, by go_num, rfl, rfl, by omega, by omega, by omega, Lib.hid (by rw [HS.out, HP.out]; congr 1; omega), rfl⟩
            case measure => simp [intOf]; omega
    · have hs := mask_end c m a xs k hlt
      rw [HF.out] at hs
      have HS := Lib.hid hs
      clear hs HF
      go_wp2
      go_ret
      exact ⟨ret_int HS.out.symm, _, rfl⟩

theorem rmask_c (c : Int) (A : Option Addr) (cap : Nat) (xs : List Bool) (w : World) (hA : BoolsAt w w.heap.size A xs) :
    Calls Tryd.prog 20 #[.int .i64 c, .slice A xs.length cap] w fun e w' => e = .returned (.int .i64 (Cm.maskI c xs)) ∧ ∃ n, w' = w.drewN n := by
  by_cases h : 0 ≤ c ∧ c ≤ 14 ∧ xs.length ≤ 3
  · exact rmask_yes_c c A cap xs w hA h.1 h.2.1 h.2.2
  · exact rmask_no_c c A cap xs w h
end Go.Proofs.YtndeknebpimiaaaDoor
