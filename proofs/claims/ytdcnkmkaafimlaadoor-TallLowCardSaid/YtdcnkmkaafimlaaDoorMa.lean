/- TallLow: bits beyond the lowest 16 are not looked at. Conditions: those that TallOk names. -/
import Derived.Test.YtdcnkmkaafimlaaDoorRows
import Derived.Test.YtdcnkmkaafimlaaDoorGu
namespace Go.Proofs.YtdcnkmkaafimlaaDoor
open Go.ChangeShapes Go.WideShapes Go.ChangeAt Go.RowKit

theorem tnat (n : Nat) : n &&& 65535 = n % 65536 := Nat.and_two_pow_sub_one_eq_mod n 16
theorem tand (x : Int) : bits .and .i64 x 65535 = x % 65536 := by rw [show (65535 : Int) = ((65535 : Nat) : Int) by rfl, Cm.i64_and x 65535 (by decide), tnat]; omega
theorem tlow_none (P : TallOk) (a b : Int) (it : Bool) (hq : Tm.tallP Wm.tellF Tm.validI (a % 65536) (b % 65536) it = none) (w : World) (hT : Tabs w) :
    Calls Tryd.prog 3 #[.int .i64 a, .int .i64 b, .bool it] w fun e w' => e = .returned (.bool true) ∧ Below w.heap.size w w' := by
  have hA := Lib.hid (fun W hT => tawake_c P W hT)
  have A : ∀ x : Int, bits .and .i64 x 65535 = x % 65536 := tand
  have h1 := fun W hT => P.tall a b it W hT
  have h2 := fun W hT => P.tall (a % 65536) (b % 65536) it W hT
  rw [hq] at h1
  rw [show a % 65536 % 65536 = a % 65536 by omega, show b % 65536 % 65536 = b % 65536 by omega, hq] at h2
  replace h1 := Lib.hid h1
  replace h2 := Lib.hid h2
  clear hq P
  have hL := Lib.hid (Later.refl hT)
  clear hT
  go_enter Tryd.func3, Tryd.ntmps3
  go_wp2_with fail
  refine (h1.out _ hL.out.tabs).mono ?_
  rintro e w1 ⟨rfl, hb⟩
  replace hL := Lib.hid ((hL.out.step hb).step (tone_b w1 (.cells #[.int .i64 0, .int .i64 0, .int .i64 0, .int .i64 0, .int .i64 0, .int .i64 0, .int .i64 0, .int .i64 0, .bool false] 23)))
  clear hb
  unfold Tl.decV
  dsimp only
  unfold Tl.IV Tm.Z
  dsimp only
  go_wp2_with fail
  refine (h2.out _ hL.out.tabs).mono ?_
  rintro e w2 ⟨rfl, hb⟩
  obtain ⟨c1, l1⟩ := tnew_cells hb
  replace hL := Lib.hid ((hL.out.step hb).step (tone_b w2 (.cells #[.int .i64 0, .int .i64 0, .int .i64 0, .int .i64 0, .int .i64 0, .int .i64 0, .int .i64 0, .int .i64 0, .bool false] 23)))
  clear hb
  unfold Tl.decV
  dsimp only
  unfold Tl.IV Tm.Z
  dsimp only
  go_wp2_with fail
  refine (hA.out _ hL.out.tabs).mono ?_
  rintro e w9 ⟨rfl, hb⟩
  go_wp2
  go_ret
  exact ⟨rfl, (hL.out.step hb).bel⟩
theorem tlow_some (P : TallOk) (a b : Int) (it : Bool) (op cond rd rn rm imm mode list : Int) (s : Bool) (hq : Tm.tallP Wm.tellF Tm.validI (a % 65536) (b % 65536) it = some ⟨op, cond, rd, rn, rm, imm, mode, list, s⟩) (w : World) (hT : Tabs w) :
    Calls Tryd.prog 3 #[.int .i64 a, .int .i64 b, .bool it] w fun e w' => e = .returned (.bool true) ∧ Below w.heap.size w w' := by
  have hA := Lib.hid (fun W hT => tawake_c P W hT)
  have A : ∀ x : Int, bits .and .i64 x 65535 = x % 65536 := tand
  have h1 := fun W hT => P.tall a b it W hT
  have h2 := fun W hT => P.tall (a % 65536) (b % 65536) it W hT
  rw [hq] at h1
  rw [show a % 65536 % 65536 = a % 65536 by omega, show b % 65536 % 65536 = b % 65536 by omega, hq] at h2
  replace h1 := Lib.hid h1
  replace h2 := Lib.hid h2
  clear hq P
  have hL := Lib.hid (Later.refl hT)
  clear hT
  go_enter Tryd.func3, Tryd.ntmps3
  go_wp2_with fail
  refine (h1.out _ hL.out.tabs).mono ?_
  rintro e w1 ⟨rfl, hb⟩
  replace hL := Lib.hid ((hL.out.step hb).step (tone_b w1 (.cells #[.int .i64 op, .int .i64 cond, .int .i64 rd, .int .i64 rn, .int .i64 rm, .int .i64 imm, .int .i64 mode, .int .i64 list, .bool s] 23)))
  clear hb
  unfold Tl.decV
  dsimp only
  unfold Tl.IV
  dsimp only
  go_wp2_with fail
  refine (h2.out _ hL.out.tabs).mono ?_
  rintro e w2 ⟨rfl, hb⟩
  obtain ⟨c1, l1⟩ := tnew_cells hb
  replace hL := Lib.hid ((hL.out.step hb).step (tone_b w2 (.cells #[.int .i64 op, .int .i64 cond, .int .i64 rd, .int .i64 rn, .int .i64 rm, .int .i64 imm, .int .i64 mode, .int .i64 list, .bool s] 23)))
  clear hb
  unfold Tl.decV
  dsimp only
  unfold Tl.IV
  dsimp only
  go_wp2_with fail
  refine (hA.out _ hL.out.tabs).mono ?_
  rintro e w9 ⟨rfl, hb⟩
  go_wp2
  go_ret
  exact ⟨rfl, (hL.out.step hb).bel⟩
theorem tallLow_c (P : TallOk) (a b : Int) (it : Bool) (w : World) (hT : Tabs w) :
    Calls Tryd.prog 3 #[.int .i64 a, .int .i64 b, .bool it] w fun e w' => e = .returned (.bool true) ∧ Below w.heap.size w w' := by
  cases hq : Tm.tallP Wm.tellF Tm.validI (a % 65536) (b % 65536) it with
  | none => exact tlow_none P a b it hq w hT
  | some i => exact tlow_some P a b it _ _ _ _ _ _ _ _ _ hq w hT
end Go.Proofs.YtdcnkmkaafimlaaDoor
