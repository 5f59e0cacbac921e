/- ShortLong: just the halfwords of three beginnings are long, and none of them is read. Conditions: those that ProgOk names. -/
import Derived.Test.YtcphhojdfpedkaaDoorSh
import Derived.Test.YtcphhojdfpedkaaDoorSo
namespace Go.Proofs.YtcphhojdfpedkaaDoor
open Go.ChangeShapes Go.WideShapes Go.ChangeAt Go.RowKit
open Rd (IV decV)
open Sm (shortP noneI)
theorem long_29 (P : ProgOk) (h : Int) (it : Bool) (ht : h / 2048 % 32 = 29) (hq : shortP (h % 65536) it = none) (w : World) (hT : Tabs w) :
    Calls Tryd.prog 6 #[.int .i64 h, .bool it] w fun e w' => e = .returned (.bool true) ∧ Below w.heap.size w w' := by
  have hA := Lib.hid (fun W hT => awake_c P W hT)
  have hS := fun W hT => P.short h it W hT
  rw [hq] at hS
  have hG := fun W => P.long h W
  have A31 : ∀ x : Int, bits .and .i64 x 31 = x % 32 := Cm.and31
  rw [ht, show decide ((29 : Int) ≤ 29) = true by decide] at hG
  replace hS := Lib.hid hS
  replace hG := Lib.hid hG
  clear hq P
  have hL := Lib.hid (Later.refl hT)
  clear hT
  go_enter Tryd.func6, Tryd.ntmps6
  go_wp2_with fail
  refine (hS.out _ hL.out.tabs).mono ?_
  rintro e w1 ⟨rfl, hb⟩
  replace hL := Lib.hid ((hL.out.step hb).step (one_b w1 (.cells #[.int .i64 0, .int .i64 0, .int .i64 0, .int .i64 0, .int .i64 0, .int .i64 0, .int .i64 0, .int .i64 0, .bool false] 23)))
  clear hb
  unfold Rd.decV
  dsimp only
  unfold Rd.IV noneI
  dsimp only
  go_wp2_with fail
  refine (hG.out _).mono ?_
  rintro e w2 ⟨rfl, n, rfl⟩
  go_wp2_with fail
  refine (hG.out _).mono ?_
  rintro e w3 ⟨rfl, m, rfl⟩
  replace hL := Lib.hid (hL.out.drewn (n + m))
  go_wp2_with fail
  refine (hA.out _ hL.out.tabs).mono ?_
  rintro e w9 ⟨rfl, hb⟩
  go_wp2
  go_ret
  exact ⟨rfl, (hL.out.step hb).bel⟩
theorem long_30 (P : ProgOk) (h : Int) (it : Bool) (ht : h / 2048 % 32 = 30) (hq : shortP (h % 65536) it = none) (w : World) (hT : Tabs w) :
    Calls Tryd.prog 6 #[.int .i64 h, .bool it] w fun e w' => e = .returned (.bool true) ∧ Below w.heap.size w w' := by
  have hA := Lib.hid (fun W hT => awake_c P W hT)
  have hS := fun W hT => P.short h it W hT
  rw [hq] at hS
  have hG := fun W => P.long h W
  have A31 : ∀ x : Int, bits .and .i64 x 31 = x % 32 := Cm.and31
  rw [ht, show decide ((29 : Int) ≤ 30) = true by decide] at hG
  replace hS := Lib.hid hS
  replace hG := Lib.hid hG
  clear hq P
  have hL := Lib.hid (Later.refl hT)
  clear hT
  go_enter Tryd.func6, Tryd.ntmps6
  go_wp2_with fail
  refine (hS.out _ hL.out.tabs).mono ?_
  rintro e w1 ⟨rfl, hb⟩
  replace hL := Lib.hid ((hL.out.step hb).step (one_b w1 (.cells #[.int .i64 0, .int .i64 0, .int .i64 0, .int .i64 0, .int .i64 0, .int .i64 0, .int .i64 0, .int .i64 0, .bool false] 23)))
  clear hb
  unfold Rd.decV
  dsimp only
  unfold Rd.IV noneI
  dsimp only
  go_wp2_with fail
  refine (hG.out _).mono ?_
  rintro e w2 ⟨rfl, n, rfl⟩
  go_wp2_with fail
  refine (hG.out _).mono ?_
  rintro e w3 ⟨rfl, m, rfl⟩
  replace hL := Lib.hid (hL.out.drewn (n + m))
  go_wp2_with fail
  refine (hA.out _ hL.out.tabs).mono ?_
  rintro e w9 ⟨rfl, hb⟩
  go_wp2
  go_ret
  exact ⟨rfl, (hL.out.step hb).bel⟩
theorem long_31 (P : ProgOk) (h : Int) (it : Bool) (ht : h / 2048 % 32 = 31) (hq : shortP (h % 65536) it = none) (w : World) (hT : Tabs w) :
    Calls Tryd.prog 6 #[.int .i64 h, .bool it] w fun e w' => e = .returned (.bool true) ∧ Below w.heap.size w w' := by
  have hA := Lib.hid (fun W hT => awake_c P W hT)
  have hS := fun W hT => P.short h it W hT
  rw [hq] at hS
  have hG := fun W => P.long h W
  have A31 : ∀ x : Int, bits .and .i64 x 31 = x % 32 := Cm.and31
  rw [ht, show decide ((29 : Int) ≤ 31) = true by decide] at hG
  replace hS := Lib.hid hS
  replace hG := Lib.hid hG
  clear hq P
  have hL := Lib.hid (Later.refl hT)
  clear hT
  go_enter Tryd.func6, Tryd.ntmps6
  go_wp2_with fail
  refine (hS.out _ hL.out.tabs).mono ?_
  rintro e w1 ⟨rfl, hb⟩
  replace hL := Lib.hid ((hL.out.step hb).step (one_b w1 (.cells #[.int .i64 0, .int .i64 0, .int .i64 0, .int .i64 0, .int .i64 0, .int .i64 0, .int .i64 0, .int .i64 0, .bool false] 23)))
  clear hb
  unfold Rd.decV
  dsimp only
  unfold Rd.IV noneI
  dsimp only
  go_wp2_with fail
  refine (hG.out _).mono ?_
  rintro e w2 ⟨rfl, n, rfl⟩
  go_wp2_with fail
  refine (hG.out _).mono ?_
  rintro e w3 ⟨rfl, m, rfl⟩
  replace hL := Lib.hid (hL.out.drewn (n + m))
  go_wp2_with fail
  refine (hA.out _ hL.out.tabs).mono ?_
  rintro e w9 ⟨rfl, hb⟩
  go_wp2
  go_ret
  exact ⟨rfl, (hL.out.step hb).bel⟩
theorem long_no_none (P : ProgOk) (h : Int) (it : Bool) (ht : h / 2048 % 32 < 29) (hq : shortP (h % 65536) it = none) (w : World) (hT : Tabs w) :
    Calls Tryd.prog 6 #[.int .i64 h, .bool it] w fun e w' => e = .returned (.bool true) ∧ Below w.heap.size w w' := by
  have hA := Lib.hid (fun W hT => awake_c P W hT)
  have hS := fun W hT => P.short h it W hT
  rw [hq] at hS
  have hG := fun W => P.long h W
  have A31 : ∀ x : Int, bits .and .i64 x 31 = x % 32 := Cm.and31
  rw [show decide (29 ≤ h / 2048 % 32) = false by simp; omega] at hG
  have b29 : (h / 2048 % 32 == 29) = false := by simp; omega
  have b30 : (h / 2048 % 32 == 30) = false := by simp; omega
  have b31 : (h / 2048 % 32 == 31) = false := by simp; omega
  replace hS := Lib.hid hS
  replace hG := Lib.hid hG
  clear hq P
  have hL := Lib.hid (Later.refl hT)
  clear hT
  go_enter Tryd.func6, Tryd.ntmps6
  go_wp2_with fail
  refine (hS.out _ hL.out.tabs).mono ?_
  rintro e w1 ⟨rfl, hb⟩
  replace hL := Lib.hid ((hL.out.step hb).step (one_b w1 (.cells #[.int .i64 0, .int .i64 0, .int .i64 0, .int .i64 0, .int .i64 0, .int .i64 0, .int .i64 0, .int .i64 0, .bool false] 23)))
  clear hb
  unfold Rd.decV
  dsimp only
  unfold Rd.IV noneI
  dsimp only
  go_wp2_with fail
  refine (hG.out _).mono ?_
  rintro e w2 ⟨rfl, n, rfl⟩
  go_wp2_with fail
  refine (hG.out _).mono ?_
  rintro e w3 ⟨rfl, m, rfl⟩
  replace hL := Lib.hid (hL.out.drewn (n + m))
  go_wp2_with fail
  refine (hA.out _ hL.out.tabs).mono ?_
  rintro e w9 ⟨rfl, hb⟩
  go_wp2
  go_ret
  exact ⟨rfl, (hL.out.step hb).bel⟩
theorem long_no_some (P : ProgOk) (h : Int) (it : Bool) (ht : h / 2048 % 32 < 29) (op cond rd rn rm imm mode list : Int) (s : Bool) (hq : shortP (h % 65536) it = some ⟨op, cond, rd, rn, rm, imm, mode, list, s⟩) (w : World) (hT : Tabs w) :
    Calls Tryd.prog 6 #[.int .i64 h, .bool it] w fun e w' => e = .returned (.bool true) ∧ Below w.heap.size w w' := by
  have hA := Lib.hid (fun W hT => awake_c P W hT)
  have hS := fun W hT => P.short h it W hT
  rw [hq] at hS
  have hG := fun W => P.long h W
  have A31 : ∀ x : Int, bits .and .i64 x 31 = x % 32 := Cm.and31
  rw [show decide (29 ≤ h / 2048 % 32) = false by simp; omega] at hG
  have b29 : (h / 2048 % 32 == 29) = false := by simp; omega
  have b30 : (h / 2048 % 32 == 30) = false := by simp; omega
  have b31 : (h / 2048 % 32 == 31) = false := by simp; omega
  replace hS := Lib.hid hS
  replace hG := Lib.hid hG
  clear hq P
  have hL := Lib.hid (Later.refl hT)
  clear hT
  go_enter Tryd.func6, Tryd.ntmps6
  go_wp2_with fail
  refine (hS.out _ hL.out.tabs).mono ?_
  rintro e w1 ⟨rfl, hb⟩
  replace hL := Lib.hid ((hL.out.step hb).step (one_b w1 (.cells #[.int .i64 op, .int .i64 cond, .int .i64 rd, .int .i64 rn, .int .i64 rm, .int .i64 imm, .int .i64 mode, .int .i64 list, .bool s] 23)))
  clear hb
  unfold Rd.decV
  dsimp only
  unfold Rd.IV
  dsimp only
  go_wp2_with fail
  refine (hG.out _).mono ?_
  rintro e w2 ⟨rfl, n, rfl⟩
  go_wp2_with fail
  refine (hG.out _).mono ?_
  rintro e w3 ⟨rfl, m, rfl⟩
  replace hL := Lib.hid (hL.out.drewn (n + m))
  go_wp2_with fail
  refine (hA.out _ hL.out.tabs).mono ?_
  rintro e w9 ⟨rfl, hb⟩
  go_wp2
  go_ret
  exact ⟨rfl, (hL.out.step hb).bel⟩
theorem shortLong_c (P : ProgOk) (h : Int) (it : Bool) (w : World) (hT : Tabs w) :
    Calls Tryd.prog 6 #[.int .i64 h, .bool it] w fun e w' => e = .returned (.bool true) ∧ Below w.heap.size w w' := by
  by_cases hl : h / 2048 % 32 < 29
  · cases hq : shortP (h % 65536) it with
    | none => exact long_no_none P h it hl hq w hT
    | some i => exact long_no_some P h it hl _ _ _ _ _ _ _ _ _ hq w hT
  · have hq := Sm.long_none (h % 65536) it (by omega)
    rcases (by omega : h / 2048 % 32 = 29 ∨ h / 2048 % 32 = 30 ∨ h / 2048 % 32 = 31) with ht | ht | ht
    · exact long_29 P h it ht hq w hT
    · exact long_30 P h it ht hq w hT
    · exact long_31 P h it ht hq w hT
end Go.Proofs.YtcphhojdfpedkaaDoor
