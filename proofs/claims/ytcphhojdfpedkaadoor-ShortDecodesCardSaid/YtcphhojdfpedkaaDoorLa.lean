/- ShortDecodes: the program reads of every number what the document reads. Conditions: those that ProgOk names. -/
import Derived.Test.YtcphhojdfpedkaaDoorDr
import Derived.Test.YtcphhojdfpedkaaDoorSh
namespace Go.Proofs.YtcphhojdfpedkaaDoor
open Go.ChangeShapes Go.WideShapes Go.ChangeAt Go.RowKit
open Rd (IV decV)
open Sm (shortP noneI)
theorem decodes_none (P : ProgOk) (h : Int) (it : Bool) (hq : shortP (h % 65536) it = none) (w : World) (hT : Tabs w) :
    Calls Tryd.prog 3 #[.int .i64 h, .bool it] w fun e w' => e = .returned (.bool true) ∧ Below w.heap.size w w' := by
  have hA := Lib.hid (fun W hT => awake_c P W hT)
  have hS := fun W hT => P.short h it W hT
  have hR := fun W => rdec_c h it W
  have hG := Lib.hid (fun W => P.long h W)
  have hH := Lib.hid (fun W => Rd.long_c h W)
  rw [hq] at hS hR
  replace hS := Lib.hid hS
  replace hR := Lib.hid hR
  clear hq P
  have hL := Lib.hid (Later.refl hT)
  clear hT
  go_enter Tryd.func3, Tryd.ntmps3
  go_wp2_with fail
  refine (hS.out _ hL.out.tabs).mono ?_
  rintro e w1 ⟨rfl, hb⟩
  replace hL := Lib.hid ((hL.out.step hb).step (one_b w1 (.cells #[.int .i64 0, .int .i64 0, .int .i64 0, .int .i64 0, .int .i64 0, .int .i64 0, .int .i64 0, .int .i64 0, .bool false] 23)))
  clear hb
  unfold Rd.decV
  dsimp only
  unfold Rd.IV noneI
  dsimp only
  go_wp2_with fail
  refine (hR.out _).mono ?_
  rintro e w2 ⟨rfl, hb⟩
  obtain ⟨c1, l1⟩ := new_cells hb
  replace hL := Lib.hid ((hL.out.step hb).step (one_b w2 (.cells #[.int .i64 0, .int .i64 0, .int .i64 0, .int .i64 0, .int .i64 0, .int .i64 0, .int .i64 0, .int .i64 0, .bool false] 23)))
  clear hb
  unfold Rd.decV
  dsimp only
  unfold Rd.IV noneI
  dsimp only
  go_wp2_with fail
  refine (hG.out _).mono ?_
  rintro e w4 ⟨rfl, n, rfl⟩
  go_wp2_with fail
  refine (hH.out _).mono ?_
  rintro e w5 ⟨rfl, m, rfl⟩
  replace hL := Lib.hid (hL.out.drewn (n + m))
  go_wp2_with fail
  refine (hA.out _ hL.out.tabs).mono ?_
  rintro e w9 ⟨rfl, hb⟩
  go_wp2
  go_ret
  exact ⟨rfl, (hL.out.step hb).bel⟩
theorem decodes_some (P : ProgOk) (h : Int) (it : Bool) (op cond rd rn rm imm mode list : Int) (s : Bool) (hq : shortP (h % 65536) it = some ⟨op, cond, rd, rn, rm, imm, mode, list, s⟩) (w : World) (hT : Tabs w) :
    Calls Tryd.prog 3 #[.int .i64 h, .bool it] w fun e w' => e = .returned (.bool true) ∧ Below w.heap.size w w' := by
  have hA := Lib.hid (fun W hT => awake_c P W hT)
  have hS := fun W hT => P.short h it W hT
  have hR := fun W => rdec_c h it W
  have hG := Lib.hid (fun W => P.long h W)
  have hH := Lib.hid (fun W => Rd.long_c h W)
  rw [hq] at hS hR
  replace hS := Lib.hid hS
  replace hR := Lib.hid hR
  clear hq P
  have hL := Lib.hid (Later.refl hT)
  clear hT
  go_enter Tryd.func3, Tryd.ntmps3
  go_wp2_with fail
  refine (hS.out _ hL.out.tabs).mono ?_
  rintro e w1 ⟨rfl, hb⟩
  replace hL := Lib.hid ((hL.out.step hb).step (one_b w1 (.cells #[.int .i64 op, .int .i64 cond, .int .i64 rd, .int .i64 rn, .int .i64 rm, .int .i64 imm, .int .i64 mode, .int .i64 list, .bool s] 23)))
  clear hb
  unfold Rd.decV
  dsimp only
  unfold Rd.IV
  dsimp only
  go_wp2_with fail
  refine (hR.out _).mono ?_
  rintro e w2 ⟨rfl, hb⟩
  obtain ⟨c1, l1⟩ := new_cells hb
  replace hL := Lib.hid ((hL.out.step hb).step (one_b w2 (.cells #[.int .i64 op, .int .i64 cond, .int .i64 rd, .int .i64 rn, .int .i64 rm, .int .i64 imm, .int .i64 mode, .int .i64 list, .bool s] 23)))
  clear hb
  unfold Rd.decV
  dsimp only
  unfold Rd.IV
  dsimp only
  go_wp2_with fail
  refine (hG.out _).mono ?_
  rintro e w4 ⟨rfl, n, rfl⟩
  go_wp2_with fail
  refine (hH.out _).mono ?_
  rintro e w5 ⟨rfl, m, rfl⟩
  replace hL := Lib.hid (hL.out.drewn (n + m))
  go_wp2_with fail
  refine (hA.out _ hL.out.tabs).mono ?_
  rintro e w9 ⟨rfl, hb⟩
  go_wp2
  go_ret
  exact ⟨rfl, (hL.out.step hb).bel⟩
theorem shortDecodes_c (P : ProgOk) (h : Int) (it : Bool) (w : World) (hT : Tabs w) :
    Calls Tryd.prog 3 #[.int .i64 h, .bool it] w fun e w' => e = .returned (.bool true) ∧ Below w.heap.size w w' := by
  cases hq : shortP (h % 65536) it with
  | none => exact decodes_none P h it hq w hT
  | some i => exact decodes_some P h it _ _ _ _ _ _ _ _ _ hq w hT
end Go.Proofs.YtcphhojdfpedkaaDoor
