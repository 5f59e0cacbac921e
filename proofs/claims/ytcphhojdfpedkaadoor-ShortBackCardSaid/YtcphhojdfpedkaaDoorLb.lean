/- ShortBack: an instruction's halfword is that instruction's. Conditions: those that ProgOk names. -/
import Derived.Test.YtcphhojdfpedkaaDoorSh
import Derived.Test.YtcphhojdfpedkaaDoorGs
import Derived.Test.YtcphhojdfpedkaaDoorVg
namespace Go.Proofs.YtcphhojdfpedkaaDoor
open Go.ChangeShapes Go.WideShapes Go.ChangeAt Go.RowKit
open Rd (IV decV)
open Sm (shortP noneI)
theorem back_none (P : ProgOk) (op cond rd rn rm imm mode list : Int) (s it : Bool) (hw : Nm.Wide list) (hq : Nm.encI ⟨op, cond, rd, rn, rm, imm, mode, list, s⟩ it = none) (w : World) (hT : Tabs w) :
    Calls Tryd.prog 4 #[.agg #[.int .i64 op, .int .i64 cond, .int .i64 rd, .int .i64 rn, .int .i64 rm, .int .i64 imm, .int .i64 mode, .int .i64 list, .bool s], .bool it] w fun e w' => e = .returned (.bool true) ∧ Below w.heap.size w w' := by
  have hA := Lib.hid (fun W hT => awake_c P W hT)
  have hR := fun W => renc_c op cond rd rn rm imm mode list s it W hw
  rw [hq] at hR
  replace hR := Lib.hid hR
  clear hq hw P
  have hL := Lib.hid ((Later.refl hT).step (one_b w (.cells #[.int .i64 op, .int .i64 cond, .int .i64 rd, .int .i64 rn, .int .i64 rm, .int .i64 imm, .int .i64 mode, .int .i64 list, .bool s] 23)))
  clear hT
  go_enter Tryd.func4, Tryd.ntmps4
  go_wp2_with fail
  refine (hR.out _).mono ?_
  rintro e w1 ⟨rfl, hb⟩
  replace hL := Lib.hid (hL.out.step hb)
  clear hb
  unfold optV
  go_wp2_with fail
  refine (hA.out _ hL.out.tabs).mono ?_
  rintro e w9 ⟨rfl, hb⟩
  go_wp2
  go_ret
  exact ⟨rfl, (hL.out.step hb).bel⟩
theorem back_some (P : ProgOk) (op cond rd rn rm imm mode list : Int) (s it : Bool) (hw : Nm.Wide list) (g : Int) (hq : Nm.encI ⟨op, cond, rd, rn, rm, imm, mode, list, s⟩ it = some g) (w : World) (hT : Tabs w) :
    Calls Tryd.prog 4 #[.agg #[.int .i64 op, .int .i64 cond, .int .i64 rd, .int .i64 rn, .int .i64 rm, .int .i64 imm, .int .i64 mode, .int .i64 list, .bool s], .bool it] w fun e w' => e = .returned (.bool true) ∧ Below w.heap.size w w' := by
  have hA := Lib.hid (fun W hT => awake_c P W hT)
  have hR := fun W => renc_c op cond rd rn rm imm mode list s it W hw
  rw [hq] at hR
  obtain ⟨hk, g0, g1⟩ := Sm.back _ it g hw hq
  have hS := fun W hT => P.short g it W hT
  rw [show g % 65536 = g by omega, hk] at hS
  replace hR := Lib.hid hR
  replace hS := Lib.hid hS
  clear hq hw P hk g0 g1
  have hL := Lib.hid ((Later.refl hT).step (one_b w (.cells #[.int .i64 op, .int .i64 cond, .int .i64 rd, .int .i64 rn, .int .i64 rm, .int .i64 imm, .int .i64 mode, .int .i64 list, .bool s] 23)))
  clear hT
  go_enter Tryd.func4, Tryd.ntmps4
  go_wp2_with fail
  refine (hR.out _).mono ?_
  rintro e w1 ⟨rfl, hb⟩
  obtain ⟨c1, l1⟩ := new_cells hb
  replace hL := Lib.hid (hL.out.step hb)
  clear hb
  unfold optV
  go_wp2_with fail
  refine (hS.out _ hL.out.tabs).mono ?_
  rintro e w2 ⟨rfl, hb⟩
  have c2 : ∀ j, w2.cell? ⟨w.heap.size, j, none⟩ = (#[.int .i64 op, .int .i64 cond, .int .i64 rd, .int .i64 rn, .int .i64 rm, .int .i64 imm, .int .i64 mode, .int .i64 list, .bool s] : Array Value)[j]? := fun j => (hb.cell (p := ⟨w.heap.size, j, none⟩) l1).trans (c1 j)
  have l2 := Nat.lt_of_lt_of_le l1 hb.size
  clear c1 l1
  replace hL := Lib.hid ((hL.out.step hb).step (one_b w2 (.cells #[.int .i64 op, .int .i64 cond, .int .i64 rd, .int .i64 rn, .int .i64 rm, .int .i64 imm, .int .i64 mode, .int .i64 list, .bool s] 23)))
  clear hb
  unfold Rd.decV
  dsimp only
  unfold Rd.IV
  dsimp only
  go_wp2_with fail
  refine (hA.out _ hL.out.tabs).mono ?_
  rintro e w9 ⟨rfl, hb⟩
  go_wp2
  go_ret
  exact ⟨rfl, (hL.out.step hb).bel⟩
theorem shortBack_c (P : ProgOk) (op cond rd rn rm imm mode list : Int) (s it : Bool) (hw : Nm.Wide list) (w : World) (hT : Tabs w) :
    Calls Tryd.prog 4 #[.agg #[.int .i64 op, .int .i64 cond, .int .i64 rd, .int .i64 rn, .int .i64 rm, .int .i64 imm, .int .i64 mode, .int .i64 list, .bool s], .bool it] w fun e w' => e = .returned (.bool true) ∧ Below w.heap.size w w' := by
  cases hq : Nm.encI ⟨op, cond, rd, rn, rm, imm, mode, list, s⟩ it with
  | none => exact back_none P op cond rd rn rm imm mode list s it hw hq w hT
  | some g => exact back_some P op cond rd rn rm imm mode list s it hw g hq w hT
end Go.Proofs.YtcphhojdfpedkaaDoor
