/- ShortMay: what is read may be, and has a halfword, too. Conditions: those that ProgOk names. -/
import Derived.Test.YtcphhojdfpedkaaDoorSh
import Derived.Test.YtcphhojdfpedkaaDoorGs
import Derived.Test.YtcphhojdfpedkaaDoorSo
import Derived.Test.YtcphhojdfpedkaaDoorVg
namespace Go.Proofs.YtcphhojdfpedkaaDoor
open Go.ChangeShapes Go.WideShapes Go.ChangeAt Go.RowKit
open Rd (IV decV)
open Sm (shortP noneI)
def SmallL (i : Nm.I) : Prop := 0 ≤ i.list ∧ i.list < 65536
theorem small_if {p : Prop} [Decidable p] {a b : Nm.I} (ha : SmallL a) (hb : SmallL b) : SmallL (if p then a else b) := by split <;> assumption
theorem dec_list (h : Int) (it : Bool) : SmallL (Nm.decI h it) := by
  unfold Nm.decI Nm.dec0 Nm.dec1 Nm.dec2 Nm.dec3 Nm.dec4
  repeat' apply small_if
  all_goals exact ⟨by dsimp only; omega, by dsimp only; omega⟩
theorem short_wide {h : Int} {it : Bool} {i : Nm.I} (he : shortP h it = some i) : Nm.Wide i.list := by
  unfold shortP at he
  split at he
  · cases he
    unfold Sm.decS
    split
    · unfold Sm.noneI Nm.Wide; decide
    · have := dec_list h it
      unfold SmallL at this
      unfold Nm.Wide
      omega
  · cases he
theorem may_none (P : ProgOk) (h : Int) (it : Bool) (hq : shortP (h % 65536) it = none) (w : World) (hT : Tabs w) :
    Calls Tryd.prog 5 #[.int .i64 h, .bool it] w fun e w' => e = .returned (.bool true) ∧ Below w.heap.size w w' := by
  have hA := Lib.hid (fun W hT => awake_c P W hT)
  have hS := fun W hT => P.short h it W hT
  rw [hq] at hS
  replace hS := Lib.hid hS
  clear hq P
  have hL := Lib.hid (Later.refl hT)
  clear hT
  go_enter Tryd.func5, Tryd.ntmps5
  go_wp2_with fail
  refine (hS.out _ hL.out.tabs).mono ?_
  rintro e w1 ⟨rfl, hb⟩
  replace hL := Lib.hid ((hL.out.step hb).step (one_b w1 (.cells #[.int .i64 0, .int .i64 0, .int .i64 0, .int .i64 0, .int .i64 0, .int .i64 0, .int .i64 0, .int .i64 0, .bool false] 23)))
  clear hb
  unfold Rd.decV
  dsimp only
  unfold Rd.IV noneI
  dsimp only
  go_wp2_with fail
  refine (hA.out _ hL.out.tabs).mono ?_
  rintro e w9 ⟨rfl, hb⟩
  go_wp2
  go_ret
  exact ⟨rfl, (hL.out.step hb).bel⟩
theorem may_some (P : ProgOk) (h : Int) (it : Bool) (op cond rd rn rm imm mode list : Int) (s : Bool) (hw : Nm.Wide list) (hok : Nm.okB ⟨op, cond, rd, rn, rm, imm, mode, list, s⟩ = true) (g : Int) (hg : Nm.encI ⟨op, cond, rd, rn, rm, imm, mode, list, s⟩ it = some g) (hq : shortP (h % 65536) it = some ⟨op, cond, rd, rn, rm, imm, mode, list, s⟩) (w : World) (hT : Tabs w) :
    Calls Tryd.prog 5 #[.int .i64 h, .bool it] w fun e w' => e = .returned (.bool true) ∧ Below w.heap.size w w' := by
  have hA := Lib.hid (fun W hT => awake_c P W hT)
  have hS := fun W hT => P.short h it W hT
  rw [hq] at hS
  have hR := fun W => renc_c op cond rd rn rm imm mode list s it W hw
  rw [hg] at hR
  have hC := fun W => rcheck_c op cond rd rn rm imm mode list s W hw
  rw [hok] at hC
  obtain ⟨hk, g0, g1⟩ := Sm.back _ it g hw hg
  have hD := fun W hT => P.short g it W hT
  rw [show g % 65536 = g by omega, hk] at hD
  replace hS := Lib.hid hS
  replace hR := Lib.hid hR
  replace hC := Lib.hid hC
  replace hD := Lib.hid hD
  clear hq P hw hok hg hk g0 g1
  have hL := Lib.hid (Later.refl hT)
  clear hT
  go_enter Tryd.func5, Tryd.ntmps5
  go_wp2_with fail
  refine (hS.out _ hL.out.tabs).mono ?_
  rintro e w1 ⟨rfl, hb⟩
  replace hL := Lib.hid ((hL.out.step hb).step (one_b w1 (.cells #[.int .i64 op, .int .i64 cond, .int .i64 rd, .int .i64 rn, .int .i64 rm, .int .i64 imm, .int .i64 mode, .int .i64 list, .bool s] 23)))
  clear hb
  unfold Rd.decV
  dsimp only
  unfold Rd.IV
  dsimp only
  go_wp2_with fail
  refine (hR.out _).mono ?_
  rintro e w2 ⟨rfl, hb⟩
  obtain ⟨c1, l1⟩ := new_cells hb
  replace hL := Lib.hid (hL.out.step hb)
  clear hb
  unfold optV
  go_wp2_with fail
  refine (hC.out _).mono ?_
  rintro e w3 ⟨rfl, hb⟩
  replace c1 : ∀ j, w3.cell? ⟨w1.heap.size, j, none⟩ = (#[.int .i64 op, .int .i64 cond, .int .i64 rd, .int .i64 rn, .int .i64 rm, .int .i64 imm, .int .i64 mode, .int .i64 list, .bool s] : Array Value)[j]? := fun j => (hb.cell (p := ⟨w1.heap.size, j, none⟩) l1).trans (c1 j)
  replace l1 := Nat.lt_of_lt_of_le l1 hb.size
  replace hL := Lib.hid (hL.out.step hb)
  clear hb
  unfold Im.errI
  go_wp2_with fail
  refine (hD.out _ hL.out.tabs).mono ?_
  rintro e w4 ⟨rfl, hb⟩
  replace c1 : ∀ j, w4.cell? ⟨w1.heap.size, j, none⟩ = (#[.int .i64 op, .int .i64 cond, .int .i64 rd, .int .i64 rn, .int .i64 rm, .int .i64 imm, .int .i64 mode, .int .i64 list, .bool s] : Array Value)[j]? := fun j => (hb.cell (p := ⟨w1.heap.size, j, none⟩) l1).trans (c1 j)
  replace l1 := Nat.lt_of_lt_of_le l1 hb.size
  replace hL := Lib.hid ((hL.out.step hb).step (one_b w4 (.cells #[.int .i64 op, .int .i64 cond, .int .i64 rd, .int .i64 rn, .int .i64 rm, .int .i64 imm, .int .i64 mode, .int .i64 list, .bool s] 23)))
  clear hb
  unfold Rd.decV
  dsimp only
  unfold Rd.IV
  dsimp only
  go_wp2_with fail
  refine (hA.out _ hL.out.tabs).mono ?_
  rintro e w9 ⟨rfl, hb⟩
  go_wp2
  go_ret
  exact ⟨rfl, (hL.out.step hb).bel⟩
theorem shortMay_c (P : ProgOk) (h : Int) (it : Bool) (w : World) (hT : Tabs w) :
    Calls Tryd.prog 5 #[.int .i64 h, .bool it] w fun e w' => e = .returned (.bool true) ∧ Below w.heap.size w w' := by
  cases hq : shortP (h % 65536) it with
  | none => exact may_none P h it hq w hT
  | some i =>
    obtain ⟨hok, g, hg⟩ := Sm.may _ it i (by omega) hq
    exact may_some P h it _ _ _ _ _ _ _ _ _ (short_wide hq) hok g hg hq w hT
end Go.Proofs.YtcphhojdfpedkaaDoor
