/- For every instruction WideBlocks returns true: but for branches with a condition of their own it is the same in a block. Conditions: none; the row lists the two tables of package offs, and the card ties them to the text of the program. -/
import Derived.Test.YtgjipmlegpbaaaaDoorRows
import Derived.Test.YtgjipmlegpbaaaaDoorTie
import Derived.Test.YtgjipmlegpbaaaaDoorCards
import Derived.SevenTiedAt
import Derived.WalkKit
import Derived.ProofKit
import Derived.OpenShut
import Derived.ShutString
import Derived.Below
import Derived.Test.YtgjipmlegpbaaaaDoorIp
import Derived.Test.YtgjipmlegpbaaaaDoorXl
namespace Go.Proofs.YtgjipmlegpbaaaaDoor.wideBlocks
open Go.ChangeShapes Go.WideShapes Go.ChangeAt Go.RowKit
open Go.ChangeMaps (open_string shut_string)
open Xw (Later optP penc_c pcan_c awake_c)

theorem own : ownKnob Tryd.prog.godebug = none := by kernel_rfl
theorem laidOut : laidOutB Tryd.prog = true := by kernel_rfl
theorem wide_of {n : Int} (h : (Lit.int .i64 n).wf = true) : Nm.Wide n := bounds_i64 h

theorem walk_branch1 (op cond rd rn rm imm mode list : Int) (s : Bool) (hw : Nm.Wide list) (ho : (op == 35) = true) (hc : (cond != 14) = true) (h1 : Wm.encW Wm.findF ⟨op, cond, rd, rn, rm, imm, mode, list, s⟩ false = none) (h2 : Wm.encW Wm.findF ⟨op, cond, rd, rn, rm, imm, mode, list, s⟩ true = none) (w : World) (hT : Tabs w) :
    Calls Tryd.prog 6 #[.agg #[.int .i64 op, .int .i64 cond, .int .i64 rd, .int .i64 rn, .int .i64 rm, .int .i64 imm, .int .i64 mode, .int .i64 list, .bool s]] w fun e w' => e = .returned (.bool true) ∧ Below w.heap.size w w' := by
  have hL := Lib.hid ((Later.refl hT).step (one_b w (.cells #[.int .i64 op, .int .i64 cond, .int .i64 rd, .int .i64 rn, .int .i64 rm, .int .i64 imm, .int .i64 mode, .int .i64 list, .bool s] 23)))
  clear hT
  have hE := fun W hT => penc_c op cond rd rn rm imm mode list s false hw W hT
  have hE2 := fun W hT => penc_c op cond rd rn rm imm mode list s true hw W hT
  rw [h1] at hE
  rw [h2] at hE2
  clear h1 h2
  replace hE := Lib.hid hE
  replace hE2 := Lib.hid hE2
  clear hw
  go_enter Tryd.func6, Tryd.ntmps6
  go_wp2_with fail
  refine (hE.out _ hL.out.tabs).mono ?_
  rintro e w2 ⟨rfl, hb⟩
  have hz : w.heap.size < w2.heap.size := Nat.lt_of_lt_of_le (by simp) hb.size
  have hcell : ∀ j, w2.cell? ⟨w.heap.size, j, none⟩ = (#[.int .i64 op, .int .i64 cond, .int .i64 rd, .int .i64 rn, .int .i64 rm, .int .i64 imm, .int .i64 mode, .int .i64 list, .bool s] : Array Value)[j]? := fun j => (hb.cell (p := ⟨w.heap.size, j, none⟩) (by simp)).trans (World.cell?_alloc_new w _ _ j)
  replace hL := Lib.hid (hL.out.step hb)
  clear hb
  unfold optP
  go_wp2_with fail
  refine (hE2.out _ hL.out.tabs).mono ?_
  rintro e w3 ⟨rfl, hb⟩
  have hcel3 : ∀ j, w3.cell? ⟨w.heap.size, j, none⟩ = (#[.int .i64 op, .int .i64 cond, .int .i64 rd, .int .i64 rn, .int .i64 rm, .int .i64 imm, .int .i64 mode, .int .i64 list, .bool s] : Array Value)[j]? := fun j => (hb.cell (p := ⟨w.heap.size, j, none⟩) hz).trans (hcell j)
  clear hcell
  replace hL := Lib.hid (hL.out.step hb)
  clear hb
  unfold optP
  go_wp2_with fail
  refine (awake_c _ hL.out.tabs).mono ?_
  rintro e w9 ⟨rfl, hb⟩
  go_wp2
  go_ret
  exact ⟨rfl, (hL.out.step hb).bel⟩

theorem walk_branch2 (op cond rd rn rm imm mode list : Int) (s : Bool) (hw : Nm.Wide list) (a b : Int) (ho : (op == 35) = true) (hc : (cond != 14) = true) (h1 : Wm.encW Wm.findF ⟨op, cond, rd, rn, rm, imm, mode, list, s⟩ false = some (a, b)) (h2 : Wm.encW Wm.findF ⟨op, cond, rd, rn, rm, imm, mode, list, s⟩ true = none) (w : World) (hT : Tabs w) :
    Calls Tryd.prog 6 #[.agg #[.int .i64 op, .int .i64 cond, .int .i64 rd, .int .i64 rn, .int .i64 rm, .int .i64 imm, .int .i64 mode, .int .i64 list, .bool s]] w fun e w' => e = .returned (.bool true) ∧ Below w.heap.size w w' := by
  have hL := Lib.hid ((Later.refl hT).step (one_b w (.cells #[.int .i64 op, .int .i64 cond, .int .i64 rd, .int .i64 rn, .int .i64 rm, .int .i64 imm, .int .i64 mode, .int .i64 list, .bool s] 23)))
  clear hT
  have hE := fun W hT => penc_c op cond rd rn rm imm mode list s false hw W hT
  have hE2 := fun W hT => penc_c op cond rd rn rm imm mode list s true hw W hT
  rw [h1] at hE
  rw [h2] at hE2
  clear h1 h2
  replace hE := Lib.hid hE
  replace hE2 := Lib.hid hE2
  clear hw
  go_enter Tryd.func6, Tryd.ntmps6
  go_wp2_with fail
  refine (hE.out _ hL.out.tabs).mono ?_
  rintro e w2 ⟨rfl, hb⟩
  have hz : w.heap.size < w2.heap.size := Nat.lt_of_lt_of_le (by simp) hb.size
  have hcell : ∀ j, w2.cell? ⟨w.heap.size, j, none⟩ = (#[.int .i64 op, .int .i64 cond, .int .i64 rd, .int .i64 rn, .int .i64 rm, .int .i64 imm, .int .i64 mode, .int .i64 list, .bool s] : Array Value)[j]? := fun j => (hb.cell (p := ⟨w.heap.size, j, none⟩) (by simp)).trans (World.cell?_alloc_new w _ _ j)
  replace hL := Lib.hid (hL.out.step hb)
  clear hb
  unfold optP
  go_wp2_with fail
  refine (hE2.out _ hL.out.tabs).mono ?_
  rintro e w3 ⟨rfl, hb⟩
  have hcel3 : ∀ j, w3.cell? ⟨w.heap.size, j, none⟩ = (#[.int .i64 op, .int .i64 cond, .int .i64 rd, .int .i64 rn, .int .i64 rm, .int .i64 imm, .int .i64 mode, .int .i64 list, .bool s] : Array Value)[j]? := fun j => (hb.cell (p := ⟨w.heap.size, j, none⟩) hz).trans (hcell j)
  clear hcell
  replace hL := Lib.hid (hL.out.step hb)
  clear hb
  unfold optP
  go_wp2_with fail
  refine (awake_c _ hL.out.tabs).mono ?_
  rintro e w9 ⟨rfl, hb⟩
  go_wp2
  go_ret
  exact ⟨rfl, (hL.out.step hb).bel⟩

theorem walk_none_op (op cond rd rn rm imm mode list : Int) (s : Bool) (hw : Nm.Wide list) (ho : (op == 35) = false) (h1 : Wm.encW Wm.findF ⟨op, cond, rd, rn, rm, imm, mode, list, s⟩ false = none) (h2 : Wm.encW Wm.findF ⟨op, cond, rd, rn, rm, imm, mode, list, s⟩ true = none) (w : World) (hT : Tabs w) :
    Calls Tryd.prog 6 #[.agg #[.int .i64 op, .int .i64 cond, .int .i64 rd, .int .i64 rn, .int .i64 rm, .int .i64 imm, .int .i64 mode, .int .i64 list, .bool s]] w fun e w' => e = .returned (.bool true) ∧ Below w.heap.size w w' := by
  have hL := Lib.hid ((Later.refl hT).step (one_b w (.cells #[.int .i64 op, .int .i64 cond, .int .i64 rd, .int .i64 rn, .int .i64 rm, .int .i64 imm, .int .i64 mode, .int .i64 list, .bool s] 23)))
  clear hT
  have hE := fun W hT => penc_c op cond rd rn rm imm mode list s false hw W hT
  have hE2 := fun W hT => penc_c op cond rd rn rm imm mode list s true hw W hT
  rw [h1] at hE
  rw [h2] at hE2
  clear h1 h2
  replace hE := Lib.hid hE
  replace hE2 := Lib.hid hE2
  clear hw
  go_enter Tryd.func6, Tryd.ntmps6
  go_wp2_with fail
  refine (hE.out _ hL.out.tabs).mono ?_
  rintro e w2 ⟨rfl, hb⟩
  have hz : w.heap.size < w2.heap.size := Nat.lt_of_lt_of_le (by simp) hb.size
  have hcell : ∀ j, w2.cell? ⟨w.heap.size, j, none⟩ = (#[.int .i64 op, .int .i64 cond, .int .i64 rd, .int .i64 rn, .int .i64 rm, .int .i64 imm, .int .i64 mode, .int .i64 list, .bool s] : Array Value)[j]? := fun j => (hb.cell (p := ⟨w.heap.size, j, none⟩) (by simp)).trans (World.cell?_alloc_new w _ _ j)
  replace hL := Lib.hid (hL.out.step hb)
  clear hb
  unfold optP
  go_wp2_with fail
  refine (hE2.out _ hL.out.tabs).mono ?_
  rintro e w3 ⟨rfl, hb⟩
  have hcel3 : ∀ j, w3.cell? ⟨w.heap.size, j, none⟩ = (#[.int .i64 op, .int .i64 cond, .int .i64 rd, .int .i64 rn, .int .i64 rm, .int .i64 imm, .int .i64 mode, .int .i64 list, .bool s] : Array Value)[j]? := fun j => (hb.cell (p := ⟨w.heap.size, j, none⟩) hz).trans (hcell j)
  clear hcell
  replace hL := Lib.hid (hL.out.step hb)
  clear hb
  unfold optP
  go_wp2_with fail
  refine (awake_c _ hL.out.tabs).mono ?_
  rintro e w9 ⟨rfl, hb⟩
  go_wp2
  go_ret
  exact ⟨rfl, (hL.out.step hb).bel⟩

theorem walk_some_op (op cond rd rn rm imm mode list : Int) (s : Bool) (hw : Nm.Wide list) (ho : (op == 35) = false) (a b : Int) (h1 : Wm.encW Wm.findF ⟨op, cond, rd, rn, rm, imm, mode, list, s⟩ false = some (a, b)) (h2 : Wm.encW Wm.findF ⟨op, cond, rd, rn, rm, imm, mode, list, s⟩ true = some (a, b)) (w : World) (hT : Tabs w) :
    Calls Tryd.prog 6 #[.agg #[.int .i64 op, .int .i64 cond, .int .i64 rd, .int .i64 rn, .int .i64 rm, .int .i64 imm, .int .i64 mode, .int .i64 list, .bool s]] w fun e w' => e = .returned (.bool true) ∧ Below w.heap.size w w' := by
  have hL := Lib.hid ((Later.refl hT).step (one_b w (.cells #[.int .i64 op, .int .i64 cond, .int .i64 rd, .int .i64 rn, .int .i64 rm, .int .i64 imm, .int .i64 mode, .int .i64 list, .bool s] 23)))
  clear hT
  have hE := fun W hT => penc_c op cond rd rn rm imm mode list s false hw W hT
  have hE2 := fun W hT => penc_c op cond rd rn rm imm mode list s true hw W hT
  rw [h1] at hE
  rw [h2] at hE2
  clear h1 h2
  replace hE := Lib.hid hE
  replace hE2 := Lib.hid hE2
  clear hw
  go_enter Tryd.func6, Tryd.ntmps6
  go_wp2_with fail
  refine (hE.out _ hL.out.tabs).mono ?_
  rintro e w2 ⟨rfl, hb⟩
  have hz : w.heap.size < w2.heap.size := Nat.lt_of_lt_of_le (by simp) hb.size
  have hcell : ∀ j, w2.cell? ⟨w.heap.size, j, none⟩ = (#[.int .i64 op, .int .i64 cond, .int .i64 rd, .int .i64 rn, .int .i64 rm, .int .i64 imm, .int .i64 mode, .int .i64 list, .bool s] : Array Value)[j]? := fun j => (hb.cell (p := ⟨w.heap.size, j, none⟩) (by simp)).trans (World.cell?_alloc_new w _ _ j)
  replace hL := Lib.hid (hL.out.step hb)
  clear hb
  unfold optP
  go_wp2_with fail
  refine (hE2.out _ hL.out.tabs).mono ?_
  rintro e w3 ⟨rfl, hb⟩
  have hcel3 : ∀ j, w3.cell? ⟨w.heap.size, j, none⟩ = (#[.int .i64 op, .int .i64 cond, .int .i64 rd, .int .i64 rn, .int .i64 rm, .int .i64 imm, .int .i64 mode, .int .i64 list, .bool s] : Array Value)[j]? := fun j => (hb.cell (p := ⟨w.heap.size, j, none⟩) hz).trans (hcell j)
  clear hcell
  replace hL := Lib.hid (hL.out.step hb)
  clear hb
  unfold optP
  go_wp2_with fail
  refine (awake_c _ hL.out.tabs).mono ?_
  rintro e w9 ⟨rfl, hb⟩
  go_wp2
  go_ret
  exact ⟨rfl, (hL.out.step hb).bel⟩

theorem walk_none_al (op cond rd rn rm imm mode list : Int) (s : Bool) (hw : Nm.Wide list) (ho : (op == 35) = true) (hc : (cond != 14) = false) (h1 : Wm.encW Wm.findF ⟨op, cond, rd, rn, rm, imm, mode, list, s⟩ false = none) (h2 : Wm.encW Wm.findF ⟨op, cond, rd, rn, rm, imm, mode, list, s⟩ true = none) (w : World) (hT : Tabs w) :
    Calls Tryd.prog 6 #[.agg #[.int .i64 op, .int .i64 cond, .int .i64 rd, .int .i64 rn, .int .i64 rm, .int .i64 imm, .int .i64 mode, .int .i64 list, .bool s]] w fun e w' => e = .returned (.bool true) ∧ Below w.heap.size w w' := by
  have hL := Lib.hid ((Later.refl hT).step (one_b w (.cells #[.int .i64 op, .int .i64 cond, .int .i64 rd, .int .i64 rn, .int .i64 rm, .int .i64 imm, .int .i64 mode, .int .i64 list, .bool s] 23)))
  clear hT
  have hE := fun W hT => penc_c op cond rd rn rm imm mode list s false hw W hT
  have hE2 := fun W hT => penc_c op cond rd rn rm imm mode list s true hw W hT
  rw [h1] at hE
  rw [h2] at hE2
  clear h1 h2
  replace hE := Lib.hid hE
  replace hE2 := Lib.hid hE2
  clear hw
  go_enter Tryd.func6, Tryd.ntmps6
  go_wp2_with fail
  refine (hE.out _ hL.out.tabs).mono ?_
  rintro e w2 ⟨rfl, hb⟩
  have hz : w.heap.size < w2.heap.size := Nat.lt_of_lt_of_le (by simp) hb.size
  have hcell : ∀ j, w2.cell? ⟨w.heap.size, j, none⟩ = (#[.int .i64 op, .int .i64 cond, .int .i64 rd, .int .i64 rn, .int .i64 rm, .int .i64 imm, .int .i64 mode, .int .i64 list, .bool s] : Array Value)[j]? := fun j => (hb.cell (p := ⟨w.heap.size, j, none⟩) (by simp)).trans (World.cell?_alloc_new w _ _ j)
  replace hL := Lib.hid (hL.out.step hb)
  clear hb
  unfold optP
  go_wp2_with fail
  refine (hE2.out _ hL.out.tabs).mono ?_
  rintro e w3 ⟨rfl, hb⟩
  have hcel3 : ∀ j, w3.cell? ⟨w.heap.size, j, none⟩ = (#[.int .i64 op, .int .i64 cond, .int .i64 rd, .int .i64 rn, .int .i64 rm, .int .i64 imm, .int .i64 mode, .int .i64 list, .bool s] : Array Value)[j]? := fun j => (hb.cell (p := ⟨w.heap.size, j, none⟩) hz).trans (hcell j)
  clear hcell
  replace hL := Lib.hid (hL.out.step hb)
  clear hb
  unfold optP
  go_wp2_with fail
  refine (awake_c _ hL.out.tabs).mono ?_
  rintro e w9 ⟨rfl, hb⟩
  go_wp2
  go_ret
  exact ⟨rfl, (hL.out.step hb).bel⟩

theorem walk_some_al (op cond rd rn rm imm mode list : Int) (s : Bool) (hw : Nm.Wide list) (ho : (op == 35) = true) (hc : (cond != 14) = false) (a b : Int) (h1 : Wm.encW Wm.findF ⟨op, cond, rd, rn, rm, imm, mode, list, s⟩ false = some (a, b)) (h2 : Wm.encW Wm.findF ⟨op, cond, rd, rn, rm, imm, mode, list, s⟩ true = some (a, b)) (w : World) (hT : Tabs w) :
    Calls Tryd.prog 6 #[.agg #[.int .i64 op, .int .i64 cond, .int .i64 rd, .int .i64 rn, .int .i64 rm, .int .i64 imm, .int .i64 mode, .int .i64 list, .bool s]] w fun e w' => e = .returned (.bool true) ∧ Below w.heap.size w w' := by
  have hL := Lib.hid ((Later.refl hT).step (one_b w (.cells #[.int .i64 op, .int .i64 cond, .int .i64 rd, .int .i64 rn, .int .i64 rm, .int .i64 imm, .int .i64 mode, .int .i64 list, .bool s] 23)))
  clear hT
  have hE := fun W hT => penc_c op cond rd rn rm imm mode list s false hw W hT
  have hE2 := fun W hT => penc_c op cond rd rn rm imm mode list s true hw W hT
  rw [h1] at hE
  rw [h2] at hE2
  clear h1 h2
  replace hE := Lib.hid hE
  replace hE2 := Lib.hid hE2
  clear hw
  go_enter Tryd.func6, Tryd.ntmps6
  go_wp2_with fail
  refine (hE.out _ hL.out.tabs).mono ?_
  rintro e w2 ⟨rfl, hb⟩
  have hz : w.heap.size < w2.heap.size := Nat.lt_of_lt_of_le (by simp) hb.size
  have hcell : ∀ j, w2.cell? ⟨w.heap.size, j, none⟩ = (#[.int .i64 op, .int .i64 cond, .int .i64 rd, .int .i64 rn, .int .i64 rm, .int .i64 imm, .int .i64 mode, .int .i64 list, .bool s] : Array Value)[j]? := fun j => (hb.cell (p := ⟨w.heap.size, j, none⟩) (by simp)).trans (World.cell?_alloc_new w _ _ j)
  replace hL := Lib.hid (hL.out.step hb)
  clear hb
  unfold optP
  go_wp2_with fail
  refine (hE2.out _ hL.out.tabs).mono ?_
  rintro e w3 ⟨rfl, hb⟩
  have hcel3 : ∀ j, w3.cell? ⟨w.heap.size, j, none⟩ = (#[.int .i64 op, .int .i64 cond, .int .i64 rd, .int .i64 rn, .int .i64 rm, .int .i64 imm, .int .i64 mode, .int .i64 list, .bool s] : Array Value)[j]? := fun j => (hb.cell (p := ⟨w.heap.size, j, none⟩) hz).trans (hcell j)
  clear hcell
  replace hL := Lib.hid (hL.out.step hb)
  clear hb
  unfold optP
  go_wp2_with fail
  refine (awake_c _ hL.out.tabs).mono ?_
  rintro e w9 ⟨rfl, hb⟩
  go_wp2
  go_ret
  exact ⟨rfl, (hL.out.step hb).bel⟩

theorem walk (op cond rd rn rm imm mode list : Int) (s : Bool) (wl : (Lit.int .i64 list).wf = true) (w : World) (hT : Tabs w) :
    Calls Tryd.prog 6 #[.agg #[.int .i64 op, .int .i64 cond, .int .i64 rd, .int .i64 rn, .int .i64 rm, .int .i64 imm, .int .i64 mode, .int .i64 list, .bool s]] w fun e w' => e = .returned (.bool true) ∧ Below w.heap.size w w' := by
  have hw := wide_of wl
  by_cases hbr : op = 35 ∧ cond ≠ 14
  · have h2 := Wm.block_none Wm.findF ⟨op, cond, rd, rn, rm, imm, mode, list, s⟩ hbr
    have ho : (op == 35) = true := by simp [hbr.1]
    have hc : (cond != 14) = true := by simp [hbr.2]
    cases h1 : Wm.encW Wm.findF ⟨op, cond, rd, rn, rm, imm, mode, list, s⟩ false with
    | none => exact walk_branch1 op cond rd rn rm imm mode list s hw ho hc h1 h2 w hT
    | some p => exact walk_branch2 op cond rd rn rm imm mode list s hw p.1 p.2 ho hc h1 h2 w hT
  · have h2 := Wm.block_same Wm.findF ⟨op, cond, rd, rn, rm, imm, mode, list, s⟩ hbr
    cases ho : (op == 35) with
    | false =>
      cases h1 : Wm.encW Wm.findF ⟨op, cond, rd, rn, rm, imm, mode, list, s⟩ false with
      | none => exact walk_none_op op cond rd rn rm imm mode list s hw ho h1 (h2.symm.trans h1) w hT
      | some p => exact walk_some_op op cond rd rn rm imm mode list s hw ho p.1 p.2 h1 (h2.symm.trans h1) w hT
    | true =>
      have hc : (cond != 14) = false := by
        cases hc : (cond != 14) with
        | false => rfl
        | true => exact absurd ⟨by simpa using ho, by simpa using hc⟩ hbr
      cases h1 : Wm.encW Wm.findF ⟨op, cond, rd, rn, rm, imm, mode, list, s⟩ false with
      | none => exact walk_none_al op cond rd rn rm imm mode list s hw ho hc h1 (h2.symm.trans h1) w hT
      | some p => exact walk_some_al op cond rd rn rm imm mode list s hw ho hc p.1 p.2 h1 (h2.symm.trans h1) w hT

set_option maxRecDepth 100000 in
theorem lifted (os : Os) (started : os.Started) (H : Type) (enc : TypeId × Value → H) :
    ReturnsInHanded {} Tryd.checked os 6 .any (fun w args => (Rows.wideBlocksSpec.pre enc Tryd.prog Tryd.f6 [] false w args ∧ laidMetH Tryd.prog laidL w) ∧ sizedMet enc Tryd.prog Tryd.f6 (OpenSpec.ofChange Rows.wideBlocksSpec) false w args)
      (Rows.wideBlocksSpec.post enc Tryd.prog Tryd.f6 false true false false) := by
  refine returnsInHanded_of_change_and (C := Tryd.checked) (X := fun w _ => laidMetH Tryd.prog laidL w) (fun _ _ _ hh h => h.of_heap hh) own started (by kernel_rfl) Tryd.func6
    (ChangeSpec.witness_shaped (enc := enc) (C := Tryd.checked) (os := os) (X := fun w _ => laidMetH Tryd.prog laidL w) false (World.doorLaid Tryd.prog 400 os) #[.agg #[.int .i64 0, .int .i64 0, .int .i64 0, .int .i64 0, .int .i64 0, .int .i64 0, .int .i64 0, .int .i64 0, .bool false]] 8 rfl (World.shaped_of_RefB (by kernel_rfl) (by kernel_rfl)) (by kernel_rfl) (by kernel_rfl) (by kernel_rfl) (door_met os _)) ?_
  intro W base args ds gs before hval0 hW _ _ hL _
  have hval : ∀ (j : Nat) t v, Tryd.f6.params[j]? = some t → args[j]? = some v → Value.okWide Tryd.prog W .any base t v := hval0
  have hW' := hW
  obtain ⟨p, q, hA0, hV, rfl, _, _⟩ := hW
  have hA : DataW.TrodAll enc Tryd.prog W 0 (fun _ => true) true Tryd.f6.params.toList args.toList ds p := hA0
  rw [Tryd.params6] at hA hval
  obtain ⟨v0, vs0, d0, ds0, p0, q0, hargs, rfl, rfl, h0, r0⟩ := trodAll_cons hA
  obtain ⟨rfl, rfl, rfl⟩ := trodAll_nil r0
  obtain rfl : args = #[v0] := by cases args; simp_all
  obtain ⟨rfl, rfl⟩ := trodVars_none hV
  have k0 := h0
  have lt0 : ∀ x ∈ p0, x.block < W.heap.size := by obtain ⟨m, hm⟩ := k0; exact DataW.trod_lt m _ _ _ hm
  obtain ⟨ia0, ib0, ic0, id0, ie0, if0, ig0, ih0, ii0, rfl, w0⟩ := open_ins Tryd.underlying23 (by kernel_rfl) ⟨by kernel_rfl, by kernel_rfl, by kernel_rfl⟩ ⟨by kernel_rfl, by kernel_rfl, by kernel_rfl⟩ ⟨by kernel_rfl, by kernel_rfl, by kernel_rfl⟩ ⟨by kernel_rfl, by kernel_rfl, by kernel_rfl⟩ ⟨by kernel_rfl, by kernel_rfl, by kernel_rfl⟩ ⟨by kernel_rfl, by kernel_rfl, by kernel_rfl⟩ ⟨by kernel_rfl, by kernel_rfl, by kernel_rfl⟩ ⟨by kernel_rfl, by kernel_rfl, by kernel_rfl⟩ ⟨by kernel_rfl, by kernel_rfl, by kernel_rfl⟩ (hval 0 23 v0 rfl rfl) h0
  clear hA0 hval0
  refine (walk ia0 ib0 ic0 id0 ie0 if0 ig0 ih0 ii0 w0 W (tabs_of hL)).mono fun e W' ⟨he, bel⟩ => ?_
  subst he
  exact ⟨_, rfl, _, _, _, [], _, [], hW', trodAll_mk1 (shut_bool Tryd.underlying4 _), (trodAll_cons_mk (Below.trod laidOut (by kernel_rfl) (of_decide_eq_true (by kernel_rfl)) k0 bel lt0) trodAll_mk0), rfl, bel.frame _, fun h => by cases h⟩

theorem over : Rows.wideBlocksRow.holds Tryd.pinned (OpenSpec.ofChange Rows.wideBlocksSpec) :=
  OpenClaim.holds_of_wide 6 Tryd.f6 rfl rfl rfl rfl rfl rfl rfl ⟨rfl, rfl, rfl, rfl, rfl⟩ rfl rfl rfl rfl rfl (by kernel_rfl) Tryd.func6 (by kernel_rfl)
    (of_decide_eq_true (by kernel_rfl)) (by unfold Func.isWrapper; first | (rw [if_pos (by decide +kernel)]; kernel_rfl) | (rw [if_neg (by decide +kernel)]; exact ⟨rfl, rfl⟩))
    (fun os started H enc _ => lifted os started H enc)

theorem proved : Rows.WideBlocksCardSaid :=
  Claim7.holds_tied_plain_at .later [] [.data, .data] true Rows.wideBlocksCard.stood.harness false
    over (fun _ h => by cases h) (by kernel_rfl) (fun _ h => by cases h) wideBlocks_row_tie rfl ⟨rfl, rfl⟩ (by kernel_rfl) rfl
    (fun f fn hf hfn => by
      obtain rfl : f = 6 := Option.some.inj ((show Tryd.prog.funcNamed Rows.wideBlocksRow.func = some 6 by kernel_rfl).symm.trans hf) |>.symm
      obtain rfl : fn = Tryd.f6 := (Option.some.inj (Tryd.func6.symm.trans hfn)).symm
      exact ⟨by kernel_rfl, fun j t ht => by
        rw [Tryd.params6] at ht
        have hm : t ∈ [23] := by simpa using Array.mem_of_getElem? ht
        have hall : ([23].all fun u => !Tryd.prog.wantsStandIn u) = true := by kernel_rfl
        exact (show Tryd.prog.wantsStandIn t = false by simpa using List.all_eq_true.1 hall t hm)⟩)
    (by kernel_rfl)
end Go.Proofs.YtgjipmlegpbaaaaDoor.wideBlocks
