/- For every instruction, in a block or not, WideNumbers returns true: an operation on data with a number is wide just if the number can be told, or is a sum's of twelve bits. Conditions: none; the row lists the two tables of package offs, and the card ties them to the text of the program. -/
import Derived.Test.YtgjipmlegpbaaaaDoorRows
import Derived.Test.YtgjipmlegpbaaaaDoorTie
import Derived.Test.YtgjipmlegpbaaaaDoorCards
import Derived.SevenTiedAt
import Derived.WalkKit
import Derived.ProofKit
import Derived.OpenShut
import Derived.ShutString
import Derived.Below
import Derived.Test.YtgjipmlegpbaaaaDoorIp
import Derived.Test.YtgjipmlegpbaaaaDoorXl
import Derived.Test.YtgjipmlegpbaaaaDoorQk
namespace Go.Proofs.YtgjipmlegpbaaaaDoor.wideNumbers
open Go.ChangeShapes Go.WideShapes Go.ChangeAt Go.RowKit
open Go.ChangeMaps (open_string shut_string)
open Xw (Later optP penc_c pcan_c awake_c)

theorem own : ownKnob Tryd.prog.godebug = none := by kernel_rfl
theorem laidOut : laidOutB Tryd.prog = true := by kernel_rfl
theorem wide_of {n : Int} (h : (Lit.int .i64 n).wf = true) : Nm.Wide n := bounds_i64 h

theorem imm_in {op cond rd rn rm imm list : Int} {s : Bool} (h : Nm.okB ⟨op, cond, rd, rn, rm, imm, 1, list, s⟩ = true) (ho : op ≤ 15) : 0 ≤ imm ∧ imm ≤ 4294967295 := by
  obtain ⟨h0, _, _, h3, _⟩ := Nm.ok_parts h
  have h3' := Nm.last_cases h3
  dsimp only at h0 h3'
  rcases h3' with ⟨h, _⟩ | ⟨_, _, q2, q3, _⟩ | ⟨h, _⟩
  · cases h
  · clear h h3
    rcases (by omega : op = 1 ∨ op = 2 ∨ op = 3 ∨ op = 4 ∨ op = 5 ∨ op = 6 ∨ op = 7 ∨ op = 8 ∨ op = 9 ∨ op = 10 ∨ op = 11 ∨ op = 12 ∨ op = 13 ∨ op = 14 ∨ op = 15) with rfl | rfl | rfl | rfl | rfl | rfl | rfl | rfl | rfl | rfl | rfl | rfl | rfl | rfl | rfl <;> exact ⟨q2, q3⟩
  · cases h
theorem walk_big (op cond rd rn rm imm mode list : Int) (s it : Bool) (ho : decide (15 < op) = true) (w : World) (hT : Tabs w) :
    Calls Tryd.prog 5 #[.agg #[.int .i64 op, .int .i64 cond, .int .i64 rd, .int .i64 rn, .int .i64 rm, .int .i64 imm, .int .i64 mode, .int .i64 list, .bool s], .bool it] w fun e w' => e = .returned (.bool true) ∧ Below w.heap.size w w' := by
  have hL := Lib.hid ((Later.refl hT).step (one_b w (.cells #[.int .i64 op, .int .i64 cond, .int .i64 rd, .int .i64 rn, .int .i64 rm, .int .i64 imm, .int .i64 mode, .int .i64 list, .bool s] 23)))
  clear hT
  go_enter Tryd.func5, Tryd.ntmps5
  go_wp2_with fail
  refine (awake_c _ hL.out.tabs).mono ?_
  rintro e w9 ⟨rfl, hb⟩
  go_wp2
  go_ret
  exact ⟨rfl, (hL.out.step hb).bel⟩

theorem walk_mode (op cond rd rn rm imm mode list : Int) (s it : Bool) (ho : decide (15 < op) = false) (hm : (mode != 1) = true) (w : World) (hT : Tabs w) :
    Calls Tryd.prog 5 #[.agg #[.int .i64 op, .int .i64 cond, .int .i64 rd, .int .i64 rn, .int .i64 rm, .int .i64 imm, .int .i64 mode, .int .i64 list, .bool s], .bool it] w fun e w' => e = .returned (.bool true) ∧ Below w.heap.size w w' := by
  have hL := Lib.hid ((Later.refl hT).step (one_b w (.cells #[.int .i64 op, .int .i64 cond, .int .i64 rd, .int .i64 rn, .int .i64 rm, .int .i64 imm, .int .i64 mode, .int .i64 list, .bool s] 23)))
  clear hT
  go_enter Tryd.func5, Tryd.ntmps5
  go_wp2_with fail
  refine (awake_c _ hL.out.tabs).mono ?_
  rintro e w9 ⟨rfl, hb⟩
  go_wp2
  go_ret
  exact ⟨rfl, (hL.out.step hb).bel⟩

theorem walk_not (op cond rd rn rm imm mode list : Int) (s it : Bool) (hw : Nm.Wide list) (ho : decide (15 < op) = false) (hm : (mode != 1) = false) (hok : Nm.okB ⟨op, cond, rd, rn, rm, imm, mode, list, s⟩ = false) (w : World) (hT : Tabs w) :
    Calls Tryd.prog 5 #[.agg #[.int .i64 op, .int .i64 cond, .int .i64 rd, .int .i64 rn, .int .i64 rm, .int .i64 imm, .int .i64 mode, .int .i64 list, .bool s], .bool it] w fun e w' => e = .returned (.bool true) ∧ Below w.heap.size w w' := by
  have hL := Lib.hid ((Later.refl hT).step (one_b w (.cells #[.int .i64 op, .int .i64 cond, .int .i64 rd, .int .i64 rn, .int .i64 rm, .int .i64 imm, .int .i64 mode, .int .i64 list, .bool s] 23)))
  clear hT
  have hC := fun W => rcheck_c op cond rd rn rm imm mode list s W hw
  rw [hok] at hC
  replace hC := Lib.hid hC
  clear hw hok
  go_enter Tryd.func5, Tryd.ntmps5
  go_wp2_with fail
  refine (hC.out _).mono ?_
  rintro e w2 ⟨rfl, hb⟩
  replace hL := Lib.hid (hL.out.step hb)
  clear hb
  unfold Im.errI
  go_wp2_with fail
  refine (awake_c _ hL.out.tabs).mono ?_
  rintro e w9 ⟨rfl, hb⟩
  go_wp2
  go_ret
  exact ⟨rfl, (hL.out.step hb).bel⟩

theorem walk_o5_t_t_t (op cond rd rn rm imm mode list : Int) (it : Bool) (hw : Nm.Wide list) (f : Int) (ho : decide (15 < op) = false) (hm : (mode != 1) = false) (h5 : (op == 5) = true) (_hle : decide (imm ≤ 4095) = true) (hok : Nm.okB ⟨op, cond, rd, rn, rm, imm, mode, list, true⟩ = true)
    (hF : ∀ W, Calls Tryd.prog 10 #[.int .u32 (imm % 4294967296)] W fun e w' => e = .returned (.tuple #[.int .i64 f, .bool true]) ∧ ∃ n, w' = W.drewN n)
    (hn : (Wm.encW Wm.findF ⟨op, cond, rd, rn, rm, imm, mode, list, true⟩ it).isSome = true) (w : World) (hT : Tabs w) :
    Calls Tryd.prog 5 #[.agg #[.int .i64 op, .int .i64 cond, .int .i64 rd, .int .i64 rn, .int .i64 rm, .int .i64 imm, .int .i64 mode, .int .i64 list, .bool true], .bool it] w fun e w' => e = .returned (.bool true) ∧ Below w.heap.size w w' := by
  have hL := Lib.hid ((Later.refl hT).step (one_b w (.cells #[.int .i64 op, .int .i64 cond, .int .i64 rd, .int .i64 rn, .int .i64 rm, .int .i64 imm, .int .i64 mode, .int .i64 list, .bool true] 23)))
  clear hT
  have hC := fun W => rcheck_c op cond rd rn rm imm mode list true W hw
  rw [hok] at hC
  replace hC := Lib.hid hC
  have hN := fun W hT => pcan_c op cond rd rn rm imm mode list true it hw W hT
  rw [hn] at hN
  replace hN := Lib.hid hN
  replace hF := Lib.hid hF
  clear hw hok hn
  go_enter Tryd.func5, Tryd.ntmps5
  go_wp2_with fail
  refine (hC.out _).mono ?_
  rintro e w2 ⟨rfl, hb⟩
  have hz : w.heap.size < w2.heap.size := Nat.lt_of_lt_of_le (by simp) hb.size
  have hcell : ∀ j, w2.cell? ⟨w.heap.size, j, none⟩ = (#[.int .i64 op, .int .i64 cond, .int .i64 rd, .int .i64 rn, .int .i64 rm, .int .i64 imm, .int .i64 mode, .int .i64 list, .bool true] : Array Value)[j]? := fun j => (hb.cell (p := ⟨w.heap.size, j, none⟩) (by simp)).trans (World.cell?_alloc_new w _ _ j)
  replace hL := Lib.hid (hL.out.step hb)
  clear hb
  unfold Im.errI
  go_wp2_with fail
  refine (hF.out _).mono ?_
  rintro e w3 ⟨rfl, n, rfl⟩
  have hdn : ∀ j, (w2.drewN n).cell? ⟨w.heap.size, j, none⟩ = (#[.int .i64 op, .int .i64 cond, .int .i64 rd, .int .i64 rn, .int .i64 rm, .int .i64 imm, .int .i64 mode, .int .i64 list, .bool true] : Array Value)[j]? := hcell
  replace hL := Lib.hid (hL.out.drewn n)
  go_wp2_with fail
  refine (hN.out _ hL.out.tabs).mono ?_
  rintro e w4 ⟨rfl, hb⟩
  replace hL := Lib.hid (hL.out.step hb)
  clear hb
  go_wp2_with fail
  refine (awake_c _ hL.out.tabs).mono ?_
  rintro e w9 ⟨rfl, hb⟩
  go_wp2
  go_ret
  exact ⟨rfl, (hL.out.step hb).bel⟩

theorem walk_o5_t_t_f (op cond rd rn rm imm mode list : Int) (it : Bool) (hw : Nm.Wide list) (f : Int) (ho : decide (15 < op) = false) (hm : (mode != 1) = false) (h5 : (op == 5) = true) (_hle : decide (imm ≤ 4095) = false) (hok : Nm.okB ⟨op, cond, rd, rn, rm, imm, mode, list, true⟩ = true)
    (hF : ∀ W, Calls Tryd.prog 10 #[.int .u32 (imm % 4294967296)] W fun e w' => e = .returned (.tuple #[.int .i64 f, .bool true]) ∧ ∃ n, w' = W.drewN n)
    (hn : (Wm.encW Wm.findF ⟨op, cond, rd, rn, rm, imm, mode, list, true⟩ it).isSome = true) (w : World) (hT : Tabs w) :
    Calls Tryd.prog 5 #[.agg #[.int .i64 op, .int .i64 cond, .int .i64 rd, .int .i64 rn, .int .i64 rm, .int .i64 imm, .int .i64 mode, .int .i64 list, .bool true], .bool it] w fun e w' => e = .returned (.bool true) ∧ Below w.heap.size w w' := by
  have hL := Lib.hid ((Later.refl hT).step (one_b w (.cells #[.int .i64 op, .int .i64 cond, .int .i64 rd, .int .i64 rn, .int .i64 rm, .int .i64 imm, .int .i64 mode, .int .i64 list, .bool true] 23)))
  clear hT
  have hC := fun W => rcheck_c op cond rd rn rm imm mode list true W hw
  rw [hok] at hC
  replace hC := Lib.hid hC
  have hN := fun W hT => pcan_c op cond rd rn rm imm mode list true it hw W hT
  rw [hn] at hN
  replace hN := Lib.hid hN
  replace hF := Lib.hid hF
  clear hw hok hn
  go_enter Tryd.func5, Tryd.ntmps5
  go_wp2_with fail
  refine (hC.out _).mono ?_
  rintro e w2 ⟨rfl, hb⟩
  have hz : w.heap.size < w2.heap.size := Nat.lt_of_lt_of_le (by simp) hb.size
  have hcell : ∀ j, w2.cell? ⟨w.heap.size, j, none⟩ = (#[.int .i64 op, .int .i64 cond, .int .i64 rd, .int .i64 rn, .int .i64 rm, .int .i64 imm, .int .i64 mode, .int .i64 list, .bool true] : Array Value)[j]? := fun j => (hb.cell (p := ⟨w.heap.size, j, none⟩) (by simp)).trans (World.cell?_alloc_new w _ _ j)
  replace hL := Lib.hid (hL.out.step hb)
  clear hb
  unfold Im.errI
  go_wp2_with fail
  refine (hF.out _).mono ?_
  rintro e w3 ⟨rfl, n, rfl⟩
  have hdn : ∀ j, (w2.drewN n).cell? ⟨w.heap.size, j, none⟩ = (#[.int .i64 op, .int .i64 cond, .int .i64 rd, .int .i64 rn, .int .i64 rm, .int .i64 imm, .int .i64 mode, .int .i64 list, .bool true] : Array Value)[j]? := hcell
  replace hL := Lib.hid (hL.out.drewn n)
  go_wp2_with fail
  refine (hN.out _ hL.out.tabs).mono ?_
  rintro e w4 ⟨rfl, hb⟩
  replace hL := Lib.hid (hL.out.step hb)
  clear hb
  go_wp2_with fail
  refine (awake_c _ hL.out.tabs).mono ?_
  rintro e w9 ⟨rfl, hb⟩
  go_wp2
  go_ret
  exact ⟨rfl, (hL.out.step hb).bel⟩

theorem walk_o5_t_f_t (op cond rd rn rm imm mode list : Int) (it : Bool) (hw : Nm.Wide list) (f : Int) (ho : decide (15 < op) = false) (hm : (mode != 1) = false) (h5 : (op == 5) = true) (_hle : decide (imm ≤ 4095) = true) (hok : Nm.okB ⟨op, cond, rd, rn, rm, imm, mode, list, false⟩ = true)
    (hF : ∀ W, Calls Tryd.prog 10 #[.int .u32 (imm % 4294967296)] W fun e w' => e = .returned (.tuple #[.int .i64 f, .bool true]) ∧ ∃ n, w' = W.drewN n)
    (hn : (Wm.encW Wm.findF ⟨op, cond, rd, rn, rm, imm, mode, list, false⟩ it).isSome = true) (w : World) (hT : Tabs w) :
    Calls Tryd.prog 5 #[.agg #[.int .i64 op, .int .i64 cond, .int .i64 rd, .int .i64 rn, .int .i64 rm, .int .i64 imm, .int .i64 mode, .int .i64 list, .bool false], .bool it] w fun e w' => e = .returned (.bool true) ∧ Below w.heap.size w w' := by
  have hL := Lib.hid ((Later.refl hT).step (one_b w (.cells #[.int .i64 op, .int .i64 cond, .int .i64 rd, .int .i64 rn, .int .i64 rm, .int .i64 imm, .int .i64 mode, .int .i64 list, .bool false] 23)))
  clear hT
  have hC := fun W => rcheck_c op cond rd rn rm imm mode list false W hw
  rw [hok] at hC
  replace hC := Lib.hid hC
  have hN := fun W hT => pcan_c op cond rd rn rm imm mode list false it hw W hT
  rw [hn] at hN
  replace hN := Lib.hid hN
  replace hF := Lib.hid hF
  clear hw hok hn
  go_enter Tryd.func5, Tryd.ntmps5
  go_wp2_with fail
  refine (hC.out _).mono ?_
  rintro e w2 ⟨rfl, hb⟩
  have hz : w.heap.size < w2.heap.size := Nat.lt_of_lt_of_le (by simp) hb.size
  have hcell : ∀ j, w2.cell? ⟨w.heap.size, j, none⟩ = (#[.int .i64 op, .int .i64 cond, .int .i64 rd, .int .i64 rn, .int .i64 rm, .int .i64 imm, .int .i64 mode, .int .i64 list, .bool false] : Array Value)[j]? := fun j => (hb.cell (p := ⟨w.heap.size, j, none⟩) (by simp)).trans (World.cell?_alloc_new w _ _ j)
  replace hL := Lib.hid (hL.out.step hb)
  clear hb
  unfold Im.errI
  go_wp2_with fail
  refine (hF.out _).mono ?_
  rintro e w3 ⟨rfl, n, rfl⟩
  have hdn : ∀ j, (w2.drewN n).cell? ⟨w.heap.size, j, none⟩ = (#[.int .i64 op, .int .i64 cond, .int .i64 rd, .int .i64 rn, .int .i64 rm, .int .i64 imm, .int .i64 mode, .int .i64 list, .bool false] : Array Value)[j]? := hcell
  replace hL := Lib.hid (hL.out.drewn n)
  go_wp2_with fail
  refine (hN.out _ hL.out.tabs).mono ?_
  rintro e w4 ⟨rfl, hb⟩
  replace hL := Lib.hid (hL.out.step hb)
  clear hb
  go_wp2_with fail
  refine (awake_c _ hL.out.tabs).mono ?_
  rintro e w9 ⟨rfl, hb⟩
  go_wp2
  go_ret
  exact ⟨rfl, (hL.out.step hb).bel⟩

theorem walk_o5_t_f_f (op cond rd rn rm imm mode list : Int) (it : Bool) (hw : Nm.Wide list) (f : Int) (ho : decide (15 < op) = false) (hm : (mode != 1) = false) (h5 : (op == 5) = true) (_hle : decide (imm ≤ 4095) = false) (hok : Nm.okB ⟨op, cond, rd, rn, rm, imm, mode, list, false⟩ = true)
    (hF : ∀ W, Calls Tryd.prog 10 #[.int .u32 (imm % 4294967296)] W fun e w' => e = .returned (.tuple #[.int .i64 f, .bool true]) ∧ ∃ n, w' = W.drewN n)
    (hn : (Wm.encW Wm.findF ⟨op, cond, rd, rn, rm, imm, mode, list, false⟩ it).isSome = true) (w : World) (hT : Tabs w) :
    Calls Tryd.prog 5 #[.agg #[.int .i64 op, .int .i64 cond, .int .i64 rd, .int .i64 rn, .int .i64 rm, .int .i64 imm, .int .i64 mode, .int .i64 list, .bool false], .bool it] w fun e w' => e = .returned (.bool true) ∧ Below w.heap.size w w' := by
  have hL := Lib.hid ((Later.refl hT).step (one_b w (.cells #[.int .i64 op, .int .i64 cond, .int .i64 rd, .int .i64 rn, .int .i64 rm, .int .i64 imm, .int .i64 mode, .int .i64 list, .bool false] 23)))
  clear hT
  have hC := fun W => rcheck_c op cond rd rn rm imm mode list false W hw
  rw [hok] at hC
  replace hC := Lib.hid hC
  have hN := fun W hT => pcan_c op cond rd rn rm imm mode list false it hw W hT
  rw [hn] at hN
  replace hN := Lib.hid hN
  replace hF := Lib.hid hF
  clear hw hok hn
  go_enter Tryd.func5, Tryd.ntmps5
  go_wp2_with fail
  refine (hC.out _).mono ?_
  rintro e w2 ⟨rfl, hb⟩
  have hz : w.heap.size < w2.heap.size := Nat.lt_of_lt_of_le (by simp) hb.size
  have hcell : ∀ j, w2.cell? ⟨w.heap.size, j, none⟩ = (#[.int .i64 op, .int .i64 cond, .int .i64 rd, .int .i64 rn, .int .i64 rm, .int .i64 imm, .int .i64 mode, .int .i64 list, .bool false] : Array Value)[j]? := fun j => (hb.cell (p := ⟨w.heap.size, j, none⟩) (by simp)).trans (World.cell?_alloc_new w _ _ j)
  replace hL := Lib.hid (hL.out.step hb)
  clear hb
  unfold Im.errI
  go_wp2_with fail
  refine (hF.out _).mono ?_
  rintro e w3 ⟨rfl, n, rfl⟩
  have hdn : ∀ j, (w2.drewN n).cell? ⟨w.heap.size, j, none⟩ = (#[.int .i64 op, .int .i64 cond, .int .i64 rd, .int .i64 rn, .int .i64 rm, .int .i64 imm, .int .i64 mode, .int .i64 list, .bool false] : Array Value)[j]? := hcell
  replace hL := Lib.hid (hL.out.drewn n)
  go_wp2_with fail
  refine (hN.out _ hL.out.tabs).mono ?_
  rintro e w4 ⟨rfl, hb⟩
  replace hL := Lib.hid (hL.out.step hb)
  clear hb
  go_wp2_with fail
  refine (awake_c _ hL.out.tabs).mono ?_
  rintro e w9 ⟨rfl, hb⟩
  go_wp2
  go_ret
  exact ⟨rfl, (hL.out.step hb).bel⟩

theorem walk_o7_t_t_t (op cond rd rn rm imm mode list : Int) (it : Bool) (hw : Nm.Wide list) (f : Int) (ho : decide (15 < op) = false) (hm : (mode != 1) = false) (h5 : (op == 5) = false) (h7 : (op == 7) = true) (_hle : decide (imm ≤ 4095) = true) (hok : Nm.okB ⟨op, cond, rd, rn, rm, imm, mode, list, true⟩ = true)
    (hF : ∀ W, Calls Tryd.prog 10 #[.int .u32 (imm % 4294967296)] W fun e w' => e = .returned (.tuple #[.int .i64 f, .bool true]) ∧ ∃ n, w' = W.drewN n)
    (hn : (Wm.encW Wm.findF ⟨op, cond, rd, rn, rm, imm, mode, list, true⟩ it).isSome = true) (w : World) (hT : Tabs w) :
    Calls Tryd.prog 5 #[.agg #[.int .i64 op, .int .i64 cond, .int .i64 rd, .int .i64 rn, .int .i64 rm, .int .i64 imm, .int .i64 mode, .int .i64 list, .bool true], .bool it] w fun e w' => e = .returned (.bool true) ∧ Below w.heap.size w w' := by
  have hL := Lib.hid ((Later.refl hT).step (one_b w (.cells #[.int .i64 op, .int .i64 cond, .int .i64 rd, .int .i64 rn, .int .i64 rm, .int .i64 imm, .int .i64 mode, .int .i64 list, .bool true] 23)))
  clear hT
  have hC := fun W => rcheck_c op cond rd rn rm imm mode list true W hw
  rw [hok] at hC
  replace hC := Lib.hid hC
  have hN := fun W hT => pcan_c op cond rd rn rm imm mode list true it hw W hT
  rw [hn] at hN
  replace hN := Lib.hid hN
  replace hF := Lib.hid hF
  clear hw hok hn
  go_enter Tryd.func5, Tryd.ntmps5
  go_wp2_with fail
  refine (hC.out _).mono ?_
  rintro e w2 ⟨rfl, hb⟩
  have hz : w.heap.size < w2.heap.size := Nat.lt_of_lt_of_le (by simp) hb.size
  have hcell : ∀ j, w2.cell? ⟨w.heap.size, j, none⟩ = (#[.int .i64 op, .int .i64 cond, .int .i64 rd, .int .i64 rn, .int .i64 rm, .int .i64 imm, .int .i64 mode, .int .i64 list, .bool true] : Array Value)[j]? := fun j => (hb.cell (p := ⟨w.heap.size, j, none⟩) (by simp)).trans (World.cell?_alloc_new w _ _ j)
  replace hL := Lib.hid (hL.out.step hb)
  clear hb
  unfold Im.errI
  go_wp2_with fail
  refine (hF.out _).mono ?_
  rintro e w3 ⟨rfl, n, rfl⟩
  have hdn : ∀ j, (w2.drewN n).cell? ⟨w.heap.size, j, none⟩ = (#[.int .i64 op, .int .i64 cond, .int .i64 rd, .int .i64 rn, .int .i64 rm, .int .i64 imm, .int .i64 mode, .int .i64 list, .bool true] : Array Value)[j]? := hcell
  replace hL := Lib.hid (hL.out.drewn n)
  go_wp2_with fail
  refine (hN.out _ hL.out.tabs).mono ?_
  rintro e w4 ⟨rfl, hb⟩
  replace hL := Lib.hid (hL.out.step hb)
  clear hb
  go_wp2_with fail
  refine (awake_c _ hL.out.tabs).mono ?_
  rintro e w9 ⟨rfl, hb⟩
  go_wp2
  go_ret
  exact ⟨rfl, (hL.out.step hb).bel⟩

theorem walk_o7_t_t_f (op cond rd rn rm imm mode list : Int) (it : Bool) (hw : Nm.Wide list) (f : Int) (ho : decide (15 < op) = false) (hm : (mode != 1) = false) (h5 : (op == 5) = false) (h7 : (op == 7) = true) (_hle : decide (imm ≤ 4095) = false) (hok : Nm.okB ⟨op, cond, rd, rn, rm, imm, mode, list, true⟩ = true)
    (hF : ∀ W, Calls Tryd.prog 10 #[.int .u32 (imm % 4294967296)] W fun e w' => e = .returned (.tuple #[.int .i64 f, .bool true]) ∧ ∃ n, w' = W.drewN n)
    (hn : (Wm.encW Wm.findF ⟨op, cond, rd, rn, rm, imm, mode, list, true⟩ it).isSome = true) (w : World) (hT : Tabs w) :
    Calls Tryd.prog 5 #[.agg #[.int .i64 op, .int .i64 cond, .int .i64 rd, .int .i64 rn, .int .i64 rm, .int .i64 imm, .int .i64 mode, .int .i64 list, .bool true], .bool it] w fun e w' => e = .returned (.bool true) ∧ Below w.heap.size w w' := by
  have hL := Lib.hid ((Later.refl hT).step (one_b w (.cells #[.int .i64 op, .int .i64 cond, .int .i64 rd, .int .i64 rn, .int .i64 rm, .int .i64 imm, .int .i64 mode, .int .i64 list, .bool true] 23)))
  clear hT
  have hC := fun W => rcheck_c op cond rd rn rm imm mode list true W hw
  rw [hok] at hC
  replace hC := Lib.hid hC
  have hN := fun W hT => pcan_c op cond rd rn rm imm mode list true it hw W hT
  rw [hn] at hN
  replace hN := Lib.hid hN
  replace hF := Lib.hid hF
  clear hw hok hn
  go_enter Tryd.func5, Tryd.ntmps5
  go_wp2_with fail
  refine (hC.out _).mono ?_
  rintro e w2 ⟨rfl, hb⟩
  have hz : w.heap.size < w2.heap.size := Nat.lt_of_lt_of_le (by simp) hb.size
  have hcell : ∀ j, w2.cell? ⟨w.heap.size, j, none⟩ = (#[.int .i64 op, .int .i64 cond, .int .i64 rd, .int .i64 rn, .int .i64 rm, .int .i64 imm, .int .i64 mode, .int .i64 list, .bool true] : Array Value)[j]? := fun j => (hb.cell (p := ⟨w.heap.size, j, none⟩) (by simp)).trans (World.cell?_alloc_new w _ _ j)
  replace hL := Lib.hid (hL.out.step hb)
  clear hb
  unfold Im.errI
  go_wp2_with fail
  refine (hF.out _).mono ?_
  rintro e w3 ⟨rfl, n, rfl⟩
  have hdn : ∀ j, (w2.drewN n).cell? ⟨w.heap.size, j, none⟩ = (#[.int .i64 op, .int .i64 cond, .int .i64 rd, .int .i64 rn, .int .i64 rm, .int .i64 imm, .int .i64 mode, .int .i64 list, .bool true] : Array Value)[j]? := hcell
  replace hL := Lib.hid (hL.out.drewn n)
  go_wp2_with fail
  refine (hN.out _ hL.out.tabs).mono ?_
  rintro e w4 ⟨rfl, hb⟩
  replace hL := Lib.hid (hL.out.step hb)
  clear hb
  go_wp2_with fail
  refine (awake_c _ hL.out.tabs).mono ?_
  rintro e w9 ⟨rfl, hb⟩
  go_wp2
  go_ret
  exact ⟨rfl, (hL.out.step hb).bel⟩

theorem walk_o7_t_f_t (op cond rd rn rm imm mode list : Int) (it : Bool) (hw : Nm.Wide list) (f : Int) (ho : decide (15 < op) = false) (hm : (mode != 1) = false) (h5 : (op == 5) = false) (h7 : (op == 7) = true) (_hle : decide (imm ≤ 4095) = true) (hok : Nm.okB ⟨op, cond, rd, rn, rm, imm, mode, list, false⟩ = true)
    (hF : ∀ W, Calls Tryd.prog 10 #[.int .u32 (imm % 4294967296)] W fun e w' => e = .returned (.tuple #[.int .i64 f, .bool true]) ∧ ∃ n, w' = W.drewN n)
    (hn : (Wm.encW Wm.findF ⟨op, cond, rd, rn, rm, imm, mode, list, false⟩ it).isSome = true) (w : World) (hT : Tabs w) :
    Calls Tryd.prog 5 #[.agg #[.int .i64 op, .int .i64 cond, .int .i64 rd, .int .i64 rn, .int .i64 rm, .int .i64 imm, .int .i64 mode, .int .i64 list, .bool false], .bool it] w fun e w' => e = .returned (.bool true) ∧ Below w.heap.size w w' := by
  have hL := Lib.hid ((Later.refl hT).step (one_b w (.cells #[.int .i64 op, .int .i64 cond, .int .i64 rd, .int .i64 rn, .int .i64 rm, .int .i64 imm, .int .i64 mode, .int .i64 list, .bool false] 23)))
  clear hT
  have hC := fun W => rcheck_c op cond rd rn rm imm mode list false W hw
  rw [hok] at hC
  replace hC := Lib.hid hC
  have hN := fun W hT => pcan_c op cond rd rn rm imm mode list false it hw W hT
  rw [hn] at hN
  replace hN := Lib.hid hN
  replace hF := Lib.hid hF
  clear hw hok hn
  go_enter Tryd.func5, Tryd.ntmps5
  go_wp2_with fail
  refine (hC.out _).mono ?_
  rintro e w2 ⟨rfl, hb⟩
  have hz : w.heap.size < w2.heap.size := Nat.lt_of_lt_of_le (by simp) hb.size
  have hcell : ∀ j, w2.cell? ⟨w.heap.size, j, none⟩ = (#[.int .i64 op, .int .i64 cond, .int .i64 rd, .int .i64 rn, .int .i64 rm, .int .i64 imm, .int .i64 mode, .int .i64 list, .bool false] : Array Value)[j]? := fun j => (hb.cell (p := ⟨w.heap.size, j, none⟩) (by simp)).trans (World.cell?_alloc_new w _ _ j)
  replace hL := Lib.hid (hL.out.step hb)
  clear hb
  unfold Im.errI
  go_wp2_with fail
  refine (hF.out _).mono ?_
  rintro e w3 ⟨rfl, n, rfl⟩
  have hdn : ∀ j, (w2.drewN n).cell? ⟨w.heap.size, j, none⟩ = (#[.int .i64 op, .int .i64 cond, .int .i64 rd, .int .i64 rn, .int .i64 rm, .int .i64 imm, .int .i64 mode, .int .i64 list, .bool false] : Array Value)[j]? := hcell
  replace hL := Lib.hid (hL.out.drewn n)
  go_wp2_with fail
  refine (hN.out _ hL.out.tabs).mono ?_
  rintro e w4 ⟨rfl, hb⟩
  replace hL := Lib.hid (hL.out.step hb)
  clear hb
  go_wp2_with fail
  refine (awake_c _ hL.out.tabs).mono ?_
  rintro e w9 ⟨rfl, hb⟩
  go_wp2
  go_ret
  exact ⟨rfl, (hL.out.step hb).bel⟩

theorem walk_o7_t_f_f (op cond rd rn rm imm mode list : Int) (it : Bool) (hw : Nm.Wide list) (f : Int) (ho : decide (15 < op) = false) (hm : (mode != 1) = false) (h5 : (op == 5) = false) (h7 : (op == 7) = true) (_hle : decide (imm ≤ 4095) = false) (hok : Nm.okB ⟨op, cond, rd, rn, rm, imm, mode, list, false⟩ = true)
    (hF : ∀ W, Calls Tryd.prog 10 #[.int .u32 (imm % 4294967296)] W fun e w' => e = .returned (.tuple #[.int .i64 f, .bool true]) ∧ ∃ n, w' = W.drewN n)
    (hn : (Wm.encW Wm.findF ⟨op, cond, rd, rn, rm, imm, mode, list, false⟩ it).isSome = true) (w : World) (hT : Tabs w) :
    Calls Tryd.prog 5 #[.agg #[.int .i64 op, .int .i64 cond, .int .i64 rd, .int .i64 rn, .int .i64 rm, .int .i64 imm, .int .i64 mode, .int .i64 list, .bool false], .bool it] w fun e w' => e = .returned (.bool true) ∧ Below w.heap.size w w' := by
  have hL := Lib.hid ((Later.refl hT).step (one_b w (.cells #[.int .i64 op, .int .i64 cond, .int .i64 rd, .int .i64 rn, .int .i64 rm, .int .i64 imm, .int .i64 mode, .int .i64 list, .bool false] 23)))
  clear hT
  have hC := fun W => rcheck_c op cond rd rn rm imm mode list false W hw
  rw [hok] at hC
  replace hC := Lib.hid hC
  have hN := fun W hT => pcan_c op cond rd rn rm imm mode list false it hw W hT
  rw [hn] at hN
  replace hN := Lib.hid hN
  replace hF := Lib.hid hF
  clear hw hok hn
  go_enter Tryd.func5, Tryd.ntmps5
  go_wp2_with fail
  refine (hC.out _).mono ?_
  rintro e w2 ⟨rfl, hb⟩
  have hz : w.heap.size < w2.heap.size := Nat.lt_of_lt_of_le (by simp) hb.size
  have hcell : ∀ j, w2.cell? ⟨w.heap.size, j, none⟩ = (#[.int .i64 op, .int .i64 cond, .int .i64 rd, .int .i64 rn, .int .i64 rm, .int .i64 imm, .int .i64 mode, .int .i64 list, .bool false] : Array Value)[j]? := fun j => (hb.cell (p := ⟨w.heap.size, j, none⟩) (by simp)).trans (World.cell?_alloc_new w _ _ j)
  replace hL := Lib.hid (hL.out.step hb)
  clear hb
  unfold Im.errI
  go_wp2_with fail
  refine (hF.out _).mono ?_
  rintro e w3 ⟨rfl, n, rfl⟩
  have hdn : ∀ j, (w2.drewN n).cell? ⟨w.heap.size, j, none⟩ = (#[.int .i64 op, .int .i64 cond, .int .i64 rd, .int .i64 rn, .int .i64 rm, .int .i64 imm, .int .i64 mode, .int .i64 list, .bool false] : Array Value)[j]? := hcell
  replace hL := Lib.hid (hL.out.drewn n)
  go_wp2_with fail
  refine (hN.out _ hL.out.tabs).mono ?_
  rintro e w4 ⟨rfl, hb⟩
  replace hL := Lib.hid (hL.out.step hb)
  clear hb
  go_wp2_with fail
  refine (awake_c _ hL.out.tabs).mono ?_
  rintro e w9 ⟨rfl, hb⟩
  go_wp2
  go_ret
  exact ⟨rfl, (hL.out.step hb).bel⟩

theorem walk_no_t_t_t (op cond rd rn rm imm mode list : Int) (it : Bool) (hw : Nm.Wide list) (f : Int) (ho : decide (15 < op) = false) (hm : (mode != 1) = false) (h5 : (op == 5) = false) (h7 : (op == 7) = false) (_hle : decide (imm ≤ 4095) = true) (hok : Nm.okB ⟨op, cond, rd, rn, rm, imm, mode, list, true⟩ = true)
    (hF : ∀ W, Calls Tryd.prog 10 #[.int .u32 (imm % 4294967296)] W fun e w' => e = .returned (.tuple #[.int .i64 f, .bool true]) ∧ ∃ n, w' = W.drewN n)
    (hn : (Wm.encW Wm.findF ⟨op, cond, rd, rn, rm, imm, mode, list, true⟩ it).isSome = true) (w : World) (hT : Tabs w) :
    Calls Tryd.prog 5 #[.agg #[.int .i64 op, .int .i64 cond, .int .i64 rd, .int .i64 rn, .int .i64 rm, .int .i64 imm, .int .i64 mode, .int .i64 list, .bool true], .bool it] w fun e w' => e = .returned (.bool true) ∧ Below w.heap.size w w' := by
  have hL := Lib.hid ((Later.refl hT).step (one_b w (.cells #[.int .i64 op, .int .i64 cond, .int .i64 rd, .int .i64 rn, .int .i64 rm, .int .i64 imm, .int .i64 mode, .int .i64 list, .bool true] 23)))
  clear hT
  have hC := fun W => rcheck_c op cond rd rn rm imm mode list true W hw
  rw [hok] at hC
  replace hC := Lib.hid hC
  have hN := fun W hT => pcan_c op cond rd rn rm imm mode list true it hw W hT
  rw [hn] at hN
  replace hN := Lib.hid hN
  replace hF := Lib.hid hF
  clear hw hok hn
  go_enter Tryd.func5, Tryd.ntmps5
  go_wp2_with fail
  refine (hC.out _).mono ?_
  rintro e w2 ⟨rfl, hb⟩
  have hz : w.heap.size < w2.heap.size := Nat.lt_of_lt_of_le (by simp) hb.size
  have hcell : ∀ j, w2.cell? ⟨w.heap.size, j, none⟩ = (#[.int .i64 op, .int .i64 cond, .int .i64 rd, .int .i64 rn, .int .i64 rm, .int .i64 imm, .int .i64 mode, .int .i64 list, .bool true] : Array Value)[j]? := fun j => (hb.cell (p := ⟨w.heap.size, j, none⟩) (by simp)).trans (World.cell?_alloc_new w _ _ j)
  replace hL := Lib.hid (hL.out.step hb)
  clear hb
  unfold Im.errI
  go_wp2_with fail
  refine (hF.out _).mono ?_
  rintro e w3 ⟨rfl, n, rfl⟩
  have hdn : ∀ j, (w2.drewN n).cell? ⟨w.heap.size, j, none⟩ = (#[.int .i64 op, .int .i64 cond, .int .i64 rd, .int .i64 rn, .int .i64 rm, .int .i64 imm, .int .i64 mode, .int .i64 list, .bool true] : Array Value)[j]? := hcell
  replace hL := Lib.hid (hL.out.drewn n)
  go_wp2_with fail
  refine (hN.out _ hL.out.tabs).mono ?_
  rintro e w4 ⟨rfl, hb⟩
  replace hL := Lib.hid (hL.out.step hb)
  clear hb
  go_wp2_with fail
  refine (awake_c _ hL.out.tabs).mono ?_
  rintro e w9 ⟨rfl, hb⟩
  go_wp2
  go_ret
  exact ⟨rfl, (hL.out.step hb).bel⟩

theorem walk_no_t_t_f (op cond rd rn rm imm mode list : Int) (it : Bool) (hw : Nm.Wide list) (f : Int) (ho : decide (15 < op) = false) (hm : (mode != 1) = false) (h5 : (op == 5) = false) (h7 : (op == 7) = false) (_hle : decide (imm ≤ 4095) = false) (hok : Nm.okB ⟨op, cond, rd, rn, rm, imm, mode, list, true⟩ = true)
    (hF : ∀ W, Calls Tryd.prog 10 #[.int .u32 (imm % 4294967296)] W fun e w' => e = .returned (.tuple #[.int .i64 f, .bool true]) ∧ ∃ n, w' = W.drewN n)
    (hn : (Wm.encW Wm.findF ⟨op, cond, rd, rn, rm, imm, mode, list, true⟩ it).isSome = true) (w : World) (hT : Tabs w) :
    Calls Tryd.prog 5 #[.agg #[.int .i64 op, .int .i64 cond, .int .i64 rd, .int .i64 rn, .int .i64 rm, .int .i64 imm, .int .i64 mode, .int .i64 list, .bool true], .bool it] w fun e w' => e = .returned (.bool true) ∧ Below w.heap.size w w' := by
  have hL := Lib.hid ((Later.refl hT).step (one_b w (.cells #[.int .i64 op, .int .i64 cond, .int .i64 rd, .int .i64 rn, .int .i64 rm, .int .i64 imm, .int .i64 mode, .int .i64 list, .bool true] 23)))
  clear hT
  have hC := fun W => rcheck_c op cond rd rn rm imm mode list true W hw
  rw [hok] at hC
  replace hC := Lib.hid hC
  have hN := fun W hT => pcan_c op cond rd rn rm imm mode list true it hw W hT
  rw [hn] at hN
  replace hN := Lib.hid hN
  replace hF := Lib.hid hF
  clear hw hok hn
  go_enter Tryd.func5, Tryd.ntmps5
  go_wp2_with fail
  refine (hC.out _).mono ?_
  rintro e w2 ⟨rfl, hb⟩
  have hz : w.heap.size < w2.heap.size := Nat.lt_of_lt_of_le (by simp) hb.size
  have hcell : ∀ j, w2.cell? ⟨w.heap.size, j, none⟩ = (#[.int .i64 op, .int .i64 cond, .int .i64 rd, .int .i64 rn, .int .i64 rm, .int .i64 imm, .int .i64 mode, .int .i64 list, .bool true] : Array Value)[j]? := fun j => (hb.cell (p := ⟨w.heap.size, j, none⟩) (by simp)).trans (World.cell?_alloc_new w _ _ j)
  replace hL := Lib.hid (hL.out.step hb)
  clear hb
  unfold Im.errI
  go_wp2_with fail
  refine (hF.out _).mono ?_
  rintro e w3 ⟨rfl, n, rfl⟩
  have hdn : ∀ j, (w2.drewN n).cell? ⟨w.heap.size, j, none⟩ = (#[.int .i64 op, .int .i64 cond, .int .i64 rd, .int .i64 rn, .int .i64 rm, .int .i64 imm, .int .i64 mode, .int .i64 list, .bool true] : Array Value)[j]? := hcell
  replace hL := Lib.hid (hL.out.drewn n)
  go_wp2_with fail
  refine (hN.out _ hL.out.tabs).mono ?_
  rintro e w4 ⟨rfl, hb⟩
  replace hL := Lib.hid (hL.out.step hb)
  clear hb
  go_wp2_with fail
  refine (awake_c _ hL.out.tabs).mono ?_
  rintro e w9 ⟨rfl, hb⟩
  go_wp2
  go_ret
  exact ⟨rfl, (hL.out.step hb).bel⟩

theorem walk_no_t_f_t (op cond rd rn rm imm mode list : Int) (it : Bool) (hw : Nm.Wide list) (f : Int) (ho : decide (15 < op) = false) (hm : (mode != 1) = false) (h5 : (op == 5) = false) (h7 : (op == 7) = false) (_hle : decide (imm ≤ 4095) = true) (hok : Nm.okB ⟨op, cond, rd, rn, rm, imm, mode, list, false⟩ = true)
    (hF : ∀ W, Calls Tryd.prog 10 #[.int .u32 (imm % 4294967296)] W fun e w' => e = .returned (.tuple #[.int .i64 f, .bool true]) ∧ ∃ n, w' = W.drewN n)
    (hn : (Wm.encW Wm.findF ⟨op, cond, rd, rn, rm, imm, mode, list, false⟩ it).isSome = true) (w : World) (hT : Tabs w) :
    Calls Tryd.prog 5 #[.agg #[.int .i64 op, .int .i64 cond, .int .i64 rd, .int .i64 rn, .int .i64 rm, .int .i64 imm, .int .i64 mode, .int .i64 list, .bool false], .bool it] w fun e w' => e = .returned (.bool true) ∧ Below w.heap.size w w' := by
  have hL := Lib.hid ((Later.refl hT).step (one_b w (.cells #[.int .i64 op, .int .i64 cond, .int .i64 rd, .int .i64 rn, .int .i64 rm, .int .i64 imm, .int .i64 mode, .int .i64 list, .bool false] 23)))
  clear hT
  have hC := fun W => rcheck_c op cond rd rn rm imm mode list false W hw
  rw [hok] at hC
  replace hC := Lib.hid hC
  have hN := fun W hT => pcan_c op cond rd rn rm imm mode list false it hw W hT
  rw [hn] at hN
  replace hN := Lib.hid hN
  replace hF := Lib.hid hF
  clear hw hok hn
  go_enter Tryd.func5, Tryd.ntmps5
  go_wp2_with fail
  refine (hC.out _).mono ?_
  rintro e w2 ⟨rfl, hb⟩
  have hz : w.heap.size < w2.heap.size := Nat.lt_of_lt_of_le (by simp) hb.size
  have hcell : ∀ j, w2.cell? ⟨w.heap.size, j, none⟩ = (#[.int .i64 op, .int .i64 cond, .int .i64 rd, .int .i64 rn, .int .i64 rm, .int .i64 imm, .int .i64 mode, .int .i64 list, .bool false] : Array Value)[j]? := fun j => (hb.cell (p := ⟨w.heap.size, j, none⟩) (by simp)).trans (World.cell?_alloc_new w _ _ j)
  replace hL := Lib.hid (hL.out.step hb)
  clear hb
  unfold Im.errI
  go_wp2_with fail
  refine (hF.out _).mono ?_
  rintro e w3 ⟨rfl, n, rfl⟩
  have hdn : ∀ j, (w2.drewN n).cell? ⟨w.heap.size, j, none⟩ = (#[.int .i64 op, .int .i64 cond, .int .i64 rd, .int .i64 rn, .int .i64 rm, .int .i64 imm, .int .i64 mode, .int .i64 list, .bool false] : Array Value)[j]? := hcell
  replace hL := Lib.hid (hL.out.drewn n)
  go_wp2_with fail
  refine (hN.out _ hL.out.tabs).mono ?_
  rintro e w4 ⟨rfl, hb⟩
  replace hL := Lib.hid (hL.out.step hb)
  clear hb
  go_wp2_with fail
  refine (awake_c _ hL.out.tabs).mono ?_
  rintro e w9 ⟨rfl, hb⟩
  go_wp2
  go_ret
  exact ⟨rfl, (hL.out.step hb).bel⟩

theorem walk_no_t_f_f (op cond rd rn rm imm mode list : Int) (it : Bool) (hw : Nm.Wide list) (f : Int) (ho : decide (15 < op) = false) (hm : (mode != 1) = false) (h5 : (op == 5) = false) (h7 : (op == 7) = false) (_hle : decide (imm ≤ 4095) = false) (hok : Nm.okB ⟨op, cond, rd, rn, rm, imm, mode, list, false⟩ = true)
    (hF : ∀ W, Calls Tryd.prog 10 #[.int .u32 (imm % 4294967296)] W fun e w' => e = .returned (.tuple #[.int .i64 f, .bool true]) ∧ ∃ n, w' = W.drewN n)
    (hn : (Wm.encW Wm.findF ⟨op, cond, rd, rn, rm, imm, mode, list, false⟩ it).isSome = true) (w : World) (hT : Tabs w) :
    Calls Tryd.prog 5 #[.agg #[.int .i64 op, .int .i64 cond, .int .i64 rd, .int .i64 rn, .int .i64 rm, .int .i64 imm, .int .i64 mode, .int .i64 list, .bool false], .bool it] w fun e w' => e = .returned (.bool true) ∧ Below w.heap.size w w' := by
  have hL := Lib.hid ((Later.refl hT).step (one_b w (.cells #[.int .i64 op, .int .i64 cond, .int .i64 rd, .int .i64 rn, .int .i64 rm, .int .i64 imm, .int .i64 mode, .int .i64 list, .bool false] 23)))
  clear hT
  have hC := fun W => rcheck_c op cond rd rn rm imm mode list false W hw
  rw [hok] at hC
  replace hC := Lib.hid hC
  have hN := fun W hT => pcan_c op cond rd rn rm imm mode list false it hw W hT
  rw [hn] at hN
  replace hN := Lib.hid hN
  replace hF := Lib.hid hF
  clear hw hok hn
  go_enter Tryd.func5, Tryd.ntmps5
  go_wp2_with fail
  refine (hC.out _).mono ?_
  rintro e w2 ⟨rfl, hb⟩
  have hz : w.heap.size < w2.heap.size := Nat.lt_of_lt_of_le (by simp) hb.size
  have hcell : ∀ j, w2.cell? ⟨w.heap.size, j, none⟩ = (#[.int .i64 op, .int .i64 cond, .int .i64 rd, .int .i64 rn, .int .i64 rm, .int .i64 imm, .int .i64 mode, .int .i64 list, .bool false] : Array Value)[j]? := fun j => (hb.cell (p := ⟨w.heap.size, j, none⟩) (by simp)).trans (World.cell?_alloc_new w _ _ j)
  replace hL := Lib.hid (hL.out.step hb)
  clear hb
  unfold Im.errI
  go_wp2_with fail
  refine (hF.out _).mono ?_
  rintro e w3 ⟨rfl, n, rfl⟩
  have hdn : ∀ j, (w2.drewN n).cell? ⟨w.heap.size, j, none⟩ = (#[.int .i64 op, .int .i64 cond, .int .i64 rd, .int .i64 rn, .int .i64 rm, .int .i64 imm, .int .i64 mode, .int .i64 list, .bool false] : Array Value)[j]? := hcell
  replace hL := Lib.hid (hL.out.drewn n)
  go_wp2_with fail
  refine (hN.out _ hL.out.tabs).mono ?_
  rintro e w4 ⟨rfl, hb⟩
  replace hL := Lib.hid (hL.out.step hb)
  clear hb
  go_wp2_with fail
  refine (awake_c _ hL.out.tabs).mono ?_
  rintro e w9 ⟨rfl, hb⟩
  go_wp2
  go_ret
  exact ⟨rfl, (hL.out.step hb).bel⟩

theorem walk_o5_f_t_t (op cond rd rn rm imm mode list : Int) (it : Bool) (hw : Nm.Wide list) (f : Int) (ho : decide (15 < op) = false) (hm : (mode != 1) = false) (h5 : (op == 5) = true) (_hle : decide (imm ≤ 4095) = true) (hok : Nm.okB ⟨op, cond, rd, rn, rm, imm, mode, list, true⟩ = true)
    (hF : ∀ W, Calls Tryd.prog 10 #[.int .u32 (imm % 4294967296)] W fun e w' => e = .returned (.tuple #[.int .i64 f, .bool false]) ∧ ∃ n, w' = W.drewN n)
    (hn : (Wm.encW Wm.findF ⟨op, cond, rd, rn, rm, imm, mode, list, true⟩ it).isSome = false) (w : World) (hT : Tabs w) :
    Calls Tryd.prog 5 #[.agg #[.int .i64 op, .int .i64 cond, .int .i64 rd, .int .i64 rn, .int .i64 rm, .int .i64 imm, .int .i64 mode, .int .i64 list, .bool true], .bool it] w fun e w' => e = .returned (.bool true) ∧ Below w.heap.size w w' := by
  have hL := Lib.hid ((Later.refl hT).step (one_b w (.cells #[.int .i64 op, .int .i64 cond, .int .i64 rd, .int .i64 rn, .int .i64 rm, .int .i64 imm, .int .i64 mode, .int .i64 list, .bool true] 23)))
  clear hT
  have hC := fun W => rcheck_c op cond rd rn rm imm mode list true W hw
  rw [hok] at hC
  replace hC := Lib.hid hC
  have hN := fun W hT => pcan_c op cond rd rn rm imm mode list true it hw W hT
  rw [hn] at hN
  replace hN := Lib.hid hN
  replace hF := Lib.hid hF
  clear hw hok hn
  go_enter Tryd.func5, Tryd.ntmps5
  go_wp2_with fail
  refine (hC.out _).mono ?_
  rintro e w2 ⟨rfl, hb⟩
  have hz : w.heap.size < w2.heap.size := Nat.lt_of_lt_of_le (by simp) hb.size
  have hcell : ∀ j, w2.cell? ⟨w.heap.size, j, none⟩ = (#[.int .i64 op, .int .i64 cond, .int .i64 rd, .int .i64 rn, .int .i64 rm, .int .i64 imm, .int .i64 mode, .int .i64 list, .bool true] : Array Value)[j]? := fun j => (hb.cell (p := ⟨w.heap.size, j, none⟩) (by simp)).trans (World.cell?_alloc_new w _ _ j)
  replace hL := Lib.hid (hL.out.step hb)
  clear hb
  unfold Im.errI
  go_wp2_with fail
  refine (hF.out _).mono ?_
  rintro e w3 ⟨rfl, n, rfl⟩
  have hdn : ∀ j, (w2.drewN n).cell? ⟨w.heap.size, j, none⟩ = (#[.int .i64 op, .int .i64 cond, .int .i64 rd, .int .i64 rn, .int .i64 rm, .int .i64 imm, .int .i64 mode, .int .i64 list, .bool true] : Array Value)[j]? := hcell
  replace hL := Lib.hid (hL.out.drewn n)
  go_wp2_with fail
  refine (hN.out _ hL.out.tabs).mono ?_
  rintro e w4 ⟨rfl, hb⟩
  replace hL := Lib.hid (hL.out.step hb)
  clear hb
  go_wp2_with fail
  refine (awake_c _ hL.out.tabs).mono ?_
  rintro e w9 ⟨rfl, hb⟩
  go_wp2
  go_ret
  exact ⟨rfl, (hL.out.step hb).bel⟩

theorem walk_o5_f_t_f (op cond rd rn rm imm mode list : Int) (it : Bool) (hw : Nm.Wide list) (f : Int) (ho : decide (15 < op) = false) (hm : (mode != 1) = false) (h5 : (op == 5) = true) (_hle : decide (imm ≤ 4095) = false) (hok : Nm.okB ⟨op, cond, rd, rn, rm, imm, mode, list, true⟩ = true)
    (hF : ∀ W, Calls Tryd.prog 10 #[.int .u32 (imm % 4294967296)] W fun e w' => e = .returned (.tuple #[.int .i64 f, .bool false]) ∧ ∃ n, w' = W.drewN n)
    (hn : (Wm.encW Wm.findF ⟨op, cond, rd, rn, rm, imm, mode, list, true⟩ it).isSome = false) (w : World) (hT : Tabs w) :
    Calls Tryd.prog 5 #[.agg #[.int .i64 op, .int .i64 cond, .int .i64 rd, .int .i64 rn, .int .i64 rm, .int .i64 imm, .int .i64 mode, .int .i64 list, .bool true], .bool it] w fun e w' => e = .returned (.bool true) ∧ Below w.heap.size w w' := by
  have hL := Lib.hid ((Later.refl hT).step (one_b w (.cells #[.int .i64 op, .int .i64 cond, .int .i64 rd, .int .i64 rn, .int .i64 rm, .int .i64 imm, .int .i64 mode, .int .i64 list, .bool true] 23)))
  clear hT
  have hC := fun W => rcheck_c op cond rd rn rm imm mode list true W hw
  rw [hok] at hC
  replace hC := Lib.hid hC
  have hN := fun W hT => pcan_c op cond rd rn rm imm mode list true it hw W hT
  rw [hn] at hN
  replace hN := Lib.hid hN
  replace hF := Lib.hid hF
  clear hw hok hn
  go_enter Tryd.func5, Tryd.ntmps5
  go_wp2_with fail
  refine (hC.out _).mono ?_
  rintro e w2 ⟨rfl, hb⟩
  have hz : w.heap.size < w2.heap.size := Nat.lt_of_lt_of_le (by simp) hb.size
  have hcell : ∀ j, w2.cell? ⟨w.heap.size, j, none⟩ = (#[.int .i64 op, .int .i64 cond, .int .i64 rd, .int .i64 rn, .int .i64 rm, .int .i64 imm, .int .i64 mode, .int .i64 list, .bool true] : Array Value)[j]? := fun j => (hb.cell (p := ⟨w.heap.size, j, none⟩) (by simp)).trans (World.cell?_alloc_new w _ _ j)
  replace hL := Lib.hid (hL.out.step hb)
  clear hb
  unfold Im.errI
  go_wp2_with fail
  refine (hF.out _).mono ?_
  rintro e w3 ⟨rfl, n, rfl⟩
  have hdn : ∀ j, (w2.drewN n).cell? ⟨w.heap.size, j, none⟩ = (#[.int .i64 op, .int .i64 cond, .int .i64 rd, .int .i64 rn, .int .i64 rm, .int .i64 imm, .int .i64 mode, .int .i64 list, .bool true] : Array Value)[j]? := hcell
  replace hL := Lib.hid (hL.out.drewn n)
  go_wp2_with fail
  refine (hN.out _ hL.out.tabs).mono ?_
  rintro e w4 ⟨rfl, hb⟩
  replace hL := Lib.hid (hL.out.step hb)
  clear hb
  go_wp2_with fail
  refine (awake_c _ hL.out.tabs).mono ?_
  rintro e w9 ⟨rfl, hb⟩
  go_wp2
  go_ret
  exact ⟨rfl, (hL.out.step hb).bel⟩

theorem walk_o5_f_f_t (op cond rd rn rm imm mode list : Int) (it : Bool) (hw : Nm.Wide list) (f : Int) (ho : decide (15 < op) = false) (hm : (mode != 1) = false) (h5 : (op == 5) = true) (_hle : decide (imm ≤ 4095) = true) (hok : Nm.okB ⟨op, cond, rd, rn, rm, imm, mode, list, false⟩ = true)
    (hF : ∀ W, Calls Tryd.prog 10 #[.int .u32 (imm % 4294967296)] W fun e w' => e = .returned (.tuple #[.int .i64 f, .bool false]) ∧ ∃ n, w' = W.drewN n)
    (hn : (Wm.encW Wm.findF ⟨op, cond, rd, rn, rm, imm, mode, list, false⟩ it).isSome = true) (w : World) (hT : Tabs w) :
    Calls Tryd.prog 5 #[.agg #[.int .i64 op, .int .i64 cond, .int .i64 rd, .int .i64 rn, .int .i64 rm, .int .i64 imm, .int .i64 mode, .int .i64 list, .bool false], .bool it] w fun e w' => e = .returned (.bool true) ∧ Below w.heap.size w w' := by
  have hL := Lib.hid ((Later.refl hT).step (one_b w (.cells #[.int .i64 op, .int .i64 cond, .int .i64 rd, .int .i64 rn, .int .i64 rm, .int .i64 imm, .int .i64 mode, .int .i64 list, .bool false] 23)))
  clear hT
  have hC := fun W => rcheck_c op cond rd rn rm imm mode list false W hw
  rw [hok] at hC
  replace hC := Lib.hid hC
  have hN := fun W hT => pcan_c op cond rd rn rm imm mode list false it hw W hT
  rw [hn] at hN
  replace hN := Lib.hid hN
  replace hF := Lib.hid hF
  clear hw hok hn
  go_enter Tryd.func5, Tryd.ntmps5
  go_wp2_with fail
  refine (hC.out _).mono ?_
  rintro e w2 ⟨rfl, hb⟩
  have hz : w.heap.size < w2.heap.size := Nat.lt_of_lt_of_le (by simp) hb.size
  have hcell : ∀ j, w2.cell? ⟨w.heap.size, j, none⟩ = (#[.int .i64 op, .int .i64 cond, .int .i64 rd, .int .i64 rn, .int .i64 rm, .int .i64 imm, .int .i64 mode, .int .i64 list, .bool false] : Array Value)[j]? := fun j => (hb.cell (p := ⟨w.heap.size, j, none⟩) (by simp)).trans (World.cell?_alloc_new w _ _ j)
  replace hL := Lib.hid (hL.out.step hb)
  clear hb
  unfold Im.errI
  go_wp2_with fail
  refine (hF.out _).mono ?_
  rintro e w3 ⟨rfl, n, rfl⟩
  have hdn : ∀ j, (w2.drewN n).cell? ⟨w.heap.size, j, none⟩ = (#[.int .i64 op, .int .i64 cond, .int .i64 rd, .int .i64 rn, .int .i64 rm, .int .i64 imm, .int .i64 mode, .int .i64 list, .bool false] : Array Value)[j]? := hcell
  replace hL := Lib.hid (hL.out.drewn n)
  go_wp2_with fail
  refine (hN.out _ hL.out.tabs).mono ?_
  rintro e w4 ⟨rfl, hb⟩
  replace hL := Lib.hid (hL.out.step hb)
  clear hb
  go_wp2_with fail
  refine (awake_c _ hL.out.tabs).mono ?_
  rintro e w9 ⟨rfl, hb⟩
  go_wp2
  go_ret
  exact ⟨rfl, (hL.out.step hb).bel⟩

theorem walk_o5_f_f_f (op cond rd rn rm imm mode list : Int) (it : Bool) (hw : Nm.Wide list) (f : Int) (ho : decide (15 < op) = false) (hm : (mode != 1) = false) (h5 : (op == 5) = true) (_hle : decide (imm ≤ 4095) = false) (hok : Nm.okB ⟨op, cond, rd, rn, rm, imm, mode, list, false⟩ = true)
    (hF : ∀ W, Calls Tryd.prog 10 #[.int .u32 (imm % 4294967296)] W fun e w' => e = .returned (.tuple #[.int .i64 f, .bool false]) ∧ ∃ n, w' = W.drewN n)
    (hn : (Wm.encW Wm.findF ⟨op, cond, rd, rn, rm, imm, mode, list, false⟩ it).isSome = false) (w : World) (hT : Tabs w) :
    Calls Tryd.prog 5 #[.agg #[.int .i64 op, .int .i64 cond, .int .i64 rd, .int .i64 rn, .int .i64 rm, .int .i64 imm, .int .i64 mode, .int .i64 list, .bool false], .bool it] w fun e w' => e = .returned (.bool true) ∧ Below w.heap.size w w' := by
  have hL := Lib.hid ((Later.refl hT).step (one_b w (.cells #[.int .i64 op, .int .i64 cond, .int .i64 rd, .int .i64 rn, .int .i64 rm, .int .i64 imm, .int .i64 mode, .int .i64 list, .bool false] 23)))
  clear hT
  have hC := fun W => rcheck_c op cond rd rn rm imm mode list false W hw
  rw [hok] at hC
  replace hC := Lib.hid hC
  have hN := fun W hT => pcan_c op cond rd rn rm imm mode list false it hw W hT
  rw [hn] at hN
  replace hN := Lib.hid hN
  replace hF := Lib.hid hF
  clear hw hok hn
  go_enter Tryd.func5, Tryd.ntmps5
  go_wp2_with fail
  refine (hC.out _).mono ?_
  rintro e w2 ⟨rfl, hb⟩
  have hz : w.heap.size < w2.heap.size := Nat.lt_of_lt_of_le (by simp) hb.size
  have hcell : ∀ j, w2.cell? ⟨w.heap.size, j, none⟩ = (#[.int .i64 op, .int .i64 cond, .int .i64 rd, .int .i64 rn, .int .i64 rm, .int .i64 imm, .int .i64 mode, .int .i64 list, .bool false] : Array Value)[j]? := fun j => (hb.cell (p := ⟨w.heap.size, j, none⟩) (by simp)).trans (World.cell?_alloc_new w _ _ j)
  replace hL := Lib.hid (hL.out.step hb)
  clear hb
  unfold Im.errI
  go_wp2_with fail
  refine (hF.out _).mono ?_
  rintro e w3 ⟨rfl, n, rfl⟩
  have hdn : ∀ j, (w2.drewN n).cell? ⟨w.heap.size, j, none⟩ = (#[.int .i64 op, .int .i64 cond, .int .i64 rd, .int .i64 rn, .int .i64 rm, .int .i64 imm, .int .i64 mode, .int .i64 list, .bool false] : Array Value)[j]? := hcell
  replace hL := Lib.hid (hL.out.drewn n)
  go_wp2_with fail
  refine (hN.out _ hL.out.tabs).mono ?_
  rintro e w4 ⟨rfl, hb⟩
  replace hL := Lib.hid (hL.out.step hb)
  clear hb
  go_wp2_with fail
  refine (awake_c _ hL.out.tabs).mono ?_
  rintro e w9 ⟨rfl, hb⟩
  go_wp2
  go_ret
  exact ⟨rfl, (hL.out.step hb).bel⟩

theorem walk_o7_f_t_t (op cond rd rn rm imm mode list : Int) (it : Bool) (hw : Nm.Wide list) (f : Int) (ho : decide (15 < op) = false) (hm : (mode != 1) = false) (h5 : (op == 5) = false) (h7 : (op == 7) = true) (_hle : decide (imm ≤ 4095) = true) (hok : Nm.okB ⟨op, cond, rd, rn, rm, imm, mode, list, true⟩ = true)
    (hF : ∀ W, Calls Tryd.prog 10 #[.int .u32 (imm % 4294967296)] W fun e w' => e = .returned (.tuple #[.int .i64 f, .bool false]) ∧ ∃ n, w' = W.drewN n)
    (hn : (Wm.encW Wm.findF ⟨op, cond, rd, rn, rm, imm, mode, list, true⟩ it).isSome = false) (w : World) (hT : Tabs w) :
    Calls Tryd.prog 5 #[.agg #[.int .i64 op, .int .i64 cond, .int .i64 rd, .int .i64 rn, .int .i64 rm, .int .i64 imm, .int .i64 mode, .int .i64 list, .bool true], .bool it] w fun e w' => e = .returned (.bool true) ∧ Below w.heap.size w w' := by
  have hL := Lib.hid ((Later.refl hT).step (one_b w (.cells #[.int .i64 op, .int .i64 cond, .int .i64 rd, .int .i64 rn, .int .i64 rm, .int .i64 imm, .int .i64 mode, .int .i64 list, .bool true] 23)))
  clear hT
  have hC := fun W => rcheck_c op cond rd rn rm imm mode list true W hw
  rw [hok] at hC
  replace hC := Lib.hid hC
  have hN := fun W hT => pcan_c op cond rd rn rm imm mode list true it hw W hT
  rw [hn] at hN
  replace hN := Lib.hid hN
  replace hF := Lib.hid hF
  clear hw hok hn
  go_enter Tryd.func5, Tryd.ntmps5
  go_wp2_with fail
  refine (hC.out _).mono ?_
  rintro e w2 ⟨rfl, hb⟩
  have hz : w.heap.size < w2.heap.size := Nat.lt_of_lt_of_le (by simp) hb.size
  have hcell : ∀ j, w2.cell? ⟨w.heap.size, j, none⟩ = (#[.int .i64 op, .int .i64 cond, .int .i64 rd, .int .i64 rn, .int .i64 rm, .int .i64 imm, .int .i64 mode, .int .i64 list, .bool true] : Array Value)[j]? := fun j => (hb.cell (p := ⟨w.heap.size, j, none⟩) (by simp)).trans (World.cell?_alloc_new w _ _ j)
  replace hL := Lib.hid (hL.out.step hb)
  clear hb
  unfold Im.errI
  go_wp2_with fail
  refine (hF.out _).mono ?_
  rintro e w3 ⟨rfl, n, rfl⟩
  have hdn : ∀ j, (w2.drewN n).cell? ⟨w.heap.size, j, none⟩ = (#[.int .i64 op, .int .i64 cond, .int .i64 rd, .int .i64 rn, .int .i64 rm, .int .i64 imm, .int .i64 mode, .int .i64 list, .bool true] : Array Value)[j]? := hcell
  replace hL := Lib.hid (hL.out.drewn n)
  go_wp2_with fail
  refine (hN.out _ hL.out.tabs).mono ?_
  rintro e w4 ⟨rfl, hb⟩
  replace hL := Lib.hid (hL.out.step hb)
  clear hb
  go_wp2_with fail
  refine (awake_c _ hL.out.tabs).mono ?_
  rintro e w9 ⟨rfl, hb⟩
  go_wp2
  go_ret
  exact ⟨rfl, (hL.out.step hb).bel⟩

theorem walk_o7_f_t_f (op cond rd rn rm imm mode list : Int) (it : Bool) (hw : Nm.Wide list) (f : Int) (ho : decide (15 < op) = false) (hm : (mode != 1) = false) (h5 : (op == 5) = false) (h7 : (op == 7) = true) (_hle : decide (imm ≤ 4095) = false) (hok : Nm.okB ⟨op, cond, rd, rn, rm, imm, mode, list, true⟩ = true)
    (hF : ∀ W, Calls Tryd.prog 10 #[.int .u32 (imm % 4294967296)] W fun e w' => e = .returned (.tuple #[.int .i64 f, .bool false]) ∧ ∃ n, w' = W.drewN n)
    (hn : (Wm.encW Wm.findF ⟨op, cond, rd, rn, rm, imm, mode, list, true⟩ it).isSome = false) (w : World) (hT : Tabs w) :
    Calls Tryd.prog 5 #[.agg #[.int .i64 op, .int .i64 cond, .int .i64 rd, .int .i64 rn, .int .i64 rm, .int .i64 imm, .int .i64 mode, .int .i64 list, .bool true], .bool it] w fun e w' => e = .returned (.bool true) ∧ Below w.heap.size w w' := by
  have hL := Lib.hid ((Later.refl hT).step (one_b w (.cells #[.int .i64 op, .int .i64 cond, .int .i64 rd, .int .i64 rn, .int .i64 rm, .int .i64 imm, .int .i64 mode, .int .i64 list, .bool true] 23)))
  clear hT
  have hC := fun W => rcheck_c op cond rd rn rm imm mode list true W hw
  rw [hok] at hC
  replace hC := Lib.hid hC
  have hN := fun W hT => pcan_c op cond rd rn rm imm mode list true it hw W hT
  rw [hn] at hN
  replace hN := Lib.hid hN
  replace hF := Lib.hid hF
  clear hw hok hn
  go_enter Tryd.func5, Tryd.ntmps5
  go_wp2_with fail
  refine (hC.out _).mono ?_
  rintro e w2 ⟨rfl, hb⟩
  have hz : w.heap.size < w2.heap.size := Nat.lt_of_lt_of_le (by simp) hb.size
  have hcell : ∀ j, w2.cell? ⟨w.heap.size, j, none⟩ = (#[.int .i64 op, .int .i64 cond, .int .i64 rd, .int .i64 rn, .int .i64 rm, .int .i64 imm, .int .i64 mode, .int .i64 list, .bool true] : Array Value)[j]? := fun j => (hb.cell (p := ⟨w.heap.size, j, none⟩) (by simp)).trans (World.cell?_alloc_new w _ _ j)
  replace hL := Lib.hid (hL.out.step hb)
  clear hb
  unfold Im.errI
  go_wp2_with fail
  refine (hF.out _).mono ?_
  rintro e w3 ⟨rfl, n, rfl⟩
  have hdn : ∀ j, (w2.drewN n).cell? ⟨w.heap.size, j, none⟩ = (#[.int .i64 op, .int .i64 cond, .int .i64 rd, .int .i64 rn, .int .i64 rm, .int .i64 imm, .int .i64 mode, .int .i64 list, .bool true] : Array Value)[j]? := hcell
  replace hL := Lib.hid (hL.out.drewn n)
  go_wp2_with fail
  refine (hN.out _ hL.out.tabs).mono ?_
  rintro e w4 ⟨rfl, hb⟩
  replace hL := Lib.hid (hL.out.step hb)
  clear hb
  go_wp2_with fail
  refine (awake_c _ hL.out.tabs).mono ?_
  rintro e w9 ⟨rfl, hb⟩
  go_wp2
  go_ret
  exact ⟨rfl, (hL.out.step hb).bel⟩

theorem walk_o7_f_f_t (op cond rd rn rm imm mode list : Int) (it : Bool) (hw : Nm.Wide list) (f : Int) (ho : decide (15 < op) = false) (hm : (mode != 1) = false) (h5 : (op == 5) = false) (h7 : (op == 7) = true) (_hle : decide (imm ≤ 4095) = true) (hok : Nm.okB ⟨op, cond, rd, rn, rm, imm, mode, list, false⟩ = true)
    (hF : ∀ W, Calls Tryd.prog 10 #[.int .u32 (imm % 4294967296)] W fun e w' => e = .returned (.tuple #[.int .i64 f, .bool false]) ∧ ∃ n, w' = W.drewN n)
    (hn : (Wm.encW Wm.findF ⟨op, cond, rd, rn, rm, imm, mode, list, false⟩ it).isSome = true) (w : World) (hT : Tabs w) :
    Calls Tryd.prog 5 #[.agg #[.int .i64 op, .int .i64 cond, .int .i64 rd, .int .i64 rn, .int .i64 rm, .int .i64 imm, .int .i64 mode, .int .i64 list, .bool false], .bool it] w fun e w' => e = .returned (.bool true) ∧ Below w.heap.size w w' := by
  have hL := Lib.hid ((Later.refl hT).step (one_b w (.cells #[.int .i64 op, .int .i64 cond, .int .i64 rd, .int .i64 rn, .int .i64 rm, .int .i64 imm, .int .i64 mode, .int .i64 list, .bool false] 23)))
  clear hT
  have hC := fun W => rcheck_c op cond rd rn rm imm mode list false W hw
  rw [hok] at hC
  replace hC := Lib.hid hC
  have hN := fun W hT => pcan_c op cond rd rn rm imm mode list false it hw W hT
  rw [hn] at hN
  replace hN := Lib.hid hN
  replace hF := Lib.hid hF
  clear hw hok hn
  go_enter Tryd.func5, Tryd.ntmps5
  go_wp2_with fail
  refine (hC.out _).mono ?_
  rintro e w2 ⟨rfl, hb⟩
  have hz : w.heap.size < w2.heap.size := Nat.lt_of_lt_of_le (by simp) hb.size
  have hcell : ∀ j, w2.cell? ⟨w.heap.size, j, none⟩ = (#[.int .i64 op, .int .i64 cond, .int .i64 rd, .int .i64 rn, .int .i64 rm, .int .i64 imm, .int .i64 mode, .int .i64 list, .bool false] : Array Value)[j]? := fun j => (hb.cell (p := ⟨w.heap.size, j, none⟩) (by simp)).trans (World.cell?_alloc_new w _ _ j)
  replace hL := Lib.hid (hL.out.step hb)
  clear hb
  unfold Im.errI
  go_wp2_with fail
  refine (hF.out _).mono ?_
  rintro e w3 ⟨rfl, n, rfl⟩
  have hdn : ∀ j, (w2.drewN n).cell? ⟨w.heap.size, j, none⟩ = (#[.int .i64 op, .int .i64 cond, .int .i64 rd, .int .i64 rn, .int .i64 rm, .int .i64 imm, .int .i64 mode, .int .i64 list, .bool false] : Array Value)[j]? := hcell
  replace hL := Lib.hid (hL.out.drewn n)
  go_wp2_with fail
  refine (hN.out _ hL.out.tabs).mono ?_
  rintro e w4 ⟨rfl, hb⟩
  replace hL := Lib.hid (hL.out.step hb)
  clear hb
  go_wp2_with fail
  refine (awake_c _ hL.out.tabs).mono ?_
  rintro e w9 ⟨rfl, hb⟩
  go_wp2
  go_ret
  exact ⟨rfl, (hL.out.step hb).bel⟩

theorem walk_o7_f_f_f (op cond rd rn rm imm mode list : Int) (it : Bool) (hw : Nm.Wide list) (f : Int) (ho : decide (15 < op) = false) (hm : (mode != 1) = false) (h5 : (op == 5) = false) (h7 : (op == 7) = true) (_hle : decide (imm ≤ 4095) = false) (hok : Nm.okB ⟨op, cond, rd, rn, rm, imm, mode, list, false⟩ = true)
    (hF : ∀ W, Calls Tryd.prog 10 #[.int .u32 (imm % 4294967296)] W fun e w' => e = .returned (.tuple #[.int .i64 f, .bool false]) ∧ ∃ n, w' = W.drewN n)
    (hn : (Wm.encW Wm.findF ⟨op, cond, rd, rn, rm, imm, mode, list, false⟩ it).isSome = false) (w : World) (hT : Tabs w) :
    Calls Tryd.prog 5 #[.agg #[.int .i64 op, .int .i64 cond, .int .i64 rd, .int .i64 rn, .int .i64 rm, .int .i64 imm, .int .i64 mode, .int .i64 list, .bool false], .bool it] w fun e w' => e = .returned (.bool true) ∧ Below w.heap.size w w' := by
  have hL := Lib.hid ((Later.refl hT).step (one_b w (.cells #[.int .i64 op, .int .i64 cond, .int .i64 rd, .int .i64 rn, .int .i64 rm, .int .i64 imm, .int .i64 mode, .int .i64 list, .bool false] 23)))
  clear hT
  have hC := fun W => rcheck_c op cond rd rn rm imm mode list false W hw
  rw [hok] at hC
  replace hC := Lib.hid hC
  have hN := fun W hT => pcan_c op cond rd rn rm imm mode list false it hw W hT
  rw [hn] at hN
  replace hN := Lib.hid hN
  replace hF := Lib.hid hF
  clear hw hok hn
  go_enter Tryd.func5, Tryd.ntmps5
  go_wp2_with fail
  refine (hC.out _).mono ?_
  rintro e w2 ⟨rfl, hb⟩
  have hz : w.heap.size < w2.heap.size := Nat.lt_of_lt_of_le (by simp) hb.size
  have hcell : ∀ j, w2.cell? ⟨w.heap.size, j, none⟩ = (#[.int .i64 op, .int .i64 cond, .int .i64 rd, .int .i64 rn, .int .i64 rm, .int .i64 imm, .int .i64 mode, .int .i64 list, .bool false] : Array Value)[j]? := fun j => (hb.cell (p := ⟨w.heap.size, j, none⟩) (by simp)).trans (World.cell?_alloc_new w _ _ j)
  replace hL := Lib.hid (hL.out.step hb)
  clear hb
  unfold Im.errI
  go_wp2_with fail
  refine (hF.out _).mono ?_
  rintro e w3 ⟨rfl, n, rfl⟩
  have hdn : ∀ j, (w2.drewN n).cell? ⟨w.heap.size, j, none⟩ = (#[.int .i64 op, .int .i64 cond, .int .i64 rd, .int .i64 rn, .int .i64 rm, .int .i64 imm, .int .i64 mode, .int .i64 list, .bool false] : Array Value)[j]? := hcell
  replace hL := Lib.hid (hL.out.drewn n)
  go_wp2_with fail
  refine (hN.out _ hL.out.tabs).mono ?_
  rintro e w4 ⟨rfl, hb⟩
  replace hL := Lib.hid (hL.out.step hb)
  clear hb
  go_wp2_with fail
  refine (awake_c _ hL.out.tabs).mono ?_
  rintro e w9 ⟨rfl, hb⟩
  go_wp2
  go_ret
  exact ⟨rfl, (hL.out.step hb).bel⟩

theorem walk_no_f_t_t (op cond rd rn rm imm mode list : Int) (it : Bool) (hw : Nm.Wide list) (f : Int) (ho : decide (15 < op) = false) (hm : (mode != 1) = false) (h5 : (op == 5) = false) (h7 : (op == 7) = false) (_hle : decide (imm ≤ 4095) = true) (hok : Nm.okB ⟨op, cond, rd, rn, rm, imm, mode, list, true⟩ = true)
    (hF : ∀ W, Calls Tryd.prog 10 #[.int .u32 (imm % 4294967296)] W fun e w' => e = .returned (.tuple #[.int .i64 f, .bool false]) ∧ ∃ n, w' = W.drewN n)
    (hn : (Wm.encW Wm.findF ⟨op, cond, rd, rn, rm, imm, mode, list, true⟩ it).isSome = false) (w : World) (hT : Tabs w) :
    Calls Tryd.prog 5 #[.agg #[.int .i64 op, .int .i64 cond, .int .i64 rd, .int .i64 rn, .int .i64 rm, .int .i64 imm, .int .i64 mode, .int .i64 list, .bool true], .bool it] w fun e w' => e = .returned (.bool true) ∧ Below w.heap.size w w' := by
  have hL := Lib.hid ((Later.refl hT).step (one_b w (.cells #[.int .i64 op, .int .i64 cond, .int .i64 rd, .int .i64 rn, .int .i64 rm, .int .i64 imm, .int .i64 mode, .int .i64 list, .bool true] 23)))
  clear hT
  have hC := fun W => rcheck_c op cond rd rn rm imm mode list true W hw
  rw [hok] at hC
  replace hC := Lib.hid hC
  have hN := fun W hT => pcan_c op cond rd rn rm imm mode list true it hw W hT
  rw [hn] at hN
  replace hN := Lib.hid hN
  replace hF := Lib.hid hF
  clear hw hok hn
  go_enter Tryd.func5, Tryd.ntmps5
  go_wp2_with fail
  refine (hC.out _).mono ?_
  rintro e w2 ⟨rfl, hb⟩
  have hz : w.heap.size < w2.heap.size := Nat.lt_of_lt_of_le (by simp) hb.size
  have hcell : ∀ j, w2.cell? ⟨w.heap.size, j, none⟩ = (#[.int .i64 op, .int .i64 cond, .int .i64 rd, .int .i64 rn, .int .i64 rm, .int .i64 imm, .int .i64 mode, .int .i64 list, .bool true] : Array Value)[j]? := fun j => (hb.cell (p := ⟨w.heap.size, j, none⟩) (by simp)).trans (World.cell?_alloc_new w _ _ j)
  replace hL := Lib.hid (hL.out.step hb)
  clear hb
  unfold Im.errI
  go_wp2_with fail
  refine (hF.out _).mono ?_
  rintro e w3 ⟨rfl, n, rfl⟩
  have hdn : ∀ j, (w2.drewN n).cell? ⟨w.heap.size, j, none⟩ = (#[.int .i64 op, .int .i64 cond, .int .i64 rd, .int .i64 rn, .int .i64 rm, .int .i64 imm, .int .i64 mode, .int .i64 list, .bool true] : Array Value)[j]? := hcell
  replace hL := Lib.hid (hL.out.drewn n)
  go_wp2_with fail
  refine (hN.out _ hL.out.tabs).mono ?_
  rintro e w4 ⟨rfl, hb⟩
  replace hL := Lib.hid (hL.out.step hb)
  clear hb
  go_wp2_with fail
  refine (awake_c _ hL.out.tabs).mono ?_
  rintro e w9 ⟨rfl, hb⟩
  go_wp2
  go_ret
  exact ⟨rfl, (hL.out.step hb).bel⟩

theorem walk_no_f_t_f (op cond rd rn rm imm mode list : Int) (it : Bool) (hw : Nm.Wide list) (f : Int) (ho : decide (15 < op) = false) (hm : (mode != 1) = false) (h5 : (op == 5) = false) (h7 : (op == 7) = false) (_hle : decide (imm ≤ 4095) = false) (hok : Nm.okB ⟨op, cond, rd, rn, rm, imm, mode, list, true⟩ = true)
    (hF : ∀ W, Calls Tryd.prog 10 #[.int .u32 (imm % 4294967296)] W fun e w' => e = .returned (.tuple #[.int .i64 f, .bool false]) ∧ ∃ n, w' = W.drewN n)
    (hn : (Wm.encW Wm.findF ⟨op, cond, rd, rn, rm, imm, mode, list, true⟩ it).isSome = false) (w : World) (hT : Tabs w) :
    Calls Tryd.prog 5 #[.agg #[.int .i64 op, .int .i64 cond, .int .i64 rd, .int .i64 rn, .int .i64 rm, .int .i64 imm, .int .i64 mode, .int .i64 list, .bool true], .bool it] w fun e w' => e = .returned (.bool true) ∧ Below w.heap.size w w' := by
  have hL := Lib.hid ((Later.refl hT).step (one_b w (.cells #[.int .i64 op, .int .i64 cond, .int .i64 rd, .int .i64 rn, .int .i64 rm, .int .i64 imm, .int .i64 mode, .int .i64 list, .bool true] 23)))
  clear hT
  have hC := fun W => rcheck_c op cond rd rn rm imm mode list true W hw
  rw [hok] at hC
  replace hC := Lib.hid hC
  have hN := fun W hT => pcan_c op cond rd rn rm imm mode list true it hw W hT
  rw [hn] at hN
  replace hN := Lib.hid hN
  replace hF := Lib.hid hF
  clear hw hok hn
  go_enter Tryd.func5, Tryd.ntmps5
  go_wp2_with fail
  refine (hC.out _).mono ?_
  rintro e w2 ⟨rfl, hb⟩
  have hz : w.heap.size < w2.heap.size := Nat.lt_of_lt_of_le (by simp) hb.size
  have hcell : ∀ j, w2.cell? ⟨w.heap.size, j, none⟩ = (#[.int .i64 op, .int .i64 cond, .int .i64 rd, .int .i64 rn, .int .i64 rm, .int .i64 imm, .int .i64 mode, .int .i64 list, .bool true] : Array Value)[j]? := fun j => (hb.cell (p := ⟨w.heap.size, j, none⟩) (by simp)).trans (World.cell?_alloc_new w _ _ j)
  replace hL := Lib.hid (hL.out.step hb)
  clear hb
  unfold Im.errI
  go_wp2_with fail
  refine (hF.out _).mono ?_
  rintro e w3 ⟨rfl, n, rfl⟩
  have hdn : ∀ j, (w2.drewN n).cell? ⟨w.heap.size, j, none⟩ = (#[.int .i64 op, .int .i64 cond, .int .i64 rd, .int .i64 rn, .int .i64 rm, .int .i64 imm, .int .i64 mode, .int .i64 list, .bool true] : Array Value)[j]? := hcell
  replace hL := Lib.hid (hL.out.drewn n)
  go_wp2_with fail
  refine (hN.out _ hL.out.tabs).mono ?_
  rintro e w4 ⟨rfl, hb⟩
  replace hL := Lib.hid (hL.out.step hb)
  clear hb
  go_wp2_with fail
  refine (awake_c _ hL.out.tabs).mono ?_
  rintro e w9 ⟨rfl, hb⟩
  go_wp2
  go_ret
  exact ⟨rfl, (hL.out.step hb).bel⟩

theorem walk_no_f_f_t (op cond rd rn rm imm mode list : Int) (it : Bool) (hw : Nm.Wide list) (f : Int) (ho : decide (15 < op) = false) (hm : (mode != 1) = false) (h5 : (op == 5) = false) (h7 : (op == 7) = false) (_hle : decide (imm ≤ 4095) = true) (hok : Nm.okB ⟨op, cond, rd, rn, rm, imm, mode, list, false⟩ = true)
    (hF : ∀ W, Calls Tryd.prog 10 #[.int .u32 (imm % 4294967296)] W fun e w' => e = .returned (.tuple #[.int .i64 f, .bool false]) ∧ ∃ n, w' = W.drewN n)
    (hn : (Wm.encW Wm.findF ⟨op, cond, rd, rn, rm, imm, mode, list, false⟩ it).isSome = false) (w : World) (hT : Tabs w) :
    Calls Tryd.prog 5 #[.agg #[.int .i64 op, .int .i64 cond, .int .i64 rd, .int .i64 rn, .int .i64 rm, .int .i64 imm, .int .i64 mode, .int .i64 list, .bool false], .bool it] w fun e w' => e = .returned (.bool true) ∧ Below w.heap.size w w' := by
  have hL := Lib.hid ((Later.refl hT).step (one_b w (.cells #[.int .i64 op, .int .i64 cond, .int .i64 rd, .int .i64 rn, .int .i64 rm, .int .i64 imm, .int .i64 mode, .int .i64 list, .bool false] 23)))
  clear hT
  have hC := fun W => rcheck_c op cond rd rn rm imm mode list false W hw
  rw [hok] at hC
  replace hC := Lib.hid hC
  have hN := fun W hT => pcan_c op cond rd rn rm imm mode list false it hw W hT
  rw [hn] at hN
  replace hN := Lib.hid hN
  replace hF := Lib.hid hF
  clear hw hok hn
  go_enter Tryd.func5, Tryd.ntmps5
  go_wp2_with fail
  refine (hC.out _).mono ?_
  rintro e w2 ⟨rfl, hb⟩
  have hz : w.heap.size < w2.heap.size := Nat.lt_of_lt_of_le (by simp) hb.size
  have hcell : ∀ j, w2.cell? ⟨w.heap.size, j, none⟩ = (#[.int .i64 op, .int .i64 cond, .int .i64 rd, .int .i64 rn, .int .i64 rm, .int .i64 imm, .int .i64 mode, .int .i64 list, .bool false] : Array Value)[j]? := fun j => (hb.cell (p := ⟨w.heap.size, j, none⟩) (by simp)).trans (World.cell?_alloc_new w _ _ j)
  replace hL := Lib.hid (hL.out.step hb)
  clear hb
  unfold Im.errI
  go_wp2_with fail
  refine (hF.out _).mono ?_
  rintro e w3 ⟨rfl, n, rfl⟩
  have hdn : ∀ j, (w2.drewN n).cell? ⟨w.heap.size, j, none⟩ = (#[.int .i64 op, .int .i64 cond, .int .i64 rd, .int .i64 rn, .int .i64 rm, .int .i64 imm, .int .i64 mode, .int .i64 list, .bool false] : Array Value)[j]? := hcell
  replace hL := Lib.hid (hL.out.drewn n)
  go_wp2_with fail
  refine (hN.out _ hL.out.tabs).mono ?_
  rintro e w4 ⟨rfl, hb⟩
  replace hL := Lib.hid (hL.out.step hb)
  clear hb
  go_wp2_with fail
  refine (awake_c _ hL.out.tabs).mono ?_
  rintro e w9 ⟨rfl, hb⟩
  go_wp2
  go_ret
  exact ⟨rfl, (hL.out.step hb).bel⟩

theorem walk_no_f_f_f (op cond rd rn rm imm mode list : Int) (it : Bool) (hw : Nm.Wide list) (f : Int) (ho : decide (15 < op) = false) (hm : (mode != 1) = false) (h5 : (op == 5) = false) (h7 : (op == 7) = false) (_hle : decide (imm ≤ 4095) = false) (hok : Nm.okB ⟨op, cond, rd, rn, rm, imm, mode, list, false⟩ = true)
    (hF : ∀ W, Calls Tryd.prog 10 #[.int .u32 (imm % 4294967296)] W fun e w' => e = .returned (.tuple #[.int .i64 f, .bool false]) ∧ ∃ n, w' = W.drewN n)
    (hn : (Wm.encW Wm.findF ⟨op, cond, rd, rn, rm, imm, mode, list, false⟩ it).isSome = false) (w : World) (hT : Tabs w) :
    Calls Tryd.prog 5 #[.agg #[.int .i64 op, .int .i64 cond, .int .i64 rd, .int .i64 rn, .int .i64 rm, .int .i64 imm, .int .i64 mode, .int .i64 list, .bool false], .bool it] w fun e w' => e = .returned (.bool true) ∧ Below w.heap.size w w' := by
  have hL := Lib.hid ((Later.refl hT).step (one_b w (.cells #[.int .i64 op, .int .i64 cond, .int .i64 rd, .int .i64 rn, .int .i64 rm, .int .i64 imm, .int .i64 mode, .int .i64 list, .bool false] 23)))
  clear hT
  have hC := fun W => rcheck_c op cond rd rn rm imm mode list false W hw
  rw [hok] at hC
  replace hC := Lib.hid hC
  have hN := fun W hT => pcan_c op cond rd rn rm imm mode list false it hw W hT
  rw [hn] at hN
  replace hN := Lib.hid hN
  replace hF := Lib.hid hF
  clear hw hok hn
  go_enter Tryd.func5, Tryd.ntmps5
  go_wp2_with fail
  refine (hC.out _).mono ?_
  rintro e w2 ⟨rfl, hb⟩
  have hz : w.heap.size < w2.heap.size := Nat.lt_of_lt_of_le (by simp) hb.size
  have hcell : ∀ j, w2.cell? ⟨w.heap.size, j, none⟩ = (#[.int .i64 op, .int .i64 cond, .int .i64 rd, .int .i64 rn, .int .i64 rm, .int .i64 imm, .int .i64 mode, .int .i64 list, .bool false] : Array Value)[j]? := fun j => (hb.cell (p := ⟨w.heap.size, j, none⟩) (by simp)).trans (World.cell?_alloc_new w _ _ j)
  replace hL := Lib.hid (hL.out.step hb)
  clear hb
  unfold Im.errI
  go_wp2_with fail
  refine (hF.out _).mono ?_
  rintro e w3 ⟨rfl, n, rfl⟩
  have hdn : ∀ j, (w2.drewN n).cell? ⟨w.heap.size, j, none⟩ = (#[.int .i64 op, .int .i64 cond, .int .i64 rd, .int .i64 rn, .int .i64 rm, .int .i64 imm, .int .i64 mode, .int .i64 list, .bool false] : Array Value)[j]? := hcell
  replace hL := Lib.hid (hL.out.drewn n)
  go_wp2_with fail
  refine (hN.out _ hL.out.tabs).mono ?_
  rintro e w4 ⟨rfl, hb⟩
  replace hL := Lib.hid (hL.out.step hb)
  clear hb
  go_wp2_with fail
  refine (awake_c _ hL.out.tabs).mono ?_
  rintro e w9 ⟨rfl, hb⟩
  go_wp2
  go_ret
  exact ⟨rfl, (hL.out.step hb).bel⟩

theorem walk (op cond rd rn rm imm mode list : Int) (s it : Bool) (wl : (Lit.int .i64 list).wf = true) (w : World) (hT : Tabs w) :
    Calls Tryd.prog 5 #[.agg #[.int .i64 op, .int .i64 cond, .int .i64 rd, .int .i64 rn, .int .i64 rm, .int .i64 imm, .int .i64 mode, .int .i64 list, .bool s], .bool it] w fun e w' => e = .returned (.bool true) ∧ Below w.heap.size w w' := by
  have hw := wide_of wl
  cases ho : decide (15 < op) with
  | true => exact walk_big op cond rd rn rm imm mode list s it ho w hT
  | false =>
    cases hm : (mode != 1) with
    | true => exact walk_mode op cond rd rn rm imm mode list s it ho hm w hT
    | false =>
      cases hok : Nm.okB ⟨op, cond, rd, rn, rm, imm, mode, list, s⟩ with
      | false => exact walk_not op cond rd rn rm imm mode list s it hw ho hm hok w hT
      | true =>
        have ho' : op ≤ 15 := by have := of_decide_eq_false ho; omega
        have hm' : mode = 1 := by simpa using hm
        have hn := Wm.number_is Wm.findF ⟨op, cond, rd, rn, rm, imm, mode, list, s⟩ it hok ho' hm'
        dsimp only at hn
        have hi : 0 ≤ imm ∧ imm ≤ 4294967295 := by
          subst hm'
          exact imm_in hok ho'
        have hx : imm % 4294967296 = imm := by omega
        have hF := fun W => rfind_c (imm % 4294967296) W (by omega) (by omega)
        have hfs : (Wm.findF imm).isSome = findB (imm % 4294967296) := by
          rw [hx]
          unfold Wm.findF findB
          rw [if_pos hi.1, Option.isSome_map]
        rw [hfs] at hn
        generalize findI (imm % 4294967296) = f at *
        generalize findB (imm % 4294967296) = fb at *
        clear hfs hx hi hm' ho'
        cases h5 : (op == 5) with
        | true =>
          have e5 : decide (op = 5) = true := h5
          rw [e5] at hn
          cases hle : decide (imm ≤ 4095) <;> rw [hle] at hn <;> cases s <;> cases fb <;> rw [Bool.true_or] at hn
          · exact walk_o5_f_f_f op cond rd rn rm imm mode list it hw f ho hm h5 hle hok hF hn w hT
          · exact walk_o5_t_f_f op cond rd rn rm imm mode list it hw f ho hm h5 hle hok hF hn w hT
          · exact walk_o5_f_t_f op cond rd rn rm imm mode list it hw f ho hm h5 hle hok hF hn w hT
          · exact walk_o5_t_t_f op cond rd rn rm imm mode list it hw f ho hm h5 hle hok hF hn w hT
          · exact walk_o5_f_f_t op cond rd rn rm imm mode list it hw f ho hm h5 hle hok hF hn w hT
          · exact walk_o5_t_f_t op cond rd rn rm imm mode list it hw f ho hm h5 hle hok hF hn w hT
          · exact walk_o5_f_t_t op cond rd rn rm imm mode list it hw f ho hm h5 hle hok hF hn w hT
          · exact walk_o5_t_t_t op cond rd rn rm imm mode list it hw f ho hm h5 hle hok hF hn w hT
        | false =>
          have e5 : decide (op = 5) = false := h5
          rw [e5, Bool.false_or] at hn
          cases h7 : (op == 7) with
          | true =>
            have e7 : decide (op = 7) = true := h7
            rw [e7] at hn
            cases hle : decide (imm ≤ 4095) <;> rw [hle] at hn <;> cases s <;> cases fb
            · exact walk_o7_f_f_f op cond rd rn rm imm mode list it hw f ho hm h5 h7 hle hok hF hn w hT
            · exact walk_o7_t_f_f op cond rd rn rm imm mode list it hw f ho hm h5 h7 hle hok hF hn w hT
            · exact walk_o7_f_t_f op cond rd rn rm imm mode list it hw f ho hm h5 h7 hle hok hF hn w hT
            · exact walk_o7_t_t_f op cond rd rn rm imm mode list it hw f ho hm h5 h7 hle hok hF hn w hT
            · exact walk_o7_f_f_t op cond rd rn rm imm mode list it hw f ho hm h5 h7 hle hok hF hn w hT
            · exact walk_o7_t_f_t op cond rd rn rm imm mode list it hw f ho hm h5 h7 hle hok hF hn w hT
            · exact walk_o7_f_t_t op cond rd rn rm imm mode list it hw f ho hm h5 h7 hle hok hF hn w hT
            · exact walk_o7_t_t_t op cond rd rn rm imm mode list it hw f ho hm h5 h7 hle hok hF hn w hT
          | false =>
            have e7 : decide (op = 7) = false := h7
            rw [e7] at hn
            cases hle : decide (imm ≤ 4095) <;> rw [hle] at hn <;> cases s <;> cases fb
            · exact walk_no_f_f_f op cond rd rn rm imm mode list it hw f ho hm h5 h7 hle hok hF hn w hT
            · exact walk_no_t_f_f op cond rd rn rm imm mode list it hw f ho hm h5 h7 hle hok hF hn w hT
            · exact walk_no_f_t_f op cond rd rn rm imm mode list it hw f ho hm h5 h7 hle hok hF hn w hT
            · exact walk_no_t_t_f op cond rd rn rm imm mode list it hw f ho hm h5 h7 hle hok hF hn w hT
            · exact walk_no_f_f_t op cond rd rn rm imm mode list it hw f ho hm h5 h7 hle hok hF hn w hT
            · exact walk_no_t_f_t op cond rd rn rm imm mode list it hw f ho hm h5 h7 hle hok hF hn w hT
            · exact walk_no_f_t_t op cond rd rn rm imm mode list it hw f ho hm h5 h7 hle hok hF hn w hT
            · exact walk_no_t_t_t op cond rd rn rm imm mode list it hw f ho hm h5 h7 hle hok hF hn w hT

set_option maxRecDepth 100000 in
theorem lifted (os : Os) (started : os.Started) (H : Type) (enc : TypeId × Value → H) :
    ReturnsInHanded {} Tryd.checked os 5 .any (fun w args => (Rows.wideNumbersSpec.pre enc Tryd.prog Tryd.f5 [] false w args ∧ laidMetH Tryd.prog laidL w) ∧ sizedMet enc Tryd.prog Tryd.f5 (OpenSpec.ofChange Rows.wideNumbersSpec) false w args)
      (Rows.wideNumbersSpec.post enc Tryd.prog Tryd.f5 false true false false) := by
  refine returnsInHanded_of_change_and (C := Tryd.checked) (X := fun w _ => laidMetH Tryd.prog laidL w) (fun _ _ _ hh h => h.of_heap hh) own started (by kernel_rfl) Tryd.func5
    (ChangeSpec.witness_shaped (enc := enc) (C := Tryd.checked) (os := os) (X := fun w _ => laidMetH Tryd.prog laidL w) false (World.doorLaid Tryd.prog 400 os) #[.agg #[.int .i64 0, .int .i64 0, .int .i64 0, .int .i64 0, .int .i64 0, .int .i64 0, .int .i64 0, .int .i64 0, .bool false], .bool false] 8 rfl (World.shaped_of_RefB (by kernel_rfl) (by kernel_rfl)) (by kernel_rfl) (by kernel_rfl) (by kernel_rfl) (door_met os _)) ?_
  intro W base args ds gs before hval0 hW _ _ hL _
  have hval : ∀ (j : Nat) t v, Tryd.f5.params[j]? = some t → args[j]? = some v → Value.okWide Tryd.prog W .any base t v := hval0
  have hW' := hW
  obtain ⟨p, q, hA0, hV, rfl, _, _⟩ := hW
  have hA : DataW.TrodAll enc Tryd.prog W 0 (fun _ => true) true Tryd.f5.params.toList args.toList ds p := hA0
  rw [Tryd.params5] at hA hval
  obtain ⟨v0, vs0, d0, ds0, p0, q0, hargs, rfl, rfl, h0, r0⟩ := trodAll_cons hA
  obtain ⟨v1, vs1, d1, ds1, p1, q1, rfl, rfl, rfl, h1, r1⟩ := trodAll_cons r0
  obtain ⟨rfl, rfl, rfl⟩ := trodAll_nil r1
  obtain rfl : args = #[v0, v1] := by cases args; simp_all
  obtain ⟨rfl, rfl⟩ := trodVars_none hV
  have k0 := h0
  have lt0 : ∀ x ∈ p0, x.block < W.heap.size := by obtain ⟨m, hm⟩ := k0; exact DataW.trod_lt m _ _ _ hm
  obtain ⟨ia0, ib0, ic0, id0, ie0, if0, ig0, ih0, ii0, rfl, w0⟩ := open_ins Tryd.underlying23 (by kernel_rfl) ⟨by kernel_rfl, by kernel_rfl, by kernel_rfl⟩ ⟨by kernel_rfl, by kernel_rfl, by kernel_rfl⟩ ⟨by kernel_rfl, by kernel_rfl, by kernel_rfl⟩ ⟨by kernel_rfl, by kernel_rfl, by kernel_rfl⟩ ⟨by kernel_rfl, by kernel_rfl, by kernel_rfl⟩ ⟨by kernel_rfl, by kernel_rfl, by kernel_rfl⟩ ⟨by kernel_rfl, by kernel_rfl, by kernel_rfl⟩ ⟨by kernel_rfl, by kernel_rfl, by kernel_rfl⟩ ⟨by kernel_rfl, by kernel_rfl, by kernel_rfl⟩ (hval 0 23 v0 rfl rfl) h0
  obtain ⟨a1, rfl, rfl, rfl⟩ := open_bool Tryd.underlying4 (hval 1 4 v1 rfl rfl) h1
  clear hA0 hval0
  refine (walk ia0 ib0 ic0 id0 ie0 if0 ig0 ih0 ii0 a1 w0 W (tabs_of hL)).mono fun e W' ⟨he, bel⟩ => ?_
  subst he
  exact ⟨_, rfl, _, _, _, [], _, [], hW', trodAll_mk1 (shut_bool Tryd.underlying4 _), (trodAll_cons_mk (Below.trod laidOut (by kernel_rfl) (of_decide_eq_true (by kernel_rfl)) k0 bel lt0) (trodAll_cons_mk (shut_bool Tryd.underlying4 a1) trodAll_mk0)), rfl, bel.frame _, fun h => by cases h⟩

theorem over : Rows.wideNumbersRow.holds Tryd.pinned (OpenSpec.ofChange Rows.wideNumbersSpec) :=
  OpenClaim.holds_of_wide 5 Tryd.f5 rfl rfl rfl rfl rfl rfl rfl ⟨rfl, rfl, rfl, rfl, rfl⟩ rfl rfl rfl rfl rfl (by kernel_rfl) Tryd.func5 (by kernel_rfl)
    (of_decide_eq_true (by kernel_rfl)) (by unfold Func.isWrapper; first | (rw [if_pos (by decide +kernel)]; kernel_rfl) | (rw [if_neg (by decide +kernel)]; exact ⟨rfl, rfl⟩))
    (fun os started H enc _ => lifted os started H enc)

theorem proved : Rows.WideNumbersCardSaid :=
  Claim7.holds_tied_plain_at .later [] [.data, .data] true Rows.wideNumbersCard.stood.harness false
    over (fun _ h => by cases h) (by kernel_rfl) (fun _ h => by cases h) wideNumbers_row_tie rfl ⟨rfl, rfl⟩ (by kernel_rfl) rfl
    (fun f fn hf hfn => by
      obtain rfl : f = 5 := Option.some.inj ((show Tryd.prog.funcNamed Rows.wideNumbersRow.func = some 5 by kernel_rfl).symm.trans hf) |>.symm
      obtain rfl : fn = Tryd.f5 := (Option.some.inj (Tryd.func5.symm.trans hfn)).symm
      exact ⟨by kernel_rfl, fun j t ht => by
        rw [Tryd.params5] at ht
        have hm : t ∈ [23, 4] := by simpa using Array.mem_of_getElem? ht
        have hall : ([23, 4].all fun u => !Tryd.prog.wantsStandIn u) = true := by kernel_rfl
        exact (show Tryd.prog.wantsStandIn t = false by simpa using List.all_eq_true.1 hall t hm)⟩)
    (by kernel_rfl)
end Go.Proofs.YtgjipmlegpbaaaaDoor.wideNumbers
