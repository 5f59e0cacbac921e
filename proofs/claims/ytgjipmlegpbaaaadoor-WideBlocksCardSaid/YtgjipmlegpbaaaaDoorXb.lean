/- The contracts of wide's functions that take an instruction or not. No conditions but those that each fact names. -/
import Derived.Test.YtgjipmlegpbaaaaDoorRows
import Derived.Test.YtgjipmlegpbaaaaDoorXa
namespace Go.Proofs.YtgjipmlegpbaaaaDoor
open Go.ChangeShapes Go.WideShapes Go.ChangeAt Go.RowKit
namespace Xw

def severalB (list : Int) : Bool := bits .and .i64 list (wrap64 (list - 1)) != 0
theorem always_c (op cond rd rn rm imm mode list : Int) (s it : Bool) (w : World) :
    Calls Tryd.prog 38 #[.agg #[.int .i64 op, .int .i64 cond, .int .i64 rd, .int .i64 rn, .int .i64 rm, .int .i64 imm, .int .i64 mode, .int .i64 list, .bool s], .bool it] w fun e w' => e = .returned (.bool (true)) ∧ Below w.heap.size w w' := by
  go_enter Tryd.func38, Tryd.ntmps38
  go_wp2
  go_ret
  exact ⟨rfl, (Below.refl _ _).alloc (Nat.le_refl _) _⟩
theorem isByNumber_c (op cond rd rn rm imm mode list : Int) (s it : Bool) (w : World) :
    Calls Tryd.prog 35 #[.agg #[.int .i64 op, .int .i64 cond, .int .i64 rd, .int .i64 rn, .int .i64 rm, .int .i64 imm, .int .i64 mode, .int .i64 list, .bool s], .bool it] w fun e w' => e = .returned (.bool (mode == 1)) ∧ Below w.heap.size w w' := by
  go_enter Tryd.func35, Tryd.ntmps35
  go_wp2
  go_ret
  exact ⟨rfl, (Below.refl _ _).alloc (Nat.le_refl _) _⟩
theorem isByRegister_c (op cond rd rn rm imm mode list : Int) (s it : Bool) (w : World) :
    Calls Tryd.prog 37 #[.agg #[.int .i64 op, .int .i64 cond, .int .i64 rd, .int .i64 rn, .int .i64 rm, .int .i64 imm, .int .i64 mode, .int .i64 list, .bool s], .bool it] w fun e w' => e = .returned (.bool (mode == 2)) ∧ Below w.heap.size w w' := by
  go_enter Tryd.func37, Tryd.ntmps37
  go_wp2
  go_ret
  exact ⟨rfl, (Below.refl _ _).alloc (Nat.le_refl _) _⟩
theorem isOnNone_c (op cond rd rn rm imm mode list : Int) (s it : Bool) (w : World) :
    Calls Tryd.prog 45 #[.agg #[.int .i64 op, .int .i64 cond, .int .i64 rd, .int .i64 rn, .int .i64 rm, .int .i64 imm, .int .i64 mode, .int .i64 list, .bool s], .bool it] w fun e w' => e = .returned (.bool (cond == 14)) ∧ Below w.heap.size w w' := by
  go_enter Tryd.func45, Tryd.ntmps45
  go_wp2
  go_ret
  exact ⟨rfl, (Below.refl _ _).alloc (Nat.le_refl _) _⟩
theorem isAhead_c (op cond rd rn rm imm mode list : Int) (s it : Bool) (w : World) :
    Calls Tryd.prog 47 #[.agg #[.int .i64 op, .int .i64 cond, .int .i64 rd, .int .i64 rn, .int .i64 rm, .int .i64 imm, .int .i64 mode, .int .i64 list, .bool s], .bool it] w fun e w' => e = .returned (.bool (decide (0 ≤ imm))) ∧ Below w.heap.size w w' := by
  go_enter Tryd.func47, Tryd.ntmps47
  go_wp2
  go_ret
  exact ⟨rfl, (Below.refl _ _).alloc (Nat.le_refl _) _⟩
theorem isBehind_c (op cond rd rn rm imm mode list : Int) (s it : Bool) (w : World) :
    Calls Tryd.prog 48 #[.agg #[.int .i64 op, .int .i64 cond, .int .i64 rd, .int .i64 rn, .int .i64 rm, .int .i64 imm, .int .i64 mode, .int .i64 list, .bool s], .bool it] w fun e w' => e = .returned (.bool (decide (imm < 0))) ∧ Below w.heap.size w w' := by
  go_enter Tryd.func48, Tryd.ntmps48
  go_wp2
  go_ret
  exact ⟨rfl, (Below.refl _ _).alloc (Nat.le_refl _) _⟩
theorem isOfSeveral_c (op cond rd rn rm imm mode list : Int) (s it : Bool) (w : World) :
    Calls Tryd.prog 42 #[.agg #[.int .i64 op, .int .i64 cond, .int .i64 rd, .int .i64 rn, .int .i64 rm, .int .i64 imm, .int .i64 mode, .int .i64 list, .bool s], .bool it] w fun e w' => e = .returned (.bool (severalB list)) ∧ Below w.heap.size w w' := by
  unfold severalB
  go_enter Tryd.func42, Tryd.ntmps42
  go_wp2
  go_ret
  exact ⟨rfl, (Below.refl _ _).alloc (Nat.le_refl _) _⟩
set_option maxRecDepth 100000 in
theorem isExpanded_c (op cond rd rn rm imm mode list : Int) (s it : Bool) (w : World) :
    Calls Tryd.prog 29 #[.agg #[.int .i64 op, .int .i64 cond, .int .i64 rd, .int .i64 rn, .int .i64 rm, .int .i64 imm, .int .i64 mode, .int .i64 list, .bool s], .bool it] w fun e w' => e = .returned (.bool (findB (imm % 4294967296) && mode == 1)) ∧ Below w.heap.size w w' := by
  obtain ⟨h0, h1⟩ := m32 imm
  have HF := Lib.hid (fun W => find_c (imm % 4294967296) W h0 h1)
  clear h0 h1
  have HN := Lib.hid (fun W => isByNumber_c op cond rd rn rm imm mode list s it W)
  generalize findI (imm % 4294967296) = f at *
  generalize findB (imm % 4294967296) = fb at *
  cases fb with
  | true =>
    rw [Bool.true_and]
    generalize (mode == 1) = b at *
    go_enter Tryd.func29, Tryd.ntmps29
    go_wp2_with fail
    refine (HF.out _).mono ?_
    rintro e w1 ⟨rfl, n1, rfl⟩
    go_wp2_with fail
    refine (HN.out _).mono ?_
    rintro e w2 ⟨rfl, hb⟩
    go_wp2
    go_ret
    exact ⟨rfl, (below_drewN ((Below.refl _ _).alloc (Nat.le_refl _) _) _).trans (hb.mono (by simp))⟩
  | false =>
    rw [Bool.false_and]
    clear HN
    go_enter Tryd.func29, Tryd.ntmps29
    go_wp2_with fail
    refine (HF.out _).mono ?_
    rintro e w1 ⟨rfl, n1, rfl⟩
    go_wp2
    go_ret
    exact ⟨rfl, below_drewN ((Below.refl _ _).alloc (Nat.le_refl _) _) _⟩
set_option maxRecDepth 100000 in
theorem isPlain_c (op cond rd rn rm imm mode list : Int) (s it : Bool) (w : World) :
    Calls Tryd.prog 31 #[.agg #[.int .i64 op, .int .i64 cond, .int .i64 rd, .int .i64 rn, .int .i64 rm, .int .i64 imm, .int .i64 mode, .int .i64 list, .bool s], .bool it] w fun e w' => e = .returned (.bool ((mode == 1) && (decide (imm ≤ 4095) && !s))) ∧ Below w.heap.size w w' := by
  have HN := fun W => isByNumber_c op cond rd rn rm imm mode list s it W
  generalize (mode == 1) = b at *
  replace HN := Lib.hid HN
  cases b with
  | false =>
    go_enter Tryd.func31, Tryd.ntmps31
    go_wp2_with fail
    refine (HN.out _).mono ?_
    rintro e w2 ⟨rfl, hb⟩
    have hA : ∀ j, w2.cell? ⟨w.heap.size, j, none⟩ = (#[.int .i64 op, .int .i64 cond, .int .i64 rd, .int .i64 rn, .int .i64 rm, .int .i64 imm, .int .i64 mode, .int .i64 list, .bool s] : Array Value)[j]? := fun j => (hb.cell (p := ⟨w.heap.size, j, none⟩) (by simp)).trans (World.cell?_alloc_new w _ _ j)
    go_wp2
    go_ret
    exact ⟨rfl, ((Below.refl _ _).alloc (Nat.le_refl _) _).trans (hb.mono (by simp))⟩
  | true =>
    by_cases hi : imm ≤ 4095
    · rw [decide_eq_true hi]
      cases s with
      | true =>
        go_enter Tryd.func31, Tryd.ntmps31
        go_wp2_with fail
        refine (HN.out _).mono ?_
        rintro e w2 ⟨rfl, hb⟩
        have hA : ∀ j, w2.cell? ⟨w.heap.size, j, none⟩ = (#[.int .i64 op, .int .i64 cond, .int .i64 rd, .int .i64 rn, .int .i64 rm, .int .i64 imm, .int .i64 mode, .int .i64 list, .bool true] : Array Value)[j]? := fun j => (hb.cell (p := ⟨w.heap.size, j, none⟩) (by simp)).trans (World.cell?_alloc_new w _ _ j)
        go_wp2
        go_ret
        exact ⟨rfl, ((Below.refl _ _).alloc (Nat.le_refl _) _).trans (hb.mono (by simp))⟩
      | false =>
        go_enter Tryd.func31, Tryd.ntmps31
        go_wp2_with fail
        refine (HN.out _).mono ?_
        rintro e w2 ⟨rfl, hb⟩
        have hA : ∀ j, w2.cell? ⟨w.heap.size, j, none⟩ = (#[.int .i64 op, .int .i64 cond, .int .i64 rd, .int .i64 rn, .int .i64 rm, .int .i64 imm, .int .i64 mode, .int .i64 list, .bool false] : Array Value)[j]? := fun j => (hb.cell (p := ⟨w.heap.size, j, none⟩) (by simp)).trans (World.cell?_alloc_new w _ _ j)
        go_wp2
        go_ret
        exact ⟨rfl, ((Below.refl _ _).alloc (Nat.le_refl _) _).trans (hb.mono (by simp))⟩
    · rw [decide_eq_false hi]
      go_enter Tryd.func31, Tryd.ntmps31
      go_wp2_with fail
      refine (HN.out _).mono ?_
      rintro e w2 ⟨rfl, hb⟩
      have hA : ∀ j, w2.cell? ⟨w.heap.size, j, none⟩ = (#[.int .i64 op, .int .i64 cond, .int .i64 rd, .int .i64 rn, .int .i64 rm, .int .i64 imm, .int .i64 mode, .int .i64 list, .bool s] : Array Value)[j]? := fun j => (hb.cell (p := ⟨w.heap.size, j, none⟩) (by simp)).trans (World.cell?_alloc_new w _ _ j)
      go_wp2
      go_ret
      exact ⟨rfl, ((Below.refl _ _).alloc (Nat.le_refl _) _).trans (hb.mono (by simp))⟩
set_option maxRecDepth 100000 in
theorem isOfRegisters_c (op cond rd rn rm imm mode list : Int) (s it : Bool) (w : World) :
    Calls Tryd.prog 33 #[.agg #[.int .i64 op, .int .i64 cond, .int .i64 rd, .int .i64 rn, .int .i64 rm, .int .i64 imm, .int .i64 mode, .int .i64 list, .bool s], .bool it] w fun e w' => e = .returned (.bool ((mode == 2) && ((rd != 13) && (rm != 13)))) ∧ Below w.heap.size w w' := by
  have HN := fun W => isByRegister_c op cond rd rn rm imm mode list s it W
  generalize (mode == 2) = b at *
  replace HN := Lib.hid HN
  cases b with
  | false =>
    go_enter Tryd.func33, Tryd.ntmps33
    go_wp2_with fail
    refine (HN.out _).mono ?_
    rintro e w2 ⟨rfl, hb⟩
    have hA : ∀ j, w2.cell? ⟨w.heap.size, j, none⟩ = (#[.int .i64 op, .int .i64 cond, .int .i64 rd, .int .i64 rn, .int .i64 rm, .int .i64 imm, .int .i64 mode, .int .i64 list, .bool s] : Array Value)[j]? := fun j => (hb.cell (p := ⟨w.heap.size, j, none⟩) (by simp)).trans (World.cell?_alloc_new w _ _ j)
    go_wp2
    go_ret
    exact ⟨rfl, ((Below.refl _ _).alloc (Nat.le_refl _) _).trans (hb.mono (by simp))⟩
  | true =>
    cases hd : (rd != 13) with
    | false =>
      go_enter Tryd.func33, Tryd.ntmps33
      go_wp2_with fail
      refine (HN.out _).mono ?_
      rintro e w2 ⟨rfl, hb⟩
      have hA : ∀ j, w2.cell? ⟨w.heap.size, j, none⟩ = (#[.int .i64 op, .int .i64 cond, .int .i64 rd, .int .i64 rn, .int .i64 rm, .int .i64 imm, .int .i64 mode, .int .i64 list, .bool s] : Array Value)[j]? := fun j => (hb.cell (p := ⟨w.heap.size, j, none⟩) (by simp)).trans (World.cell?_alloc_new w _ _ j)
      go_wp2
      go_ret
      exact ⟨rfl, ((Below.refl _ _).alloc (Nat.le_refl _) _).trans (hb.mono (by simp))⟩
    | true =>
      go_enter Tryd.func33, Tryd.ntmps33
      go_wp2_with fail
      refine (HN.out _).mono ?_
      rintro e w2 ⟨rfl, hb⟩
      have hA : ∀ j, w2.cell? ⟨w.heap.size, j, none⟩ = (#[.int .i64 op, .int .i64 cond, .int .i64 rd, .int .i64 rn, .int .i64 rm, .int .i64 imm, .int .i64 mode, .int .i64 list, .bool s] : Array Value)[j]? := fun j => (hb.cell (p := ⟨w.heap.size, j, none⟩) (by simp)).trans (World.cell?_alloc_new w _ _ j)
      go_wp2
      go_ret
      exact ⟨rfl, ((Below.refl _ _).alloc (Nat.le_refl _) _).trans (hb.mono (by simp))⟩
set_option maxRecDepth 100000 in
theorem isOnCondition_c (op cond rd rn rm imm mode list : Int) (s it : Bool) (w : World) (hT : Tabs w) :
    Calls Tryd.prog 43 #[.agg #[.int .i64 op, .int .i64 cond, .int .i64 rd, .int .i64 rn, .int .i64 rm, .int .i64 imm, .int .i64 mode, .int .i64 list, .bool s], .bool it] w fun e w' => e = .returned (.bool ((cond != 14) && (!it && fitsB 3 imm))) ∧ Below w.heap.size w w' := by
  have hT1 : ∀ o, Tabs (w.alloc o) := fun o => hT.below (n := w.heap.size) ((Below.refl _ _).alloc (Nat.le_refl _) _) hT.big
  have HF := fun o => fits_c 3 imm (w.alloc o) (hT1 o)
  clear hT hT1
  generalize fitsB 3 imm = fb at *
  replace HF := Lib.hid HF
  cases hc : (cond != 14) with
  | false =>
    go_enter Tryd.func43, Tryd.ntmps43
    go_wp2
    go_ret
    exact ⟨rfl, (Below.refl _ _).alloc (Nat.le_refl _) _⟩
  | true =>
    cases it with
    | true =>
      go_enter Tryd.func43, Tryd.ntmps43
      go_wp2
      go_ret
      exact ⟨rfl, (Below.refl _ _).alloc (Nat.le_refl _) _⟩
    | false =>
      go_enter Tryd.func43, Tryd.ntmps43
      go_wp2_with fail
      refine (HF.out _).mono ?_
      rintro e w2 ⟨rfl, hb⟩
      go_wp2
      go_ret
      exact ⟨rfl, ((Below.refl _ _).alloc (Nat.le_refl _) _).trans (hb.mono (by simp))⟩
end Xw
end Go.Proofs.YtgjipmlegpbaaaaDoor
