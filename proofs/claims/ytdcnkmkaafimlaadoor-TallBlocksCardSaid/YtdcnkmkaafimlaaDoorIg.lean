/- Contracts of fieldsOfMove and fieldsOf. -/
import Derived.Test.YtdcnkmkaafimlaaDoorRows
import Derived.Test.YtdcnkmkaafimlaaDoorGa
import Derived.Deep.MidRow
namespace Go.Proofs.YtdcnkmkaafimlaaDoor
open Go.ChangeShapes Go.WideShapes Go.ChangeAt Go.RowKit

/-- fields as a value -/
def FV (f : Im.F) : Value := .agg #[.int .i64 f.rd, .int .i64 f.rn, .int .i64 f.rm, .int .i64 f.least, .int .i64 f.most, .int .i64 f.step, .int .i64 f.list, .int .i64 f.count]

theorem two_bel (w : World) (a b : Obj) : Below w.heap.size w ((w.alloc a).alloc b) := ((Below.refl _ _).alloc (Nat.le_refl _) _).alloc (by simp) _

/-- a move of a register that sets no flags -/
theorem move_sp (cond rd rn rm imm list : Int) (w : World) :
    Calls Tryd.prog 50 #[.agg #[.int .i64 10, .int .i64 cond, .int .i64 rd, .int .i64 rn, .int .i64 rm, .int .i64 imm, .int .i64 2, .int .i64 list, .bool false]] w fun e w' => e = .returned (FV (Im.fieldsI 10 2 false)) ∧ Below w.heap.size w w' := by
  go_enter Tryd.func50, Tryd.ntmps50
  go_wp2
  refine bodyPost_ret (v := FV (Im.fieldsI 10 2 false)) (by simp [results, Tryd.f50, go_sem, FV, Im.fieldsI]) rfl ?_
  exact ⟨rfl, two_bel _ _ _⟩
theorem move_no (op cond rd rn rm imm mode list : Int) (s : Bool) (w : World) (h : (op == 10) = false ∨ (mode == 2) = false ∨ s = true) :
    Calls Tryd.prog 50 #[.agg #[.int .i64 op, .int .i64 cond, .int .i64 rd, .int .i64 rn, .int .i64 rm, .int .i64 imm, .int .i64 mode, .int .i64 list, .bool s]] w fun e w' => e = .returned (.agg #[.int .i64 24575, .int .i64 0, .int .i64 24575, .int .i64 0, .int .i64 4294967295, .int .i64 1, .int .i64 0, .int .i64 0]) ∧ Below w.heap.size w w' := by
  cases h1 : (op == 10) with
  | false =>
    clear h
    go_enter Tryd.func50, Tryd.ntmps50
    go_wp2
    refine bodyPost_ret (v := .agg #[.int .i64 24575, .int .i64 0, .int .i64 24575, .int .i64 0, .int .i64 4294967295, .int .i64 1, .int .i64 0, .int .i64 0]) (by simp [results, Tryd.f50, go_sem]) rfl ?_
    exact ⟨rfl, two_bel _ _ _⟩
  | true =>
    cases h2 : (mode == 2) with
    | false =>
      clear h
      go_enter Tryd.func50, Tryd.ntmps50
      go_wp2
      refine bodyPost_ret (v := .agg #[.int .i64 24575, .int .i64 0, .int .i64 24575, .int .i64 0, .int .i64 4294967295, .int .i64 1, .int .i64 0, .int .i64 0]) (by simp [results, Tryd.f50, go_sem]) rfl ?_
      exact ⟨rfl, two_bel _ _ _⟩
    | true =>
      obtain rfl : s = true := by
        rw [h1, h2] at h
        simpa using h
      clear h
      go_enter Tryd.func50, Tryd.ntmps50
      go_wp2
      refine bodyPost_ret (v := .agg #[.int .i64 24575, .int .i64 0, .int .i64 24575, .int .i64 0, .int .i64 4294967295, .int .i64 1, .int .i64 0, .int .i64 0]) (by simp [results, Tryd.f50, go_sem]) rfl ?_
      exact ⟨rfl, two_bel _ _ _⟩
theorem move_c (op cond rd rn rm imm mode list : Int) (s : Bool) (w : World) (h : op = 10 ∨ op = 11) :
    Calls Tryd.prog 50 #[.agg #[.int .i64 op, .int .i64 cond, .int .i64 rd, .int .i64 rn, .int .i64 rm, .int .i64 imm, .int .i64 mode, .int .i64 list, .bool s]] w fun e w' => e = .returned (FV (Im.fieldsI op mode s)) ∧ Below w.heap.size w w' := by
  by_cases hc : op = 10 ∧ mode = 2 ∧ s = false
  · obtain ⟨rfl, rfl, rfl⟩ := hc
    exact move_sp cond rd rn rm imm list w
  · rw [show Im.fieldsI op mode s = ⟨24575, 0, 24575, 0, 4294967295, 1, 0, 0⟩ by unfold Im.fieldsI; rw [if_neg (by omega), if_pos (by omega), if_neg hc]]
    refine move_no op cond rd rn rm imm mode list s w ?_
    by_cases h1 : op = 10
    · by_cases h2 : mode = 2
      · right; right
        cases s with
        | true => rfl
        | false => exact absurd ⟨h1, h2, rfl⟩ hc
      · right; left; simp [h2]
    · left; simp [h1]

theorem move_x (op cond rd rn rm imm mode list : Int) (s : Bool) (f0 f1 f2 f3 f4 f5 f6 f7 : Int) (w : World) (h : op = 10 ∨ op = 11) (hf : Im.fieldsI op mode s = ⟨f0, f1, f2, f3, f4, f5, f6, f7⟩) :
    Calls Tryd.prog 50 #[.agg #[.int .i64 op, .int .i64 cond, .int .i64 rd, .int .i64 rn, .int .i64 rm, .int .i64 imm, .int .i64 mode, .int .i64 list, .bool s]] w fun e w' => e = .returned (.agg #[.int .i64 f0, .int .i64 f1, .int .i64 f2, .int .i64 f3, .int .i64 f4, .int .i64 f5, .int .i64 f6, .int .i64 f7]) ∧ Below w.heap.size w w' := by
  have h' := move_c op cond rd rn rm imm mode list s w h
  rw [hf] at h'
  exact h'
theorem second_cell (w : World) (o : Obj) (cs : Array Value) (t : TypeId) (j : Nat) : ((w.alloc o).alloc (.cells cs t)).cell? ⟨w.heap.size + 1, j, none⟩ = cs[j]? := by
  have h := World.cell?_alloc_new (w.alloc o) cs t j
  rwa [show (w.alloc o).heap.size = w.heap.size + 1 by simp] at h
theorem second_frozen (w : World) (o : Obj) (cs : Array Value) (t : TypeId) (j : Nat) : ((w.alloc o).alloc (.cells cs t)).frozen? ⟨w.heap.size + 1, j, none⟩ = false := by
  have h := World.frozen?_alloc_new (w := w.alloc o) cs t j
  rwa [show (w.alloc o).heap.size = w.heap.size + 1 by simp] at h
set_option maxHeartbeats 400000 in
theorem fields_mv10 (cond rd rn rm imm mode list : Int) (s : Bool) (f0 f1 f2 f3 f4 f5 f6 f7 : Int) (w : World) (hf : Im.fieldsI 10 mode s = ⟨f0, f1, f2, f3, f4, f5, f6, f7⟩) :
    Calls Tryd.prog 41 #[.agg #[.int .i64 10, .int .i64 cond, .int .i64 rd, .int .i64 rn, .int .i64 rm, .int .i64 imm, .int .i64 mode, .int .i64 list, .bool s]] w fun e w' => e = .returned (.tuple #[.agg #[.int .i64 f0, .int .i64 f1, .int .i64 f2, .int .i64 f3, .int .i64 f4, .int .i64 f5, .int .i64 f6, .int .i64 f7], .bool true]) ∧ Below w.heap.size w w' := by
  have HF := Lib.hid hf
  clear hf
  go_enter Tryd.func41, Tryd.ntmps41
  go_wp2_with fail
  refine (move_x 10 cond rd rn rm imm mode list s f0 f1 f2 f3 f4 f5 f6 f7 _ (by omega) HF.out).mono ?_
  rintro e w' ⟨rfl, hb⟩
  have hth : ∀ j : Nat, w'.cell? ⟨w.heap.size + 1, j, none⟩ = (#[.int .i64 0, .int .i64 0, .int .i64 0, .int .i64 0, .int .i64 0, .int .i64 0, .int .i64 0, .int .i64 0] : Array Value)[j]? := fun j => (hb.cell (p := ⟨w.heap.size + 1, j, none⟩) (by simp)).trans (second_cell _ _ _ _ _)
  have hfr : ∀ j : Nat, w'.frozen? ⟨w.heap.size + 1, j, none⟩ = false := fun j => (hb.frozen (p := ⟨w.heap.size + 1, j, none⟩) (by simp)).trans (second_frozen _ _ _ _ _)
  have c0 : w'.cell? ⟨w.heap.size + 1, 0, none⟩ = some (.int .i64 0) := hth 0
  have c1 : w'.cell? ⟨w.heap.size + 1, 1, none⟩ = some (.int .i64 0) := hth 1
  have c2 : w'.cell? ⟨w.heap.size + 1, 2, none⟩ = some (.int .i64 0) := hth 2
  have c3 : w'.cell? ⟨w.heap.size + 1, 3, none⟩ = some (.int .i64 0) := hth 3
  have c4 : w'.cell? ⟨w.heap.size + 1, 4, none⟩ = some (.int .i64 0) := hth 4
  have c5 : w'.cell? ⟨w.heap.size + 1, 5, none⟩ = some (.int .i64 0) := hth 5
  have c6 : w'.cell? ⟨w.heap.size + 1, 6, none⟩ = some (.int .i64 0) := hth 6
  have c7 : w'.cell? ⟨w.heap.size + 1, 7, none⟩ = some (.int .i64 0) := hth 7
  have hbel := (two_bel w _ _).trans (hb.mono (by simp; omega))
  clear hb hth
  go_wp2
  refine bodyPost_ret (v := .tuple #[.agg #[.int .i64 f0, .int .i64 f1, .int .i64 f2, .int .i64 f3, .int .i64 f4, .int .i64 f5, .int .i64 f6, .int .i64 f7], .bool true]) (by simp [results, Tryd.f41, go_sem, c0, c1, c2, c3, c4, c5, c6, c7]) rfl ?_
  exact ⟨rfl, ((((((((hbel.setCell (p := ⟨w.heap.size + 1, 0, none⟩) (Nat.le_succ _) (.int .i64 f0)).setCell (p := ⟨w.heap.size + 1, 1, none⟩) (Nat.le_succ _) (.int .i64 f1)).setCell (p := ⟨w.heap.size + 1, 2, none⟩) (Nat.le_succ _) (.int .i64 f2)).setCell (p := ⟨w.heap.size + 1, 3, none⟩) (Nat.le_succ _) (.int .i64 f3)).setCell (p := ⟨w.heap.size + 1, 4, none⟩) (Nat.le_succ _) (.int .i64 f4)).setCell (p := ⟨w.heap.size + 1, 5, none⟩) (Nat.le_succ _) (.int .i64 f5)).setCell (p := ⟨w.heap.size + 1, 6, none⟩) (Nat.le_succ _) (.int .i64 f6)).setCell (p := ⟨w.heap.size + 1, 7, none⟩) (Nat.le_succ _) (.int .i64 f7))⟩
set_option maxHeartbeats 400000 in
theorem fields_mv11 (cond rd rn rm imm mode list : Int) (s : Bool) (f0 f1 f2 f3 f4 f5 f6 f7 : Int) (w : World) (hf : Im.fieldsI 11 mode s = ⟨f0, f1, f2, f3, f4, f5, f6, f7⟩) :
    Calls Tryd.prog 41 #[.agg #[.int .i64 11, .int .i64 cond, .int .i64 rd, .int .i64 rn, .int .i64 rm, .int .i64 imm, .int .i64 mode, .int .i64 list, .bool s]] w fun e w' => e = .returned (.tuple #[.agg #[.int .i64 f0, .int .i64 f1, .int .i64 f2, .int .i64 f3, .int .i64 f4, .int .i64 f5, .int .i64 f6, .int .i64 f7], .bool true]) ∧ Below w.heap.size w w' := by
  have HF := Lib.hid hf
  clear hf
  go_enter Tryd.func41, Tryd.ntmps41
  go_wp2_with fail
  refine (move_x 11 cond rd rn rm imm mode list s f0 f1 f2 f3 f4 f5 f6 f7 _ (by omega) HF.out).mono ?_
  rintro e w' ⟨rfl, hb⟩
  have hth : ∀ j : Nat, w'.cell? ⟨w.heap.size + 1, j, none⟩ = (#[.int .i64 0, .int .i64 0, .int .i64 0, .int .i64 0, .int .i64 0, .int .i64 0, .int .i64 0, .int .i64 0] : Array Value)[j]? := fun j => (hb.cell (p := ⟨w.heap.size + 1, j, none⟩) (by simp)).trans (second_cell _ _ _ _ _)
  have hfr : ∀ j : Nat, w'.frozen? ⟨w.heap.size + 1, j, none⟩ = false := fun j => (hb.frozen (p := ⟨w.heap.size + 1, j, none⟩) (by simp)).trans (second_frozen _ _ _ _ _)
  have c0 : w'.cell? ⟨w.heap.size + 1, 0, none⟩ = some (.int .i64 0) := hth 0
  have c1 : w'.cell? ⟨w.heap.size + 1, 1, none⟩ = some (.int .i64 0) := hth 1
  have c2 : w'.cell? ⟨w.heap.size + 1, 2, none⟩ = some (.int .i64 0) := hth 2
  have c3 : w'.cell? ⟨w.heap.size + 1, 3, none⟩ = some (.int .i64 0) := hth 3
  have c4 : w'.cell? ⟨w.heap.size + 1, 4, none⟩ = some (.int .i64 0) := hth 4
  have c5 : w'.cell? ⟨w.heap.size + 1, 5, none⟩ = some (.int .i64 0) := hth 5
  have c6 : w'.cell? ⟨w.heap.size + 1, 6, none⟩ = some (.int .i64 0) := hth 6
  have c7 : w'.cell? ⟨w.heap.size + 1, 7, none⟩ = some (.int .i64 0) := hth 7
  have hbel := (two_bel w _ _).trans (hb.mono (by simp; omega))
  clear hb hth
  go_wp2
  refine bodyPost_ret (v := .tuple #[.agg #[.int .i64 f0, .int .i64 f1, .int .i64 f2, .int .i64 f3, .int .i64 f4, .int .i64 f5, .int .i64 f6, .int .i64 f7], .bool true]) (by simp [results, Tryd.f41, go_sem, c0, c1, c2, c3, c4, c5, c6, c7]) rfl ?_
  exact ⟨rfl, ((((((((hbel.setCell (p := ⟨w.heap.size + 1, 0, none⟩) (Nat.le_succ _) (.int .i64 f0)).setCell (p := ⟨w.heap.size + 1, 1, none⟩) (Nat.le_succ _) (.int .i64 f1)).setCell (p := ⟨w.heap.size + 1, 2, none⟩) (Nat.le_succ _) (.int .i64 f2)).setCell (p := ⟨w.heap.size + 1, 3, none⟩) (Nat.le_succ _) (.int .i64 f3)).setCell (p := ⟨w.heap.size + 1, 4, none⟩) (Nat.le_succ _) (.int .i64 f4)).setCell (p := ⟨w.heap.size + 1, 5, none⟩) (Nat.le_succ _) (.int .i64 f5)).setCell (p := ⟨w.heap.size + 1, 6, none⟩) (Nat.le_succ _) (.int .i64 f6)).setCell (p := ⟨w.heap.size + 1, 7, none⟩) (Nat.le_succ _) (.int .i64 f7))⟩
theorem fields_no (op cond rd rn rm imm mode list : Int) (s : Bool) (w : World) (h : ¬ (1 ≤ op ∧ op ≤ 45)) :
    Calls Tryd.prog 41 #[.agg #[.int .i64 op, .int .i64 cond, .int .i64 rd, .int .i64 rn, .int .i64 rm, .int .i64 imm, .int .i64 mode, .int .i64 list, .bool s]] w fun e w' => e = .returned (.tuple #[FV ⟨0, 0, 0, 0, 0, 0, 0, 0⟩, .bool false]) ∧ Below w.heap.size w w' := by
  have b1 : (op == 1) = false := by simp; omega
  have b2 : (op == 2) = false := by simp; omega
  have b3 : (op == 3) = false := by simp; omega
  have b4 : (op == 4) = false := by simp; omega
  have b5 : (op == 5) = false := by simp; omega
  have b6 : (op == 6) = false := by simp; omega
  have b7 : (op == 7) = false := by simp; omega
  have b8 : (op == 8) = false := by simp; omega
  have b9 : (op == 9) = false := by simp; omega
  have b10 : (op == 10) = false := by simp; omega
  have b11 : (op == 11) = false := by simp; omega
  have b12 : (op == 12) = false := by simp; omega
  have b13 : (op == 13) = false := by simp; omega
  have b14 : (op == 14) = false := by simp; omega
  have b15 : (op == 15) = false := by simp; omega
  have b16 : (op == 16) = false := by simp; omega
  have b17 : (op == 17) = false := by simp; omega
  have b18 : (op == 18) = false := by simp; omega
  have b19 : (op == 19) = false := by simp; omega
  have b20 : (op == 20) = false := by simp; omega
  have b21 : (op == 21) = false := by simp; omega
  have b22 : (op == 22) = false := by simp; omega
  have b23 : (op == 23) = false := by simp; omega
  have b24 : (op == 24) = false := by simp; omega
  have b25 : (op == 25) = false := by simp; omega
  have b26 : (op == 26) = false := by simp; omega
  have b27 : (op == 27) = false := by simp; omega
  have b28 : (op == 28) = false := by simp; omega
  have b29 : (op == 29) = false := by simp; omega
  have b30 : (op == 30) = false := by simp; omega
  have b31 : (op == 31) = false := by simp; omega
  have b32 : (op == 32) = false := by simp; omega
  have b33 : (op == 33) = false := by simp; omega
  have b34 : (op == 34) = false := by simp; omega
  have b35 : (op == 35) = false := by simp; omega
  have b36 : (op == 36) = false := by simp; omega
  have b37 : (op == 37) = false := by simp; omega
  have b38 : (op == 38) = false := by simp; omega
  have b39 : (op == 39) = false := by simp; omega
  have b40 : (op == 40) = false := by simp; omega
  have b41 : (op == 41) = false := by simp; omega
  have b42 : (op == 42) = false := by simp; omega
  have b43 : (op == 43) = false := by simp; omega
  have b44 : (op == 44) = false := by simp; omega
  have b45 : (op == 45) = false := by simp; omega
  clear h
  go_enter Tryd.func41, Tryd.ntmps41
  go_wp2
  refine bodyPost_ret (v := .tuple #[FV ⟨0, 0, 0, 0, 0, 0, 0, 0⟩, .bool false]) (by simp [results, Tryd.f41, go_sem, FV]) rfl ?_
  exact ⟨rfl, two_bel _ _ _⟩

end Go.Proofs.YtdcnkmkaafimlaaDoor
