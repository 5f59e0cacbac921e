/- Contracts of what Check asks one by one: registers, the last operand. -/
import Derived.Test.YthpoficikcicmaaDoorRows
import Derived.Test.YthpoficikcicmaaDoorIb
namespace Go.Proofs.YthpoficikcicmaaDoor
open Go.ChangeShapes Go.WideShapes Go.ChangeAt Go.RowKit


theorem two_below (w : World) (a b : Obj) : Below w.heap.size w ((w.alloc a).alloc b) := ((Below.refl _ _).alloc (Nat.le_refl _) _).alloc (by simp) _

theorem cell_second (w : World) (o : Obj) (cs : Array Value) (t : TypeId) (j : Nat) : ((w.alloc o).alloc (.cells cs t)).cell? ⟨w.heap.size + 1, j, none⟩ = cs[j]? := by
  have h := World.cell?_alloc_new (w.alloc o) cs t j
  rwa [show (w.alloc o).heap.size = w.heap.size + 1 by simp] at h

theorem regs_c (f0 f1 f2 f3 f4 f5 f6 f7 : Int) (op cond rd rn rm imm mode list : Int) (s : Bool) (w : World) :
    Calls Tryd.prog 29 #[.agg #[.int .i64 f0, .int .i64 f1, .int .i64 f2, .int .i64 f3, .int .i64 f4, .int .i64 f5, .int .i64 f6, .int .i64 f7], .agg #[.int .i64 op, .int .i64 cond, .int .i64 rd, .int .i64 rn, .int .i64 rm, .int .i64 imm, .int .i64 mode, .int .i64 list, .bool s]] w fun e w' => e = .returned (.bool (Im.oneB f0 rd && Im.oneB f1 rn)) ∧ Below w.heap.size w w' := by
  go_enter Tryd.func29, Tryd.ntmps29
  go_wp2_with fail
  refine (one_c f0 rd _).mono ?_
  rintro e w' ⟨rfl, n1, rfl⟩
  cases hA : Im.oneB f0 rd with
  | false =>
    go_wp2
    go_ret
    exact ⟨ret_bool (by simp [hA]), below_drewN (two_below _ _ _) _⟩
  | true =>
    go_wp2_with fail
    refine (one_c f1 rn _).mono ?_
    rintro e w' ⟨rfl, n2, rfl⟩
    go_wp2
    go_ret
    exact ⟨ret_bool (by simp [hA]), below_drewN (two_below _ _ _) _⟩

theorem last_0 (f0 f1 f2 f3 f4 f5 f6 f7 : Int) (op cond rd rn rm imm list : Int) (s : Bool) (w : World) :
    Calls Tryd.prog 30 #[.agg #[.int .i64 f0, .int .i64 f1, .int .i64 f2, .int .i64 f3, .int .i64 f4, .int .i64 f5, .int .i64 f6, .int .i64 f7], .agg #[.int .i64 op, .int .i64 cond, .int .i64 rd, .int .i64 rn, .int .i64 rm, .int .i64 imm, .int .i64 0, .int .i64 list, .bool s]] w fun e w' => e = .returned (.bool (f5 == 0 && f2 == 0 && imm == 0 && rm == 0)) ∧ Below w.heap.size w w' := by
  cases h1 : (f5 == 0) with
  | false =>
    go_enter Tryd.func30, Tryd.ntmps30
    go_wp2
    go_ret
    exact ⟨rfl, two_below _ _ _⟩
  | true =>
    cases h2 : (f2 == 0) with
    | false =>
      go_enter Tryd.func30, Tryd.ntmps30
      go_wp2
      go_ret
      exact ⟨rfl, two_below _ _ _⟩
    | true =>
      cases h3 : (imm == 0) with
      | false =>
        go_enter Tryd.func30, Tryd.ntmps30
        go_wp2
        go_ret
        exact ⟨rfl, two_below _ _ _⟩
      | true =>
        go_enter Tryd.func30, Tryd.ntmps30
        go_wp2
        go_ret
        exact ⟨ret_bool (by simp), two_below _ _ _⟩

theorem last_1 (f0 f1 f2 f3 f4 f5 f6 f7 : Int) (op cond rd rn rm imm list : Int) (s : Bool) (w : World) (hs : f5 = 0 ∨ f5 = 1 ∨ f5 = 2) :
    Calls Tryd.prog 30 #[.agg #[.int .i64 f0, .int .i64 f1, .int .i64 f2, .int .i64 f3, .int .i64 f4, .int .i64 f5, .int .i64 f6, .int .i64 f7], .agg #[.int .i64 op, .int .i64 cond, .int .i64 rd, .int .i64 rn, .int .i64 rm, .int .i64 imm, .int .i64 1, .int .i64 list, .bool s]] w fun e w' => e = .returned (.bool (Im.hasB f3 f4 f5 imm && rm == 0)) ∧ Below w.heap.size w w' := by
  go_enter Tryd.func30, Tryd.ntmps30
  go_wp2_with fail
  refine (has_c f3 f4 f5 imm _ hs).mono ?_
  rintro e w' ⟨rfl, hb⟩
  have hc := hb.cell (p := ⟨w.heap.size + 1, 4, none⟩) (by simp)
  have hbel := (two_below w _ _).trans (hb.mono (by simp; omega))
  clear hb
  cases hA : Im.hasB f3 f4 f5 imm with
  | false =>
    clear hc
    go_wp2
    go_ret
    exact ⟨ret_bool (by simp [hA]), hbel⟩
  | true =>
    have hc2 : w'.cell? ⟨w.heap.size + 1, 4, none⟩ = some (.int .i64 rm) := hc.trans (cell_second _ _ _ _ _)
    clear hc
    go_wp2
    go_ret
    exact ⟨ret_bool (by simp [hA]), hbel⟩

theorem last_2 (f0 f1 f2 f3 f4 f5 f6 f7 : Int) (op cond rd rn rm imm list : Int) (s : Bool) (w : World) :
    Calls Tryd.prog 30 #[.agg #[.int .i64 f0, .int .i64 f1, .int .i64 f2, .int .i64 f3, .int .i64 f4, .int .i64 f5, .int .i64 f6, .int .i64 f7], .agg #[.int .i64 op, .int .i64 cond, .int .i64 rd, .int .i64 rn, .int .i64 rm, .int .i64 imm, .int .i64 2, .int .i64 list, .bool s]] w fun e w' => e = .returned (.bool (!(f2 == 0) && Im.oneB f2 rm && imm == 0)) ∧ Below w.heap.size w w' := by
  cases h1 : (f2 == 0) with
  | true =>
    have h1' : (f2 != 0) = false := by simp [bne, h1]
    go_enter Tryd.func30, Tryd.ntmps30
    go_wp2
    go_ret
    exact ⟨rfl, two_below _ _ _⟩
  | false =>
    have h1' : (f2 != 0) = true := by simp [bne, h1]
    go_enter Tryd.func30, Tryd.ntmps30
    go_wp2_with fail
    refine (one_c f2 rm _).mono ?_
    rintro e w' ⟨rfl, n1, rfl⟩
    cases hA : Im.oneB f2 rm with
    | false =>
      go_wp2
      go_ret
      exact ⟨ret_bool (by simp [hA]), below_drewN (two_below _ _ _) _⟩
    | true =>
      go_wp2
      go_ret
      exact ⟨ret_bool (by simp [hA]), below_drewN (two_below _ _ _) _⟩

theorem last_no (f0 f1 f2 f3 f4 f5 f6 f7 : Int) (op cond rd rn rm imm mode list : Int) (s : Bool) (w : World) (h0 : (mode == 0) = false) (h1 : (mode == 1) = false) (h2 : (mode == 2) = false) :
    Calls Tryd.prog 30 #[.agg #[.int .i64 f0, .int .i64 f1, .int .i64 f2, .int .i64 f3, .int .i64 f4, .int .i64 f5, .int .i64 f6, .int .i64 f7], .agg #[.int .i64 op, .int .i64 cond, .int .i64 rd, .int .i64 rn, .int .i64 rm, .int .i64 imm, .int .i64 mode, .int .i64 list, .bool s]] w fun e w' => e = .returned (.bool false) ∧ Below w.heap.size w w' := by
  go_enter Tryd.func30, Tryd.ntmps30
  go_wp2
  go_ret
  exact ⟨rfl, two_below _ _ _⟩

theorem last_c (f : Im.F) (op cond rd rn rm imm mode list : Int) (s : Bool) (w : World) (hs : f.step = 0 ∨ f.step = 1 ∨ f.step = 2) :
    Calls Tryd.prog 30 #[.agg #[.int .i64 f.rd, .int .i64 f.rn, .int .i64 f.rm, .int .i64 f.least, .int .i64 f.most, .int .i64 f.step, .int .i64 f.list, .int .i64 f.count], .agg #[.int .i64 op, .int .i64 cond, .int .i64 rd, .int .i64 rn, .int .i64 rm, .int .i64 imm, .int .i64 mode, .int .i64 list, .bool s]] w fun e w' => e = .returned (.bool (Im.lastB f mode imm rm)) ∧ Below w.heap.size w w' := by
  by_cases h0 : mode = 0
  · subst h0
    exact last_0 _ _ _ _ _ _ _ _ _ _ _ _ _ _ _ _ _
  by_cases h1 : mode = 1
  · subst h1
    exact last_1 _ _ _ _ _ _ _ _ _ _ _ _ _ _ _ _ _ hs
  by_cases h2 : mode = 2
  · subst h2
    exact last_2 _ _ _ _ _ _ _ _ _ _ _ _ _ _ _ _ _
  · rw [show Im.lastB f mode imm rm = false by unfold Im.lastB; rw [if_neg h0, if_neg h1, if_neg h2]]
    exact last_no _ _ _ _ _ _ _ _ _ _ _ _ _ _ _ _ _ _ (by simp [h0]) (by simp [h1]) (by simp [h2])
end Go.Proofs.YthpoficikcicmaaDoor
