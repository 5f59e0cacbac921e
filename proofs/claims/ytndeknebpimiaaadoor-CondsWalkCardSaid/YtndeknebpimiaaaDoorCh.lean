/- Contracts of Holds, the program's and the document's own. -/
import Derived.Test.YtndeknebpimiaaaDoorRows
import Derived.Test.YtndeknebpimiaaaDoorCa
namespace Go.Proofs.YtndeknebpimiaaaDoor
open Go.ChangeShapes Go.WideShapes Go.ChangeAt Go.RowKit

/-- flags as a value -/
def flagsV (n z k v : Bool) : Value := .agg #[.bool n, .bool z, .bool k, .bool v]

set_option maxHeartbeats 1000000 in
theorem even_c (c : Int) (n z k v : Bool) (w : World) (h : c = 0 ∨ c = 2 ∨ c = 4 ∨ c = 6 ∨ c = 8 ∨ c = 10 ∨ c = 12) :
    Calls Tryd.prog 29 #[.int .i64 c, .agg #[.bool n, .bool z, .bool k, .bool v]] w fun e w' => e = .returned (.bool (Cm.holdsB c n z k v)) ∧ Below w.heap.size w w' := by
  rcases h with rfl | rfl | rfl | rfl | rfl | rfl | rfl
  all_goals
    go_enter Tryd.func29, Tryd.ntmps29
    go_wp2
    all_goals
      go_ret
      refine ⟨ret_bool ?_, (Below.refl _ _).alloc (Nat.le_refl _) _⟩
      cases n <;> cases z <;> cases k <;> cases v <;> first | rfl | simp_all

theorem even_of (c : Int) (h : 0 ≤ c ∧ c ≤ 13) : bits .andNot .i64 c 1 = c - c % 2 := by
  have h' := Cm.all_conds (p := fun c => bits .andNot .i64 c 1 == c - c % 2) (by decide +kernel) c (by omega)
  simpa using h'

theorem holds_even (c : Int) (n z k v : Bool) (h : 0 ≤ c ∧ c ≤ 13) : (Cm.holdsB (c - c % 2) n z k v == (c % 2 == 0)) = Cm.holdsB c n z k v := by
  rcases Cm.cases14 h with rfl | rfl | rfl | rfl | rfl | rfl | rfl | rfl | rfl | rfl | rfl | rfl | rfl | rfl <;> simp [Cm.holdsB]

theorem holds_c (c : Int) (n z k v : Bool) (w : World) :
    Calls Tryd.prog 10 #[.int .i64 c, .agg #[.bool n, .bool z, .bool k, .bool v]] w fun e w' => e = .returned (.bool (Cm.holdsB c n z k v)) ∧ Below w.heap.size w w' := by
  by_cases h : 0 ≤ c ∧ c ≤ 13
  · have hx := holds_even c n z k v h
    have he := even_of c h
    have ha := Cm.and1 c
    obtain ⟨d, ed⟩ : ∃ d, c - c % 2 = d := ⟨_, rfl⟩
    have hd : d = 0 ∨ d = 2 ∨ d = 4 ∨ d = 6 ∨ d = 8 ∨ d = 10 ∨ d = 12 := by omega
    rw [ed] at hx he
    clear ed
    obtain ⟨B, eB⟩ : ∃ B, Cm.holdsB d n z k v = B := ⟨_, rfl⟩
    rw [eB] at hx
    have HX := Lib.hid hx
    have HB := Lib.hid eB
    have HD := Lib.hid hd
    have HH := Lib.hid h
    clear hx eB hd h
    go_enter Tryd.func10, Tryd.ntmps10
    go_wp2_with (first
      | (go_at_call 28; refine (isPaired_yes _ _ HH.out).mono ?_; rintro e w' ⟨rfl, m, rfl⟩)
      | (go_at_call 29; refine (even_c _ _ _ _ _ _ HD.out).mono ?_; rintro e w' ⟨rfl, hb⟩; rw [HB.out]))
    all_goals
      go_ret
      exact ⟨ret_bool (by rw [← HX.out]), (below_drewN ((Below.refl _ _).alloc (Nat.le_refl _) _) _).trans (hb.mono (by simp))⟩
  · rw [Cm.holds_no c n z k v h]
    go_enter Tryd.func10, Tryd.ntmps10
    go_wp2_with ((go_at_call 28; refine (isPaired_no _ _ h).mono ?_; rintro e w' ⟨rfl, m, rfl⟩))
    go_ret
    exact ⟨rfl, below_drewN ((Below.refl _ _).alloc (Nat.le_refl _) _) _⟩

set_option maxHeartbeats 1000000 in
theorem rholds_in (c : Int) (n z k v : Bool) (w : World) (h : 0 ≤ c ∧ c ≤ 13) :
    Calls Tryd.prog 11 #[.int .i64 c, .agg #[.bool n, .bool z, .bool k, .bool v]] w fun e w' => e = .returned (.bool (Cm.holdsB c n z k v)) ∧ Below w.heap.size w w' := by
  rcases Cm.cases14 h with rfl | rfl | rfl | rfl | rfl | rfl | rfl | rfl | rfl | rfl | rfl | rfl | rfl | rfl
  all_goals
    clear h
    go_enter Tryd.func11, Tryd.ntmps11
    go_wp2
    all_goals
      go_ret
      refine ⟨ret_bool ?_, (Below.refl _ _).alloc (Nat.le_refl _) _⟩
      cases n <;> cases z <;> cases k <;> cases v <;> first | rfl | simp_all

theorem rholds_c (c : Int) (n z k v : Bool) (w : World) :
    Calls Tryd.prog 11 #[.int .i64 c, .agg #[.bool n, .bool z, .bool k, .bool v]] w fun e w' => e = .returned (.bool (Cm.holdsB c n z k v)) ∧ Below w.heap.size w w' := by
  by_cases h : 0 ≤ c ∧ c ≤ 13
  · exact rholds_in c n z k v w h
  · rw [Cm.holds_no c n z k v h]
    have b0 : (c == 0) = false := by simp; omega
    have b1 : (c == 1) = false := by simp; omega
    have b2 : (c == 2) = false := by simp; omega
    have b3 : (c == 3) = false := by simp; omega
    have b4 : (c == 4) = false := by simp; omega
    have b5 : (c == 5) = false := by simp; omega
    have b6 : (c == 6) = false := by simp; omega
    have b7 : (c == 7) = false := by simp; omega
    have b8 : (c == 8) = false := by simp; omega
    have b9 : (c == 9) = false := by simp; omega
    have b10 : (c == 10) = false := by simp; omega
    have b11 : (c == 11) = false := by simp; omega
    have b12 : (c == 12) = false := by simp; omega
    have b13 : (c == 13) = false := by simp; omega
    clear h
    go_enter Tryd.func11, Tryd.ntmps11
    go_wp2
    go_ret
    exact ⟨rfl, (Below.refl _ _).alloc (Nat.le_refl _) _⟩
end Go.Proofs.YtndeknebpimiaaaDoor
