/- Contracts of what Check asks one by one: the list, the condition. -/
import Derived.Test.YtdcnkmkaafimlaaDoorRows
import Derived.Test.YtdcnkmkaafimlaaDoorGd
import Derived.Test.YtdcnkmkaafimlaaDoorIo
namespace Go.Proofs.YtdcnkmkaafimlaaDoor
open Go.ChangeShapes Go.WideShapes Go.ChangeAt Go.RowKit

/-- what the list's last line tells -/
def tailB (f6 f7 list : Int) : Bool := (bits .andNot .i64 list f6 == 0) && !(bits .and .i64 list 49152 == 49152) && decide (f7 ≤ (Im.pop (list % 18446744073709551616).toNat : Int))
theorem list_is (f : Im.F) (rn list : Int) : Im.listB f rn list = (!(!(f.rn == 0) && Im.bit list rn.toNat) && tailB f.list f.count list) := by
  unfold Im.listB tailB
  simp only [Bool.and_assoc]

/-- the base is one of the list's -/
theorem list_in (f0 f1 f2 f3 f4 f5 f6 f7 : Int) (op cond rd rm imm mode list : Int) (k : Nat) (s : Bool) (w : World) (h1 : (f1 == 0) = false) (hk : k < 16) (hb : Im.bit list k = true) :
    Calls Tryd.prog 44 #[.agg #[.int .i64 f0, .int .i64 f1, .int .i64 f2, .int .i64 f3, .int .i64 f4, .int .i64 f5, .int .i64 f6, .int .i64 f7], .agg #[.int .i64 op, .int .i64 cond, .int .i64 rd, .int .i64 (k : Int), .int .i64 rm, .int .i64 imm, .int .i64 mode, .int .i64 list, .bool s]] w fun e w' => e = .returned (.bool false) ∧ Below w.heap.size w w' := by
  have h1' : (f1 != 0) = true := by simp [bne, h1]
  have hB : (bits .and .i64 (list / 2 ^ k) 1 == 1) = true := by rw [Cm.and1]; exact hb
  clear hb
  go_enter Tryd.func44, Tryd.ntmps44
  go_wp2
  go_ret
  exact ⟨rfl, two_below _ _ _⟩

set_option maxHeartbeats 400000 in
theorem list_free_no (f0 f1 f2 f3 f4 f5 f6 f7 : Int) (op cond rd rm imm mode list : Int) (rn : Int) (s : Bool) (w : World) (h1 : (f1 == 0) = true) (ha : (bits .andNot .i64 list f6 == 0) = false) :
    Calls Tryd.prog 44 #[.agg #[.int .i64 f0, .int .i64 f1, .int .i64 f2, .int .i64 f3, .int .i64 f4, .int .i64 f5, .int .i64 f6, .int .i64 f7], .agg #[.int .i64 op, .int .i64 cond, .int .i64 rd, .int .i64 rn, .int .i64 rm, .int .i64 imm, .int .i64 mode, .int .i64 list, .bool s]] w fun e w' => e = .returned (.bool false) ∧ Below w.heap.size w w' := by
  have h1' : (f1 != 0) = false := by simp [bne, h1]
  go_enter Tryd.func44, Tryd.ntmps44
  go_wp2_with fail
  go_quiet (fail)
  go_wp2
  go_ret
  exact ⟨rfl, below_drewN (two_below _ _ _) _⟩
set_option maxHeartbeats 400000 in
theorem list_free_both (f0 f1 f2 f3 f4 f5 f6 f7 : Int) (op cond rd rm imm mode list : Int) (rn : Int) (s : Bool) (w : World) (h1 : (f1 == 0) = true) (ha : (bits .andNot .i64 list f6 == 0) = true) (hg : (bits .and .i64 list 49152 == 49152) = true) :
    Calls Tryd.prog 44 #[.agg #[.int .i64 f0, .int .i64 f1, .int .i64 f2, .int .i64 f3, .int .i64 f4, .int .i64 f5, .int .i64 f6, .int .i64 f7], .agg #[.int .i64 op, .int .i64 cond, .int .i64 rd, .int .i64 rn, .int .i64 rm, .int .i64 imm, .int .i64 mode, .int .i64 list, .bool s]] w fun e w' => e = .returned (.bool false) ∧ Below w.heap.size w w' := by
  have h1' : (f1 != 0) = false := by simp [bne, h1]
  have hg' : (bits .and .i64 list 49152 != 49152) = false := by simp [bne, hg]
  go_enter Tryd.func44, Tryd.ntmps44
  go_wp2_with fail
  go_quiet (fail)
  go_wp2
  go_ret
  exact ⟨rfl, below_drewN (two_below _ _ _) _⟩
set_option maxHeartbeats 400000 in
theorem list_free_count (f0 f1 f2 f3 f4 f5 f6 f7 : Int) (op cond rd rm imm mode list : Int) (rn : Int) (s : Bool) (w : World) (h1 : (f1 == 0) = true) (ha : (bits .andNot .i64 list f6 == 0) = true) (hg : (bits .and .i64 list 49152 == 49152) = false) (L : Nat) (hL : IntKind.u64.wrap list = (L : Int)) (hl : L < 65536) :
    Calls Tryd.prog 44 #[.agg #[.int .i64 f0, .int .i64 f1, .int .i64 f2, .int .i64 f3, .int .i64 f4, .int .i64 f5, .int .i64 f6, .int .i64 f7], .agg #[.int .i64 op, .int .i64 cond, .int .i64 rd, .int .i64 rn, .int .i64 rm, .int .i64 imm, .int .i64 mode, .int .i64 list, .bool s]] w fun e w' => e = .returned (.bool (decide (f7 ≤ (Im.pop L : Int)))) ∧ Below w.heap.size w w' := by
  have h1' : (f1 != 0) = false := by simp [bne, h1]
  have hg' : (bits .and .i64 list 49152 != 49152) = true := by simp [bne, hg]
  have HL := Lib.hid hl
  clear hl
  go_enter Tryd.func44, Tryd.ntmps44
  go_wp2_with fail
  go_quiet ((go_at_call 53; first | exact Calls.quiet_of (ones_c _ HL.out _) | exact drawn_on (ones_c _ HL.out _)))
  go_wp2
  go_ret
  exact ⟨rfl, below_drewN (two_below _ _ _) _⟩

set_option maxHeartbeats 400000 in
theorem list_out_no (f0 f1 f2 f3 f4 f5 f6 f7 : Int) (op cond rd rm imm mode list : Int) (k : Nat) (s : Bool) (w : World) (h1 : (f1 == 0) = false) (hk : k < 16) (hb : Im.bit list k = false) (ha : (bits .andNot .i64 list f6 == 0) = false) :
    Calls Tryd.prog 44 #[.agg #[.int .i64 f0, .int .i64 f1, .int .i64 f2, .int .i64 f3, .int .i64 f4, .int .i64 f5, .int .i64 f6, .int .i64 f7], .agg #[.int .i64 op, .int .i64 cond, .int .i64 rd, .int .i64 (k : Int), .int .i64 rm, .int .i64 imm, .int .i64 mode, .int .i64 list, .bool s]] w fun e w' => e = .returned (.bool false) ∧ Below w.heap.size w w' := by
  have h1' : (f1 != 0) = true := by simp [bne, h1]
  have hB : (bits .and .i64 (list / 2 ^ k) 1 == 1) = false := by rw [Cm.and1]; exact hb
  clear hb
  go_enter Tryd.func44, Tryd.ntmps44
  go_wp2_with fail
  go_quiet (fail)
  go_wp2
  go_ret
  exact ⟨rfl, below_drewN (two_below _ _ _) _⟩
set_option maxHeartbeats 400000 in
theorem list_out_both (f0 f1 f2 f3 f4 f5 f6 f7 : Int) (op cond rd rm imm mode list : Int) (k : Nat) (s : Bool) (w : World) (h1 : (f1 == 0) = false) (hk : k < 16) (hb : Im.bit list k = false) (ha : (bits .andNot .i64 list f6 == 0) = true) (hg : (bits .and .i64 list 49152 == 49152) = true) :
    Calls Tryd.prog 44 #[.agg #[.int .i64 f0, .int .i64 f1, .int .i64 f2, .int .i64 f3, .int .i64 f4, .int .i64 f5, .int .i64 f6, .int .i64 f7], .agg #[.int .i64 op, .int .i64 cond, .int .i64 rd, .int .i64 (k : Int), .int .i64 rm, .int .i64 imm, .int .i64 mode, .int .i64 list, .bool s]] w fun e w' => e = .returned (.bool false) ∧ Below w.heap.size w w' := by
  have h1' : (f1 != 0) = true := by simp [bne, h1]
  have hB : (bits .and .i64 (list / 2 ^ k) 1 == 1) = false := by rw [Cm.and1]; exact hb
  clear hb
  have hg' : (bits .and .i64 list 49152 != 49152) = false := by simp [bne, hg]
  go_enter Tryd.func44, Tryd.ntmps44
  go_wp2_with fail
  go_quiet (fail)
  go_wp2
  go_ret
  exact ⟨rfl, below_drewN (two_below _ _ _) _⟩
set_option maxHeartbeats 400000 in
theorem list_out_count (f0 f1 f2 f3 f4 f5 f6 f7 : Int) (op cond rd rm imm mode list : Int) (k : Nat) (s : Bool) (w : World) (h1 : (f1 == 0) = false) (hk : k < 16) (hb : Im.bit list k = false) (ha : (bits .andNot .i64 list f6 == 0) = true) (hg : (bits .and .i64 list 49152 == 49152) = false) (L : Nat) (hL : IntKind.u64.wrap list = (L : Int)) (hl : L < 65536) :
    Calls Tryd.prog 44 #[.agg #[.int .i64 f0, .int .i64 f1, .int .i64 f2, .int .i64 f3, .int .i64 f4, .int .i64 f5, .int .i64 f6, .int .i64 f7], .agg #[.int .i64 op, .int .i64 cond, .int .i64 rd, .int .i64 (k : Int), .int .i64 rm, .int .i64 imm, .int .i64 mode, .int .i64 list, .bool s]] w fun e w' => e = .returned (.bool (decide (f7 ≤ (Im.pop L : Int)))) ∧ Below w.heap.size w w' := by
  have h1' : (f1 != 0) = true := by simp [bne, h1]
  have hB : (bits .and .i64 (list / 2 ^ k) 1 == 1) = false := by rw [Cm.and1]; exact hb
  clear hb
  have hg' : (bits .and .i64 list 49152 != 49152) = true := by simp [bne, hg]
  have HL := Lib.hid hl
  clear hl
  go_enter Tryd.func44, Tryd.ntmps44
  go_wp2_with fail
  go_quiet ((go_at_call 53; first | exact Calls.quiet_of (ones_c _ HL.out _) | exact drawn_on (ones_c _ HL.out _)))
  go_wp2
  go_ret
  exact ⟨rfl, below_drewN (two_below _ _ _) _⟩


theorem list_c (f : Im.F) (op cond rd rn rm imm mode list : Int) (s : Bool) (w : World) (h6 : f.list = 0 ∨ f.list = 24575 ∨ f.list = 57343) (hn : (f.rn == 0) = false → 0 ≤ rn ∧ rn ≤ 15) :
    Calls Tryd.prog 44 #[.agg #[.int .i64 f.rd, .int .i64 f.rn, .int .i64 f.rm, .int .i64 f.least, .int .i64 f.most, .int .i64 f.step, .int .i64 f.list, .int .i64 f.count], .agg #[.int .i64 op, .int .i64 cond, .int .i64 rd, .int .i64 rn, .int .i64 rm, .int .i64 imm, .int .i64 mode, .int .i64 list, .bool s]] w fun e w' => e = .returned (.bool (Im.listB f rn list)) ∧ Below w.heap.size w w' := by
  rw [list_is]
  have hL : IntKind.u64.wrap list = ((list % 18446744073709551616).toNat : Int) := by rw [IntKind.wrap_u64]; omega
  have hl : (bits .andNot .i64 list f.list == 0) = true → (list % 18446744073709551616).toNat < 65536 := by
    intro h
    have h' := eq_of_beq h
    rcases h6 with e | e | e <;> rw [e] at h'
    · have := Im.andNot_le list 0 (by decide) h'; omega
    · have := Im.andNot_le list 24575 (by decide) h'; omega
    · have := Im.andNot_le list 57343 (by decide) h'; omega
  cases h1 : (f.rn == 0) with
  | true =>
    rw [show (!(!true && Im.bit list rn.toNat) && tailB f.list f.count list) = tailB f.list f.count list by simp]
    unfold tailB
    cases ha : (bits .andNot .i64 list f.list == 0) with
    | false => exact list_free_no _ _ _ _ _ _ _ _ _ _ _ _ _ _ _ _ _ _ h1 ha
    | true =>
      cases hg : (bits .and .i64 list 49152 == 49152) with
      | true => exact list_free_both _ _ _ _ _ _ _ _ _ _ _ _ _ _ _ _ _ _ h1 ha hg
      | false => simpa using list_free_count _ _ _ _ _ _ _ _ _ _ _ _ _ _ _ _ _ _ h1 ha hg _ hL (hl ha)
  | false =>
    obtain ⟨h0, h15⟩ := hn h1
    obtain ⟨k, rfl⟩ := Int.eq_ofNat_of_zero_le h0
    cases hb : Im.bit list (k : Int).toNat with
    | true => exact list_in _ _ _ _ _ _ _ _ _ _ _ _ _ _ _ _ _ _ h1 (by omega) hb
    | false =>
      rw [show (!(!false && false) && tailB f.list f.count list) = tailB f.list f.count list by simp]
      unfold tailB
      cases ha : (bits .andNot .i64 list f.list == 0) with
      | false => exact list_out_no _ _ _ _ _ _ _ _ _ _ _ _ _ _ _ _ _ _ h1 (by omega) hb ha
      | true =>
        cases hg : (bits .and .i64 list 49152 == 49152) with
        | true => exact list_out_both _ _ _ _ _ _ _ _ _ _ _ _ _ _ _ _ _ _ h1 (by omega) hb ha hg
        | false => simpa using list_out_count _ _ _ _ _ _ _ _ _ _ _ _ _ _ _ _ _ _ h1 (by omega) hb ha hg _ hL (hl ha)

/-! the condition -/
theorem one_below (w : World) (a : Obj) : Below w.heap.size w (w.alloc a) := (Below.refl _ _).alloc (Nat.le_refl _) _
theorem cond_b (cond rd rn rm imm mode list : Int) (s : Bool) (w : World) :
    Calls Tryd.prog 45 #[.agg #[.int .i64 35, .int .i64 cond, .int .i64 rd, .int .i64 rn, .int .i64 rm, .int .i64 imm, .int .i64 mode, .int .i64 list, .bool s]] w fun e w' => e = .returned (.bool (decide (0 ≤ cond ∧ cond ≤ 14))) ∧ Below w.heap.size w w' := by
  by_cases h0 : 0 ≤ cond
  · by_cases h1 : cond ≤ 14
    · rw [decide_eq_true (show 0 ≤ cond ∧ cond ≤ 14 from ⟨h0, h1⟩)]
      go_enter Tryd.func45, Tryd.ntmps45
      go_wp2
      go_ret
      exact ⟨rfl, one_below _ _⟩
    · rw [decide_eq_false (show ¬ (0 ≤ cond ∧ cond ≤ 14) by omega)]
      go_enter Tryd.func45, Tryd.ntmps45
      go_wp2
      go_ret
      exact ⟨rfl, one_below _ _⟩
  · rw [decide_eq_false (show ¬ (0 ≤ cond ∧ cond ≤ 14) by omega)]
    go_enter Tryd.func45, Tryd.ntmps45
    go_wp2
    go_ret
    exact ⟨rfl, one_below _ _⟩
theorem cond_it (cond rd rn rm imm mode list : Int) (s : Bool) (w : World) :
    Calls Tryd.prog 45 #[.agg #[.int .i64 42, .int .i64 cond, .int .i64 rd, .int .i64 rn, .int .i64 rm, .int .i64 imm, .int .i64 mode, .int .i64 list, .bool s]] w fun e w' => e = .returned (.bool (!(Cm.condsI cond imm).isEmpty)) ∧ Below w.heap.size w w' := by
  go_enter Tryd.func45, Tryd.ntmps45
  go_wp2_with fail
  refine (conds_c cond imm _).mono ?_
  rintro e w' ⟨A, c, rfl, _, hb⟩
  have hbel := (one_below w _).trans (hb.mono (by simp))
  clear hb
  cases hl : Cm.condsI cond imm with
  | nil =>
    go_wp2
    go_ret
    exact ⟨ret_bool (by rw [hl]; rfl), hbel⟩
  | cons x r =>
    have h0 : (0 : Int) < ((x :: r).length : Nat) := by simp
    go_wp2
    go_ret
    exact ⟨ret_bool (by rw [hl]; rfl), hbel⟩
theorem cond_no (op cond rd rn rm imm mode list : Int) (s : Bool) (w : World) (h1 : (op == 35) = false) (h2 : (op == 42) = false) :
    Calls Tryd.prog 45 #[.agg #[.int .i64 op, .int .i64 cond, .int .i64 rd, .int .i64 rn, .int .i64 rm, .int .i64 imm, .int .i64 mode, .int .i64 list, .bool s]] w fun e w' => e = .returned (.bool (cond == 0)) ∧ Below w.heap.size w w' := by
  go_enter Tryd.func45, Tryd.ntmps45
  go_wp2
  go_ret
  exact ⟨rfl, one_below _ _⟩
theorem takes_c (op cond rd rn rm imm mode list : Int) (s : Bool) (w : World) :
    Calls Tryd.prog 45 #[.agg #[.int .i64 op, .int .i64 cond, .int .i64 rd, .int .i64 rn, .int .i64 rm, .int .i64 imm, .int .i64 mode, .int .i64 list, .bool s]] w fun e w' => e = .returned (.bool (Im.condB op cond imm)) ∧ Below w.heap.size w w' := by
  unfold Im.condB
  by_cases h1 : op = 35
  · subst h1
    rw [if_pos rfl]
    exact cond_b _ _ _ _ _ _ _ _ _
  · by_cases h2 : op = 42
    · subst h2
      rw [if_neg h1, if_pos rfl]
      exact cond_it _ _ _ _ _ _ _ _ _
    · rw [if_neg h1, if_neg h2]
      exact cond_no _ _ _ _ _ _ _ _ _ _ (by simp [h1]) (by simp [h2])
end Go.Proofs.YtdcnkmkaafimlaaDoor
