/- The instruction of an instruction's halfword is that instruction: sums. -/
import Derived.Test.YthpoficikcicmaaDoorNm
namespace Go.Proofs.YthpoficikcicmaaDoor
namespace Nm

theorem low_is {r : Int} (h : low r = true) : 0 ≤ r ∧ r ≤ 7 := by simpa [low] using h
theorem opt_is {b : Bool} {h k : Int} (e : opt b h = some k) : b = true ∧ k = h := by
  unfold opt at e
  split at e
  · exact ⟨by assumption, by simpa using e.symm⟩
  · cases e

/-- what Check tells of each field -/
theorem one_none {r : Int} (h : Im.oneB 0 r = true) : r = 0 := by simpa [Im.oneB] using h
theorem one_in {set r : Int} (h : Im.oneB set r = true) (hs : set ≠ 0) : 0 ≤ r ∧ r ≤ 15 := by
  unfold Im.oneB at h
  rw [if_neg hs] at h
  simp only [Bool.and_eq_true, decide_eq_true_eq] at h
  exact h.1
theorem ok_parts {i : I} (h : okB i = true) :
    (1 ≤ i.op ∧ i.op ≤ 45) ∧ Im.oneB (Im.fieldsI i.op i.mode i.s).rd i.rd = true ∧ Im.oneB (Im.fieldsI i.op i.mode i.s).rn i.rn = true ∧ Im.lastB (Im.fieldsI i.op i.mode i.s) i.mode i.imm i.rm = true ∧
      Im.listB (Im.fieldsI i.op i.mode i.s) i.rn i.list = true ∧ Im.condB i.op i.cond i.imm = true ∧ (i.s && !Im.setsB i.op) = false := by
  unfold okB Im.checkB at h
  simp only [Bool.and_eq_true, decide_eq_true_eq, Bool.not_eq_true'] at h
  obtain ⟨⟨⟨⟨⟨h1, h2, h3⟩, h4⟩, h5⟩, h6⟩, h7⟩ := h
  exact ⟨h1, h2, h3, h4, h5, h6, h7⟩

/-- what the last operand may be -/
theorem last_cases {f : Im.F} {mode imm rm : Int} (h : Im.lastB f mode imm rm = true) :
    (mode = 0 ∧ f.step = 0 ∧ f.rm = 0 ∧ imm = 0 ∧ rm = 0) ∨ (mode = 1 ∧ f.step ≠ 0 ∧ f.least ≤ imm ∧ imm ≤ f.most ∧ Int.tmod imm f.step = 0 ∧ rm = 0) ∨ (mode = 2 ∧ f.rm ≠ 0 ∧ Im.oneB f.rm rm = true ∧ imm = 0) := by
  unfold Im.lastB at h
  split at h
  · simp only [Bool.and_eq_true, beq_iff_eq] at h
    exact .inl ⟨by assumption, h.1.1.1, h.1.1.2, h.1.2, h.2⟩
  · split at h
    · unfold Im.hasB at h
      simp only [Bool.and_eq_true, Bool.not_eq_true', beq_eq_false_iff_ne, decide_eq_true_eq, beq_iff_eq] at h
      exact .inr (.inl ⟨by assumption, h.1.1.1.1, h.1.1.1.2, h.1.1.2, h.1.2, h.2⟩)
    · split at h
      · simp only [Bool.and_eq_true, Bool.not_eq_true', beq_eq_false_iff_ne, beq_iff_eq] at h
        exact .inr (.inr ⟨by assumption, h.1.1, h.1.2, h.2⟩)
      · cases h
/-- a list that is a number of 64 bits -/
def Wide (n : Int) : Prop := -9223372036854775808 ≤ n ∧ n ≤ 9223372036854775807
theorem list_most {f : Im.F} {rn list : Int} (h : Im.listB f rn list = true) (m : Nat) (hm : m < 9223372036854775808) (hf : f.list = (m : Int)) (hw : Wide list) : 0 ≤ list ∧ list ≤ m := by
  unfold Im.listB at h
  simp only [Bool.and_eq_true, beq_iff_eq] at h
  have h' := h.1.1.2
  rw [hf] at h'
  have := Im.andNot_le list m hm h'
  unfold Wide at hw
  omega
theorem mk_eq {a a' b b' c c' d d' e e' f f' g g' k k' : Int} {s s' : Bool} (h1 : a = a') (h2 : b = b') (h3 : c = c') (h4 : d = d') (h5 : e = e') (h6 : f = f') (h7 : g = g') (h8 : k = k') (h9 : s = s') :
    I.mk a b c d e f g k s = I.mk a' b' c' d' e' f' g' k' s' := by rw [h1, h2, h3, h4, h5, h6, h7, h8, h9]
theorem flag_is {s it : Bool} (h : (s != it) = true) : s = !it := by cases s <;> cases it <;> simp_all
theorem flag_no {s : Bool} (h : (s && !false) = false) : s = false := by simpa using h

theorem flag_off {s : Bool} {k : Int} (h : (s && !Im.setsB k) = false) (hk : Im.setsB k = false) : false = s := by
  rw [hk] at h
  simpa using h.symm
/-- a low register, as the set of them has it -/
theorem low_of {r : Int} (h : Im.oneB 255 r = true) : 0 ≤ r ∧ r ≤ 7 := by
  have h15 := one_in h (by decide)
  have hc : ¬ (r = 8 ∨ r = 9 ∨ r = 10 ∨ r = 11 ∨ r = 12 ∨ r = 13 ∨ r = 14 ∨ r = 15) := by
    rintro (rfl | rfl | rfl | rfl | rfl | rfl | rfl | rfl) <;> exact absurd h (by decide +kernel)
  omega
/-- what a block that may be tells -/
theorem conds_is {c m : Int} (h : Cm.condsI c m ≠ []) : 0 ≤ c ∧ c ≤ 14 ∧ 1 ≤ m ∧ m ≤ 15 := by
  refine Decidable.byContradiction fun hn => h (Cm.conds_no hn)
end Nm
end Go.Proofs.YthpoficikcicmaaDoor
