/- Plain facts on instructions that may be: with a field that is not their own they may not. -/
import Derived.Test.YthnjpgiaofedoaaDoorIc
namespace Go.Proofs.YthnjpgiaofedoaaDoor
namespace Im

theorem check_parts {op cond rd rn rm imm mode list : Int} {s : Bool} (h : checkB op cond rd rn rm imm mode list s = true) :
    (1 ≤ op ∧ op ≤ 45) ∧ oneB (fieldsI op mode s).rd rd = true ∧ oneB (fieldsI op mode s).rn rn = true ∧ lastB (fieldsI op mode s) mode imm rm = true ∧ listB (fieldsI op mode s) rn list = true := by
  unfold checkB at h
  simp only [Bool.and_eq_true, decide_eq_true_eq] at h
  obtain ⟨⟨⟨⟨⟨h1, h2, h3⟩, h4⟩, h5⟩, _⟩, _⟩ := h
  exact ⟨h1, h2, h3, h4, h5⟩

theorem list_bd {f : F} {rn list : Int} (hf : f.list = 0 ∨ f.list = 24575 ∨ f.list = 57343) (h : listB f rn list = true) : list % 18446744073709551616 ≤ 57343 := by
  unfold listB at h
  simp only [Bool.and_eq_true, beq_iff_eq] at h
  have h' := h.1.1.2
  rcases hf with e | e | e <;> rw [e] at h'
  · have := andNot_le list 0 (by decide) h'; omega
  · have := andNot_le list 24575 (by decide) h'; omega
  · have := andNot_le list 57343 (by decide) h'; omega

/-- a bit of no register more -/
theorem bare_list {op cond rd rn rm imm mode list : Int} {s : Bool} (h0 : -9223372036854775808 ≤ list) (h1 : list ≤ 9223372036854775807) (h : checkB op cond rd rn rm imm mode list s = true) :
    checkB op cond rd rn rm imm mode (bits .xor .i64 list 1048576) s = false := by
  have hb := list_bd (lists_are op mode s) (check_parts h).2.2.2.2
  have hx := xor_20 list (by omega) (by omega)
  rw [hx]
  cases hc : checkB op cond rd rn rm imm mode (list + 1048576) s with
  | false => rfl
  | true =>
    have hb' := list_bd (lists_are op mode s) (check_parts hc).2.2.2.2
    omega
/-- a register below 0 -/
theorem bare_rd {op cond rn rm imm mode list : Int} {s : Bool} : checkB op cond (-1) rn rm imm mode list s = false := by
  cases hc : checkB op cond (-1) rn rm imm mode list s with
  | false => rfl
  | true =>
    have h := (check_parts hc).2.1
    unfold oneB at h
    split at h <;> simp at h
/-- no mode -/
theorem bare_mode {op cond rd rn rm imm list : Int} {s : Bool} : checkB op cond rd rn rm imm 3 list s = false := by
  cases hc : checkB op cond rd rn rm imm 3 list s with
  | false => rfl
  | true =>
    have h := (check_parts hc).2.2.2.1
    simp [lastB] at h

theorem plain_fields {op mode : Int} {s : Bool} (h : op ≤ 9 ∨ op = 20) : (fieldsI op mode s).rd = 24575 ∧ (fieldsI op mode s).rn = 24575 := by
  rcases h with h | rfl
  · unfold fieldsI; rw [if_pos h]; exact ⟨rfl, rfl⟩
  · exact ⟨rfl, rfl⟩
/-- sp, where a plain register is asked -/
theorem plain_sp {op cond rn rm imm mode list : Int} {s : Bool} (ho : op ≤ 9 ∨ op = 20) : checkB op cond 13 rn rm imm mode list s = false := by
  cases hc : checkB op cond 13 rn rm imm mode list s with
  | false => rfl
  | true =>
    have h := (check_parts hc).2.1
    rw [(plain_fields ho).1] at h
    exact absurd h (by decide +kernel)
/-- pc, where a plain register is asked -/
theorem plain_pc {op cond rd rm imm mode list : Int} {s : Bool} (ho : op ≤ 9 ∨ op = 20) : checkB op cond rd 15 rm imm mode list s = false := by
  cases hc : checkB op cond rd 15 rm imm mode list s with
  | false => rfl
  | true =>
    have h := (check_parts hc).2.2.1
    rw [(plain_fields ho).2] at h
    exact absurd h (by decide +kernel)
end Im
end Go.Proofs.YthnjpgiaofedoaaDoor
