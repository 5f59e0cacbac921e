/- Plain laws of the two halfwords: blocks, numbers. No program; no conditions but those that each fact names. -/
import Derived.Test.YtmofimgodmcdjaaDoorWh
namespace Go.Proofs.YtmofimgodmcdjaaDoor
namespace Wm
open Nm (I)

/-- a branch with a condition of its own has none in a block -/
theorem block_none (F : Int → Option Int) (i : I) (h : i.op = 35 ∧ i.cond ≠ 14) : encW F i true = none := by
  obtain ⟨op, cond, rd, rn, rm, imm, mode, list, s⟩ := i
  obtain ⟨h1, h2⟩ := h
  dsimp only at h1 h2
  subst h1
  unfold encW
  split
  · unfold rowW branchW
    dsimp only
    rw [if_neg (by decide), if_neg (by decide), if_neg (by decide), if_neg (by decide), if_pos (by decide), if_pos ⟨rfl, h2⟩, if_neg (fun h => Bool.noConfusion h.1)]
  · rfl
/-- every other one is the same in a block -/
theorem block_same (F : Int → Option Int) (i : I) (h : ¬ (i.op = 35 ∧ i.cond ≠ 14)) : encW F i false = encW F i true := by
  unfold encW
  split
  · unfold rowW branchW
    rw [if_neg h, if_neg h]
  · rfl
/-- an operation on data with a number is wide just if the number can be told, or is a sum's of twelve bits -/
theorem number_is (F : Int → Option Int) (i : I) (it : Bool) (hok : Nm.okB i = true) (ho : i.op ≤ 15) (hm : i.mode = 1) :
    (encW F i it).isSome = ((F i.imm).isSome || ((decide (i.op = 5) || decide (i.op = 7)) && !i.s && decide (i.imm ≤ 4095))) := by
  unfold encW rowW dataW
  rw [if_pos hok, if_pos ho, if_neg (by omega)]
  cases hF : F i.imm with
  | some n => rfl
  | none =>
    dsimp only
    rw [Option.isSome_none, Bool.false_or]
    split
    · rename_i h
      rw [h.2.1, decide_eq_true h.2.2]
      rcases h.1 with h1 | h1 <;> rw [h1] <;> rfl
    · rename_i h
      rw [Option.isSome_none]
      refine (Bool.eq_false_iff.2 fun hb => h ?_).symm
      simpa [and_assoc] using hb
end Wm
end Go.Proofs.YtmofimgodmcdjaaDoor
