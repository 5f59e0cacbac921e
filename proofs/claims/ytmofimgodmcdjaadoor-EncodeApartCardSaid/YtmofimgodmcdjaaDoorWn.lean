/- The numbers of twelve bits that chapter 2's Find finds, as the rows of two halfwords use them: they are of twelve bits and tell their number. No program. -/
import Derived.Test.YtmofimgodmcdjaaDoorWl
import Derived.Test.YtmofimgodmcdjaaDoorGx
namespace Go.Proofs.YtmofimgodmcdjaaDoor
namespace Wm
open Nm (I)

/-- the number that Find finds for a number of 32 bits -/
def findF (x : Int) : Option Int := if 0 ≤ x then Option.map (fun n : Nat => (n : Int)) (Em.findN x.toNat) else none
/-- what a number of twelve bits tells -/
def tellF (n : Int) : Int := (Em.expN n.toNat : Int)
theorem find_spec (x m : Nat) (N : Nat) (h : List.find? (Em.good x) (List.range N) = some m) : Em.good x m = true ∧ m < N :=
  ⟨List.find?_some h, List.mem_range.1 (List.mem_of_find?_eq_some h)⟩
theorem finds : Finds findF tellF := by
  intro x n h
  unfold findF at h
  split at h
  case isFalse => cases h
  rename_i h0
  rw [Option.map_eq_some_iff] at h
  obtain ⟨m, hm, rfl⟩ := h
  obtain ⟨hg, hm'⟩ := find_spec x.toNat m 4096 hm
  refine ⟨by omega, by omega, ?_⟩
  unfold Em.good at hg
  simp only [Bool.and_eq_true, beq_iff_eq] at hg
  unfold tellF
  rw [Int.toNat_natCast, hg.2]
  omega
/-- two instructions of the same halfwords are the same -/
theorem find_apart (i j : I) (it jt : Bool) (a b : Int) (hi : Nm.Wide i.list) (hj : Nm.Wide j.list) (hei : encW findF i it = some (a, b)) (hej : encW findF j jt = some (a, b)) : i = j :=
  wapart tellF findF finds i j it jt a b hi hj hei hej
end Wm
end Go.Proofs.YtmofimgodmcdjaaDoor
