/- Rows of numbers in memory; two rows of the same numbers are told to be the same. -/
import Derived.Test.YthpoficikcicmaaDoorRows
import Derived.Test.YthpoficikcicmaaDoorTg
import Derived.Test.YthpoficikcicmaaDoorIm
import Derived.LoopTactic
import Derived.OwnWalk
import Derived.Laws.AppendOwn
namespace Go.Proofs.YthpoficikcicmaaDoor
open Go.ChangeShapes Go.WideShapes Go.ChangeAt Go.RowKit

/-- the numbers of an int slice as they lie in memory -/
def ints (l : List Int) : List Value := l.map (Value.int .i64)
theorem ints_snoc (l : List Int) (z : Int) : ints l ++ [.int .i64 z] = ints (l ++ [z]) := by simp [ints]

/-- the address A leads to the numbers xs, in a block below B (nowhere, where there is none) -/
def IntsAt (w : World) (B : Nat) (A : Option Addr) (xs : List Int) : Prop :=
  xs = [] ∨ ∃ b off, A = some ⟨b, off, none⟩ ∧ b < B ∧ ∀ j, j < xs.length → w.cell? ⟨b, off + j, none⟩ = some (.int .i64 (xs.getD j 0))

theorem IntsAt.below {w w' : World} {B B' : Nat} {A : Option Addr} {xs : List Int} (h : IntsAt w B A xs) (hb : Below B' w w') (hB : B ≤ B') : IntsAt w' B A xs := by
  rcases h with h | ⟨b, off, h1, h2, h3⟩
  · exact .inl h
  · exact .inr ⟨b, off, h1, h2, fun j hj => (hb.cell (p := ⟨b, off + j, none⟩) (by show b < B'; omega)).trans (h3 j hj)⟩
theorem IntsAt.at_ {w : World} {B : Nat} {A : Option Addr} {xs : List Int} (h : IntsAt w B A xs) {k : Nat} (hk : k < xs.length) :
    ∃ b off, A = some ⟨b, off, none⟩ ∧ b < B ∧ w.cell? ⟨b, off + k, none⟩ = some (.int .i64 (xs.getD k 0)) := by
  rcases h with rfl | ⟨b, off, h1, h2, h3⟩
  · simp at hk
  · exact ⟨b, off, h1, h2, h3 k hk⟩
theorem IntsAt.drewN {w : World} {B n : Nat} {A : Option Addr} {xs : List Int} (h : IntsAt w B A xs) : IntsAt (w.drewN n) B A xs := by
  rcases h with h | ⟨b, off, h1, h2, h3⟩
  · exact .inl h
  · exact .inr ⟨b, off, h1, h2, fun j hj => by have := h3 j hj; simpa using this⟩
theorem IntsAt.more {w : World} {B B' : Nat} {A : Option Addr} {xs : List Int} (h : IntsAt w B A xs) (hB : B ≤ B') : IntsAt w B' A xs := by
  rcases h with h | ⟨b, off, h1, h2, h3⟩
  · exact .inl h
  · exact .inr ⟨b, off, h1, by omega, h3⟩
theorem IntsAt.new_ (w : World) (xs : List Int) : IntsAt (w.alloc (.cells (ints xs).toArray 3)) (w.heap.size + 1) (some ⟨w.heap.size, 0, none⟩) xs := by
  refine .inr ⟨w.heap.size, 0, rfl, by omega, fun j hj => ?_⟩
  rw [Nat.zero_add, World.cell?_alloc_new]
  simp [ints, List.getD, List.getElem?_eq_getElem hj]

/-- a row of the call's own reads as its numbers -/
theorem IntsAt.of_own {w : World} {base n : Nat} {v : Value} {xs : List Int} (h : w.ownsRow base 3 1 v n (ints xs)) (hn : n = xs.length) :
    ∃ A c, v = .slice A xs.length c ∧ IntsAt w w.heap.size A xs := by
  subst hn
  have hlt := h.lt
  rcases h.2 with ⟨rfl, h0⟩ | ⟨g, cap, cur, rfl, _, hh, hnc, _, hsz, ht⟩
  · have e : xs = [] := List.eq_nil_of_length_eq_zero h0
    subst e
    exact ⟨none, 0, rfl, .inl rfl⟩
  · refine ⟨_, cap, rfl, .inr ⟨g, 0, rfl, (hlt g rfl).2, fun j hj => ?_⟩⟩
    have hj2 : j < cur.size := by omega
    have e1 : cur.toList[j]? = (ints xs)[j]? := by
      rw [← ht, List.getElem?_take_of_lt (by omega)]
    have e2 : (ints xs)[j]? = some (.int .i64 (xs.getD j 0)) := by
      simp [ints, List.getD, List.getElem?_eq_getElem hj]
    rw [Nat.zero_add]
    simp only [World.cell?, hh]
    rw [← e2, ← e1, Array.getElem?_toList]
    simp

end Go.Proofs.YthpoficikcicmaaDoor
