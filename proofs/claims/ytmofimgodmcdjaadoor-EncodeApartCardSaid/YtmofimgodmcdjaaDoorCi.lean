/- Rows of numbers in memory: whether two rows are the same is told by their numbers. No conditions but those that each fact names. -/
import Derived.Test.YtmofimgodmcdjaaDoorRows
import Derived.Test.YtmofimgodmcdjaaDoorGb
import Derived.LoopTactic
import Derived.OwnWalk
import Derived.Laws.AppendOwn
namespace Go.Proofs.YtmofimgodmcdjaaDoor
open Go.ChangeShapes Go.WideShapes Go.ChangeAt Go.RowKit
namespace Ew

/-- the numbers of an int slice as they lie in memory -/
def ints (l : List Int) : List Value := l.map (Value.int .i64)

/-- the address A leads to the numbers xs, in a block below B (nowhere, where there is none) -/
def IntsAt (w : World) (B : Nat) (A : Option Addr) (xs : List Int) : Prop :=
  xs = [] ∨ ∃ b off, A = some ⟨b, off, none⟩ ∧ b < B ∧ ∀ j, j < xs.length → w.cell? ⟨b, off + j, none⟩ = some (.int .i64 (xs.getD j 0))

theorem IntsAt.below {w w' : World} {B B' : Nat} {A : Option Addr} {xs : List Int} (h : IntsAt w B A xs) (hb : Below B' w w') (hB : B ≤ B') : IntsAt w' B A xs := by
  rcases h with h | ⟨b, off, h1, h2, h3⟩
  · exact .inl h
  · exact .inr ⟨b, off, h1, h2, fun j hj => (hb.cell (p := ⟨b, off + j, none⟩) (by show b < B'; omega)).trans (h3 j hj)⟩
theorem IntsAt.at_ {w : World} {B : Nat} {A : Option Addr} {xs : List Int} (h : IntsAt w B A xs) {k : Nat} (hk : k < xs.length) :
    ∃ b off, A = some ⟨b, off, none⟩ ∧ b < B ∧ w.cell? ⟨b, off + k, none⟩ = some (.int .i64 (xs.getD k 0)) := by
  rcases h with rfl | ⟨b, off, h1, h2, h3⟩
  · simp at hk
  · exact ⟨b, off, h1, h2, h3 k hk⟩
theorem IntsAt.drewN {w : World} {B n : Nat} {A : Option Addr} {xs : List Int} (h : IntsAt w B A xs) : IntsAt (w.drewN n) B A xs := by
  rcases h with h | ⟨b, off, h1, h2, h3⟩
  · exact .inl h
  · exact .inr ⟨b, off, h1, h2, fun j hj => by have := h3 j hj; simpa using this⟩
theorem IntsAt.more {w : World} {B B' : Nat} {A : Option Addr} {xs : List Int} (h : IntsAt w B A xs) (hB : B ≤ B') : IntsAt w B' A xs := by
  rcases h with h | ⟨b, off, h1, h2, h3⟩
  · exact .inl h
  · exact .inr ⟨b, off, h1, by omega, h3⟩
theorem IntsAt.new_ (w : World) (xs : List Int) : IntsAt (w.alloc (.cells (ints xs).toArray 3)) (w.heap.size + 1) (some ⟨w.heap.size, 0, none⟩) xs := by
  refine .inr ⟨w.heap.size, 0, rfl, by omega, fun j hj => ?_⟩
  rw [Nat.zero_add, World.cell?_alloc_new]
  simp [ints, List.getD, List.getElem?_eq_getElem hj]

/-- whether two rows are the same -/
def intsB : List Int → List Int → Bool
  | [], [] => true
  | x :: a, y :: b => if x = y then intsB a b else false
  | _, _ => false
theorem intsB_eq : ∀ a b, intsB a b = true ↔ a = b
  | [], [] => by simp [intsB]
  | x :: a, y :: b => by
    unfold intsB
    by_cases h : x = y
    · rw [if_pos h, intsB_eq a b, h]; simp
    · rw [if_neg h]; simp [h]
  | [], _ :: _ => by simp [intsB]
  | _ :: _, [] => by simp [intsB]
theorem intsB_len : ∀ a b : List Int, a.length ≠ b.length → intsB a b = false
  | [], [], h => absurd rfl h
  | _ :: a, _ :: b, h => by
    unfold intsB
    rw [intsB_len a b (fun e => h (by simp [e]))]
    simp
  | [], _ :: _, _ => rfl
  | _ :: _, [], _ => rfl
theorem intsB_at {a b : List Int} {k : Nat} (ha : k < a.length) (hb : k < b.length) :
    intsB (a.drop k) (b.drop k) = if a.getD k 0 = b.getD k 0 then intsB (a.drop (k + 1)) (b.drop (k + 1)) else false := by
  rw [List.drop_eq_getElem_cons ha, List.drop_eq_getElem_cons hb]
  simp [intsB, List.getD, List.getElem?_eq_getElem ha, List.getElem?_eq_getElem hb]

theorem ints_c (A A' : Option Addr) (c c' B : Nat) (xs ys : List Int) (w : World) (hA : IntsAt w B A xs) (hA' : IntsAt w B A' ys) (hl : xs.length ≤ 1000000) :
    Calls Tryd.prog 5 #[.slice A xs.length c, .slice A' ys.length c'] w fun e w' => e = .returned (.bool (intsB xs ys)) ∧ ∃ n, w' = w.drewN n := by
  obtain ⟨V, hV⟩ : ∃ V, intsB xs ys = V := ⟨_, rfl⟩
  by_cases hlen : xs.length = ys.length
  · have hV0 : RowKit.Hid (intsB (xs.drop 0) (ys.drop 0) = V) := Lib.hid hV
    rw [hV]
    clear hV
    rw [← hlen]
    have hys : ∀ {k : Nat}, k < xs.length → k < ys.length := fun h => hlen ▸ h
    have hend : intsB (xs.drop xs.length) (ys.drop xs.length) = true := by rw [List.drop_length, hlen, List.drop_length]; rfl
    go_enter Tryd.func5, Tryd.ntmps5
    go_wp2
    go_loopw [5] (fun i wr => ∃ k n : Nat, k ≤ xs.length ∧ i = .int .i64 k ∧ wr = w.drewN n ∧ RowKit.Hid (intsB (xs.drop k) (ys.drop k) = V)) (fun i _ => xs.length - (intOf i).toNat)
    case atStart => exact ⟨0, 0, by omega, rfl, rfl, hV0⟩
    case round =>
      obtain ⟨k, n, hk, rfl, rfl, hV⟩ := hrel
      by_cases hlt : k < xs.length
      · obtain ⟨b, off, rfl, hb, hc⟩ := hA.at_ hlt
        obtain ⟨b', off', rfl, hb', hc'⟩ := hA'.at_ (hys hlt)
        have hst := intsB_at hlt (hys hlt)
        rw [hV.out] at hst
        generalize xs.getD k 0 = z at *
        generalize ys.getD k 0 = z' at *
        have hi0 : (0 : Int) ≤ (k : Int) := by omega
        have hi1 : (k : Int) < (xs.length : Int) := by omega
        by_cases hzz : z = z'
        · subst hzz
          rw [if_pos rfl] at hst
          replace hst := Lib.hid hst.symm
          clear hV
          go_wp2_with fail
          go_quiet (fail)
          go_wp2
          go_roundw
          case rel => exact ⟨k + 1, n + nq, by omega, by go_num, by first | rfl | exact World.drewN_drewN .., hst⟩
          case measure => simp [intOf]; omega
        · rw [if_neg hzz] at hst
          subst hst
          clear hV
          have hd : (z != z') = true := by simp [hzz]
          go_wp2_with fail
          go_quiet (fail)
          go_wp2
          go_ret
          exact ⟨rfl, n + nq, by first | rfl | exact World.drewN_drewN ..⟩
      · obtain rfl : k = xs.length := by omega
        have hV := hV.out
        rw [hend] at hV
        subst hV
        go_wp2
        go_ret
        exact ⟨rfl, n, rfl⟩
  · rw [intsB_len xs ys hlen] at hV
    rw [intsB_len xs ys hlen]
    clear hV
    have hd : ((xs.length : Int) != (ys.length : Int)) = true := by simp; omega
    go_enter Tryd.func5, Tryd.ntmps5
    go_wp2
    go_ret
    exact ⟨rfl, 0, rfl⟩
end Ew
end Go.Proofs.YtmofimgodmcdjaaDoor
