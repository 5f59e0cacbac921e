/- encode plainly: two instructions of the same shortest halfwords are the same; the chapter's examples (awake) hold of the program. No conditions but those that each fact names. -/
import Derived.Test.YtmofimgodmcdjaaDoorRows
import Derived.Test.YtmofimgodmcdjaaDoorEb
import Derived.Test.YtmofimgodmcdjaaDoorNe
import Derived.Test.YtmofimgodmcdjaaDoorWn
namespace Go.Proofs.YtmofimgodmcdjaaDoor
open Go.ChangeShapes Go.WideShapes Go.ChangeAt Go.RowKit
namespace Ew

theorem try_false (i : Nm.I) (it : Bool) : tryL i it false = oneL (Nm.encI i it) := rfl
theorem try_true (i : Nm.I) (it : Bool) : tryL i it true = twoL (Wm.encW Wm.findF i it) := rfl
theorem best_apart (i x : Nm.I) (it : Bool) (hi : Nm.Wide i.list) (hx : Nm.Wide x.list) (hp : 0 < (bestL i it).length) (h : bestL i it = bestL x it) : i = x := by
  unfold bestL at h hp
  rw [try_false, try_false, try_true, try_true] at h
  rw [try_false, try_true] at hp
  cases h1 : Nm.encI i it with
  | some a =>
    cases h2 : Nm.encI x it with
    | some b =>
      rw [h1, h2] at h
      have e : a = b := by simpa [oneL] using h
      exact Nm.apart i x it a hi hx h1 (e ▸ h2)
    | none =>
      rw [h1, h2] at h
      cases h3 : Wm.encW Wm.findF x it with
      | none => rw [h3] at h; simp [oneL, twoL] at h
      | some p => rw [h3] at h; simp [oneL, twoL] at h
  | none =>
    rw [h1] at h hp
    cases h4 : Wm.encW Wm.findF i it with
    | none => rw [h4] at hp; simp [oneL, twoL] at hp
    | some q =>
      rw [h4] at h
      cases h2 : Nm.encI x it with
      | some b => rw [h2] at h; simp [oneL, twoL] at h
      | none =>
        rw [h2] at h
        cases h3 : Wm.encW Wm.findF x it with
        | none => rw [h3] at h; simp [oneL, twoL] at h
        | some p =>
          rw [h3] at h
          obtain ⟨a, b⟩ := p
          obtain ⟨c, d⟩ := q
          have e : c = a ∧ d = b := by simpa [oneL, twoL] using h
          obtain ⟨rfl, rfl⟩ := e
          exact Wm.find_apart i x it it c d hi hx h4 h3

theorem f1 : Wm.findF 1 = some 1 := by decide +kernel
theorem aw1 : bestL ⟨10, 0, 0, 0, 0, 1, 1, 0, true⟩ false = [8193] := by
  have h : Nm.encI ⟨10, 0, 0, 0, 0, 1, 1, 0, true⟩ false = some 8193 := by decide +kernel
  unfold bestL
  rw [try_false, h]
  rfl
theorem aw2 : tryL ⟨10, 0, 0, 0, 0, 1, 1, 0, true⟩ false true = [61535, 1] := by
  have h : Wm.encW Wm.findF ⟨10, 0, 0, 0, 0, 1, 1, 0, true⟩ false = some (61535, 1) := by
    unfold Wm.encW
    rw [if_pos (by decide +kernel)]
    unfold Wm.rowW Wm.dataW
    dsimp only
    rw [if_pos (by decide), if_neg (by decide), f1]
    rfl
  rw [try_true, h]
  rfl
theorem aw3 : tryL ⟨0, 0, 0, 0, 0, 0, 0, 0, false⟩ false true = [] := by
  have h : Wm.encW Wm.findF ⟨0, 0, 0, 0, 0, 0, 0, 0, false⟩ false = none := by
    unfold Wm.encW
    rw [if_neg (by decide +kernel)]
  rw [try_true, h]
  rfl
theorem RowIs.some_ {l : List Int} {e : Ending} {w : World} (h : RowIs l e w) (hl : 0 < l.length) : ∃ A c, e = .returned (.tuple #[.slice A l.length c, .int .i64 0]) ∧ IntsAt w w.heap.size A l := by
  rcases h with ⟨h0, _⟩ | ⟨_, h⟩
  · omega
  · exact h
theorem RowIs.none_ {e : Ending} {w : World} (h : RowIs [] e w) : e = .returned (.tuple #[.slice none 0 0, .int .i64 6]) := by
  rcases h with ⟨_, h⟩ | ⟨h, _⟩
  · exact h
  · cases h
theorem wide0 : Nm.Wide 0 := ⟨by decide, by decide⟩
theorem below_drewN' {B n : Nat} {a w : World} (h : Below B a w) : Below B a (w.drewN n) := ⟨h.os, h.tape, h.output, h.size, h.block⟩

theorem ex_1 (w : World) (hT : Tabs w) : Calls Tryd.prog 4 #[.agg #[.int .i64 10, .int .i64 0, .int .i64 0, .int .i64 0, .int .i64 0, .int .i64 1, .int .i64 1, .int .i64 0, .bool true], .bool false] w fun e w' => (∃ A c, e = .returned (.tuple #[.slice A 1 c, .int .i64 0]) ∧ IntsAt w' w'.heap.size A [8193]) ∧ Below w.heap.size w w' := by
  refine (best_c 10 0 0 0 0 1 1 0 true false wide0 w hT).mono ?_
  rw [aw1]
  rintro e w' ⟨h, hb⟩
  exact ⟨h.some_ (by decide), hb⟩
theorem ex_2 (w : World) (hT : Tabs w) : Calls Tryd.prog 9 #[.agg #[.int .i64 10, .int .i64 0, .int .i64 0, .int .i64 0, .int .i64 0, .int .i64 1, .int .i64 1, .int .i64 0, .bool true], .bool true, .bool false] w fun e w' => (∃ A c, e = .returned (.tuple #[.slice A 2 c, .int .i64 0]) ∧ IntsAt w' w'.heap.size A [61535, 1]) ∧ Below w.heap.size w w' := by
  refine (encode_c 10 0 0 0 0 1 1 0 true true false wide0 w hT).mono ?_
  rw [aw2]
  rintro e w' ⟨h, hb⟩
  exact ⟨h.some_ (by decide), hb⟩
theorem ex_3 (w : World) (hT : Tabs w) : Calls Tryd.prog 9 #[.agg #[.int .i64 0, .int .i64 0, .int .i64 0, .int .i64 0, .int .i64 0, .int .i64 0, .int .i64 0, .int .i64 0, .bool false], .bool true, .bool false] w fun e w' => e = .returned (.tuple #[.slice none 0 0, .int .i64 6]) ∧ Below w.heap.size w w' := by
  refine (encode_c 0 0 0 0 0 0 0 0 false true false wide0 w hT).mono ?_
  rw [aw3]
  rintro e w' ⟨h, hb⟩
  exact ⟨h.none_, hb⟩
theorem same_1 (A A' : Option Addr) (c c' B : Nat) (w : World) (hA : IntsAt w B A [8193]) (hA' : IntsAt w B A' [8193]) :
    Calls Tryd.prog 5 #[.slice A 1 c, .slice A' 1 c'] w fun e w' => e = .returned (.bool true) ∧ ∃ n, w' = w.drewN n :=
  ints_c A A' c c' B [8193] [8193] w hA hA' (by decide)
theorem same_2 (A A' : Option Addr) (c c' B : Nat) (w : World) (hA : IntsAt w B A [61535, 1]) (hA' : IntsAt w B A' [61535, 1]) :
    Calls Tryd.prog 5 #[.slice A 2 c, .slice A' 2 c'] w fun e w' => e = .returned (.bool true) ∧ ∃ n, w' = w.drewN n :=
  ints_c A A' c c' B [61535, 1] [61535, 1] w hA hA' (by decide)
theorem cell_new_lt {w w1 : World} {o : Obj} {g j : Nat} (h : Below (w.alloc o).heap.size (w.alloc o) w1) (hg : g = w.heap.size) : w1.cell? ⟨g, j, none⟩ = (w.alloc o).cell? ⟨w.heap.size, j, none⟩ := by
  subst hg
  exact h.cell (p := ⟨w.heap.size, j, none⟩) (by simp)

open Xw (Later) in
theorem awake_c (w : World) (hT : Tabs w) :
    Calls Tryd.prog 6 #[] w fun e w' => e = .returned (.bool true) ∧ Below w.heap.size w w' := by
  have hL := Lib.hid ((Later.refl hT).step ((Below.refl _ _).alloc (Nat.le_refl _) (.cells #[.int .i64 10, .int .i64 0, .int .i64 0, .int .i64 0, .int .i64 0, .int .i64 1, .int .i64 1, .int .i64 0, .bool true] 23)))
  clear hT
  go_enter Tryd.func6, Tryd.ntmps6
  go_wp2_with fail
  refine (ex_1 _ hL.out.tabs).mono ?_
  rintro e w2 ⟨⟨A, c, rfl, hI⟩, hb⟩
  have hcell : ∀ j, w2.cell? ⟨w.heap.size, j, none⟩ = (#[.int .i64 10, .int .i64 0, .int .i64 0, .int .i64 0, .int .i64 0, .int .i64 1, .int .i64 1, .int .i64 0, .bool true] : Array Value)[j]? := fun j => (cell_new_lt hb rfl).trans (World.cell?_alloc_new w _ _ j)
  replace hL := Lib.hid (hL.out.step hb)
  clear hb
  go_wp2_with fail
  refine (ex_2 _ hL.out.tabs).mono ?_
  rintro e w3 ⟨⟨A2, c2, rfl, hI2⟩, hb⟩
  replace hI := hI.below hb (Nat.le_refl _)
  replace hI := hI.more hb.size
  replace hL := Lib.hid (hL.out.step hb)
  clear hb hcell
  go_wp2_with fail
  refine (ex_3 _ hL.out.tabs).mono ?_
  rintro e w4 ⟨rfl, hb⟩
  replace hI := hI.below hb (Nat.le_refl _)
  replace hI2 := hI2.below hb (Nat.le_refl _)
  replace hI := hI.more hb.size
  replace hI2 := hI2.more hb.size
  replace hL := Lib.hid (hL.out.step hb)
  clear hb
  go_wp2_with fail
  have hb5 : Below w4.heap.size w4 (w4.alloc (.cells #[.int .i64 8193] 3)) := (Below.refl _ _).alloc (Nat.le_refl _) _
  refine (same_1 _ _ _ _ (w4.alloc (.cells #[.int .i64 8193] 3)).heap.size _ ((hI.below hb5 (Nat.le_refl _)).more (by simp)) (made_1 w4 8193)).mono ?_
  rintro e w5 ⟨rfl, n, rfl⟩
  have hb6 : Below w4.heap.size w4 ((w4.alloc (.cells #[.int .i64 8193] 3)).alloc (.cells #[.int .i64 61535, .int .i64 1] 3)) := ((Below.refl _ _).alloc (Nat.le_refl _) _).alloc (by simp) _
  have hz : (w4.alloc (.cells #[.int .i64 8193] 3)).heap.size = w4.heap.size + 1 := by simp
  replace hI2 := (((hI2.below hb6 (Nat.le_refl _)).more hb6.size).drewN (n := n))
  have hI6 := (made_2 (w4.alloc (.cells #[.int .i64 8193] 3)) 61535 1).drewN (n := n)
  rw [hz] at hI6
  replace hL := Lib.hid ((hL.out.step hb6).drewn n)
  clear hb5 hI hb6 hz
  go_wp2_with fail
  refine (same_2 _ _ _ _ _ _ hI2 hI6).mono ?_
  rintro e w7 ⟨rfl, m, rfl⟩
  replace hL := Lib.hid (hL.out.drewn m)
  go_wp2
  go_ret
  exact ⟨rfl, by first | exact hL.out.bel | simpa using hL.out.bel⟩
end Ew
end Go.Proofs.YtmofimgodmcdjaaDoor
