/- What the laws of short ask of the program (ProgOk); the chapter's examples (awake). No conditions but those that each fact names. -/
import Derived.Test.YtcphhojdfpedkaaDoorGs
import Derived.Test.YtcphhojdfpedkaaDoorGj
namespace Go.Proofs.YtcphhojdfpedkaaDoor
open Go.ChangeShapes Go.WideShapes Go.ChangeAt Go.RowKit
open Rd (IV decV)
open Sm (shortP noneI)
structure ProgOk : Prop where
  short : ∀ (h : Int) (it : Bool) (w : World), Tabs w → Calls Tryd.prog 8 #[.int .i64 h, .bool it] w fun e w' => e = .returned (decV (shortP (h % 65536) it)) ∧ Below w.heap.size w w'
  long : ∀ (h : Int) (w : World), Calls Tryd.prog 10 #[.int .i64 h] w fun e w' => e = .returned (.bool (decide (29 ≤ h / 2048 % 32))) ∧ ∃ n, w' = w.drewN n
theorem new_cells {w1 w2 : World} {cs : Array Value} {t : TypeId} (hb : Below (w1.alloc (.cells cs t)).heap.size (w1.alloc (.cells cs t)) w2) : (∀ j, w2.cell? ⟨w1.heap.size, j, none⟩ = cs[j]?) ∧ w1.heap.size < w2.heap.size :=
  ⟨fun j => (hb.cell (p := ⟨w1.heap.size, j, none⟩) (by simp)).trans (World.cell?_alloc_new w1 cs t j), Nat.lt_of_lt_of_le (by simp) hb.size⟩
theorem ex1 : shortP (8193 % 65536) false = some ⟨10, 0, 0, 0, 0, 1, 1, 0, true⟩ := by kernel_rfl
theorem ex2 : shortP (12289 % 65536) false = some ⟨5, 0, 0, 0, 0, 1, 1, 0, true⟩ := by kernel_rfl
theorem ex3 : shortP (56832 % 65536) false = none := by kernel_rfl
set_option maxHeartbeats 1000000 in
theorem awake_c (P : ProgOk) (w : World) (hT : Tabs w) :
    Calls Tryd.prog 12 #[] w fun e w' => e = .returned (.bool true) ∧ Below w.heap.size w w' := by
  have hL := Lib.hid (Later.refl hT)
  clear hT
  have h1 := fun W hT => P.short 8193 false W hT
  rw [ex1] at h1
  have h2 := fun W hT => P.short 12289 false W hT
  rw [ex2] at h2
  have h3 := fun W hT => P.short 56832 false W hT
  rw [ex3] at h3
  have h4 := fun W => P.long 59392 W
  rw [show decide ((29 : Int) ≤ 59392 / 2048 % 32) = true by decide] at h4
  have h5 := fun W => P.long 59391 W
  rw [show decide ((29 : Int) ≤ 59391 / 2048 % 32) = false by decide] at h5
  replace h1 := Lib.hid h1
  replace h2 := Lib.hid h2
  replace h3 := Lib.hid h3
  replace h4 := Lib.hid h4
  replace h5 := Lib.hid h5
  clear P
  go_enter Tryd.func12, Tryd.ntmps12
  go_wp2_with fail
  refine (h1.out _ hL.out.tabs).mono ?_
  rintro e w1 ⟨rfl, hb⟩
  replace hL := Lib.hid ((hL.out.step hb).step (one_b w1 (.cells #[.int .i64 10, .int .i64 0, .int .i64 0, .int .i64 0, .int .i64 0, .int .i64 1, .int .i64 1, .int .i64 0, .bool true] 23)))
  clear hb
  unfold decV IV
  dsimp only
  go_wp2_with fail
  refine (h2.out _ hL.out.tabs).mono ?_
  rintro e w2 ⟨rfl, hb⟩
  obtain ⟨c1, l1⟩ := new_cells hb
  replace hL := Lib.hid ((hL.out.step hb).step (one_b w2 (.cells #[.int .i64 5, .int .i64 0, .int .i64 0, .int .i64 0, .int .i64 0, .int .i64 1, .int .i64 1, .int .i64 0, .bool true] 23)))
  clear hb
  unfold decV IV
  dsimp only
  go_wp2_with fail
  refine (h3.out _ hL.out.tabs).mono ?_
  rintro e w3 ⟨rfl, hb⟩
  obtain ⟨c2, l2⟩ := new_cells hb
  have l3 : w1.heap.size < w3.heap.size := by omega
  replace c1 : ∀ j, w3.cell? ⟨w1.heap.size, j, none⟩ = (#[.int .i64 10, .int .i64 0, .int .i64 0, .int .i64 0, .int .i64 0, .int .i64 1, .int .i64 1, .int .i64 0, .bool true] : Array Value)[j]? := fun j => (hb.cell (p := ⟨w1.heap.size, j, none⟩) (by simp; omega)).trans ((World.cell?_alloc_lt w2 _ ⟨w1.heap.size, j, none⟩ l1).trans (c1 j))
  replace hL := Lib.hid ((hL.out.step hb).step (one_b w3 (.cells #[.int .i64 0, .int .i64 0, .int .i64 0, .int .i64 0, .int .i64 0, .int .i64 0, .int .i64 0, .int .i64 0, .bool false] 23)))
  clear hb
  unfold decV IV noneI
  dsimp only
  go_wp2_with fail
  refine (h4.out _).mono ?_
  rintro e w4 ⟨rfl, n, rfl⟩
  replace hL := Lib.hid (hL.out.drewn n)
  go_wp2_with fail
  refine (h5.out _).mono ?_
  rintro e w5 ⟨rfl, m, rfl⟩
  replace hL := Lib.hid (hL.out.drewn m)
  go_wp2
  go_ret
  exact ⟨rfl, by first | exact hL.out.bel | simpa using hL.out.bel⟩
end Go.Proofs.YtcphhojdfpedkaaDoor
