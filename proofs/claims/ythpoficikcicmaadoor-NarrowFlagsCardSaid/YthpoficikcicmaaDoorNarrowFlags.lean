/- For every instruction NarrowFlags returns true: an operation that sets flags has a halfword out of blocks just if the one that does not has one within. Conditions: none; the row lists the two tables of package offs, and the card ties them to the text of the program. -/
import Derived.Test.YthpoficikcicmaaDoorRows
import Derived.Test.YthpoficikcicmaaDoorTie
import Derived.Test.YthpoficikcicmaaDoorCards
import Derived.SevenTiedAt
import Derived.WalkKit
import Derived.ProofKit
import Derived.OpenShut
import Derived.ShutString
import Derived.Below
import Derived.Test.YthpoficikcicmaaDoorIp
import Derived.Test.YthpoficikcicmaaDoorNe
import Derived.Test.YthpoficikcicmaaDoorIs
import Derived.Test.YthpoficikcicmaaDoorHt
namespace Go.Proofs.YthpoficikcicmaaDoor.narrowFlags
open Go.ChangeShapes Go.WideShapes Go.ChangeAt Go.RowKit
open Go.ChangeMaps (open_string shut_string)

theorem own : ownKnob Tryd.prog.godebug = none := by kernel_rfl
theorem laidOut : laidOutB Tryd.prog = true := by kernel_rfl
theorem wide_of {n : Int} (h : (Lit.int .i64 n).wf = true) : Nm.Wide n := bounds_i64 h

/-- the cells A lie in block b -/
structure InsAt (b : Nat) (A : Array Value) (W : World) : Prop where
  c : ∀ j, W.cell? ⟨b, j, none⟩ = A[j]?
  lt : b < W.heap.size
theorem InsAt.step {b : Nat} {A : Array Value} {W W' : World} (h : InsAt b A W) (hb : Below W.heap.size W W') : InsAt b A W' :=
  ⟨fun j => (hb.cell (p := ⟨b, j, none⟩) h.lt).trans (h.c j), Nat.lt_of_lt_of_le h.lt hb.size⟩
theorem InsAt.two (w : World) (A B : Array Value) (tA tB : TypeId) (n : Nat) : InsAt w.heap.size A (((w.alloc (.cells A tA)).alloc (.cells B tB)).drewN n) ∧ InsAt (w.heap.size + 1) B (((w.alloc (.cells A tA)).alloc (.cells B tB)).drewN n) := by
  obtain ⟨h1, h2, h3, _⟩ := two_boxes (tA := tA) (tB := tB) (A := A) (B := B) (Below.refl ((w.alloc (.cells A tA)).alloc (.cells B tB)).heap.size ((w.alloc (.cells A tA)).alloc (.cells B tB)))
  exact ⟨⟨h1, Nat.lt_of_succ_lt h3⟩, ⟨h2, h3⟩⟩

set_option linter.unusedSimpArgs false in
set_option maxHeartbeats 4000000 in
theorem walk_false (op cond rd rn rm imm mode list : Int) (hw : Nm.Wide list) (w : World) (hT : Tabs w) (g10 : (op == 10) = false) (g5 : (op == 5) = false) (hS : Im.setsB op = true) (b1 : Bool)
    (e1 : (Nm.encI ⟨op, cond, rd, rn, rm, imm, mode, list, false⟩ false).isSome = b1) (e2 : (Nm.encI ⟨op, cond, rd, rn, rm, imm, mode, list, true⟩ true).isSome = b1) :
    Calls Tryd.prog 6 #[.agg #[.int .i64 op, .int .i64 cond, .int .i64 rd, .int .i64 rn, .int .i64 rm, .int .i64 imm, .int .i64 mode, .int .i64 list, .bool false]] w fun e w' => e = .returned (.bool true) ∧ Below w.heap.size w w' := by
  have hL := Lib.hid ((Later.refl hT).step (one_below w (.cells #[.int .i64 op, .int .i64 cond, .int .i64 rd, .int .i64 rn, .int .i64 rm, .int .i64 imm, .int .i64 mode, .int .i64 list, .bool false] 23)))
  clear hT
  have c1 := fun W hT => pcan_c op cond rd rn rm imm mode list false false hw W hT
  have c2 := fun W hT => pcan_c op cond rd rn rm imm mode list true true hw W hT
  rw [e1] at c1
  rw [e2] at c2
  replace c1 := Lib.hid c1
  replace c2 := Lib.hid c2
  have cS := Lib.hid (fun W => rsets_c op W)
  rw [hS] at cS
  clear hw hS e1 e2
  go_enter Tryd.func6, Tryd.ntmps6
  go_wp2_with ((go_at_call 12; refine (cS.out _).mono ?_; rintro e w2 ⟨rfl, n, rfl⟩))
  have hL2 := (hL.out.step (one_below _ (.cells #[.int .i64 op, .int .i64 cond, .int .i64 rd, .int .i64 rn, .int .i64 rm, .int .i64 imm, .int .i64 mode, .int .i64 list, .bool true] 23)))
  refine wp_region_G 18 (S := (fun W => (InsAt w.heap.size #[.int .i64 op, .int .i64 cond, .int .i64 rd, .int .i64 rn, .int .i64 rm, .int .i64 imm, .int .i64 mode, .int .i64 list, .bool false] W ∧ InsAt (w.heap.size + 1) #[.int .i64 op, .int .i64 cond, .int .i64 rd, .int .i64 rn, .int .i64 rm, .int .i64 imm, .int .i64 mode, .int .i64 list, .bool true] W) ∧ Later w W)) (by kernel_rfl) ⟨InsAt.two w _ _ _ _ (n + 1), hL2.drewn (n + 1)⟩ (fun hHeld => ?_)
  clear hL2 hL
  refine wpAnyG_take (i := 0) (v := ?_) rfl (by kernel_rfl) (fun _ _ _ h => h) (Or.inl ⟨by kernel_rfl, ?_⟩) hHeld ?_; rotate_left
  · (intro W hSw; (try dsimp only at hSw); obtain ⟨⟨⟨hq1, hq2⟩, ⟨hq3, hq4⟩⟩, _⟩ := hSw; go_simp) <;> with_reducible rfl
  try simp only [Act.put, List.setIfInBounds_toArray, List.set_cons_zero, List.set_cons_succ]
  refine wpAnyG_take (i := 2) (v := ?_) rfl (by kernel_rfl) (fun _ _ _ h => h) (Or.inl ⟨by kernel_rfl, ?_⟩) hHeld ?_; rotate_left
  · (intro W hSw; (try dsimp only at hSw); obtain ⟨⟨⟨hq1, hq2⟩, ⟨hq3, hq4⟩⟩, _⟩ := hSw; go_simp) <;> with_reducible rfl
  try simp only [Act.put, List.setIfInBounds_toArray, List.set_cons_zero, List.set_cons_succ]
  refine wpAnyG_step (i := 1) rfl (by kernel_rfl) (fun K hK => ?_)
  go_simp
  refine (c1.out _ hHeld.2.tabs).mono ?_; rintro e w5 ⟨rfl, hb⟩
  go_wp2_with fail
  refine hK.out _ _ (⟨⟨hHeld.1.1.step hb, hHeld.1.2.step hb⟩, hHeld.2.step hb⟩) (fun hHeld => ?_)
  clear hK K
  try simp only [Act.put, List.setIfInBounds_toArray, List.set_cons_zero, List.set_cons_succ]
  refine wpAnyG_step (i := 3) rfl (by kernel_rfl) (fun K hK => ?_)
  go_simp
  refine (c2.out _ hHeld.2.tabs).mono ?_; rintro e w5 ⟨rfl, hb⟩
  go_wp2_with fail
  refine hK.out _ _ (⟨⟨hHeld.1.1.step hb, hHeld.1.2.step hb⟩, hHeld.2.step hb⟩) (fun hHeld => ?_)
  clear hK K
  try simp only [Act.put, List.setIfInBounds_toArray, List.set_cons_zero, List.set_cons_succ]
  refine wpAnyG_take (i := 4) (v := ?_) rfl (by kernel_rfl) (fun _ _ _ h => h) (Or.inl ⟨by kernel_rfl, ?_⟩) hHeld ?_; rotate_left
  · (intro W hSw; (try dsimp only at hSw); obtain ⟨⟨⟨hq1, hq2⟩, ⟨hq3, hq4⟩⟩, _⟩ := hSw; go_simp) <;> with_reducible rfl
  try simp only [Act.put, List.setIfInBounds_toArray, List.set_cons_zero, List.set_cons_succ]
  refine wpAnyG_take (i := 5) (v := ?_) rfl (by kernel_rfl) (fun _ _ _ h => h) (Or.inl ⟨by kernel_rfl, ?_⟩) hHeld ?_; rotate_left
  · (intro W hSw; (try dsimp only at hSw); obtain ⟨⟨⟨hq1, hq2⟩, ⟨hq3, hq4⟩⟩, _⟩ := hSw; go_simp) <;> with_reducible rfl
  try simp only [Act.put, List.setIfInBounds_toArray, List.set_cons_zero, List.set_cons_succ]
  refine wpAnyG_take (i := 6) (v := ?_) rfl (by kernel_rfl) (fun _ _ _ h => h) (Or.inl ⟨by kernel_rfl, ?_⟩) hHeld ?_; rotate_left
  · (intro W hSw; (try dsimp only at hSw); obtain ⟨⟨⟨hq1, hq2⟩, ⟨hq3, hq4⟩⟩, _⟩ := hSw; go_simp) <;> with_reducible rfl
  try simp only [Act.put, List.setIfInBounds_toArray, List.set_cons_zero, List.set_cons_succ]
  refine wpAnyG_take (i := 7) (v := ?_) rfl (by kernel_rfl) (fun _ _ _ h => h) (Or.inl ⟨by kernel_rfl, ?_⟩) hHeld ?_; rotate_left
  · (intro W hSw; (try dsimp only at hSw); obtain ⟨⟨⟨hq1, hq2⟩, ⟨hq3, hq4⟩⟩, _⟩ := hSw; go_simp) <;> with_reducible rfl
  try simp only [Act.put, List.setIfInBounds_toArray, List.set_cons_zero, List.set_cons_succ]
  refine wpAnyG_take (i := 8) (v := ?_) rfl (by kernel_rfl) (fun _ _ _ h => h) (Or.inl ⟨by kernel_rfl, ?_⟩) hHeld ?_; rotate_left
  · (intro W hSw; (try dsimp only at hSw); obtain ⟨⟨⟨hq1, hq2⟩, ⟨hq3, hq4⟩⟩, _⟩ := hSw; go_simp) <;> with_reducible rfl
  try simp only [Act.put, List.setIfInBounds_toArray, List.set_cons_zero, List.set_cons_succ]
  refine wpAnyG_take (i := 9) (v := ?_) rfl (by kernel_rfl) (fun _ _ _ h => h) (Or.inl ⟨by kernel_rfl, ?_⟩) hHeld ?_; rotate_left
  · (intro W hSw; (try dsimp only at hSw); obtain ⟨⟨⟨hq1, hq2⟩, ⟨hq3, hq4⟩⟩, _⟩ := hSw; go_simp) <;> with_reducible rfl
  try simp only [Act.put, List.setIfInBounds_toArray, List.set_cons_zero, List.set_cons_succ]
  refine wpAnyG_take (i := 10) (v := undef) rfl (by kernel_rfl) (fun _ _ _ h => h) (Or.inr ⟨by kernel_rfl, rfl⟩) hHeld ?_
  try simp only [Act.put, List.setIfInBounds_toArray, List.set_cons_zero, List.set_cons_succ]
  refine wpAnyG_take (i := 11) (v := undef) rfl (by kernel_rfl) (fun _ _ _ h => h) (Or.inr ⟨by kernel_rfl, rfl⟩) hHeld ?_
  try simp only [Act.put, List.setIfInBounds_toArray, List.set_cons_zero, List.set_cons_succ]
  refine wpAnyG_take (i := 12) (v := undef) rfl (by kernel_rfl) (fun _ _ _ h => h) (Or.inr ⟨by kernel_rfl, rfl⟩) hHeld ?_
  try simp only [Act.put, List.setIfInBounds_toArray, List.set_cons_zero, List.set_cons_succ]
  refine wpAnyG_take (i := 13) (v := ?_) rfl (by kernel_rfl) (fun _ _ _ h => h) (Or.inl ⟨by kernel_rfl, ?_⟩) hHeld ?_; rotate_left
  · (intro W hSw; (try dsimp only at hSw); obtain ⟨⟨⟨hq1, hq2⟩, ⟨hq3, hq4⟩⟩, _⟩ := hSw; go_simp) <;> with_reducible rfl
  try simp only [Act.put, List.setIfInBounds_toArray, List.set_cons_zero, List.set_cons_succ]
  refine wpAnyG_take (i := 14) (v := ?_) rfl (by kernel_rfl) (fun _ _ _ h => h) (Or.inl ⟨by kernel_rfl, ?_⟩) hHeld ?_; rotate_left
  · (intro W hSw; (try dsimp only at hSw); obtain ⟨⟨⟨hq1, hq2⟩, ⟨hq3, hq4⟩⟩, _⟩ := hSw; go_simp) <;> with_reducible rfl
  try simp only [Act.put, List.setIfInBounds_toArray, List.set_cons_zero, List.set_cons_succ]
  refine wpAnyG_take (i := 15) (v := ?_) rfl (by kernel_rfl) (fun _ _ _ h => h) (Or.inl ⟨by kernel_rfl, ?_⟩) hHeld ?_; rotate_left
  · (intro W hSw; (try dsimp only at hSw); obtain ⟨⟨⟨hq1, hq2⟩, ⟨hq3, hq4⟩⟩, _⟩ := hSw; go_simp) <;> with_reducible rfl
  try simp only [Act.put, List.setIfInBounds_toArray, List.set_cons_zero, List.set_cons_succ]
  refine wpAnyG_step (i := 16) rfl (by kernel_rfl) (fun K hK => ?_)
  go_simp
  refine (awake_c _ hHeld.2.tabs).mono ?_; rintro e w5 ⟨rfl, hb⟩
  go_wp2_with fail
  refine hK.out _ _ (⟨⟨hHeld.1.1.step hb, hHeld.1.2.step hb⟩, hHeld.2.step hb⟩) (fun hHeld => ?_)
  clear hK K
  try simp only [Act.put, List.setIfInBounds_toArray, List.set_cons_zero, List.set_cons_succ]
  refine wpAnyG_take (i := 17) (v := ?_) rfl (by kernel_rfl) (fun _ _ _ h => h) (Or.inl ⟨by kernel_rfl, ?_⟩) hHeld ?_; rotate_left
  · (intro W hSw; (try dsimp only at hSw); obtain ⟨⟨⟨hq1, hq2⟩, ⟨hq3, hq4⟩⟩, _⟩ := hSw; go_simp) <;> with_reducible rfl
  try simp only [Act.put, List.setIfInBounds_toArray, List.set_cons_zero, List.set_cons_succ]
  refine wpAnyG_last (n := 18) rfl (by kernel_rfl) (by kernel_rfl) (fun K hK => ?_)
  go_simp
  refine hK.out _ _ ?_
  go_wp2
  go_ret
  exact ⟨rfl, hHeld.2.bel⟩

set_option linter.unusedSimpArgs false in
set_option maxHeartbeats 4000000 in
theorem walk_true (op cond rd rn rm imm mode list : Int) (hw : Nm.Wide list) (w : World) (hT : Tabs w) (g10 : (op == 10) = false) (g5 : (op == 5) = false) (hS : Im.setsB op = true) (b1 : Bool)
    (e1 : (Nm.encI ⟨op, cond, rd, rn, rm, imm, mode, list, true⟩ false).isSome = b1) (e2 : (Nm.encI ⟨op, cond, rd, rn, rm, imm, mode, list, false⟩ true).isSome = b1) (e3 : (Nm.encI ⟨op, cond, rd, rn, rm, imm, mode, list, true⟩ true).isSome = false) :
    Calls Tryd.prog 6 #[.agg #[.int .i64 op, .int .i64 cond, .int .i64 rd, .int .i64 rn, .int .i64 rm, .int .i64 imm, .int .i64 mode, .int .i64 list, .bool true]] w fun e w' => e = .returned (.bool true) ∧ Below w.heap.size w w' := by
  have hL := Lib.hid ((Later.refl hT).step (one_below w (.cells #[.int .i64 op, .int .i64 cond, .int .i64 rd, .int .i64 rn, .int .i64 rm, .int .i64 imm, .int .i64 mode, .int .i64 list, .bool true] 23)))
  clear hT
  have c1 := fun W hT => pcan_c op cond rd rn rm imm mode list true false hw W hT
  have c2 := fun W hT => pcan_c op cond rd rn rm imm mode list false true hw W hT
  have c3 := fun W hT => pcan_c op cond rd rn rm imm mode list true true hw W hT
  rw [e3] at c3
  replace c3 := Lib.hid c3
  rw [e1] at c1
  rw [e2] at c2
  replace c1 := Lib.hid c1
  replace c2 := Lib.hid c2
  have cS := Lib.hid (fun W => rsets_c op W)
  rw [hS] at cS
  clear hw hS e1 e2 e3
  go_enter Tryd.func6, Tryd.ntmps6
  go_wp2_with ((go_at_call 12; refine (cS.out _).mono ?_; rintro e w2 ⟨rfl, n, rfl⟩))
  have hL2 := (hL.out.step (one_below _ (.cells #[.int .i64 op, .int .i64 cond, .int .i64 rd, .int .i64 rn, .int .i64 rm, .int .i64 imm, .int .i64 mode, .int .i64 list, .bool false] 23)))
  refine wp_region_G 18 (S := (fun W => (InsAt w.heap.size #[.int .i64 op, .int .i64 cond, .int .i64 rd, .int .i64 rn, .int .i64 rm, .int .i64 imm, .int .i64 mode, .int .i64 list, .bool true] W ∧ InsAt (w.heap.size + 1) #[.int .i64 op, .int .i64 cond, .int .i64 rd, .int .i64 rn, .int .i64 rm, .int .i64 imm, .int .i64 mode, .int .i64 list, .bool false] W) ∧ Later w W)) (by kernel_rfl) ⟨InsAt.two w _ _ _ _ (n + 1), hL2.drewn (n + 1)⟩ (fun hHeld => ?_)
  clear hL2 hL
  refine wpAnyG_take (i := 0) (v := ?_) rfl (by kernel_rfl) (fun _ _ _ h => h) (Or.inl ⟨by kernel_rfl, ?_⟩) hHeld ?_; rotate_left
  · (intro W hSw; (try dsimp only at hSw); obtain ⟨⟨⟨hq1, hq2⟩, ⟨hq3, hq4⟩⟩, _⟩ := hSw; go_simp) <;> with_reducible rfl
  try simp only [Act.put, List.setIfInBounds_toArray, List.set_cons_zero, List.set_cons_succ]
  refine wpAnyG_take (i := 2) (v := ?_) rfl (by kernel_rfl) (fun _ _ _ h => h) (Or.inl ⟨by kernel_rfl, ?_⟩) hHeld ?_; rotate_left
  · (intro W hSw; (try dsimp only at hSw); obtain ⟨⟨⟨hq1, hq2⟩, ⟨hq3, hq4⟩⟩, _⟩ := hSw; go_simp) <;> with_reducible rfl
  try simp only [Act.put, List.setIfInBounds_toArray, List.set_cons_zero, List.set_cons_succ]
  refine wpAnyG_step (i := 1) rfl (by kernel_rfl) (fun K hK => ?_)
  go_simp
  refine (c1.out _ hHeld.2.tabs).mono ?_; rintro e w5 ⟨rfl, hb⟩
  go_wp2_with fail
  refine hK.out _ _ (⟨⟨hHeld.1.1.step hb, hHeld.1.2.step hb⟩, hHeld.2.step hb⟩) (fun hHeld => ?_)
  clear hK K
  try simp only [Act.put, List.setIfInBounds_toArray, List.set_cons_zero, List.set_cons_succ]
  refine wpAnyG_step (i := 3) rfl (by kernel_rfl) (fun K hK => ?_)
  go_simp
  refine (c2.out _ hHeld.2.tabs).mono ?_; rintro e w5 ⟨rfl, hb⟩
  go_wp2_with fail
  refine hK.out _ _ (⟨⟨hHeld.1.1.step hb, hHeld.1.2.step hb⟩, hHeld.2.step hb⟩) (fun hHeld => ?_)
  clear hK K
  try simp only [Act.put, List.setIfInBounds_toArray, List.set_cons_zero, List.set_cons_succ]
  refine wpAnyG_take (i := 4) (v := ?_) rfl (by kernel_rfl) (fun _ _ _ h => h) (Or.inl ⟨by kernel_rfl, ?_⟩) hHeld ?_; rotate_left
  · (intro W hSw; (try dsimp only at hSw); obtain ⟨⟨⟨hq1, hq2⟩, ⟨hq3, hq4⟩⟩, _⟩ := hSw; go_simp) <;> with_reducible rfl
  try simp only [Act.put, List.setIfInBounds_toArray, List.set_cons_zero, List.set_cons_succ]
  refine wpAnyG_take (i := 5) (v := ?_) rfl (by kernel_rfl) (fun _ _ _ h => h) (Or.inl ⟨by kernel_rfl, ?_⟩) hHeld ?_; rotate_left
  · (intro W hSw; (try dsimp only at hSw); obtain ⟨⟨⟨hq1, hq2⟩, ⟨hq3, hq4⟩⟩, _⟩ := hSw; go_simp) <;> with_reducible rfl
  try simp only [Act.put, List.setIfInBounds_toArray, List.set_cons_zero, List.set_cons_succ]
  refine wpAnyG_take (i := 6) (v := ?_) rfl (by kernel_rfl) (fun _ _ _ h => h) (Or.inl ⟨by kernel_rfl, ?_⟩) hHeld ?_; rotate_left
  · (intro W hSw; (try dsimp only at hSw); obtain ⟨⟨⟨hq1, hq2⟩, ⟨hq3, hq4⟩⟩, _⟩ := hSw; go_simp) <;> with_reducible rfl
  try simp only [Act.put, List.setIfInBounds_toArray, List.set_cons_zero, List.set_cons_succ]
  refine wpAnyG_take (i := 7) (v := ?_) rfl (by kernel_rfl) (fun _ _ _ h => h) (Or.inl ⟨by kernel_rfl, ?_⟩) hHeld ?_; rotate_left
  · (intro W hSw; (try dsimp only at hSw); obtain ⟨⟨⟨hq1, hq2⟩, ⟨hq3, hq4⟩⟩, _⟩ := hSw; go_simp) <;> with_reducible rfl
  try simp only [Act.put, List.setIfInBounds_toArray, List.set_cons_zero, List.set_cons_succ]
  refine wpAnyG_take (i := 8) (v := ?_) rfl (by kernel_rfl) (fun _ _ _ h => h) (Or.inl ⟨by kernel_rfl, ?_⟩) hHeld ?_; rotate_left
  · (intro W hSw; (try dsimp only at hSw); obtain ⟨⟨⟨hq1, hq2⟩, ⟨hq3, hq4⟩⟩, _⟩ := hSw; go_simp) <;> with_reducible rfl
  try simp only [Act.put, List.setIfInBounds_toArray, List.set_cons_zero, List.set_cons_succ]
  refine wpAnyG_take (i := 9) (v := ?_) rfl (by kernel_rfl) (fun _ _ _ h => h) (Or.inl ⟨by kernel_rfl, ?_⟩) hHeld ?_; rotate_left
  · (intro W hSw; (try dsimp only at hSw); obtain ⟨⟨⟨hq1, hq2⟩, ⟨hq3, hq4⟩⟩, _⟩ := hSw; go_simp) <;> with_reducible rfl
  try simp only [Act.put, List.setIfInBounds_toArray, List.set_cons_zero, List.set_cons_succ]
  refine wpAnyG_take (i := 10) (v := ?_) rfl (by kernel_rfl) (fun _ _ _ h => h) (Or.inl ⟨by kernel_rfl, ?_⟩) hHeld ?_; rotate_left
  · (intro W hSw; (try dsimp only at hSw); obtain ⟨⟨⟨hq1, hq2⟩, ⟨hq3, hq4⟩⟩, _⟩ := hSw; go_simp) <;> with_reducible rfl
  try simp only [Act.put, List.setIfInBounds_toArray, List.set_cons_zero, List.set_cons_succ]
  refine wpAnyG_step (i := 11) rfl (by kernel_rfl) (fun K hK => ?_)
  go_simp
  refine (c3.out _ hHeld.2.tabs).mono ?_; rintro e w5 ⟨rfl, hb⟩
  go_wp2_with fail
  refine hK.out _ _ (⟨⟨hHeld.1.1.step hb, hHeld.1.2.step hb⟩, hHeld.2.step hb⟩) (fun hHeld => ?_)
  clear hK K
  try simp only [Act.put, List.setIfInBounds_toArray, List.set_cons_zero, List.set_cons_succ]
  refine wpAnyG_take (i := 12) (v := ?_) rfl (by kernel_rfl) (fun _ _ _ h => h) (Or.inl ⟨by kernel_rfl, ?_⟩) hHeld ?_; rotate_left
  · (intro W hSw; (try dsimp only at hSw); obtain ⟨⟨⟨hq1, hq2⟩, ⟨hq3, hq4⟩⟩, _⟩ := hSw; go_simp) <;> with_reducible rfl
  try simp only [Act.put, List.setIfInBounds_toArray, List.set_cons_zero, List.set_cons_succ]
  refine wpAnyG_take (i := 13) (v := ?_) rfl (by kernel_rfl) (fun _ _ _ h => h) (Or.inl ⟨by kernel_rfl, ?_⟩) hHeld ?_; rotate_left
  · (intro W hSw; (try dsimp only at hSw); obtain ⟨⟨⟨hq1, hq2⟩, ⟨hq3, hq4⟩⟩, _⟩ := hSw; go_simp) <;> with_reducible rfl
  try simp only [Act.put, List.setIfInBounds_toArray, List.set_cons_zero, List.set_cons_succ]
  refine wpAnyG_take (i := 14) (v := ?_) rfl (by kernel_rfl) (fun _ _ _ h => h) (Or.inl ⟨by kernel_rfl, ?_⟩) hHeld ?_; rotate_left
  · (intro W hSw; (try dsimp only at hSw); obtain ⟨⟨⟨hq1, hq2⟩, ⟨hq3, hq4⟩⟩, _⟩ := hSw; go_simp) <;> with_reducible rfl
  try simp only [Act.put, List.setIfInBounds_toArray, List.set_cons_zero, List.set_cons_succ]
  refine wpAnyG_take (i := 15) (v := ?_) rfl (by kernel_rfl) (fun _ _ _ h => h) (Or.inl ⟨by kernel_rfl, ?_⟩) hHeld ?_; rotate_left
  · (intro W hSw; (try dsimp only at hSw); obtain ⟨⟨⟨hq1, hq2⟩, ⟨hq3, hq4⟩⟩, _⟩ := hSw; go_simp) <;> with_reducible rfl
  try simp only [Act.put, List.setIfInBounds_toArray, List.set_cons_zero, List.set_cons_succ]
  refine wpAnyG_step (i := 16) rfl (by kernel_rfl) (fun K hK => ?_)
  go_simp
  refine (awake_c _ hHeld.2.tabs).mono ?_; rintro e w5 ⟨rfl, hb⟩
  go_wp2_with fail
  refine hK.out _ _ (⟨⟨hHeld.1.1.step hb, hHeld.1.2.step hb⟩, hHeld.2.step hb⟩) (fun hHeld => ?_)
  clear hK K
  try simp only [Act.put, List.setIfInBounds_toArray, List.set_cons_zero, List.set_cons_succ]
  refine wpAnyG_take (i := 17) (v := ?_) rfl (by kernel_rfl) (fun _ _ _ h => h) (Or.inl ⟨by kernel_rfl, ?_⟩) hHeld ?_; rotate_left
  · (intro W hSw; (try dsimp only at hSw); obtain ⟨⟨⟨hq1, hq2⟩, ⟨hq3, hq4⟩⟩, _⟩ := hSw; go_simp) <;> with_reducible rfl
  try simp only [Act.put, List.setIfInBounds_toArray, List.set_cons_zero, List.set_cons_succ]
  refine wpAnyG_last (n := 18) rfl (by kernel_rfl) (by kernel_rfl) (fun K hK => ?_)
  go_simp
  refine hK.out _ _ ?_
  go_wp2
  go_ret
  exact ⟨rfl, hHeld.2.bel⟩

theorem walk_mov (op cond rd rn rm imm mode list : Int) (s : Bool) (w : World) (hT : Tabs w) (g10 : (op == 10) = true) :
    Calls Tryd.prog 6 #[.agg #[.int .i64 op, .int .i64 cond, .int .i64 rd, .int .i64 rn, .int .i64 rm, .int .i64 imm, .int .i64 mode, .int .i64 list, .bool s]] w fun e w' => e = .returned (.bool true) ∧ Below w.heap.size w w' := by
  have hL := Lib.hid ((Later.refl hT).step (one_below w (.cells #[.int .i64 op, .int .i64 cond, .int .i64 rd, .int .i64 rn, .int .i64 rm, .int .i64 imm, .int .i64 mode, .int .i64 list, .bool s] 23)))
  clear hT
  go_enter Tryd.func6, Tryd.ntmps6
  go_wp2_with fail
  refine (awake_c _ hL.out.tabs).mono ?_
  rintro e w4 ⟨rfl, hb⟩
  go_wp2
  go_ret
  exact ⟨rfl, (hL.out.step hb).bel⟩

theorem walk_add (op cond rd rn rm imm mode list : Int) (s : Bool) (w : World) (hT : Tabs w) (g10 : (op == 10) = false) (g5 : (op == 5) = true) :
    Calls Tryd.prog 6 #[.agg #[.int .i64 op, .int .i64 cond, .int .i64 rd, .int .i64 rn, .int .i64 rm, .int .i64 imm, .int .i64 mode, .int .i64 list, .bool s]] w fun e w' => e = .returned (.bool true) ∧ Below w.heap.size w w' := by
  have hL := Lib.hid ((Later.refl hT).step (one_below w (.cells #[.int .i64 op, .int .i64 cond, .int .i64 rd, .int .i64 rn, .int .i64 rm, .int .i64 imm, .int .i64 mode, .int .i64 list, .bool s] 23)))
  clear hT
  go_enter Tryd.func6, Tryd.ntmps6
  go_wp2_with fail
  refine (awake_c _ hL.out.tabs).mono ?_
  rintro e w4 ⟨rfl, hb⟩
  go_wp2
  go_ret
  exact ⟨rfl, (hL.out.step hb).bel⟩

theorem walk_no (op cond rd rn rm imm mode list : Int) (s : Bool) (w : World) (hT : Tabs w) (g10 : (op == 10) = false) (g5 : (op == 5) = false) (hS : Im.setsB op = false) :
    Calls Tryd.prog 6 #[.agg #[.int .i64 op, .int .i64 cond, .int .i64 rd, .int .i64 rn, .int .i64 rm, .int .i64 imm, .int .i64 mode, .int .i64 list, .bool s]] w fun e w' => e = .returned (.bool true) ∧ Below w.heap.size w w' := by
  have hL := Lib.hid ((Later.refl hT).step (one_below w (.cells #[.int .i64 op, .int .i64 cond, .int .i64 rd, .int .i64 rn, .int .i64 rm, .int .i64 imm, .int .i64 mode, .int .i64 list, .bool s] 23)))
  clear hT
  have cS := Lib.hid (fun W => rsets_c op W)
  rw [hS] at cS
  clear hS
  go_enter Tryd.func6, Tryd.ntmps6
  go_wp2_with fail
  refine (cS.out _).mono ?_
  rintro e w2 ⟨rfl, n, rfl⟩
  replace hL := Lib.hid (hL.out.drewn n)
  go_wp2_with fail
  refine (awake_c _ hL.out.tabs).mono ?_
  rintro e w4 ⟨rfl, hb⟩
  go_wp2
  go_ret
  exact ⟨rfl, (hL.out.step hb).bel⟩

theorem walk (op cond rd rn rm imm mode list : Int) (s : Bool) (wl : (Lit.int .i64 list).wf = true) (w : World) (hT : Tabs w) :
    Calls Tryd.prog 6 #[.agg #[.int .i64 op, .int .i64 cond, .int .i64 rd, .int .i64 rn, .int .i64 rm, .int .i64 imm, .int .i64 mode, .int .i64 list, .bool s]] w fun e w' => e = .returned (.bool true) ∧ Below w.heap.size w w' := by
  have hw := wide_of wl
  by_cases h10 : op = 10
  · exact walk_mov op cond rd rn rm imm mode list s w hT (by simp [h10])
  · by_cases h5 : op = 5
    · exact walk_add op cond rd rn rm imm mode list s w hT (by simp [h10]) (by simp [h5])
    · cases hS : Im.setsB op with
      | false => exact walk_no op cond rd rn rm imm mode list s w hT (by simp [h10]) (by simp [h5]) hS
      | true =>
        obtain ⟨q1, q2⟩ := Nm.flags ⟨op, cond, rd, rn, rm, imm, mode, list, s⟩ hS h10 h5
        cases s with
        | false => exact walk_false op cond rd rn rm imm mode list hw w hT (by simp [h10]) (by simp [h5]) hS _ rfl (congrArg Option.isSome q1.symm)
        | true => exact walk_true op cond rd rn rm imm mode list hw w hT (by simp [h10]) (by simp [h5]) hS _ rfl (congrArg Option.isSome q1.symm) (by rw [q2 rfl]; rfl)

set_option maxRecDepth 100000 in
theorem lifted (os : Os) (started : os.Started) (H : Type) (enc : TypeId × Value → H) :
    ReturnsInHanded {} Tryd.checked os 6 .any (fun w args => (Rows.narrowFlagsSpec.pre enc Tryd.prog Tryd.f6 [] false w args ∧ laidMetH Tryd.prog laidL w) ∧ sizedMet enc Tryd.prog Tryd.f6 (OpenSpec.ofChange Rows.narrowFlagsSpec) false w args)
      (Rows.narrowFlagsSpec.post enc Tryd.prog Tryd.f6 false true false false) := by
  refine returnsInHanded_of_change_and (C := Tryd.checked) (X := fun w _ => laidMetH Tryd.prog laidL w) (fun _ _ _ hh h => h.of_heap hh) own started (by kernel_rfl) Tryd.func6
    (ChangeSpec.witness_shaped (enc := enc) (C := Tryd.checked) (os := os) (X := fun w _ => laidMetH Tryd.prog laidL w) false (World.doorLaid Tryd.prog 400 os) #[.agg #[.int .i64 0, .int .i64 0, .int .i64 0, .int .i64 0, .int .i64 0, .int .i64 0, .int .i64 0, .int .i64 0, .bool false]] 8 rfl (World.shaped_of_RefB (by kernel_rfl) (by kernel_rfl)) (by kernel_rfl) (by kernel_rfl) (by kernel_rfl) (door_met os _)) ?_
  intro W base args ds gs before hval0 hW _ _ hL _
  have hval : ∀ (j : Nat) t v, Tryd.f6.params[j]? = some t → args[j]? = some v → Value.okWide Tryd.prog W .any base t v := hval0
  have hW' := hW
  obtain ⟨p, q, hA0, hV, rfl, _, _⟩ := hW
  have hA : DataW.TrodAll enc Tryd.prog W 0 (fun _ => true) true Tryd.f6.params.toList args.toList ds p := hA0
  rw [Tryd.params6] at hA hval
  obtain ⟨v0, vs0, d0, ds0, p0, q0, hargs, rfl, rfl, h0, r0⟩ := trodAll_cons hA
  obtain ⟨rfl, rfl, rfl⟩ := trodAll_nil r0
  obtain rfl : args = #[v0] := by cases args; simp_all
  obtain ⟨rfl, rfl⟩ := trodVars_none hV
  have k0 := h0
  have lt0 : ∀ x ∈ p0, x.block < W.heap.size := by obtain ⟨m, hm⟩ := k0; exact DataW.trod_lt m _ _ _ hm
  obtain ⟨ia0, ib0, ic0, id0, ie0, if0, ig0, ih0, ii0, rfl, w0⟩ := open_ins Tryd.underlying23 (by kernel_rfl) ⟨by kernel_rfl, by kernel_rfl, by kernel_rfl⟩ ⟨by kernel_rfl, by kernel_rfl, by kernel_rfl⟩ ⟨by kernel_rfl, by kernel_rfl, by kernel_rfl⟩ ⟨by kernel_rfl, by kernel_rfl, by kernel_rfl⟩ ⟨by kernel_rfl, by kernel_rfl, by kernel_rfl⟩ ⟨by kernel_rfl, by kernel_rfl, by kernel_rfl⟩ ⟨by kernel_rfl, by kernel_rfl, by kernel_rfl⟩ ⟨by kernel_rfl, by kernel_rfl, by kernel_rfl⟩ ⟨by kernel_rfl, by kernel_rfl, by kernel_rfl⟩ (hval 0 23 v0 rfl rfl) h0
  clear hA0 hval0
  refine (walk ia0 ib0 ic0 id0 ie0 if0 ig0 ih0 ii0 w0 W (tabs_of hL)).mono fun e W' ⟨he, bel⟩ => ?_
  subst he
  exact ⟨_, rfl, _, _, _, [], _, [], hW', trodAll_mk1 (shut_bool Tryd.underlying4 _), (trodAll_cons_mk (Below.trod laidOut (by kernel_rfl) (of_decide_eq_true (by kernel_rfl)) k0 bel lt0) trodAll_mk0), rfl, bel.frame _, fun h => by cases h⟩

theorem over : Rows.narrowFlagsRow.holds Tryd.pinned (OpenSpec.ofChange Rows.narrowFlagsSpec) :=
  OpenClaim.holds_of_wide 6 Tryd.f6 rfl rfl rfl rfl rfl rfl rfl ⟨rfl, rfl, rfl, rfl, rfl⟩ rfl rfl rfl rfl rfl (by kernel_rfl) Tryd.func6 (by kernel_rfl)
    (of_decide_eq_true (by kernel_rfl)) (by unfold Func.isWrapper; first | (rw [if_pos (by decide +kernel)]; kernel_rfl) | (rw [if_neg (by decide +kernel)]; exact ⟨rfl, rfl⟩))
    (fun os started H enc _ => lifted os started H enc)

theorem proved : Rows.NarrowFlagsCardSaid :=
  Claim7.holds_tied_plain_at .later [] [.data, .data] true Rows.narrowFlagsCard.stood.harness false
    over (fun _ h => by cases h) (by kernel_rfl) (fun _ h => by cases h) narrowFlags_row_tie rfl ⟨rfl, rfl⟩ (by kernel_rfl) rfl
    (fun f fn hf hfn => by
      obtain rfl : f = 6 := Option.some.inj ((show Tryd.prog.funcNamed Rows.narrowFlagsRow.func = some 6 by kernel_rfl).symm.trans hf) |>.symm
      obtain rfl : fn = Tryd.f6 := (Option.some.inj (Tryd.func6.symm.trans hfn)).symm
      exact ⟨by kernel_rfl, fun j t ht => by
        rw [Tryd.params6] at ht
        have hm : t ∈ [23] := by simpa using Array.mem_of_getElem? ht
        have hall : ([23].all fun u => !Tryd.prog.wantsStandIn u) = true := by kernel_rfl
        exact (show Tryd.prog.wantsStandIn t = false by simpa using List.all_eq_true.1 hall t hm)⟩)
    (by kernel_rfl)
end Go.Proofs.YthpoficikcicmaaDoor.narrowFlags
