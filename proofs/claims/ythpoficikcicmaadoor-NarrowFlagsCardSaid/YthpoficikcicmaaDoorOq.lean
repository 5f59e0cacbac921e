/- Contract of the program's Put of offsets: a loop over the table of pieces that stores into the halfwords. -/
import Derived.Test.YthpoficikcicmaaDoorRows
import Derived.Test.YthpoficikcicmaaDoorOg
import Derived.Test.YthpoficikcicmaaDoorHt
namespace Go.Proofs.YthpoficikcicmaaDoor
open Go.ChangeShapes Go.WideShapes Go.ChangeAt Go.RowKit

/-- one piece written: out of x into the halfwords -/
def putStep (k x : Int) (p : Piece) (s : Int × Int) : Int × Int :=
  if p.k = k then (if p.h = 0 then (putI s.1 (p.a + p.hi - p.lo) p.a (getI x p.hi p.lo), s.2) else (s.1, putI s.2 (p.a + p.hi - p.lo) p.a (getI x p.hi p.lo))) else s
def putTo (k x : Int) : Nat → Int × Int
  | 0 => (0, 0)
  | n + 1 => putStep k x (pieceAt n) (putTo k x n)
def putA (k off : Int) : Int := (putTo k (crossI k (off % 4294967296)) 14).1
def putB (k off : Int) : Int := (putTo k (crossI k (off % 4294967296)) 14).2

theorem range_later' {w : World} {cs : List Value} (h : w.rangeAt 1 0 cs) (hs : 1 < w.heap.size) (o : Obj) (n : Nat) : ((w.drewN n).alloc o).rangeAt 1 0 cs := fun j v hv =>
  (World.cell?_alloc_lt w o ⟨1, 0 + j, none⟩ hs).trans (h j v hv)

/-- the piece's block, behind the store into the halfwords and the block that its method makes -/
theorem new_cell (wr : World) (a : Addr) (v : Value) (c : Array Value) (t : TypeId) (o : Obj) (n j : Nat) : (((((wr.setCell a v).alloc (.cells c t)).alloc o)).drewN n).cell? ⟨wr.heap.size, j, none⟩ = c[j]? := by
  have e : (wr.setCell a v).heap.size = wr.heap.size := by simp [World.setCell]
  have h := World.cell?_alloc_lt ((wr.setCell a v).alloc (.cells c t)) o ⟨wr.heap.size, j, none⟩ (by show wr.heap.size < _; simp [World.alloc, e])
  have h2 := World.cell?_alloc_new (wr.setCell a v) c t j
  rw [e] at h2
  exact h.trans h2

theorem ret_pair {a b c d : Int} (h1 : a = c) (h2 : b = d) : Ending.returned (.tuple #[.int .i64 a, .int .i64 b]) = .returned (.tuple #[.int .i64 c, .int .i64 d]) := by rw [h1, h2]

theorem oput_no (k off : Int) (w : World) (hT : Tabs w) (hf : fitsB k off = false) :
    Calls Tryd.prog 39 #[.int .i64 k, .int .i64 off] w fun e w' => e = .returned (.tuple #[.int .i64 0, .int .i64 0]) ∧ Below w.heap.size w w' := by
  go_enter Tryd.func39, Tryd.ntmps39
  go_wp2_with ((go_at_call 38; refine (fits_c _ _ _ hT).mono ?_; rintro e w' ⟨rfl, hbel0⟩; rw [hf]))
  go_ret2
  exact ⟨rfl, hbel0⟩

set_option linter.unusedSimpArgs false in
set_option maxHeartbeats 2000000 in
theorem oput_c (k off : Int) (w : World) (hT : Tabs w) (hf : fitsB k off = true) :
    Calls Tryd.prog 39 #[.int .i64 k, .int .i64 off] w fun e w' => e = .returned (.tuple #[.int .i64 (putA k off), .int .i64 (putB k off)]) ∧ Below w.heap.size w w' := by
  unfold putA putB
  obtain ⟨x, e0⟩ : ∃ h, off % 4294967296 = h := ⟨_, rfl⟩
  have hx0 : 0 ≤ x := by omega
  have hx1 : x < 4294967296 := by omega
  have hy := cross_bd k x hx0 hx1
  rw [e0]
  obtain ⟨y, ey⟩ : ∃ y, crossI k x = y := ⟨_, rfl⟩
  rw [ey] at hy ⊢
  go_enter Tryd.func39, Tryd.ntmps39
  go_wp2_with (first
    | (go_at_call 38; refine (fits_c _ _ _ hT).mono ?_; rintro e w' ⟨rfl, hbel0⟩; rw [hf])
    | (go_at_call 60; refine (cross_c _ _ _ hx0 hx1).mono ?_; rintro e w' ⟨rfl, n, rfl⟩)
    | (refine wpList_load_mid rfl 85 (.global 1) rfl 1 0 rfl pieceCells _ (range_later (hT.below hbel0 hT.big).p (Nat.lt_of_lt_of_le (by have := hT.big; omega) hbel0.size) _ _) underP rfl infoP ?_))
  clear e0 ey
  have hbig : w.heap.size ≤ w'.heap.size := hbel0.size
  have hrange := hT.big
  clear hT
  obtain ⟨hy0, hy1⟩ := hy
  go_loopw [19] (fun is wr => ∃ i' A B : Int, 0 ≤ i' ∧ i' ≤ 14 ∧ is = .int .i64 i' ∧ RowKit.Hid (putTo k y i'.toNat = (A, B)) ∧ 0 ≤ A ∧ A < 4294967296 ∧ 0 ≤ B ∧ B < 4294967296 ∧
    wr.cell? ⟨w'.heap.size, 0, none⟩ = some (.int .u32 A) ∧ wr.cell? ⟨w'.heap.size, 1, none⟩ = some (.int .u32 B) ∧ wr.frozen? ⟨w'.heap.size, 0, none⟩ = false ∧ wr.frozen? ⟨w'.heap.size, 1, none⟩ = false ∧ w'.heap.size < wr.heap.size ∧ Below w.heap.size w wr) (fun is _ => (14 - intOf is).toNat)
  case atStart => exact ⟨0, 0, 0, by omega, by omega, rfl, Lib.hid rfl, by omega, by omega, by omega, by omega, by go_simp, by go_simp, by go_simp, by go_simp, by simp, below_drewN (hbel0.alloc (by omega) _) _⟩
  case round =>
    obtain ⟨i', A, B, hi0, hi1, rfl, HX, hA0, hA1, hB0, hB1, hc0, hc1, hf0, hf1, hlt, hbel⟩ := hrel
    by_cases hi : i' < 14
    · have hidx : ∀ W : World, (Instr.index 85 (.agg pieceCells.toArray) (.int .i64 i')).run Tryd.prog W = .ok (cellsOfPiece (pieceAt i'.toNat)) W := fun W => by
        have h := index_piece i'.toNat (by omega) W
        rwa [show ((i'.toNat : Nat) : Int) = i' by omega] at h
      have hok := piece_ok i'.toNat (by omega)
      have HN := Lib.hid (show putTo k y (i' + 1).toNat = putStep k y (pieceAt i'.toNat) (A, B) by
        rw [show (i' + 1).toNat = i'.toNat + 1 by omega, ← HX.out]; rfl)
      clear HX
      generalize pieceAt i'.toNat = p at *
      obtain ⟨pk, ph, pa, phi, plo⟩ := p
      unfold cellsOfPiece at hidx
      dsimp only at hidx
      obtain ⟨q1, q2, q3, q4, q5, q6, q7, q8⟩ := hok
      dsimp only at q1 q2 q3 q4 q5 q6 q7 q8
      by_cases hkk : pk = k
      · have hB : (pk == k) = true := by simp [hkk]
        subst hkk
        rcases (by omega : ph = 0 ∨ ph = 1) with rfl | rfl
        · go_wp2
          refine wp_region_G 18 (S := (fun W => W.cell? ⟨wr.heap.size, 0, none⟩ = some (.int .i64 pk) ∧ W.cell? ⟨wr.heap.size, 1, none⟩ = some (.int .i64 0) ∧ W.cell? ⟨wr.heap.size, 2, none⟩ = some (.int .i64 pa) ∧ W.cell? ⟨wr.heap.size, 3, none⟩ = some (.int .i64 phi) ∧ W.cell? ⟨wr.heap.size, 4, none⟩ = some (.int .i64 plo) ∧ W.cell? ⟨w'.heap.size, 0, none⟩ = some (.int .u32 A))) (by kernel_rfl) (by go_keep) (fun hHeld => ?_)
          refine wpAnyG_take (i := 0) (v := ?_) rfl (by kernel_rfl) (fun _ _ _ h => h) (Or.inl ⟨by rfl, ?_⟩) hHeld ?_; rotate_left
          · (intro W hSw; (try dsimp only at hSw); go_simp) <;> with_reducible rfl
          try simp only [Act.put, List.setIfInBounds_toArray, List.set_cons_zero, List.set_cons_succ]
          refine wpAnyG_take (i := 1) (v := ?_) rfl (by kernel_rfl) (fun _ _ _ h => h) (Or.inl ⟨by rfl, ?_⟩) hHeld ?_; rotate_left
          · (intro W hSw; (try dsimp only at hSw); go_simp) <;> with_reducible rfl
          try simp only [Act.put, List.setIfInBounds_toArray, List.set_cons_zero, List.set_cons_succ]
          refine wpAnyG_take (i := 2) (v := ?_) rfl (by kernel_rfl) (fun _ _ _ h => h) (Or.inl ⟨by rfl, ?_⟩) hHeld ?_; rotate_left
          · (intro W hSw; (try dsimp only at hSw); go_simp) <;> with_reducible rfl
          try simp only [Act.put, List.setIfInBounds_toArray, List.set_cons_zero, List.set_cons_succ]
          refine wpAnyG_take (i := 3) (v := ?_) rfl (by kernel_rfl) (fun _ _ _ h => h) (Or.inl ⟨by rfl, ?_⟩) hHeld ?_; rotate_left
          · (intro W hSw; (try dsimp only at hSw); go_simp) <;> with_reducible rfl
          try simp only [Act.put, List.setIfInBounds_toArray, List.set_cons_zero, List.set_cons_succ]
          refine wpAnyG_take (i := 4) (v := ?_) rfl (by kernel_rfl) (fun _ _ _ h => h) (Or.inl ⟨by rfl, ?_⟩) hHeld ?_; rotate_left
          · (intro W hSw; (try dsimp only at hSw); go_simp) <;> with_reducible rfl
          try simp only [Act.put, List.setIfInBounds_toArray, List.set_cons_zero, List.set_cons_succ]
          refine wpAnyG_take (i := 5) (v := ?_) rfl (by kernel_rfl) (fun _ _ _ h => h) (Or.inl ⟨by rfl, ?_⟩) hHeld ?_; rotate_left
          · (intro W hSw; (try dsimp only at hSw); go_simp) <;> with_reducible rfl
          try simp only [Act.put, List.setIfInBounds_toArray, List.set_cons_zero, List.set_cons_succ]
          refine wpAnyG_take (i := 6) (v := ?_) rfl (by kernel_rfl) (fun _ _ _ h => h) (Or.inl ⟨by rfl, ?_⟩) hHeld ?_; rotate_left
          · (intro W hSw; (try dsimp only at hSw); go_simp) <;> with_reducible rfl
          try simp only [Act.put, List.setIfInBounds_toArray, List.set_cons_zero, List.set_cons_succ]
          refine wpAnyG_take (i := 8) (v := ?_) rfl (by kernel_rfl) (fun _ _ _ h => h) (Or.inl ⟨by rfl, ?_⟩) hHeld ?_; rotate_left
          · (intro W hSw; (try dsimp only at hSw); go_simp) <;> with_reducible rfl
          try simp only [Act.put, List.setIfInBounds_toArray, List.set_cons_zero, List.set_cons_succ]
          refine wpAnyG_take (i := 9) (v := ?_) rfl (by kernel_rfl) (fun _ _ _ h => h) (Or.inl ⟨by rfl, ?_⟩) hHeld ?_; rotate_left
          · (intro W hSw; (try dsimp only at hSw); go_simp) <;> with_reducible rfl
          try simp only [Act.put, List.setIfInBounds_toArray, List.set_cons_zero, List.set_cons_succ]
          refine wpAnyG_take (i := 10) (v := ?_) rfl (by kernel_rfl) (fun _ _ _ h => h) (Or.inl ⟨by rfl, ?_⟩) hHeld ?_; rotate_left
          · (intro W hSw; (try dsimp only at hSw); go_simp) <;> with_reducible rfl
          try simp only [Act.put, List.setIfInBounds_toArray, List.set_cons_zero, List.set_cons_succ]
          refine wpAnyG_take (i := 11) (v := ?_) rfl (by kernel_rfl) (fun _ _ _ h => h) (Or.inl ⟨by rfl, ?_⟩) hHeld ?_; rotate_left
          · (intro W hSw; (try dsimp only at hSw); go_simp) <;> with_reducible rfl
          try simp only [Act.put, List.setIfInBounds_toArray, List.set_cons_zero, List.set_cons_succ]
          refine wpAnyG_take (i := 12) (v := ?_) rfl (by kernel_rfl) (fun _ _ _ h => h) (Or.inl ⟨by rfl, ?_⟩) hHeld ?_; rotate_left
          · (intro W hSw; (try dsimp only at hSw); go_simp) <;> with_reducible rfl
          try simp only [Act.put, List.setIfInBounds_toArray, List.set_cons_zero, List.set_cons_succ]
          refine wpAnyG_take (i := 13) (v := ?_) rfl (by kernel_rfl) (fun _ _ _ h => h) (Or.inl ⟨by rfl, ?_⟩) hHeld ?_; rotate_left
          · (intro W hSw; (try dsimp only at hSw); go_simp) <;> with_reducible rfl
          try simp only [Act.put, List.setIfInBounds_toArray, List.set_cons_zero, List.set_cons_succ]
          refine wpAnyG_take (i := 14) (v := ?_) rfl (by kernel_rfl) (fun _ _ _ h => h) (Or.inl ⟨by rfl, ?_⟩) hHeld ?_; rotate_left
          · (intro W hSw; (try dsimp only at hSw); go_simp) <;> with_reducible rfl
          try simp only [Act.put, List.setIfInBounds_toArray, List.set_cons_zero, List.set_cons_succ]
          refine wpAnyG_step (i := 7) rfl (by kernel_rfl) (fun K hK => ?_)
          go_simp
          refine (top_x _ _ _ _ _ _ q3 q4 q5 q6 q7 q8).mono ?_; rintro e w2 ⟨rfl, rfl⟩
          go_wp2_with fail
          refine hK.out _ _ (by go_keep) (fun hHeld => ?_)
          clear hK K
          try simp only [Act.put, List.setIfInBounds_toArray, List.set_cons_zero, List.set_cons_succ]
          refine wpAnyG_step (i := 15) rfl (by kernel_rfl) (fun K hK => ?_)
          go_simp
          refine (get_c _ _ _ _ hy0 hy1).mono ?_; rintro e w2 ⟨rfl, n1, rfl⟩
          go_wp2_with fail
          refine hK.out _ _ (by go_keep) (fun hHeld => ?_)
          clear hK K
          try simp only [Act.put, List.setIfInBounds_toArray, List.set_cons_zero, List.set_cons_succ]
          refine wpAnyG_step (i := 16) rfl (by kernel_rfl) (fun K hK => ?_)
          go_simp
          refine (put_c _ _ _ _ _ hA0 hA1 (getI_bd _ _ _ hy0 hy1).1 (getI_bd _ _ _ hy0 hy1).2).mono ?_; rintro e w2 ⟨rfl, n2, rfl⟩
          go_wp2_with fail
          refine hK.out _ _ (by go_keep) (fun hHeld => ?_)
          clear hK K
          try simp only [Act.put, List.setIfInBounds_toArray, List.set_cons_zero, List.set_cons_succ]
          refine wpAnyG_take (i := 17) (v := ?_) rfl (by kernel_rfl) (fun _ _ _ h => h) (Or.inl ⟨by rfl, ?_⟩) hHeld ?_; rotate_left
          · (intro W hSw; (try dsimp only at hSw); go_simp) <;> with_reducible rfl
          try simp only [Act.put, List.setIfInBounds_toArray, List.set_cons_zero, List.set_cons_succ]
          refine wpAnyG_last (n := 18) rfl (by kernel_rfl) (by kernel_rfl) (fun K hK => ?_)
          go_simp
          refine hK.out _ _ ?_
          go_wp2
          go_roundw
          case rel => exact ⟨i' + 1, (putI A (pa + phi - plo) pa (getI y phi plo)), B, by omega, by omega, rfl, Lib.hid (by rw [HN.out]; unfold putStep; rw [if_pos rfl]; rfl), (putI_bd _ _ _ _ hA0 hA1).1, (putI_bd _ _ _ _ hA0 hA1).2, hB0, hB1, by go_simp, by go_simp, by go_simp, by go_simp, by simp [World.setCell]; omega, below_drewN (((hbel.setCell (by show w.heap.size ≤ w'.heap.size; omega) _).alloc (by simp [World.setCell]; omega) _).alloc (by simp [World.setCell]; omega) _) _⟩
          case measure => simp [intOf]; omega
        · go_wp2
          refine wp_region_G 18 (S := (fun W => W.cell? ⟨wr.heap.size, 0, none⟩ = some (.int .i64 pk) ∧ W.cell? ⟨wr.heap.size, 1, none⟩ = some (.int .i64 1) ∧ W.cell? ⟨wr.heap.size, 2, none⟩ = some (.int .i64 pa) ∧ W.cell? ⟨wr.heap.size, 3, none⟩ = some (.int .i64 phi) ∧ W.cell? ⟨wr.heap.size, 4, none⟩ = some (.int .i64 plo) ∧ W.cell? ⟨w'.heap.size, 1, none⟩ = some (.int .u32 B))) (by kernel_rfl) (by go_keep) (fun hHeld => ?_)
          refine wpAnyG_take (i := 0) (v := ?_) rfl (by kernel_rfl) (fun _ _ _ h => h) (Or.inl ⟨by rfl, ?_⟩) hHeld ?_; rotate_left
          · (intro W hSw; (try dsimp only at hSw); go_simp) <;> with_reducible rfl
          try simp only [Act.put, List.setIfInBounds_toArray, List.set_cons_zero, List.set_cons_succ]
          refine wpAnyG_take (i := 1) (v := ?_) rfl (by kernel_rfl) (fun _ _ _ h => h) (Or.inl ⟨by rfl, ?_⟩) hHeld ?_; rotate_left
          · (intro W hSw; (try dsimp only at hSw); go_simp) <;> with_reducible rfl
          try simp only [Act.put, List.setIfInBounds_toArray, List.set_cons_zero, List.set_cons_succ]
          refine wpAnyG_take (i := 2) (v := ?_) rfl (by kernel_rfl) (fun _ _ _ h => h) (Or.inl ⟨by rfl, ?_⟩) hHeld ?_; rotate_left
          · (intro W hSw; (try dsimp only at hSw); go_simp) <;> with_reducible rfl
          try simp only [Act.put, List.setIfInBounds_toArray, List.set_cons_zero, List.set_cons_succ]
          refine wpAnyG_take (i := 3) (v := ?_) rfl (by kernel_rfl) (fun _ _ _ h => h) (Or.inl ⟨by rfl, ?_⟩) hHeld ?_; rotate_left
          · (intro W hSw; (try dsimp only at hSw); go_simp) <;> with_reducible rfl
          try simp only [Act.put, List.setIfInBounds_toArray, List.set_cons_zero, List.set_cons_succ]
          refine wpAnyG_take (i := 4) (v := ?_) rfl (by kernel_rfl) (fun _ _ _ h => h) (Or.inl ⟨by rfl, ?_⟩) hHeld ?_; rotate_left
          · (intro W hSw; (try dsimp only at hSw); go_simp) <;> with_reducible rfl
          try simp only [Act.put, List.setIfInBounds_toArray, List.set_cons_zero, List.set_cons_succ]
          refine wpAnyG_take (i := 5) (v := ?_) rfl (by kernel_rfl) (fun _ _ _ h => h) (Or.inl ⟨by rfl, ?_⟩) hHeld ?_; rotate_left
          · (intro W hSw; (try dsimp only at hSw); go_simp) <;> with_reducible rfl
          try simp only [Act.put, List.setIfInBounds_toArray, List.set_cons_zero, List.set_cons_succ]
          refine wpAnyG_take (i := 6) (v := ?_) rfl (by kernel_rfl) (fun _ _ _ h => h) (Or.inl ⟨by rfl, ?_⟩) hHeld ?_; rotate_left
          · (intro W hSw; (try dsimp only at hSw); go_simp) <;> with_reducible rfl
          try simp only [Act.put, List.setIfInBounds_toArray, List.set_cons_zero, List.set_cons_succ]
          refine wpAnyG_take (i := 8) (v := ?_) rfl (by kernel_rfl) (fun _ _ _ h => h) (Or.inl ⟨by rfl, ?_⟩) hHeld ?_; rotate_left
          · (intro W hSw; (try dsimp only at hSw); go_simp) <;> with_reducible rfl
          try simp only [Act.put, List.setIfInBounds_toArray, List.set_cons_zero, List.set_cons_succ]
          refine wpAnyG_take (i := 9) (v := ?_) rfl (by kernel_rfl) (fun _ _ _ h => h) (Or.inl ⟨by rfl, ?_⟩) hHeld ?_; rotate_left
          · (intro W hSw; (try dsimp only at hSw); go_simp) <;> with_reducible rfl
          try simp only [Act.put, List.setIfInBounds_toArray, List.set_cons_zero, List.set_cons_succ]
          refine wpAnyG_take (i := 10) (v := ?_) rfl (by kernel_rfl) (fun _ _ _ h => h) (Or.inl ⟨by rfl, ?_⟩) hHeld ?_; rotate_left
          · (intro W hSw; (try dsimp only at hSw); go_simp) <;> with_reducible rfl
          try simp only [Act.put, List.setIfInBounds_toArray, List.set_cons_zero, List.set_cons_succ]
          refine wpAnyG_take (i := 11) (v := ?_) rfl (by kernel_rfl) (fun _ _ _ h => h) (Or.inl ⟨by rfl, ?_⟩) hHeld ?_; rotate_left
          · (intro W hSw; (try dsimp only at hSw); go_simp) <;> with_reducible rfl
          try simp only [Act.put, List.setIfInBounds_toArray, List.set_cons_zero, List.set_cons_succ]
          refine wpAnyG_take (i := 12) (v := ?_) rfl (by kernel_rfl) (fun _ _ _ h => h) (Or.inl ⟨by rfl, ?_⟩) hHeld ?_; rotate_left
          · (intro W hSw; (try dsimp only at hSw); go_simp) <;> with_reducible rfl
          try simp only [Act.put, List.setIfInBounds_toArray, List.set_cons_zero, List.set_cons_succ]
          refine wpAnyG_take (i := 13) (v := ?_) rfl (by kernel_rfl) (fun _ _ _ h => h) (Or.inl ⟨by rfl, ?_⟩) hHeld ?_; rotate_left
          · (intro W hSw; (try dsimp only at hSw); go_simp) <;> with_reducible rfl
          try simp only [Act.put, List.setIfInBounds_toArray, List.set_cons_zero, List.set_cons_succ]
          refine wpAnyG_take (i := 14) (v := ?_) rfl (by kernel_rfl) (fun _ _ _ h => h) (Or.inl ⟨by rfl, ?_⟩) hHeld ?_; rotate_left
          · (intro W hSw; (try dsimp only at hSw); go_simp) <;> with_reducible rfl
          try simp only [Act.put, List.setIfInBounds_toArray, List.set_cons_zero, List.set_cons_succ]
          refine wpAnyG_step (i := 7) rfl (by kernel_rfl) (fun K hK => ?_)
          go_simp
          refine (top_x _ _ _ _ _ _ q3 q4 q5 q6 q7 q8).mono ?_; rintro e w2 ⟨rfl, rfl⟩
          go_wp2_with fail
          refine hK.out _ _ (by go_keep) (fun hHeld => ?_)
          clear hK K
          try simp only [Act.put, List.setIfInBounds_toArray, List.set_cons_zero, List.set_cons_succ]
          refine wpAnyG_step (i := 15) rfl (by kernel_rfl) (fun K hK => ?_)
          go_simp
          refine (get_c _ _ _ _ hy0 hy1).mono ?_; rintro e w2 ⟨rfl, n1, rfl⟩
          go_wp2_with fail
          refine hK.out _ _ (by go_keep) (fun hHeld => ?_)
          clear hK K
          try simp only [Act.put, List.setIfInBounds_toArray, List.set_cons_zero, List.set_cons_succ]
          refine wpAnyG_step (i := 16) rfl (by kernel_rfl) (fun K hK => ?_)
          go_simp
          refine (put_c _ _ _ _ _ hB0 hB1 (getI_bd _ _ _ hy0 hy1).1 (getI_bd _ _ _ hy0 hy1).2).mono ?_; rintro e w2 ⟨rfl, n2, rfl⟩
          go_wp2_with fail
          refine hK.out _ _ (by go_keep) (fun hHeld => ?_)
          clear hK K
          try simp only [Act.put, List.setIfInBounds_toArray, List.set_cons_zero, List.set_cons_succ]
          refine wpAnyG_take (i := 17) (v := ?_) rfl (by kernel_rfl) (fun _ _ _ h => h) (Or.inl ⟨by rfl, ?_⟩) hHeld ?_; rotate_left
          · (intro W hSw; (try dsimp only at hSw); go_simp) <;> with_reducible rfl
          try simp only [Act.put, List.setIfInBounds_toArray, List.set_cons_zero, List.set_cons_succ]
          refine wpAnyG_last (n := 18) rfl (by kernel_rfl) (by kernel_rfl) (fun K hK => ?_)
          go_simp
          refine hK.out _ _ ?_
          go_wp2
          go_roundw
          case rel => exact ⟨i' + 1, A, (putI B (pa + phi - plo) pa (getI y phi plo)), by omega, by omega, rfl, Lib.hid (by rw [HN.out]; unfold putStep; rw [if_pos rfl]; rfl), hA0, hA1, (putI_bd _ _ _ _ hB0 hB1).1, (putI_bd _ _ _ _ hB0 hB1).2, by go_simp, by go_simp, by go_simp, by go_simp, by simp [World.setCell]; omega, below_drewN (((hbel.setCell (by show w.heap.size ≤ w'.heap.size; omega) _).alloc (by simp [World.setCell]; omega) _).alloc (by simp [World.setCell]; omega) _) _⟩
          case measure => simp [intOf]; omega
      · have hB : (pk == k) = false := by simp [hkk]
        have HK := Lib.hid hkk
        clear hkk
        go_wp2
        go_roundw
        case rel => exact ⟨i' + 1, A, B, by omega, by omega, rfl, Lib.hid (by rw [HN.out]; unfold putStep; rw [if_neg HK.out]), hA0, hA1, hB0, hB1, by go_simp, by go_simp, by go_simp, by go_simp, by simp; omega, hbel.alloc (by omega) _⟩
        case measure => simp [intOf]; omega
    · have HX2 := Lib.hid (show putTo k y 14 = (A, B) by rw [← HX.out, show i'.toNat = 14 by omega])
      clear HX
      go_wp2
      go_quiet (fail)
      go_wp2
      go_ret2
      exact ⟨ret_pair (by rw [HX2.out]) (by rw [HX2.out]), below_drewN hbel _⟩
end Go.Proofs.YthpoficikcicmaaDoor
