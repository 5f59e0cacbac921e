/- Contract of the program's Put of offsets: a loop over the table of pieces that stores into the halfwords. Plain facts on offsets in pieces: what the program's two loops come to, as sums of products; that they are there and back. No memory, no calls; no conditions but those that each fact names. Contracts of the document's own answers on offsets: low, high, Fits, bit, Put, Get. Contracts of the document's own Put and Get of offsets. -/
import Derived.Test.YthpoficikcicmaaDoorRows
import Derived.Test.YthpoficikcicmaaDoorGb
import Derived.Test.YthpoficikcicmaaDoorGc
import Derived.Lib.EndianBits

namespace Go.Proofs.YthpoficikcicmaaDoor
open Go.ChangeShapes Go.WideShapes Go.ChangeAt Go.RowKit

/-- one piece written: out of x into the halfwords -/
def putStep (k x : Int) (p : Piece) (s : Int × Int) : Int × Int :=
  if p.k = k then (if p.h = 0 then (putI s.1 (p.a + p.hi - p.lo) p.a (getI x p.hi p.lo), s.2) else (s.1, putI s.2 (p.a + p.hi - p.lo) p.a (getI x p.hi p.lo))) else s
def putTo (k x : Int) : Nat → Int × Int
  | 0 => (0, 0)
  | n + 1 => putStep k x (pieceAt n) (putTo k x n)
def putA (k off : Int) : Int := (putTo k (crossI k (off % 4294967296)) 14).1
def putB (k off : Int) : Int := (putTo k (crossI k (off % 4294967296)) 14).2

theorem range_later' {w : World} {cs : List Value} (h : w.rangeAt 1 0 cs) (hs : 1 < w.heap.size) (o : Obj) (n : Nat) : ((w.drewN n).alloc o).rangeAt 1 0 cs := fun j v hv =>
  (World.cell?_alloc_lt w o ⟨1, 0 + j, none⟩ hs).trans (h j v hv)

/-- the piece's block, behind the store into the halfwords and the block that its method makes -/
theorem new_cell (wr : World) (a : Addr) (v : Value) (c : Array Value) (t : TypeId) (o : Obj) (n j : Nat) : (((((wr.setCell a v).alloc (.cells c t)).alloc o)).drewN n).cell? ⟨wr.heap.size, j, none⟩ = c[j]? := by
  have e : (wr.setCell a v).heap.size = wr.heap.size := by simp [World.setCell]
  have h := World.cell?_alloc_lt ((wr.setCell a v).alloc (.cells c t)) o ⟨wr.heap.size, j, none⟩ (by show wr.heap.size < _; simp [World.alloc, e])
  have h2 := World.cell?_alloc_new (wr.setCell a v) c t j
  rw [e] at h2
  exact h.trans h2

theorem ret_pair {a b c d : Int} (h1 : a = c) (h2 : b = d) : Ending.returned (.tuple #[.int .i64 a, .int .i64 b]) = .returned (.tuple #[.int .i64 c, .int .i64 d]) := by rw [h1, h2]

theorem oput_no (k off : Int) (w : World) (hT : Tabs w) (hf : fitsB k off = false) :
    Calls Tryd.prog 39 #[.int .i64 k, .int .i64 off] w fun e w' => e = .returned (.tuple #[.int .i64 0, .int .i64 0]) ∧ Below w.heap.size w w' := by
  go_enter Tryd.func39, Tryd.ntmps39
  go_wp2_with ((go_at_call 38; refine (fits_c _ _ _ hT).mono ?_; rintro e w' ⟨rfl, hbel0⟩; rw [hf]))
  go_ret2
  exact ⟨rfl, hbel0⟩

set_option linter.unusedSimpArgs false in
set_option maxHeartbeats 2000000 in
theorem oput_c (k off : Int) (w : World) (hT : Tabs w) (hf : fitsB k off = true) :
    Calls Tryd.prog 39 #[.int .i64 k, .int .i64 off] w fun e w' => e = .returned (.tuple #[.int .i64 (putA k off), .int .i64 (putB k off)]) ∧ Below w.heap.size w w' := by
  unfold putA putB
  obtain ⟨x, e0⟩ : ∃ h, off % 4294967296 = h := ⟨_, rfl⟩
  have hx0 : 0 ≤ x := by omega
  have hx1 : x < 4294967296 := by omega
  have hy := cross_bd k x hx0 hx1
  rw [e0]
  obtain ⟨y, ey⟩ : ∃ y, crossI k x = y := ⟨_, rfl⟩
  rw [ey] at hy ⊢
  go_enter Tryd.func39, Tryd.ntmps39
  go_wp2_with (first
    | (go_at_call 38; refine (fits_c _ _ _ hT).mono ?_; rintro e w' ⟨rfl, hbel0⟩; rw [hf])
    | (go_at_call 60; refine (cross_c _ _ _ hx0 hx1).mono ?_; rintro e w' ⟨rfl, n, rfl⟩)
    | (refine wpList_load_mid rfl 85 (.global 1) rfl 1 0 rfl pieceCells _ (range_later (hT.below hbel0 hT.big).p (Nat.lt_of_lt_of_le (by have := hT.big; omega) hbel0.size) _ _) underP rfl infoP ?_))
  clear e0 ey
  have hbig : w.heap.size ≤ w'.heap.size := hbel0.size
  have hrange := hT.big
  clear hT
  obtain ⟨hy0, hy1⟩ := hy
  go_loopw [19] (fun is wr => ∃ i' A B : Int, 0 ≤ i' ∧ i' ≤ 14 ∧ is = .int .i64 i' ∧ RowKit.Hid (putTo k y i'.toNat = (A, B)) ∧ 0 ≤ A ∧ A < 4294967296 ∧ 0 ≤ B ∧ B < 4294967296 ∧
    wr.cell? ⟨w'.heap.size, 0, none⟩ = some (.int .u32 A) ∧ wr.cell? ⟨w'.heap.size, 1, none⟩ = some (.int .u32 B) ∧ wr.frozen? ⟨w'.heap.size, 0, none⟩ = false ∧ wr.frozen? ⟨w'.heap.size, 1, none⟩ = false ∧ w'.heap.size < wr.heap.size ∧ Below w.heap.size w wr) (fun is _ => (14 - intOf is).toNat)
  case atStart => exact ⟨0, 0, 0, by omega, by omega, rfl, Lib.hid rfl, by omega, by omega, by omega, by omega, by go_simp, by go_simp, by go_simp, by go_simp, by simp, below_drewN (hbel0.alloc (by omega) _) _⟩
  case round =>
    obtain ⟨i', A, B, hi0, hi1, rfl, HX, hA0, hA1, hB0, hB1, hc0, hc1, hf0, hf1, hlt, hbel⟩ := hrel
    by_cases hi : i' < 14
    · have hidx : ∀ W : World, (Instr.index 85 (.agg pieceCells.toArray) (.int .i64 i')).run Tryd.prog W = .ok (cellsOfPiece (pieceAt i'.toNat)) W := fun W => by
        have h := index_piece i'.toNat (by omega) W
        rwa [show ((i'.toNat : Nat) : Int) = i' by omega] at h
      have hok := piece_ok i'.toNat (by omega)
      have HN := Lib.hid (show putTo k y (i' + 1).toNat = putStep k y (pieceAt i'.toNat) (A, B) by
        rw [show (i' + 1).toNat = i'.toNat + 1 by omega, ← HX.out]; rfl)
      clear HX
      generalize pieceAt i'.toNat = p at *
      obtain ⟨pk, ph, pa, phi, plo⟩ := p
      unfold cellsOfPiece at hidx
      dsimp only at hidx
      obtain ⟨q1, q2, q3, q4, q5, q6, q7, q8⟩ := hok
      dsimp only at q1 q2 q3 q4 q5 q6 q7 q8
      by_cases hkk : pk = k
      · have hB : (pk == k) = true := by simp [hkk]
        subst hkk
        rcases (by omega : ph = 0 ∨ ph = 1) with rfl | rfl
        · go_wp2
          refine wp_region_G 18 (S := (fun W => W.cell? ⟨wr.heap.size, 0, none⟩ = some (.int .i64 pk) ∧ W.cell? ⟨wr.heap.size, 1, none⟩ = some (.int .i64 0) ∧ W.cell? ⟨wr.heap.size, 2, none⟩ = some (.int .i64 pa) ∧ W.cell? ⟨wr.heap.size, 3, none⟩ = some (.int .i64 phi) ∧ W.cell? ⟨wr.heap.size, 4, none⟩ = some (.int .i64 plo) ∧ W.cell? ⟨w'.heap.size, 0, none⟩ = some (.int .u32 A))) (by kernel_rfl) (by go_keep) (fun hHeld => ?_)
          refine wpAnyG_take (i := 0) (v := ?_) rfl (by kernel_rfl) (fun _ _ _ h => h) (Or.inl ⟨by rfl, ?_⟩) hHeld ?_; rotate_left
          · (intro W hSw; (try dsimp only at hSw); go_simp) <;> with_reducible rfl
          try simp only [Act.put, List.setIfInBounds_toArray, List.set_cons_zero, List.set_cons_succ]
          refine wpAnyG_take (i := 1) (v := ?_) rfl (by kernel_rfl) (fun _ _ _ h => h) (Or.inl ⟨by rfl, ?_⟩) hHeld ?_; rotate_left
          · (intro W hSw; (try dsimp only at hSw); go_simp) <;> with_reducible rfl
          try simp only [Act.put, List.setIfInBounds_toArray, List.set_cons_zero, List.set_cons_succ]
          refine wpAnyG_take (i := 2) (v := ?_) rfl (by kernel_rfl) (fun _ _ _ h => h) (Or.inl ⟨by rfl, ?_⟩) hHeld ?_; rotate_left
          · (intro W hSw; (try dsimp only at hSw); go_simp) <;> with_reducible rfl
          try simp only [Act.put, List.setIfInBounds_toArray, List.set_cons_zero, List.set_cons_succ]
          refine wpAnyG_take (i := 3) (v := ?_) rfl (by kernel_rfl) (fun _ _ _ h => h) (Or.inl ⟨by rfl, ?_⟩) hHeld ?_; rotate_left
          · (intro W hSw; (try dsimp only at hSw); go_simp) <;> with_reducible rfl
          try simp only [Act.put, List.setIfInBounds_toArray, List.set_cons_zero, List.set_cons_succ]
          refine wpAnyG_take (i := 4) (v := ?_) rfl (by kernel_rfl) (fun _ _ _ h => h) (Or.inl ⟨by rfl, ?_⟩) hHeld ?_; rotate_left
          · (intro W hSw; (try dsimp only at hSw); go_simp) <;> with_reducible rfl
          try simp only [Act.put, List.setIfInBounds_toArray, List.set_cons_zero, List.set_cons_succ]
          refine wpAnyG_take (i := 5) (v := ?_) rfl (by kernel_rfl) (fun _ _ _ h => h) (Or.inl ⟨by rfl, ?_⟩) hHeld ?_; rotate_left
          · (intro W hSw; (try dsimp only at hSw); go_simp) <;> with_reducible rfl
          try simp only [Act.put, List.setIfInBounds_toArray, List.set_cons_zero, List.set_cons_succ]
          refine wpAnyG_take (i := 6) (v := ?_) rfl (by kernel_rfl) (fun _ _ _ h => h) (Or.inl ⟨by rfl, ?_⟩) hHeld ?_; rotate_left
          · (intro W hSw; (try dsimp only at hSw); go_simp) <;> with_reducible rfl
          try simp only [Act.put, List.setIfInBounds_toArray, List.set_cons_zero, List.set_cons_succ]
          refine wpAnyG_take (i := 8) (v := ?_) rfl (by kernel_rfl) (fun _ _ _ h => h) (Or.inl ⟨by rfl, ?_⟩) hHeld ?_; rotate_left
          · (intro W hSw; (try dsimp only at hSw); go_simp) <;> with_reducible rfl
          try simp only [Act.put, List.setIfInBounds_toArray, List.set_cons_zero, List.set_cons_succ]
          refine wpAnyG_take (i := 9) (v := ?_) rfl (by kernel_rfl) (fun _ _ _ h => h) (Or.inl ⟨by rfl, ?_⟩) hHeld ?_; rotate_left
          · (intro W hSw; (try dsimp only at hSw); go_simp) <;> with_reducible rfl
          try simp only [Act.put, List.setIfInBounds_toArray, List.set_cons_zero, List.set_cons_succ]
          refine wpAnyG_take (i := 10) (v := ?_) rfl (by kernel_rfl) (fun _ _ _ h => h) (Or.inl ⟨by rfl, ?_⟩) hHeld ?_; rotate_left
          · (intro W hSw; (try dsimp only at hSw); go_simp) <;> with_reducible rfl
          try simp only [Act.put, List.setIfInBounds_toArray, List.set_cons_zero, List.set_cons_succ]
          refine wpAnyG_take (i := 11) (v := ?_) rfl (by kernel_rfl) (fun _ _ _ h => h) (Or.inl ⟨by rfl, ?_⟩) hHeld ?_; rotate_left
          · (intro W hSw; (try dsimp only at hSw); go_simp) <;> with_reducible rfl
          try simp only [Act.put, List.setIfInBounds_toArray, List.set_cons_zero, List.set_cons_succ]
          refine wpAnyG_take (i := 12) (v := ?_) rfl (by kernel_rfl) (fun _ _ _ h => h) (Or.inl ⟨by rfl, ?_⟩) hHeld ?_; rotate_left
          · (intro W hSw; (try dsimp only at hSw); go_simp) <;> with_reducible rfl
          try simp only [Act.put, List.setIfInBounds_toArray, List.set_cons_zero, List.set_cons_succ]
          refine wpAnyG_take (i := 13) (v := ?_) rfl (by kernel_rfl) (fun _ _ _ h => h) (Or.inl ⟨by rfl, ?_⟩) hHeld ?_; rotate_left
          · (intro W hSw; (try dsimp only at hSw); go_simp) <;> with_reducible rfl
          try simp only [Act.put, List.setIfInBounds_toArray, List.set_cons_zero, List.set_cons_succ]
          refine wpAnyG_take (i := 14) (v := ?_) rfl (by kernel_rfl) (fun _ _ _ h => h) (Or.inl ⟨by rfl, ?_⟩) hHeld ?_; rotate_left
          · (intro W hSw; (try dsimp only at hSw); go_simp) <;> with_reducible rfl
          try simp only [Act.put, List.setIfInBounds_toArray, List.set_cons_zero, List.set_cons_succ]
          refine wpAnyG_step (i := 7) rfl (by kernel_rfl) (fun K hK => ?_)
          go_simp
          refine (top_x _ _ _ _ _ _ q3 q4 q5 q6 q7 q8).mono ?_; rintro e w2 ⟨rfl, rfl⟩
          go_wp2_with fail
          refine hK.out _ _ (by go_keep) (fun hHeld => ?_)
          clear hK K
          try simp only [Act.put, List.setIfInBounds_toArray, List.set_cons_zero, List.set_cons_succ]
          refine wpAnyG_step (i := 15) rfl (by kernel_rfl) (fun K hK => ?_)
          go_simp
          refine (get_c _ _ _ _ hy0 hy1).mono ?_; rintro e w2 ⟨rfl, n1, rfl⟩
          go_wp2_with fail
          refine hK.out _ _ (by go_keep) (fun hHeld => ?_)
          clear hK K
          try simp only [Act.put, List.setIfInBounds_toArray, List.set_cons_zero, List.set_cons_succ]
          refine wpAnyG_step (i := 16) rfl (by kernel_rfl) (fun K hK => ?_)
          go_simp
          refine (put_c _ _ _ _ _ hA0 hA1 (getI_bd _ _ _ hy0 hy1).1 (getI_bd _ _ _ hy0 hy1).2).mono ?_; rintro e w2 ⟨rfl, n2, rfl⟩
          go_wp2_with fail
          refine hK.out _ _ (by go_keep) (fun hHeld => ?_)
          clear hK K
          try simp only [Act.put, List.setIfInBounds_toArray, List.set_cons_zero, List.set_cons_succ]
          refine wpAnyG_take (i := 17) (v := ?_) rfl (by kernel_rfl) (fun _ _ _ h => h) (Or.inl ⟨by rfl, ?_⟩) hHeld ?_; rotate_left
          · (intro W hSw; (try dsimp only at hSw); go_simp) <;> with_reducible rfl
          try simp only [Act.put, List.setIfInBounds_toArray, List.set_cons_zero, List.set_cons_succ]
          refine wpAnyG_last (n := 18) rfl (by kernel_rfl) (by kernel_rfl) (fun K hK => ?_)
          go_simp
          refine hK.out _ _ ?_
          go_wp2
          go_roundw
          case rel => exact ⟨i' + 1, (putI A (pa + phi - plo) pa (getI y phi plo)), B, by omega, by omega, rfl, Lib.hid (by rw [HN.out]; unfold putStep; rw [if_pos rfl]; rfl), (putI_bd _ _ _ _ hA0 hA1).1, (putI_bd _ _ _ _ hA0 hA1).2, hB0, hB1, by go_simp, by go_simp, by go_simp, by go_simp, by simp [World.setCell]; omega, below_drewN (((hbel.setCell (by show w.heap.size ≤ w'.heap.size; omega) _).alloc (by simp [World.setCell]; omega) _).alloc (by simp [World.setCell]; omega) _) _⟩
          case measure => simp [intOf]; omega
        · go_wp2
          refine wp_region_G 18 (S := (fun W => W.cell? ⟨wr.heap.size, 0, none⟩ = some (.int .i64 pk) ∧ W.cell? ⟨wr.heap.size, 1, none⟩ = some (.int .i64 1) ∧ W.cell? ⟨wr.heap.size, 2, none⟩ = some (.int .i64 pa) ∧ W.cell? ⟨wr.heap.size, 3, none⟩ = some (.int .i64 phi) ∧ W.cell? ⟨wr.heap.size, 4, none⟩ = some (.int .i64 plo) ∧ W.cell? ⟨w'.heap.size, 1, none⟩ = some (.int .u32 B))) (by kernel_rfl) (by go_keep) (fun hHeld => ?_)
          refine wpAnyG_take (i := 0) (v := ?_) rfl (by kernel_rfl) (fun _ _ _ h => h) (Or.inl ⟨by rfl, ?_⟩) hHeld ?_; rotate_left
          · (intro W hSw; (try dsimp only at hSw); go_simp) <;> with_reducible rfl
          try simp only [Act.put, List.setIfInBounds_toArray, List.set_cons_zero, List.set_cons_succ]
          refine wpAnyG_take (i := 1) (v := ?_) rfl (by kernel_rfl) (fun _ _ _ h => h) (Or.inl ⟨by rfl, ?_⟩) hHeld ?_; rotate_left
          · (intro W hSw; (try dsimp only at hSw); go_simp) <;> with_reducible rfl
          try simp only [Act.put, List.setIfInBounds_toArray, List.set_cons_zero, List.set_cons_succ]
          refine wpAnyG_take (i := 2) (v := ?_) rfl (by kernel_rfl) (fun _ _ _ h => h) (Or.inl ⟨by rfl, ?_⟩) hHeld ?_; rotate_left
          · (intro W hSw; (try dsimp only at hSw); go_simp) <;> with_reducible rfl
          try simp only [Act.put, List.setIfInBounds_toArray, List.set_cons_zero, List.set_cons_succ]
          refine wpAnyG_take (i := 3) (v := ?_) rfl (by kernel_rfl) (fun _ _ _ h => h) (Or.inl ⟨by rfl, ?_⟩) hHeld ?_; rotate_left
          · (intro W hSw; (try dsimp only at hSw); go_simp) <;> with_reducible rfl
          try simp only [Act.put, List.setIfInBounds_toArray, List.set_cons_zero, List.set_cons_succ]
          refine wpAnyG_take (i := 4) (v := ?_) rfl (by kernel_rfl) (fun _ _ _ h => h) (Or.inl ⟨by rfl, ?_⟩) hHeld ?_; rotate_left
          · (intro W hSw; (try dsimp only at hSw); go_simp) <;> with_reducible rfl
          try simp only [Act.put, List.setIfInBounds_toArray, List.set_cons_zero, List.set_cons_succ]
          refine wpAnyG_take (i := 5) (v := ?_) rfl (by kernel_rfl) (fun _ _ _ h => h) (Or.inl ⟨by rfl, ?_⟩) hHeld ?_; rotate_left
          · (intro W hSw; (try dsimp only at hSw); go_simp) <;> with_reducible rfl
          try simp only [Act.put, List.setIfInBounds_toArray, List.set_cons_zero, List.set_cons_succ]
          refine wpAnyG_take (i := 6) (v := ?_) rfl (by kernel_rfl) (fun _ _ _ h => h) (Or.inl ⟨by rfl, ?_⟩) hHeld ?_; rotate_left
          · (intro W hSw; (try dsimp only at hSw); go_simp) <;> with_reducible rfl
          try simp only [Act.put, List.setIfInBounds_toArray, List.set_cons_zero, List.set_cons_succ]
          refine wpAnyG_take (i := 8) (v := ?_) rfl (by kernel_rfl) (fun _ _ _ h => h) (Or.inl ⟨by rfl, ?_⟩) hHeld ?_; rotate_left
          · (intro W hSw; (try dsimp only at hSw); go_simp) <;> with_reducible rfl
          try simp only [Act.put, List.setIfInBounds_toArray, List.set_cons_zero, List.set_cons_succ]
          refine wpAnyG_take (i := 9) (v := ?_) rfl (by kernel_rfl) (fun _ _ _ h => h) (Or.inl ⟨by rfl, ?_⟩) hHeld ?_; rotate_left
          · (intro W hSw; (try dsimp only at hSw); go_simp) <;> with_reducible rfl
          try simp only [Act.put, List.setIfInBounds_toArray, List.set_cons_zero, List.set_cons_succ]
          refine wpAnyG_take (i := 10) (v := ?_) rfl (by kernel_rfl) (fun _ _ _ h => h) (Or.inl ⟨by rfl, ?_⟩) hHeld ?_; rotate_left
          · (intro W hSw; (try dsimp only at hSw); go_simp) <;> with_reducible rfl
          try simp only [Act.put, List.setIfInBounds_toArray, List.set_cons_zero, List.set_cons_succ]
          refine wpAnyG_take (i := 11) (v := ?_) rfl (by kernel_rfl) (fun _ _ _ h => h) (Or.inl ⟨by rfl, ?_⟩) hHeld ?_; rotate_left
          · (intro W hSw; (try dsimp only at hSw); go_simp) <;> with_reducible rfl
          try simp only [Act.put, List.setIfInBounds_toArray, List.set_cons_zero, List.set_cons_succ]
          refine wpAnyG_take (i := 12) (v := ?_) rfl (by kernel_rfl) (fun _ _ _ h => h) (Or.inl ⟨by rfl, ?_⟩) hHeld ?_; rotate_left
          · (intro W hSw; (try dsimp only at hSw); go_simp) <;> with_reducible rfl
          try simp only [Act.put, List.setIfInBounds_toArray, List.set_cons_zero, List.set_cons_succ]
          refine wpAnyG_take (i := 13) (v := ?_) rfl (by kernel_rfl) (fun _ _ _ h => h) (Or.inl ⟨by rfl, ?_⟩) hHeld ?_; rotate_left
          · (intro W hSw; (try dsimp only at hSw); go_simp) <;> with_reducible rfl
          try simp only [Act.put, List.setIfInBounds_toArray, List.set_cons_zero, List.set_cons_succ]
          refine wpAnyG_take (i := 14) (v := ?_) rfl (by kernel_rfl) (fun _ _ _ h => h) (Or.inl ⟨by rfl, ?_⟩) hHeld ?_; rotate_left
          · (intro W hSw; (try dsimp only at hSw); go_simp) <;> with_reducible rfl
          try simp only [Act.put, List.setIfInBounds_toArray, List.set_cons_zero, List.set_cons_succ]
          refine wpAnyG_step (i := 7) rfl (by kernel_rfl) (fun K hK => ?_)
          go_simp
          refine (top_x _ _ _ _ _ _ q3 q4 q5 q6 q7 q8).mono ?_; rintro e w2 ⟨rfl, rfl⟩
          go_wp2_with fail
          refine hK.out _ _ (by go_keep) (fun hHeld => ?_)
          clear hK K
          try simp only [Act.put, List.setIfInBounds_toArray, List.set_cons_zero, List.set_cons_succ]
          refine wpAnyG_step (i := 15) rfl (by kernel_rfl) (fun K hK => ?_)
          go_simp
          refine (get_c _ _ _ _ hy0 hy1).mono ?_; rintro e w2 ⟨rfl, n1, rfl⟩
          go_wp2_with fail
          refine hK.out _ _ (by go_keep) (fun hHeld => ?_)
          clear hK K
          try simp only [Act.put, List.setIfInBounds_toArray, List.set_cons_zero, List.set_cons_succ]
          refine wpAnyG_step (i := 16) rfl (by kernel_rfl) (fun K hK => ?_)
          go_simp
          refine (put_c _ _ _ _ _ hB0 hB1 (getI_bd _ _ _ hy0 hy1).1 (getI_bd _ _ _ hy0 hy1).2).mono ?_; rintro e w2 ⟨rfl, n2, rfl⟩
          go_wp2_with fail
          refine hK.out _ _ (by go_keep) (fun hHeld => ?_)
          clear hK K
          try simp only [Act.put, List.setIfInBounds_toArray, List.set_cons_zero, List.set_cons_succ]
          refine wpAnyG_take (i := 17) (v := ?_) rfl (by kernel_rfl) (fun _ _ _ h => h) (Or.inl ⟨by rfl, ?_⟩) hHeld ?_; rotate_left
          · (intro W hSw; (try dsimp only at hSw); go_simp) <;> with_reducible rfl
          try simp only [Act.put, List.setIfInBounds_toArray, List.set_cons_zero, List.set_cons_succ]
          refine wpAnyG_last (n := 18) rfl (by kernel_rfl) (by kernel_rfl) (fun K hK => ?_)
          go_simp
          refine hK.out _ _ ?_
          go_wp2
          go_roundw
          case rel => exact ⟨i' + 1, A, (putI B (pa + phi - plo) pa (getI y phi plo)), by omega, by omega, rfl, Lib.hid (by rw [HN.out]; unfold putStep; rw [if_pos rfl]; rfl), hA0, hA1, (putI_bd _ _ _ _ hB0 hB1).1, (putI_bd _ _ _ _ hB0 hB1).2, by go_simp, by go_simp, by go_simp, by go_simp, by simp [World.setCell]; omega, below_drewN (((hbel.setCell (by show w.heap.size ≤ w'.heap.size; omega) _).alloc (by simp [World.setCell]; omega) _).alloc (by simp [World.setCell]; omega) _) _⟩
          case measure => simp [intOf]; omega
      · have hB : (pk == k) = false := by simp [hkk]
        have HK := Lib.hid hkk
        clear hkk
        go_wp2
        go_roundw
        case rel => exact ⟨i' + 1, A, B, by omega, by omega, rfl, Lib.hid (by rw [HN.out]; unfold putStep; rw [if_neg HK.out]), hA0, hA1, hB0, hB1, by go_simp, by go_simp, by go_simp, by go_simp, by simp; omega, hbel.alloc (by omega) _⟩
        case measure => simp [intOf]; omega
    · have HX2 := Lib.hid (show putTo k y 14 = (A, B) by rw [← HX.out, show i'.toNat = 14 by omega])
      clear HX
      go_wp2
      go_quiet (fail)
      go_wp2
      go_ret2
      exact ⟨ret_pair (by rw [HX2.out]) (by rw [HX2.out]), below_drewN hbel _⟩
end Go.Proofs.YthpoficikcicmaaDoor

namespace Go.Proofs.YthpoficikcicmaaDoor
open Go.ChangeShapes Go.WideShapes Go.ChangeAt Go.RowKit
namespace Om

/-! fields as quotients and rests -/
theorem putU_add {X lo n V : Nat} (hX : X < 4294967296) (h : lo + n ≤ 32) (hz : X / 2 ^ lo % 2 ^ n = 0) (hV : V < 2 ^ n) : Bm.putU X lo n V = X + V * 2 ^ lo := by
  have hlt : V * 2 ^ lo < 2 ^ (lo + n) := by rw [Nat.pow_add, Nat.mul_comm]; exact Nat.mul_lt_mul_of_pos_left hV (Nat.two_pow_pos lo)
  have h32 : 2 ^ (lo + n) ≤ 2 ^ 32 := Nat.pow_le_pow_right (by omega) h
  have e : Bm.putU X lo n V = X ||| V * 2 ^ lo := by
    apply Bm.word_ext (Bm.put_lt _ _ _ _ hX) (Nat.or_lt_two_pow (n := 32) hX (Nat.lt_of_lt_of_le hlt h32))
    intro i hi
    rw [Bm.put_tb h hi, Nat.testBit_or, Nat.testBit_mul_two_pow]
    by_cases h1 : lo ≤ i ∧ i < lo + n
    · have h2 : X.testBit i = false := by
        have h3 := Nat.testBit_mod_two_pow (X / 2 ^ lo) n (i - lo)
        rw [hz, Nat.zero_testBit, Nat.testBit_div_two_pow, show i - lo + lo = i by omega] at h3
        have h4 : i - lo < n := by omega
        simpa [h4] using h3.symm
      rw [if_pos h1, h2]
      simp [h1.1]
    · rw [if_neg h1]
      by_cases h2 : lo ≤ i
      · have h3 : V.testBit (i - lo) = false := Nat.testBit_lt_two_pow (Nat.lt_of_lt_of_le hV (Nat.pow_le_pow_right (by omega) (by omega)))
        simp [h3]
      · simp [h2]
  rw [e]
  have hs := Nat.div_add_mod X (2 ^ (lo + n))
  have hl : X % 2 ^ (lo + n) = X % 2 ^ lo := by rw [Nat.pow_add, Nat.mod_mul, hz]; simp
  have hm := Nat.mod_lt X (Nat.two_pow_pos lo)
  rw [hl] at hs
  generalize X % 2 ^ lo = L at *
  have h5 : V * 2 ^ lo ||| L = V * 2 ^ lo + L := nat_join lo _ _ (by simp) hm
  have h6 : 2 ^ (lo + n) * (X / 2 ^ (lo + n)) ||| L = X := by rw [nat_join (lo + n) _ _ (by simp) (Nat.lt_of_lt_of_le hm (Nat.pow_le_pow_right (by omega) (by omega)))]; exact hs
  have h7 : V * 2 ^ lo + L < 2 ^ (lo + n) := by
    have : V * 2 ^ lo + 2 ^ lo ≤ 2 ^ (lo + n) := by
      rw [Nat.pow_add, ← Nat.succ_mul, Nat.mul_comm (2 ^ lo)]; exact Nat.mul_le_mul_right _ hV
    omega
  have h8 : X ||| V * 2 ^ lo = 2 ^ (lo + n) * (X / 2 ^ (lo + n)) ||| (V * 2 ^ lo ||| L) := by
    rw [Nat.or_comm (V * 2 ^ lo) L, ← Nat.or_assoc, h6]
  rw [h8, h5, nat_join (lo + n) _ _ (by simp) h7]
  omega

theorem putI_add (x v : Int) (hi lo : Nat) (h1 : lo ≤ hi) (h2 : hi < 32) (hx0 : 0 ≤ x) (hx1 : x < 4294967296) (hz : x / 2 ^ lo % 2 ^ (hi + 1 - lo) = 0) (hv0 : 0 ≤ v) (hv1 : v < 2 ^ (hi + 1 - lo)) :
    putI x hi lo v = x + v * 2 ^ lo := by
  obtain ⟨X, rfl⟩ := Int.eq_ofNat_of_zero_le hx0
  obtain ⟨V, rfl⟩ := Int.eq_ofNat_of_zero_le hv0
  unfold putI
  rw [if_pos (by omega)]
  simp only [Int.toNat_natCast]
  rw [putU_add (by omega) (by omega) (by exact_mod_cast hz) (by exact_mod_cast hv1)]
  simp

theorem getI_ar (x : Int) (hi lo : Nat) (h1 : lo ≤ hi) (h2 : hi < 32) (hx0 : 0 ≤ x) : getI x hi lo = x / 2 ^ lo % 2 ^ (hi + 1 - lo) := by
  obtain ⟨X, rfl⟩ := Int.eq_ofNat_of_zero_le hx0
  unfold getI
  rw [if_pos (by omega)]
  simp [Bm.getB]

/-! the two bits that are turned over -/
/-! sums -/
theorem put_n (x v : Int) (hi lo : Nat) (m c : Int) {hi' lo' : Int} (eh : (hi : Int) = hi') (el : (lo : Int) = lo') (hm : 2 ^ lo = m) (hc : 2 ^ (hi + 1 - lo) = c) (h1 : lo ≤ hi) (h2 : hi < 32) (hx0 : 0 ≤ x) (hx1 : x < 4294967296) (hz : x / m % c = 0) (hv0 : 0 ≤ v) (hv1 : v < c) :
    putI x hi' lo' v = x + v * m := by
  subst hm hc eh el
  exact putI_add x v hi lo h1 h2 hx0 hx1 hz hv0 hv1
theorem get_n (x : Int) (hi lo : Nat) (m c : Int) {hi' lo' : Int} (eh : (hi : Int) = hi') (el : (lo : Int) = lo') (hm : 2 ^ lo = m) (hc : 2 ^ (hi + 1 - lo) = c) (h1 : lo ≤ hi) (h2 : hi < 32) (hx0 : 0 ≤ x) : getI x hi' lo' = x / m % c := by
  subst hm hc eh el
  exact getI_ar x hi lo h1 h2 hx0

/-- is it below 0? -/
def sI (off : Int) : Int := if off < 0 then 1 else 0
/-- the first and the second halfword of an offset -/
def pA (k off : Int) : Int :=
  if k = 1 then off / 2 % 256
  else if k = 2 then off / 2 % 2048
  else if k = 3 then sI off * 1024 + off / 4096 % 64
  else if k = 4 then sI off * 1024 + off / 4096 % 1024
  else off / 64 % 2 * 512 + off / 2 % 32 * 8
def pB (k off : Int) : Int :=
  if k = 3 then off / 262144 % 2 * 8192 + off / 524288 % 2 * 2048 + off / 2 % 2048
  else if k = 4 then (1 + off / 8388608 % 2 + sI off) % 2 * 8192 + (1 + off / 4194304 % 2 + sI off) % 2 * 2048 + off / 2 % 2048
  else 0

theorem putTo_1 (x : Int) (hx0 : 0 ≤ x) : putTo 1 x 14 = (0 + (x / 2 % 256) * 1, 0) := by
  have e : putTo 1 x 14 = (putI 0 7 0 (getI x 8 1), 0) := by simp [putTo, putStep, pieceAt, pieceTab]
  rw [e, (get_n x 8 1 2 256 rfl rfl (by decide) (by decide) (by decide) (by decide) hx0 : getI x 8 1 = _)]
  rw [(put_n (0) (x / 2 % 256) 7 0 1 256 rfl rfl (by decide) (by decide) (by decide) (by decide) (by omega) (by omega) (by omega) (by omega) (by omega) : putI (0) 7 0 (x / 2 % 256) = _)]

theorem putTo_2 (x : Int) (hx0 : 0 ≤ x) : putTo 2 x 14 = (0 + (x / 2 % 2048) * 1, 0) := by
  have e : putTo 2 x 14 = (putI 0 10 0 (getI x 11 1), 0) := by simp [putTo, putStep, pieceAt, pieceTab]
  rw [e, (get_n x 11 1 2 2048 rfl rfl (by decide) (by decide) (by decide) (by decide) hx0 : getI x 11 1 = _)]
  rw [(put_n (0) (x / 2 % 2048) 10 0 1 2048 rfl rfl (by decide) (by decide) (by decide) (by decide) (by omega) (by omega) (by omega) (by omega) (by omega) : putI (0) 10 0 (x / 2 % 2048) = _)]

theorem putTo_5 (x : Int) (hx0 : 0 ≤ x) : putTo 5 x 14 = (0 + (x / 64 % 2) * 512 + (x / 2 % 32) * 8, 0) := by
  have e : putTo 5 x 14 = (putI (putI 0 9 9 (getI x 6 6)) 7 3 (getI x 5 1), 0) := by simp [putTo, putStep, pieceAt, pieceTab]
  rw [e, (get_n x 6 6 64 2 rfl rfl (by decide) (by decide) (by decide) (by decide) hx0 : getI x 6 6 = _), (get_n x 5 1 2 32 rfl rfl (by decide) (by decide) (by decide) (by decide) hx0 : getI x 5 1 = _)]
  rw [(put_n (0) (x / 64 % 2) 9 9 512 2 rfl rfl (by decide) (by decide) (by decide) (by decide) (by omega) (by omega) (by omega) (by omega) (by omega) : putI (0) 9 9 (x / 64 % 2) = _)]
  rw [(put_n (0 + (x / 64 % 2) * 512) (x / 2 % 32) 7 3 8 32 rfl rfl (by decide) (by decide) (by decide) (by decide) (by omega) (by omega) (by omega) (by omega) (by omega) : putI (0 + (x / 64 % 2) * 512) 7 3 (x / 2 % 32) = _)]

theorem put_1 (off : Int) (_h1 : -256 ≤ off) (_h2 : off ≤ 254) (_h3 : off % 2 = 0) : putA 1 off = pA 1 off ∧ putB 1 off = pB 1 off := by
  have hx0 : 0 ≤ off % 4294967296 := by omega
  have hc : ∀ X, crossI 1 X = X := fun X => by unfold crossI; rw [if_neg (by omega)]
  unfold putA putB
  rw [hc, putTo_1 _ hx0]
  refine ⟨?_, ?_⟩
  · show _ = off / 2 % 256
    dsimp only; omega
  · rfl

theorem put_2 (off : Int) (_h1 : -2048 ≤ off) (_h2 : off ≤ 2046) (_h3 : off % 2 = 0) : putA 2 off = pA 2 off ∧ putB 2 off = pB 2 off := by
  have hx0 : 0 ≤ off % 4294967296 := by omega
  have hc : ∀ X, crossI 2 X = X := fun X => by unfold crossI; rw [if_neg (by omega)]
  unfold putA putB
  rw [hc, putTo_2 _ hx0]
  refine ⟨?_, ?_⟩
  · show _ = off / 2 % 2048
    dsimp only; omega
  · rfl

theorem put_5 (off : Int) (h1 : 0 ≤ off) (h2 : off ≤ 126) (_h3 : off % 2 = 0) : putA 5 off = pA 5 off ∧ putB 5 off = pB 5 off := by
  have hx0 : 0 ≤ off % 4294967296 := by omega
  have hc : ∀ X, crossI 5 X = X := fun X => by unfold crossI; rw [if_neg (by omega)]
  unfold putA putB
  rw [hc, putTo_5 _ hx0]
  refine ⟨?_, ?_⟩
  · show _ = off / 64 % 2 * 512 + off / 2 % 32 * 8
    dsimp only; omega
  · rfl

/-- a kind's range, out of the test -/
theorem fits_spec {k off : Int} (h : fitsB k off = true) : 1 ≤ k ∧ k ≤ 5 ∧ lowI k ≤ off ∧ off ≤ highI k ∧ off % 2 = 0 := by
  unfold fitsB at h; simpa using h

end Om
end Go.Proofs.YthpoficikcicmaaDoor

namespace Go.Proofs.YthpoficikcicmaaDoor
open Go.ChangeShapes Go.WideShapes Go.ChangeAt Go.RowKit

theorem i64_mask (n : Int) (k : Nat) (m c : Int) (hm : (BitVec.ofInt 64 m).toNat = 2 ^ k - 1) (hc : c = 2 ^ k) (hk : k ≤ 62) : bits .and .i64 n m = n % c := by
  subst hc
  have key : (BitVec.ofInt 64 n &&& BitVec.ofInt 64 m).toNat = (n % ((2 ^ 64 : Nat) : Int)).toNat % 2 ^ k := by
    rw [BitVec.toNat_and, BitVec.toNat_ofInt, hm, Nat.and_two_pow_sub_one_eq_mod]
  show IntKind.i64.wrap ((BitVec.ofInt 64 n &&& BitVec.ofInt 64 m).toNat : Nat) = n % 2 ^ k
  have hp : 2 ^ k ≤ 2 ^ 62 := Nat.pow_le_pow_right (by omega) hk
  have hpos := Nat.two_pow_pos k
  have hlt := Nat.mod_lt (n % ((2 ^ 64 : Nat) : Int)).toNat hpos
  have hd : ((2 : Int) ^ k) ∣ 2 ^ 64 := ⟨2 ^ (64 - k), by rw [← Int.pow_add]; congr 1; omega⟩
  have e : (((n % ((2 ^ 64 : Nat) : Int)).toNat % 2 ^ k : Nat) : Int) = n % 2 ^ k := by
    have h0 : 0 ≤ n % ((2 ^ 64 : Nat) : Int) := Int.emod_nonneg _ (by decide)
    rw [Int.natCast_emod, Int.toNat_of_nonneg h0]
    have : (((2 ^ 64 : Nat) : Int)) = 2 ^ 64 := by decide
    rw [this, show ((2 ^ k : Nat) : Int) = 2 ^ k by simp, Int.emod_emod_of_dvd _ hd]
  rw [key, IntWalk.i64_in _ (by omega), e]

theorem low_c (k : Int) (w : World) :
    Calls Tryd.prog 63 #[.int .i64 k] w fun e w' => e = .returned (.int .i64 (lowI k)) ∧ ∃ n, w' = w.drewN n := by
  unfold lowI
  by_cases h1 : k = 1
  · subst h1
    go_enter Tryd.func63, Tryd.ntmps63
    go_wp2
    go_ret
    exact ⟨rfl, 0, rfl⟩
  · by_cases h2 : k = 2
    · subst h2
      go_enter Tryd.func63, Tryd.ntmps63
      go_wp2
      go_ret
      exact ⟨rfl, 0, rfl⟩
    · by_cases h3 : k = 3
      · subst h3
        go_enter Tryd.func63, Tryd.ntmps63
        go_wp2
        go_ret
        exact ⟨rfl, 0, rfl⟩
      · by_cases h4 : k = 4
        · subst h4
          go_enter Tryd.func63, Tryd.ntmps63
          go_wp2
          go_ret
          exact ⟨rfl, 0, rfl⟩
        · rw [if_neg h1, if_neg h2, if_neg h3, if_neg h4]
          have b1 : (k == 1) = false := by simp [h1]
          have b2 : (k == 2) = false := by simp [h2]
          have b3 : (k == 3) = false := by simp [h3]
          have b4 : (k == 4) = false := by simp [h4]
          clear h1 h2 h3 h4
          go_enter Tryd.func63, Tryd.ntmps63
          go_wp2
          go_ret
          exact ⟨rfl, 0, rfl⟩

theorem low_bd (k : Int) : -16777216 ≤ lowI k ∧ lowI k ≤ 0 := by
  unfold lowI
  repeat' split
  all_goals omega

theorem high_c (k : Int) (w : World) :
    Calls Tryd.prog 64 #[.int .i64 k] w fun e w' => e = .returned (.int .i64 (highI k)) ∧ ∃ n, w' = w.drewN n := by
  have hl := low_bd k
  by_cases h : k = 5
  · subst h
    clear hl
    go_enter Tryd.func64, Tryd.ntmps64
    go_wp2
    go_ret
    exact ⟨rfl, 0, rfl⟩
  · have e : highI k = -lowI k - 2 := by unfold highI; rw [if_neg h]
    have b : (k == 5) = false := by simp [h]
    rw [e]
    clear h e
    obtain ⟨hl0, hl1⟩ := hl
    go_enter Tryd.func64, Tryd.ntmps64
    go_wp2_with ((go_at_call 63; refine (low_c _ _).mono ?_; rintro e w' ⟨rfl, n, rfl⟩))
    go_ret
    exact ⟨ret_int (by first | rfl | omega | (simp only [RowKit.wrap64]; omega)), n, rfl⟩

theorem bit_c (off i : Int) (w : World) (h0 : 0 ≤ i) (h1 : i < 64) :
    Calls Tryd.prog 62 #[.int .i64 off, .int .i64 i] w fun e w' => e = .returned (.int .i64 (off / 2 ^ i.toNat % 2)) ∧ ∃ n, w' = w.drewN n := by
  go_enter Tryd.func62, Tryd.ntmps62
  go_wp2
  go_ret
  exact ⟨ret_int (i64_mask _ 1 1 2 (by decide) (by decide) (by decide)), 0, rfl⟩

theorem rfits_c (k off : Int) (w : World) :
    Calls Tryd.prog 43 #[.int .i64 k, .int .i64 off] w fun e w' => e = .returned (.bool (fitsB k off)) ∧ ∃ n, w' = w.drewN n := by
  by_cases hk1 : 1 ≤ k
  · by_cases hk2 : k ≤ 5
    · by_cases hp : off % 2 = 0
      · have ht : (off.tmod 2 == 0) = true := by rw [tmod2]; simp [hp]
        by_cases hl : lowI k ≤ off
        · have hR : fitsB k off = decide (off ≤ highI k) := by unfold fitsB; simp [hk1, hk2, hl, hp]
          rw [hR]
          clear hR hp
          go_enter Tryd.func43, Tryd.ntmps43
          go_wp2_with (first | (go_at_call 63; refine (low_c _ _).mono ?_; rintro e w' ⟨rfl, n, rfl⟩) | (go_at_call 64; refine (high_c _ _).mono ?_; rintro e w' ⟨rfl, n2, rfl⟩))
          go_ret
          exact ⟨rfl, n + n2, rfl⟩
        · have hR : fitsB k off = false := by unfold fitsB; simp; omega
          rw [hR]
          clear hR hp
          go_enter Tryd.func43, Tryd.ntmps43
          go_wp2_with (first | (go_at_call 63; refine (low_c _ _).mono ?_; rintro e w' ⟨rfl, n, rfl⟩))
          go_ret
          exact ⟨rfl, n, rfl⟩
      · have ht : (off.tmod 2 == 0) = false := by rw [tmod2]; simp [hp]
        have hR : fitsB k off = false := by unfold fitsB; simp [hp]
        rw [hR]
        clear hR hp
        go_enter Tryd.func43, Tryd.ntmps43
        go_wp2
        go_ret
        exact ⟨rfl, 0, rfl⟩
    · have hR : fitsB k off = false := by unfold fitsB; simp [hk2]
      rw [hR]
      clear hR
      go_enter Tryd.func43, Tryd.ntmps43
      go_wp2
      go_ret
      exact ⟨rfl, 0, rfl⟩
  · have hR : fitsB k off = false := by unfold fitsB; simp [hk1]
    rw [hR]
    clear hR
    go_enter Tryd.func43, Tryd.ntmps43
    go_wp2
    go_ret
    exact ⟨rfl, 0, rfl⟩
end Go.Proofs.YthpoficikcicmaaDoor

namespace Go.Proofs.YthpoficikcicmaaDoor
open Go.ChangeShapes Go.WideShapes Go.ChangeAt Go.RowKit

theorem rput_no (k off : Int) (w : World) (hf : fitsB k off = false) :
    Calls Tryd.prog 42 #[.int .i64 k, .int .i64 off] w fun e w' => e = .returned (.tuple #[.int .i64 0, .int .i64 0]) ∧ ∃ n, w' = w.drewN n := by
  go_enter Tryd.func42, Tryd.ntmps42
  go_wp2_with ((go_at_call 43; refine (rfits_c _ _ _).mono ?_; rintro e w' ⟨rfl, n, rfl⟩; rw [hf]))
  go_ret2
  exact ⟨rfl, n, rfl⟩

theorem or64 (i : Nat) (c x y : Int) (hc : 2 ^ i = c) (hi : i ≤ 60) (hx0 : 0 ≤ x) (hx : x % c = 0) (hx1 : x < 1152921504606846976) (hy0 : 0 ≤ y) (hy : y < c) : bits .or .i64 x y = x + y := by
  subst hc
  have hp : 2 ^ i ≤ 2 ^ 60 := Nat.pow_le_pow_right (by omega) hi
  have e : ((2 : Int) ^ i) = ((2 ^ i : Nat) : Int) := by simp
  exact bits_join .i64 62 (by decide) (fun n h0 h1 => IntWalk.i64_in n (by omega)) i x y hx0 hx (by omega) hy0 hy (by omega)
theorem or32 (i : Nat) (c x y : Int) (hc : 2 ^ i = c) (hi : i ≤ 32) (hx0 : 0 ≤ x) (hx : x % c = 0) (hx1 : x < 4294967296) (hy0 : 0 ≤ y) (hy : y < c) : bits .or .u32 x y = x + y := by
  subst hc
  have hp : 2 ^ i ≤ 2 ^ 32 := Nat.pow_le_pow_right (by omega) hi
  have e : ((2 : Int) ^ i) = ((2 ^ i : Nat) : Int) := by simp
  exact bits_join .u32 32 (by decide) (fun n h0 h1 => by rw [IntKind.wrap_u32]; omega) i x y hx0 hx (by omega) hy0 hy (by omega)
theorem xor64 (b s : Int) (hb : 0 ≤ b ∧ b ≤ 1) (hs : 0 ≤ s ∧ s ≤ 1) : bits .xor .i64 b s = (b + s) % 2 := by
  rcases (by omega : b = 0 ∨ b = 1) with rfl | rfl <;> rcases (by omega : s = 0 ∨ s = 1) with rfl | rfl <;> rfl
theorem sI_yes {off : Int} (h : off < 0) : Om.sI off = 1 := by unfold Om.sI; rw [if_pos h]
theorem sI_no {off : Int} (h : ¬ off < 0) : Om.sI off = 0 := by unfold Om.sI; rw [if_neg h]

theorem rput_1y (off : Int) (w : World) (hf : fitsB 1 off = true) (hn : off < 0) :
    Calls Tryd.prog 42 #[.int .i64 1, .int .i64 off] w fun e w' => e = .returned (.tuple #[.int .i64 (Om.pA 1 off), .int .i64 (Om.pB 1 off)]) ∧ ∃ n, w' = w.drewN n := by
  obtain ⟨_, _, h3, h4, h5⟩ := Om.fits_spec hf
  replace h3 : -256 ≤ off := h3
  replace h4 : off ≤ 254 := h4
  clear h5
  go_enter Tryd.func42, Tryd.ntmps42
  go_wp2_with (first
    | (go_at_call 43; refine (rfits_c _ _ _).mono ?_; rintro e w' ⟨rfl, n, rfl⟩; rw [hf])
    | (go_at_call 62; refine (bit_c _ _ _ (by decide) (by decide)).mono ?_; rintro e w' ⟨rfl, n2, rfl⟩))
  go_ret2
  refine ⟨ret_pair ?_ ?_, _, rfl⟩
  · exact i64_mask _ 8 255 256 (by decide) (by decide) (by decide)
  · rfl

theorem rput_1n (off : Int) (w : World) (hf : fitsB 1 off = true) (hn : ¬ off < 0) :
    Calls Tryd.prog 42 #[.int .i64 1, .int .i64 off] w fun e w' => e = .returned (.tuple #[.int .i64 (Om.pA 1 off), .int .i64 (Om.pB 1 off)]) ∧ ∃ n, w' = w.drewN n := by
  obtain ⟨_, _, h3, h4, h5⟩ := Om.fits_spec hf
  replace h3 : -256 ≤ off := h3
  replace h4 : off ≤ 254 := h4
  clear h5
  go_enter Tryd.func42, Tryd.ntmps42
  go_wp2_with (first
    | (go_at_call 43; refine (rfits_c _ _ _).mono ?_; rintro e w' ⟨rfl, n, rfl⟩; rw [hf])
    | (go_at_call 62; refine (bit_c _ _ _ (by decide) (by decide)).mono ?_; rintro e w' ⟨rfl, n2, rfl⟩))
  go_ret2
  refine ⟨ret_pair ?_ ?_, _, rfl⟩
  · exact i64_mask _ 8 255 256 (by decide) (by decide) (by decide)
  · rfl

theorem rput_2y (off : Int) (w : World) (hf : fitsB 2 off = true) (hn : off < 0) :
    Calls Tryd.prog 42 #[.int .i64 2, .int .i64 off] w fun e w' => e = .returned (.tuple #[.int .i64 (Om.pA 2 off), .int .i64 (Om.pB 2 off)]) ∧ ∃ n, w' = w.drewN n := by
  obtain ⟨_, _, h3, h4, h5⟩ := Om.fits_spec hf
  replace h3 : -2048 ≤ off := h3
  replace h4 : off ≤ 2046 := h4
  clear h5
  go_enter Tryd.func42, Tryd.ntmps42
  go_wp2_with (first
    | (go_at_call 43; refine (rfits_c _ _ _).mono ?_; rintro e w' ⟨rfl, n, rfl⟩; rw [hf])
    | (go_at_call 62; refine (bit_c _ _ _ (by decide) (by decide)).mono ?_; rintro e w' ⟨rfl, n2, rfl⟩))
  go_ret2
  refine ⟨ret_pair ?_ ?_, _, rfl⟩
  · exact i64_mask _ 11 2047 2048 (by decide) (by decide) (by decide)
  · rfl

theorem rput_2n (off : Int) (w : World) (hf : fitsB 2 off = true) (hn : ¬ off < 0) :
    Calls Tryd.prog 42 #[.int .i64 2, .int .i64 off] w fun e w' => e = .returned (.tuple #[.int .i64 (Om.pA 2 off), .int .i64 (Om.pB 2 off)]) ∧ ∃ n, w' = w.drewN n := by
  obtain ⟨_, _, h3, h4, h5⟩ := Om.fits_spec hf
  replace h3 : -2048 ≤ off := h3
  replace h4 : off ≤ 2046 := h4
  clear h5
  go_enter Tryd.func42, Tryd.ntmps42
  go_wp2_with (first
    | (go_at_call 43; refine (rfits_c _ _ _).mono ?_; rintro e w' ⟨rfl, n, rfl⟩; rw [hf])
    | (go_at_call 62; refine (bit_c _ _ _ (by decide) (by decide)).mono ?_; rintro e w' ⟨rfl, n2, rfl⟩))
  go_ret2
  refine ⟨ret_pair ?_ ?_, _, rfl⟩
  · exact i64_mask _ 11 2047 2048 (by decide) (by decide) (by decide)
  · rfl

theorem rput_5n (off : Int) (w : World) (hf : fitsB 5 off = true) (_hn : ¬ off < 0) :
    Calls Tryd.prog 42 #[.int .i64 5, .int .i64 off] w fun e w' => e = .returned (.tuple #[.int .i64 (Om.pA 5 off), .int .i64 (Om.pB 5 off)]) ∧ ∃ n, w' = w.drewN n := by
  obtain ⟨_, _, h3, h4, h5⟩ := Om.fits_spec hf
  replace h3 : 0 ≤ off := h3
  replace h4 : off ≤ 126 := h4
  clear h5
  go_enter Tryd.func42, Tryd.ntmps42
  go_wp2_with (first
    | (go_at_call 43; refine (rfits_c _ _ _).mono ?_; rintro e w' ⟨rfl, n, rfl⟩; rw [hf])
    | (go_at_call 62; refine (bit_c _ _ _ (by decide) (by decide)).mono ?_; rintro e w' ⟨rfl, n2, rfl⟩))
  go_ret2
  refine ⟨ret_pair ?_ ?_, _, rfl⟩
  · show bits .or .i64 (off / 64 % 2 * 512) (wrap64 (bits .and .i64 (off / 2) 31 * 8)) = off / 64 % 2 * 512 + off / 2 % 32 * 8
    rw [i64_mask _ 5 31 32 (by decide) (by decide) (by decide), show wrap64 (off / 2 % 32 * 8) = off / 2 % 32 * 8 by unfold wrap64; omega, or64 9 512 _ _ (by decide) (by decide) (by omega) (by omega) (by omega) (by omega) (by omega)]
  · rfl

end Go.Proofs.YthpoficikcicmaaDoor
