/- Contract of the program's Put of offsets: a loop over the table of pieces that stores into the halfwords. Plain facts on offsets in pieces: what the program's two loops come to, as sums of products; that they are there and back. No memory, no calls; no conditions but those that each fact names. -/
import Derived.Test.YtmofimgodmcdjaaDoorRows
import Derived.Test.YtmofimgodmcdjaaDoorGb
import Derived.Test.YtmofimgodmcdjaaDoorHt

namespace Go.Proofs.YtmofimgodmcdjaaDoor
open Go.ChangeShapes Go.WideShapes Go.ChangeAt Go.RowKit

/-- one piece written: out of x into the halfwords -/
def putStep (k x : Int) (p : Piece) (s : Int × Int) : Int × Int :=
  if p.k = k then (if p.h = 0 then (putI s.1 (p.a + p.hi - p.lo) p.a (getI x p.hi p.lo), s.2) else (s.1, putI s.2 (p.a + p.hi - p.lo) p.a (getI x p.hi p.lo))) else s
def putTo (k x : Int) : Nat → Int × Int
  | 0 => (0, 0)
  | n + 1 => putStep k x (pieceAt n) (putTo k x n)
def putA (k off : Int) : Int := (putTo k (crossI k (off % 4294967296)) 14).1
def putB (k off : Int) : Int := (putTo k (crossI k (off % 4294967296)) 14).2

theorem range_later' {w : World} {cs : List Value} (h : w.rangeAt 1 0 cs) (hs : 1 < w.heap.size) (o : Obj) (n : Nat) : ((w.drewN n).alloc o).rangeAt 1 0 cs := fun j v hv =>
  (World.cell?_alloc_lt w o ⟨1, 0 + j, none⟩ hs).trans (h j v hv)

/-- the piece's block, behind the store into the halfwords and the block that its method makes -/
theorem new_cell (wr : World) (a : Addr) (v : Value) (c : Array Value) (t : TypeId) (o : Obj) (n j : Nat) : (((((wr.setCell a v).alloc (.cells c t)).alloc o)).drewN n).cell? ⟨wr.heap.size, j, none⟩ = c[j]? := by
  have e : (wr.setCell a v).heap.size = wr.heap.size := by simp [World.setCell]
  have h := World.cell?_alloc_lt ((wr.setCell a v).alloc (.cells c t)) o ⟨wr.heap.size, j, none⟩ (by show wr.heap.size < _; simp [World.alloc, e])
  have h2 := World.cell?_alloc_new (wr.setCell a v) c t j
  rw [e] at h2
  exact h.trans h2

theorem ret_pair {a b c d : Int} (h1 : a = c) (h2 : b = d) : Ending.returned (.tuple #[.int .i64 a, .int .i64 b]) = .returned (.tuple #[.int .i64 c, .int .i64 d]) := by rw [h1, h2]

theorem oput_no (k off : Int) (w : World) (hT : Tabs w) (hf : fitsB k off = false) :
    Calls Tryd.prog 53 #[.int .i64 k, .int .i64 off] w fun e w' => e = .returned (.tuple #[.int .i64 0, .int .i64 0]) ∧ Below w.heap.size w w' := by
  go_enter Tryd.func53, Tryd.ntmps53
  go_wp2_with ((go_at_call 52; refine (fits_c _ _ _ hT).mono ?_; rintro e w' ⟨rfl, hbel0⟩; rw [hf]))
  go_ret2
  exact ⟨rfl, hbel0⟩

set_option linter.unusedSimpArgs false in
set_option maxHeartbeats 2000000 in
theorem oput_c (k off : Int) (w : World) (hT : Tabs w) (hf : fitsB k off = true) :
    Calls Tryd.prog 53 #[.int .i64 k, .int .i64 off] w fun e w' => e = .returned (.tuple #[.int .i64 (putA k off), .int .i64 (putB k off)]) ∧ Below w.heap.size w w' := by
  unfold putA putB
  obtain ⟨x, e0⟩ : ∃ h, off % 4294967296 = h := ⟨_, rfl⟩
  have hx0 : 0 ≤ x := by omega
  have hx1 : x < 4294967296 := by omega
  have hy := cross_bd k x hx0 hx1
  rw [e0]
  obtain ⟨y, ey⟩ : ∃ y, crossI k x = y := ⟨_, rfl⟩
  rw [ey] at hy ⊢
  go_enter Tryd.func53, Tryd.ntmps53
  go_wp2_with (first
    | (go_at_call 52; refine (fits_c _ _ _ hT).mono ?_; rintro e w' ⟨rfl, hbel0⟩; rw [hf])
    | (go_at_call 64; refine (cross_c _ _ _ hx0 hx1).mono ?_; rintro e w' ⟨rfl, n, rfl⟩)
    | (refine wpList_load_mid rfl 101 (.global 1) rfl 1 0 rfl pieceCells _ (range_later (hT.below hbel0 hT.big).p (Nat.lt_of_lt_of_le (by have := hT.big; omega) hbel0.size) _ _) underP rfl infoP ?_))
  clear e0 ey
  have hbig : w.heap.size ≤ w'.heap.size := hbel0.size
  have hrange := hT.big
  clear hT
  obtain ⟨hy0, hy1⟩ := hy
  go_loopw [19] (fun is wr => ∃ i' A B : Int, 0 ≤ i' ∧ i' ≤ 14 ∧ is = .int .i64 i' ∧ RowKit.Hid (putTo k y i'.toNat = (A, B)) ∧ 0 ≤ A ∧ A < 4294967296 ∧ 0 ≤ B ∧ B < 4294967296 ∧
    wr.cell? ⟨w'.heap.size, 0, none⟩ = some (.int .u32 A) ∧ wr.cell? ⟨w'.heap.size, 1, none⟩ = some (.int .u32 B) ∧ wr.frozen? ⟨w'.heap.size, 0, none⟩ = false ∧ wr.frozen? ⟨w'.heap.size, 1, none⟩ = false ∧ w'.heap.size < wr.heap.size ∧ Below w.heap.size w wr) (fun is _ => (14 - intOf is).toNat)
  case atStart => exact ⟨0, 0, 0, by omega, by omega, rfl, Lib.hid rfl, by omega, by omega, by omega, by omega, by go_simp, by go_simp, by go_simp, by go_simp, by simp, below_drewN (hbel0.alloc (by omega) _) _⟩
  case round =>
    obtain ⟨i', A, B, hi0, hi1, rfl, HX, hA0, hA1, hB0, hB1, hc0, hc1, hf0, hf1, hlt, hbel⟩ := hrel
    by_cases hi : i' < 14
    · have hidx : ∀ W : World, (Instr.index 101 (.agg pieceCells.toArray) (.int .i64 i')).run Tryd.prog W = .ok (cellsOfPiece (pieceAt i'.toNat)) W := fun W => by
        have h := index_piece i'.toNat (by omega) W
        rwa [show ((i'.toNat : Nat) : Int) = i' by omega] at h
      have hok := piece_ok i'.toNat (by omega)
      have HN := Lib.hid (show putTo k y (i' + 1).toNat = putStep k y (pieceAt i'.toNat) (A, B) by
        rw [show (i' + 1).toNat = i'.toNat + 1 by omega, ← HX.out]; rfl)
      clear HX
      generalize pieceAt i'.toNat = p at *
      obtain ⟨pk, ph, pa, phi, plo⟩ := p
      unfold cellsOfPiece at hidx
      dsimp only at hidx
      obtain ⟨q1, q2, q3, q4, q5, q6, q7, q8⟩ := hok
      dsimp only at q1 q2 q3 q4 q5 q6 q7 q8
      by_cases hkk : pk = k
      · have hB : (pk == k) = true := by simp [hkk]
        subst hkk
        rcases (by omega : ph = 0 ∨ ph = 1) with rfl | rfl
        · go_wp2
          refine wp_region_G 18 (S := (fun W => W.cell? ⟨wr.heap.size, 0, none⟩ = some (.int .i64 pk) ∧ W.cell? ⟨wr.heap.size, 1, none⟩ = some (.int .i64 0) ∧ W.cell? ⟨wr.heap.size, 2, none⟩ = some (.int .i64 pa) ∧ W.cell? ⟨wr.heap.size, 3, none⟩ = some (.int .i64 phi) ∧ W.cell? ⟨wr.heap.size, 4, none⟩ = some (.int .i64 plo) ∧ W.cell? ⟨w'.heap.size, 0, none⟩ = some (.int .u32 A))) (by kernel_rfl) (by go_keep) (fun hHeld => ?_)
          refine wpAnyG_take (i := 0) (v := ?_) rfl (by kernel_rfl) (fun _ _ _ h => h) (Or.inl ⟨by rfl, ?_⟩) hHeld ?_; rotate_left
          · (intro W hSw; (try dsimp only at hSw); go_simp) <;> with_reducible rfl
          try simp only [Act.put, List.setIfInBounds_toArray, List.set_cons_zero, List.set_cons_succ]
          refine wpAnyG_take (i := 1) (v := ?_) rfl (by kernel_rfl) (fun _ _ _ h => h) (Or.inl ⟨by rfl, ?_⟩) hHeld ?_; rotate_left
          · (intro W hSw; (try dsimp only at hSw); go_simp) <;> with_reducible rfl
          try simp only [Act.put, List.setIfInBounds_toArray, List.set_cons_zero, List.set_cons_succ]
          refine wpAnyG_take (i := 2) (v := ?_) rfl (by kernel_rfl) (fun _ _ _ h => h) (Or.inl ⟨by rfl, ?_⟩) hHeld ?_; rotate_left
          · (intro W hSw; (try dsimp only at hSw); go_simp) <;> with_reducible rfl
          try simp only [Act.put, List.setIfInBounds_toArray, List.set_cons_zero, List.set_cons_succ]
          refine wpAnyG_take (i := 3) (v := ?_) rfl (by kernel_rfl) (fun _ _ _ h => h) (Or.inl ⟨by rfl, ?_⟩) hHeld ?_; rotate_left
          · (intro W hSw; (try dsimp only at hSw); go_simp) <;> with_reducible rfl
          try simp only [Act.put, List.setIfInBounds_toArray, List.set_cons_zero, List.set_cons_succ]
          refine wpAnyG_take (i := 4) (v := ?_) rfl (by kernel_rfl) (fun _ _ _ h => h) (Or.inl ⟨by rfl, ?_⟩) hHeld ?_; rotate_left
          · (intro W hSw; (try dsimp only at hSw); go_simp) <;> with_reducible rfl
          try simp only [Act.put, List.setIfInBounds_toArray, List.set_cons_zero, List.set_cons_succ]
          refine wpAnyG_take (i := 5) (v := ?_) rfl (by kernel_rfl) (fun _ _ _ h => h) (Or.inl ⟨by rfl, ?_⟩) hHeld ?_; rotate_left
          · (intro W hSw; (try dsimp only at hSw); go_simp) <;> with_reducible rfl
          try simp only [Act.put, List.setIfInBounds_toArray, List.set_cons_zero, List.set_cons_succ]
          refine wpAnyG_take (i := 6) (v := ?_) rfl (by kernel_rfl) (fun _ _ _ h => h) (Or.inl ⟨by rfl, ?_⟩) hHeld ?_; rotate_left
          · (intro W hSw; (try dsimp only at hSw); go_simp) <;> with_reducible rfl
          try simp only [Act.put, List.setIfInBounds_toArray, List.set_cons_zero, List.set_cons_succ]
          refine wpAnyG_take (i := 8) (v := ?_) rfl (by kernel_rfl) (fun _ _ _ h => h) (Or.inl ⟨by rfl, ?_⟩) hHeld ?_; rotate_left
          · (intro W hSw; (try dsimp only at hSw); go_simp) <;> with_reducible rfl
          try simp only [Act.put, List.setIfInBounds_toArray, List.set_cons_zero, List.set_cons_succ]
          refine wpAnyG_take (i := 9) (v := ?_) rfl (by kernel_rfl) (fun _ _ _ h => h) (Or.inl ⟨by rfl, ?_⟩) hHeld ?_; rotate_left
          · (intro W hSw; (try dsimp only at hSw); go_simp) <;> with_reducible rfl
          try simp only [Act.put, List.setIfInBounds_toArray, List.set_cons_zero, List.set_cons_succ]
          refine wpAnyG_take (i := 10) (v := ?_) rfl (by kernel_rfl) (fun _ _ _ h => h) (Or.inl ⟨by rfl, ?_⟩) hHeld ?_; rotate_left
          · (intro W hSw; (try dsimp only at hSw); go_simp) <;> with_reducible rfl
          try simp only [Act.put, List.setIfInBounds_toArray, List.set_cons_zero, List.set_cons_succ]
          refine wpAnyG_take (i := 11) (v := ?_) rfl (by kernel_rfl) (fun _ _ _ h => h) (Or.inl ⟨by rfl, ?_⟩) hHeld ?_; rotate_left
          · (intro W hSw; (try dsimp only at hSw); go_simp) <;> with_reducible rfl
          try simp only [Act.put, List.setIfInBounds_toArray, List.set_cons_zero, List.set_cons_succ]
          refine wpAnyG_take (i := 12) (v := ?_) rfl (by kernel_rfl) (fun _ _ _ h => h) (Or.inl ⟨by rfl, ?_⟩) hHeld ?_; rotate_left
          · (intro W hSw; (try dsimp only at hSw); go_simp) <;> with_reducible rfl
          try simp only [Act.put, List.setIfInBounds_toArray, List.set_cons_zero, List.set_cons_succ]
          refine wpAnyG_take (i := 13) (v := ?_) rfl (by kernel_rfl) (fun _ _ _ h => h) (Or.inl ⟨by rfl, ?_⟩) hHeld ?_; rotate_left
          · (intro W hSw; (try dsimp only at hSw); go_simp) <;> with_reducible rfl
          try simp only [Act.put, List.setIfInBounds_toArray, List.set_cons_zero, List.set_cons_succ]
          refine wpAnyG_take (i := 14) (v := ?_) rfl (by kernel_rfl) (fun _ _ _ h => h) (Or.inl ⟨by rfl, ?_⟩) hHeld ?_; rotate_left
          · (intro W hSw; (try dsimp only at hSw); go_simp) <;> with_reducible rfl
          try simp only [Act.put, List.setIfInBounds_toArray, List.set_cons_zero, List.set_cons_succ]
          refine wpAnyG_step (i := 7) rfl (by kernel_rfl) (fun K hK => ?_)
          go_simp
          refine (top_x _ _ _ _ _ _ q3 q4 q5 q6 q7 q8).mono ?_; rintro e w2 ⟨rfl, rfl⟩
          go_wp2_with fail
          refine hK.out _ _ (by go_keep) (fun hHeld => ?_)
          clear hK K
          try simp only [Act.put, List.setIfInBounds_toArray, List.set_cons_zero, List.set_cons_succ]
          refine wpAnyG_step (i := 15) rfl (by kernel_rfl) (fun K hK => ?_)
          go_simp
          refine (get_c _ _ _ _ hy0 hy1).mono ?_; rintro e w2 ⟨rfl, n1, rfl⟩
          go_wp2_with fail
          refine hK.out _ _ (by go_keep) (fun hHeld => ?_)
          clear hK K
          try simp only [Act.put, List.setIfInBounds_toArray, List.set_cons_zero, List.set_cons_succ]
          refine wpAnyG_step (i := 16) rfl (by kernel_rfl) (fun K hK => ?_)
          go_simp
          refine (put_c _ _ _ _ _ hA0 hA1 (getI_bd _ _ _ hy0 hy1).1 (getI_bd _ _ _ hy0 hy1).2).mono ?_; rintro e w2 ⟨rfl, n2, rfl⟩
          go_wp2_with fail
          refine hK.out _ _ (by go_keep) (fun hHeld => ?_)
          clear hK K
          try simp only [Act.put, List.setIfInBounds_toArray, List.set_cons_zero, List.set_cons_succ]
          refine wpAnyG_take (i := 17) (v := ?_) rfl (by kernel_rfl) (fun _ _ _ h => h) (Or.inl ⟨by rfl, ?_⟩) hHeld ?_; rotate_left
          · (intro W hSw; (try dsimp only at hSw); go_simp) <;> with_reducible rfl
          try simp only [Act.put, List.setIfInBounds_toArray, List.set_cons_zero, List.set_cons_succ]
          refine wpAnyG_last (n := 18) rfl (by kernel_rfl) (by kernel_rfl) (fun K hK => ?_)
          go_simp
          refine hK.out _ _ ?_
          go_wp2
          go_roundw
          case rel => exact ⟨i' + 1, (putI A (pa + phi - plo) pa (getI y phi plo)), B, by omega, by omega, rfl, Lib.hid (by rw [HN.out]; unfold putStep; rw [if_pos rfl]; rfl), (putI_bd _ _ _ _ hA0 hA1).1, (putI_bd _ _ _ _ hA0 hA1).2, hB0, hB1, by go_simp, by go_simp, by go_simp, by go_simp, by simp [World.setCell]; omega, below_drewN (((hbel.setCell (by show w.heap.size ≤ w'.heap.size; omega) _).alloc (by simp [World.setCell]; omega) _).alloc (by simp [World.setCell]; omega) _) _⟩
          case measure => simp [intOf]; omega
        · go_wp2
          refine wp_region_G 18 (S := (fun W => W.cell? ⟨wr.heap.size, 0, none⟩ = some (.int .i64 pk) ∧ W.cell? ⟨wr.heap.size, 1, none⟩ = some (.int .i64 1) ∧ W.cell? ⟨wr.heap.size, 2, none⟩ = some (.int .i64 pa) ∧ W.cell? ⟨wr.heap.size, 3, none⟩ = some (.int .i64 phi) ∧ W.cell? ⟨wr.heap.size, 4, none⟩ = some (.int .i64 plo) ∧ W.cell? ⟨w'.heap.size, 1, none⟩ = some (.int .u32 B))) (by kernel_rfl) (by go_keep) (fun hHeld => ?_)
          refine wpAnyG_take (i := 0) (v := ?_) rfl (by kernel_rfl) (fun _ _ _ h => h) (Or.inl ⟨by rfl, ?_⟩) hHeld ?_; rotate_left
          · (intro W hSw; (try dsimp only at hSw); go_simp) <;> with_reducible rfl
          try simp only [Act.put, List.setIfInBounds_toArray, List.set_cons_zero, List.set_cons_succ]
          refine wpAnyG_take (i := 1) (v := ?_) rfl (by kernel_rfl) (fun _ _ _ h => h) (Or.inl ⟨by rfl, ?_⟩) hHeld ?_; rotate_left
          · (intro W hSw; (try dsimp only at hSw); go_simp) <;> with_reducible rfl
          try simp only [Act.put, List.setIfInBounds_toArray, List.set_cons_zero, List.set_cons_succ]
          refine wpAnyG_take (i := 2) (v := ?_) rfl (by kernel_rfl) (fun _ _ _ h => h) (Or.inl ⟨by rfl, ?_⟩) hHeld ?_; rotate_left
          · (intro W hSw; (try dsimp only at hSw); go_simp) <;> with_reducible rfl
          try simp only [Act.put, List.setIfInBounds_toArray, List.set_cons_zero, List.set_cons_succ]
          refine wpAnyG_take (i := 3) (v := ?_) rfl (by kernel_rfl) (fun _ _ _ h => h) (Or.inl ⟨by rfl, ?_⟩) hHeld ?_; rotate_left
          · (intro W hSw; (try dsimp only at hSw); go_simp) <;> with_reducible rfl
          try simp only [Act.put, List.setIfInBounds_toArray, List.set_cons_zero, List.set_cons_succ]
          refine wpAnyG_take (i := 4) (v := ?_) rfl (by kernel_rfl) (fun _ _ _ h => h) (Or.inl ⟨by rfl, ?_⟩) hHeld ?_; rotate_left
          · (intro W hSw; (try dsimp only at hSw); go_simp) <;> with_reducible rfl
          try simp only [Act.put, List.setIfInBounds_toArray, List.set_cons_zero, List.set_cons_succ]
          refine wpAnyG_take (i := 5) (v := ?_) rfl (by kernel_rfl) (fun _ _ _ h => h) (Or.inl ⟨by rfl, ?_⟩) hHeld ?_; rotate_left
          · (intro W hSw; (try dsimp only at hSw); go_simp) <;> with_reducible rfl
          try simp only [Act.put, List.setIfInBounds_toArray, List.set_cons_zero, List.set_cons_succ]
          refine wpAnyG_take (i := 6) (v := ?_) rfl (by kernel_rfl) (fun _ _ _ h => h) (Or.inl ⟨by rfl, ?_⟩) hHeld ?_; rotate_left
          · (intro W hSw; (try dsimp only at hSw); go_simp) <;> with_reducible rfl
          try simp only [Act.put, List.setIfInBounds_toArray, List.set_cons_zero, List.set_cons_succ]
          refine wpAnyG_take (i := 8) (v := ?_) rfl (by kernel_rfl) (fun _ _ _ h => h) (Or.inl ⟨by rfl, ?_⟩) hHeld ?_; rotate_left
          · (intro W hSw; (try dsimp only at hSw); go_simp) <;> with_reducible rfl
          try simp only [Act.put, List.setIfInBounds_toArray, List.set_cons_zero, List.set_cons_succ]
          refine wpAnyG_take (i := 9) (v := ?_) rfl (by kernel_rfl) (fun _ _ _ h => h) (Or.inl ⟨by rfl, ?_⟩) hHeld ?_; rotate_left
          · (intro W hSw; (try dsimp only at hSw); go_simp) <;> with_reducible rfl
          try simp only [Act.put, List.setIfInBounds_toArray, List.set_cons_zero, List.set_cons_succ]
          refine wpAnyG_take (i := 10) (v := ?_) rfl (by kernel_rfl) (fun _ _ _ h => h) (Or.inl ⟨by rfl, ?_⟩) hHeld ?_; rotate_left
          · (intro W hSw; (try dsimp only at hSw); go_simp) <;> with_reducible rfl
          try simp only [Act.put, List.setIfInBounds_toArray, List.set_cons_zero, List.set_cons_succ]
          refine wpAnyG_take (i := 11) (v := ?_) rfl (by kernel_rfl) (fun _ _ _ h => h) (Or.inl ⟨by rfl, ?_⟩) hHeld ?_; rotate_left
          · (intro W hSw; (try dsimp only at hSw); go_simp) <;> with_reducible rfl
          try simp only [Act.put, List.setIfInBounds_toArray, List.set_cons_zero, List.set_cons_succ]
          refine wpAnyG_take (i := 12) (v := ?_) rfl (by kernel_rfl) (fun _ _ _ h => h) (Or.inl ⟨by rfl, ?_⟩) hHeld ?_; rotate_left
          · (intro W hSw; (try dsimp only at hSw); go_simp) <;> with_reducible rfl
          try simp only [Act.put, List.setIfInBounds_toArray, List.set_cons_zero, List.set_cons_succ]
          refine wpAnyG_take (i := 13) (v := ?_) rfl (by kernel_rfl) (fun _ _ _ h => h) (Or.inl ⟨by rfl, ?_⟩) hHeld ?_; rotate_left
          · (intro W hSw; (try dsimp only at hSw); go_simp) <;> with_reducible rfl
          try simp only [Act.put, List.setIfInBounds_toArray, List.set_cons_zero, List.set_cons_succ]
          refine wpAnyG_take (i := 14) (v := ?_) rfl (by kernel_rfl) (fun _ _ _ h => h) (Or.inl ⟨by rfl, ?_⟩) hHeld ?_; rotate_left
          · (intro W hSw; (try dsimp only at hSw); go_simp) <;> with_reducible rfl
          try simp only [Act.put, List.setIfInBounds_toArray, List.set_cons_zero, List.set_cons_succ]
          refine wpAnyG_step (i := 7) rfl (by kernel_rfl) (fun K hK => ?_)
          go_simp
          refine (top_x _ _ _ _ _ _ q3 q4 q5 q6 q7 q8).mono ?_; rintro e w2 ⟨rfl, rfl⟩
          go_wp2_with fail
          refine hK.out _ _ (by go_keep) (fun hHeld => ?_)
          clear hK K
          try simp only [Act.put, List.setIfInBounds_toArray, List.set_cons_zero, List.set_cons_succ]
          refine wpAnyG_step (i := 15) rfl (by kernel_rfl) (fun K hK => ?_)
          go_simp
          refine (get_c _ _ _ _ hy0 hy1).mono ?_; rintro e w2 ⟨rfl, n1, rfl⟩
          go_wp2_with fail
          refine hK.out _ _ (by go_keep) (fun hHeld => ?_)
          clear hK K
          try simp only [Act.put, List.setIfInBounds_toArray, List.set_cons_zero, List.set_cons_succ]
          refine wpAnyG_step (i := 16) rfl (by kernel_rfl) (fun K hK => ?_)
          go_simp
          refine (put_c _ _ _ _ _ hB0 hB1 (getI_bd _ _ _ hy0 hy1).1 (getI_bd _ _ _ hy0 hy1).2).mono ?_; rintro e w2 ⟨rfl, n2, rfl⟩
          go_wp2_with fail
          refine hK.out _ _ (by go_keep) (fun hHeld => ?_)
          clear hK K
          try simp only [Act.put, List.setIfInBounds_toArray, List.set_cons_zero, List.set_cons_succ]
          refine wpAnyG_take (i := 17) (v := ?_) rfl (by kernel_rfl) (fun _ _ _ h => h) (Or.inl ⟨by rfl, ?_⟩) hHeld ?_; rotate_left
          · (intro W hSw; (try dsimp only at hSw); go_simp) <;> with_reducible rfl
          try simp only [Act.put, List.setIfInBounds_toArray, List.set_cons_zero, List.set_cons_succ]
          refine wpAnyG_last (n := 18) rfl (by kernel_rfl) (by kernel_rfl) (fun K hK => ?_)
          go_simp
          refine hK.out _ _ ?_
          go_wp2
          go_roundw
          case rel => exact ⟨i' + 1, A, (putI B (pa + phi - plo) pa (getI y phi plo)), by omega, by omega, rfl, Lib.hid (by rw [HN.out]; unfold putStep; rw [if_pos rfl]; rfl), hA0, hA1, (putI_bd _ _ _ _ hB0 hB1).1, (putI_bd _ _ _ _ hB0 hB1).2, by go_simp, by go_simp, by go_simp, by go_simp, by simp [World.setCell]; omega, below_drewN (((hbel.setCell (by show w.heap.size ≤ w'.heap.size; omega) _).alloc (by simp [World.setCell]; omega) _).alloc (by simp [World.setCell]; omega) _) _⟩
          case measure => simp [intOf]; omega
      · have hB : (pk == k) = false := by simp [hkk]
        have HK := Lib.hid hkk
        clear hkk
        go_wp2
        go_roundw
        case rel => exact ⟨i' + 1, A, B, by omega, by omega, rfl, Lib.hid (by rw [HN.out]; unfold putStep; rw [if_neg HK.out]), hA0, hA1, hB0, hB1, by go_simp, by go_simp, by go_simp, by go_simp, by simp; omega, hbel.alloc (by omega) _⟩
        case measure => simp [intOf]; omega
    · have HX2 := Lib.hid (show putTo k y 14 = (A, B) by rw [← HX.out, show i'.toNat = 14 by omega])
      clear HX
      go_wp2
      go_quiet (fail)
      go_wp2
      go_ret2
      exact ⟨ret_pair (by rw [HX2.out]) (by rw [HX2.out]), below_drewN hbel _⟩
end Go.Proofs.YtmofimgodmcdjaaDoor

namespace Go.Proofs.YtmofimgodmcdjaaDoor
open Go.ChangeShapes Go.WideShapes Go.ChangeAt Go.RowKit
namespace Om

/-! fields as quotients and rests -/
theorem putU_add {X lo n V : Nat} (hX : X < 4294967296) (h : lo + n ≤ 32) (hz : X / 2 ^ lo % 2 ^ n = 0) (hV : V < 2 ^ n) : Bm.putU X lo n V = X + V * 2 ^ lo := by
  have hlt : V * 2 ^ lo < 2 ^ (lo + n) := by rw [Nat.pow_add, Nat.mul_comm]; exact Nat.mul_lt_mul_of_pos_left hV (Nat.two_pow_pos lo)
  have h32 : 2 ^ (lo + n) ≤ 2 ^ 32 := Nat.pow_le_pow_right (by omega) h
  have e : Bm.putU X lo n V = X ||| V * 2 ^ lo := by
    apply Bm.word_ext (Bm.put_lt _ _ _ _ hX) (Nat.or_lt_two_pow (n := 32) hX (Nat.lt_of_lt_of_le hlt h32))
    intro i hi
    rw [Bm.put_tb h hi, Nat.testBit_or, Nat.testBit_mul_two_pow]
    by_cases h1 : lo ≤ i ∧ i < lo + n
    · have h2 : X.testBit i = false := by
        have h3 := Nat.testBit_mod_two_pow (X / 2 ^ lo) n (i - lo)
        rw [hz, Nat.zero_testBit, Nat.testBit_div_two_pow, show i - lo + lo = i by omega] at h3
        have h4 : i - lo < n := by omega
        simpa [h4] using h3.symm
      rw [if_pos h1, h2]
      simp [h1.1]
    · rw [if_neg h1]
      by_cases h2 : lo ≤ i
      · have h3 : V.testBit (i - lo) = false := Nat.testBit_lt_two_pow (Nat.lt_of_lt_of_le hV (Nat.pow_le_pow_right (by omega) (by omega)))
        simp [h3]
      · simp [h2]
  rw [e]
  have hs := Nat.div_add_mod X (2 ^ (lo + n))
  have hl : X % 2 ^ (lo + n) = X % 2 ^ lo := by rw [Nat.pow_add, Nat.mod_mul, hz]; simp
  have hm := Nat.mod_lt X (Nat.two_pow_pos lo)
  rw [hl] at hs
  generalize X % 2 ^ lo = L at *
  have h5 : V * 2 ^ lo ||| L = V * 2 ^ lo + L := nat_join lo _ _ (by simp) hm
  have h6 : 2 ^ (lo + n) * (X / 2 ^ (lo + n)) ||| L = X := by rw [nat_join (lo + n) _ _ (by simp) (Nat.lt_of_lt_of_le hm (Nat.pow_le_pow_right (by omega) (by omega)))]; exact hs
  have h7 : V * 2 ^ lo + L < 2 ^ (lo + n) := by
    have : V * 2 ^ lo + 2 ^ lo ≤ 2 ^ (lo + n) := by
      rw [Nat.pow_add, ← Nat.succ_mul, Nat.mul_comm (2 ^ lo)]; exact Nat.mul_le_mul_right _ hV
    omega
  have h8 : X ||| V * 2 ^ lo = 2 ^ (lo + n) * (X / 2 ^ (lo + n)) ||| (V * 2 ^ lo ||| L) := by
    rw [Nat.or_comm (V * 2 ^ lo) L, ← Nat.or_assoc, h6]
  rw [h8, h5, nat_join (lo + n) _ _ (by simp) h7]
  omega

theorem putI_add (x v : Int) (hi lo : Nat) (h1 : lo ≤ hi) (h2 : hi < 32) (hx0 : 0 ≤ x) (hx1 : x < 4294967296) (hz : x / 2 ^ lo % 2 ^ (hi + 1 - lo) = 0) (hv0 : 0 ≤ v) (hv1 : v < 2 ^ (hi + 1 - lo)) :
    putI x hi lo v = x + v * 2 ^ lo := by
  obtain ⟨X, rfl⟩ := Int.eq_ofNat_of_zero_le hx0
  obtain ⟨V, rfl⟩ := Int.eq_ofNat_of_zero_le hv0
  unfold putI
  rw [if_pos (by omega)]
  simp only [Int.toNat_natCast]
  rw [putU_add (by omega) (by omega) (by exact_mod_cast hz) (by exact_mod_cast hv1)]
  simp

theorem getI_ar (x : Int) (hi lo : Nat) (h1 : lo ≤ hi) (h2 : hi < 32) (hx0 : 0 ≤ x) : getI x hi lo = x / 2 ^ lo % 2 ^ (hi + 1 - lo) := by
  obtain ⟨X, rfl⟩ := Int.eq_ofNat_of_zero_le hx0
  unfold getI
  rw [if_pos (by omega)]
  simp [Bm.getB]

/-! the two bits that are turned over -/
theorem xor3 : ∀ Z, Z < 1024 → Z ^^^ 3 = Z - Z % 4 + (3 - Z % 4) := by
  have h : ((List.range 1024).all fun Z => Z ^^^ 3 == Z - Z % 4 + (3 - Z % 4)) = true := by decide +kernel
  intro Z hZ
  simpa using List.all_eq_true.1 h Z (List.mem_range.2 hZ)

theorem xor_ar (x : Int) (hx0 : 0 ≤ x) (hx1 : x < 4294967296) : bits .xor .u32 x 12582912 = x - x / 4194304 % 4 * 4194304 + (3 - x / 4194304 % 4) * 4194304 := by
  obtain ⟨X, rfl⟩ := Int.eq_ofNat_of_zero_le hx0
  rw [show (12582912 : Int) = ((12582912 : Nat) : Int) by rfl, u32_xor_nat X 12582912 (by omega) (by decide)]
  have h1 : (X ^^^ 12582912) / 2 ^ 22 = X / 2 ^ 22 ^^^ 3 := by rw [Nat.xor_div_two_pow]
  have h2 : (X ^^^ 12582912) % 2 ^ 22 = X % 2 ^ 22 := by rw [Nat.xor_mod_two_pow]; simp
  rw [xor3 _ (by omega)] at h1
  omega
/-! sums -/
theorem put_n (x v : Int) (hi lo : Nat) (m c : Int) {hi' lo' : Int} (eh : (hi : Int) = hi') (el : (lo : Int) = lo') (hm : 2 ^ lo = m) (hc : 2 ^ (hi + 1 - lo) = c) (h1 : lo ≤ hi) (h2 : hi < 32) (hx0 : 0 ≤ x) (hx1 : x < 4294967296) (hz : x / m % c = 0) (hv0 : 0 ≤ v) (hv1 : v < c) :
    putI x hi' lo' v = x + v * m := by
  subst hm hc eh el
  exact putI_add x v hi lo h1 h2 hx0 hx1 hz hv0 hv1
theorem get_n (x : Int) (hi lo : Nat) (m c : Int) {hi' lo' : Int} (eh : (hi : Int) = hi') (el : (lo : Int) = lo') (hm : 2 ^ lo = m) (hc : 2 ^ (hi + 1 - lo) = c) (h1 : lo ≤ hi) (h2 : hi < 32) (hx0 : 0 ≤ x) : getI x hi' lo' = x / m % c := by
  subst hm hc eh el
  exact getI_ar x hi lo h1 h2 hx0

/-- is it below 0? -/
def sI (off : Int) : Int := if off < 0 then 1 else 0
/-- the first and the second halfword of an offset -/
def pA (k off : Int) : Int :=
  if k = 1 then off / 2 % 256
  else if k = 2 then off / 2 % 2048
  else if k = 3 then sI off * 1024 + off / 4096 % 64
  else if k = 4 then sI off * 1024 + off / 4096 % 1024
  else off / 64 % 2 * 512 + off / 2 % 32 * 8
def pB (k off : Int) : Int :=
  if k = 3 then off / 262144 % 2 * 8192 + off / 524288 % 2 * 2048 + off / 2 % 2048
  else if k = 4 then (1 + off / 8388608 % 2 + sI off) % 2 * 8192 + (1 + off / 4194304 % 2 + sI off) % 2 * 2048 + off / 2 % 2048
  else 0

theorem putTo_1 (x : Int) (hx0 : 0 ≤ x) : putTo 1 x 14 = (0 + (x / 2 % 256) * 1, 0) := by
  have e : putTo 1 x 14 = (putI 0 7 0 (getI x 8 1), 0) := by simp [putTo, putStep, pieceAt, pieceTab]
  rw [e, (get_n x 8 1 2 256 rfl rfl (by decide) (by decide) (by decide) (by decide) hx0 : getI x 8 1 = _)]
  rw [(put_n (0) (x / 2 % 256) 7 0 1 256 rfl rfl (by decide) (by decide) (by decide) (by decide) (by omega) (by omega) (by omega) (by omega) (by omega) : putI (0) 7 0 (x / 2 % 256) = _)]

theorem putTo_2 (x : Int) (hx0 : 0 ≤ x) : putTo 2 x 14 = (0 + (x / 2 % 2048) * 1, 0) := by
  have e : putTo 2 x 14 = (putI 0 10 0 (getI x 11 1), 0) := by simp [putTo, putStep, pieceAt, pieceTab]
  rw [e, (get_n x 11 1 2 2048 rfl rfl (by decide) (by decide) (by decide) (by decide) hx0 : getI x 11 1 = _)]
  rw [(put_n (0) (x / 2 % 2048) 10 0 1 2048 rfl rfl (by decide) (by decide) (by decide) (by decide) (by omega) (by omega) (by omega) (by omega) (by omega) : putI (0) 10 0 (x / 2 % 2048) = _)]

theorem putTo_3 (x : Int) (hx0 : 0 ≤ x) : putTo 3 x 14 = (0 + (x / 1048576 % 2) * 1024 + (x / 4096 % 64) * 1, 0 + (x / 262144 % 2) * 8192 + (x / 524288 % 2) * 2048 + (x / 2 % 2048) * 1) := by
  have e : putTo 3 x 14 = (putI (putI 0 10 10 (getI x 20 20)) 5 0 (getI x 17 12), putI (putI (putI 0 13 13 (getI x 18 18)) 11 11 (getI x 19 19)) 10 0 (getI x 11 1)) := by simp [putTo, putStep, pieceAt, pieceTab]
  rw [e, (get_n x 20 20 1048576 2 rfl rfl (by decide) (by decide) (by decide) (by decide) hx0 : getI x 20 20 = _), (get_n x 17 12 4096 64 rfl rfl (by decide) (by decide) (by decide) (by decide) hx0 : getI x 17 12 = _), (get_n x 18 18 262144 2 rfl rfl (by decide) (by decide) (by decide) (by decide) hx0 : getI x 18 18 = _), (get_n x 19 19 524288 2 rfl rfl (by decide) (by decide) (by decide) (by decide) hx0 : getI x 19 19 = _), (get_n x 11 1 2 2048 rfl rfl (by decide) (by decide) (by decide) (by decide) hx0 : getI x 11 1 = _)]
  rw [(put_n (0) (x / 1048576 % 2) 10 10 1024 2 rfl rfl (by decide) (by decide) (by decide) (by decide) (by omega) (by omega) (by omega) (by omega) (by omega) : putI (0) 10 10 (x / 1048576 % 2) = _)]
  rw [(put_n (0 + (x / 1048576 % 2) * 1024) (x / 4096 % 64) 5 0 1 64 rfl rfl (by decide) (by decide) (by decide) (by decide) (by omega) (by omega) (by omega) (by omega) (by omega) : putI (0 + (x / 1048576 % 2) * 1024) 5 0 (x / 4096 % 64) = _)]
  rw [(put_n (0) (x / 262144 % 2) 13 13 8192 2 rfl rfl (by decide) (by decide) (by decide) (by decide) (by omega) (by omega) (by omega) (by omega) (by omega) : putI (0) 13 13 (x / 262144 % 2) = _)]
  rw [(put_n (0 + (x / 262144 % 2) * 8192) (x / 524288 % 2) 11 11 2048 2 rfl rfl (by decide) (by decide) (by decide) (by decide) (by omega) (by omega) (by omega) (by omega) (by omega) : putI (0 + (x / 262144 % 2) * 8192) 11 11 (x / 524288 % 2) = _)]
  rw [(put_n (0 + (x / 262144 % 2) * 8192 + (x / 524288 % 2) * 2048) (x / 2 % 2048) 10 0 1 2048 rfl rfl (by decide) (by decide) (by decide) (by decide) (by omega) (by omega) (by omega) (by omega) (by omega) : putI (0 + (x / 262144 % 2) * 8192 + (x / 524288 % 2) * 2048) 10 0 (x / 2 % 2048) = _)]

theorem putTo_4 (x : Int) (hx0 : 0 ≤ x) : putTo 4 x 14 = (0 + (x / 16777216 % 2) * 1024 + (x / 4096 % 1024) * 1, 0 + (x / 8388608 % 2) * 8192 + (x / 4194304 % 2) * 2048 + (x / 2 % 2048) * 1) := by
  have e : putTo 4 x 14 = (putI (putI 0 10 10 (getI x 24 24)) 9 0 (getI x 21 12), putI (putI (putI 0 13 13 (getI x 23 23)) 11 11 (getI x 22 22)) 10 0 (getI x 11 1)) := by simp [putTo, putStep, pieceAt, pieceTab]
  rw [e, (get_n x 24 24 16777216 2 rfl rfl (by decide) (by decide) (by decide) (by decide) hx0 : getI x 24 24 = _), (get_n x 21 12 4096 1024 rfl rfl (by decide) (by decide) (by decide) (by decide) hx0 : getI x 21 12 = _), (get_n x 23 23 8388608 2 rfl rfl (by decide) (by decide) (by decide) (by decide) hx0 : getI x 23 23 = _), (get_n x 22 22 4194304 2 rfl rfl (by decide) (by decide) (by decide) (by decide) hx0 : getI x 22 22 = _), (get_n x 11 1 2 2048 rfl rfl (by decide) (by decide) (by decide) (by decide) hx0 : getI x 11 1 = _)]
  rw [(put_n (0) (x / 16777216 % 2) 10 10 1024 2 rfl rfl (by decide) (by decide) (by decide) (by decide) (by omega) (by omega) (by omega) (by omega) (by omega) : putI (0) 10 10 (x / 16777216 % 2) = _)]
  rw [(put_n (0 + (x / 16777216 % 2) * 1024) (x / 4096 % 1024) 9 0 1 1024 rfl rfl (by decide) (by decide) (by decide) (by decide) (by omega) (by omega) (by omega) (by omega) (by omega) : putI (0 + (x / 16777216 % 2) * 1024) 9 0 (x / 4096 % 1024) = _)]
  rw [(put_n (0) (x / 8388608 % 2) 13 13 8192 2 rfl rfl (by decide) (by decide) (by decide) (by decide) (by omega) (by omega) (by omega) (by omega) (by omega) : putI (0) 13 13 (x / 8388608 % 2) = _)]
  rw [(put_n (0 + (x / 8388608 % 2) * 8192) (x / 4194304 % 2) 11 11 2048 2 rfl rfl (by decide) (by decide) (by decide) (by decide) (by omega) (by omega) (by omega) (by omega) (by omega) : putI (0 + (x / 8388608 % 2) * 8192) 11 11 (x / 4194304 % 2) = _)]
  rw [(put_n (0 + (x / 8388608 % 2) * 8192 + (x / 4194304 % 2) * 2048) (x / 2 % 2048) 10 0 1 2048 rfl rfl (by decide) (by decide) (by decide) (by decide) (by omega) (by omega) (by omega) (by omega) (by omega) : putI (0 + (x / 8388608 % 2) * 8192 + (x / 4194304 % 2) * 2048) 10 0 (x / 2 % 2048) = _)]

theorem putTo_5 (x : Int) (hx0 : 0 ≤ x) : putTo 5 x 14 = (0 + (x / 64 % 2) * 512 + (x / 2 % 32) * 8, 0) := by
  have e : putTo 5 x 14 = (putI (putI 0 9 9 (getI x 6 6)) 7 3 (getI x 5 1), 0) := by simp [putTo, putStep, pieceAt, pieceTab]
  rw [e, (get_n x 6 6 64 2 rfl rfl (by decide) (by decide) (by decide) (by decide) hx0 : getI x 6 6 = _), (get_n x 5 1 2 32 rfl rfl (by decide) (by decide) (by decide) (by decide) hx0 : getI x 5 1 = _)]
  rw [(put_n (0) (x / 64 % 2) 9 9 512 2 rfl rfl (by decide) (by decide) (by decide) (by decide) (by omega) (by omega) (by omega) (by omega) (by omega) : putI (0) 9 9 (x / 64 % 2) = _)]
  rw [(put_n (0 + (x / 64 % 2) * 512) (x / 2 % 32) 7 3 8 32 rfl rfl (by decide) (by decide) (by decide) (by decide) (by omega) (by omega) (by omega) (by omega) (by omega) : putI (0 + (x / 64 % 2) * 512) 7 3 (x / 2 % 32) = _)]

theorem put_1 (off : Int) (_h1 : -256 ≤ off) (_h2 : off ≤ 254) (_h3 : off % 2 = 0) : putA 1 off = pA 1 off ∧ putB 1 off = pB 1 off := by
  have hx0 : 0 ≤ off % 4294967296 := by omega
  have hc : ∀ X, crossI 1 X = X := fun X => by unfold crossI; rw [if_neg (by omega)]
  unfold putA putB
  rw [hc, putTo_1 _ hx0]
  refine ⟨?_, ?_⟩
  · show _ = off / 2 % 256
    dsimp only; omega
  · rfl

theorem put_2 (off : Int) (_h1 : -2048 ≤ off) (_h2 : off ≤ 2046) (_h3 : off % 2 = 0) : putA 2 off = pA 2 off ∧ putB 2 off = pB 2 off := by
  have hx0 : 0 ≤ off % 4294967296 := by omega
  have hc : ∀ X, crossI 2 X = X := fun X => by unfold crossI; rw [if_neg (by omega)]
  unfold putA putB
  rw [hc, putTo_2 _ hx0]
  refine ⟨?_, ?_⟩
  · show _ = off / 2 % 2048
    dsimp only; omega
  · rfl

theorem put_3 (off : Int) (h1 : -1048576 ≤ off) (h2 : off ≤ 1048574) (_h3 : off % 2 = 0) : putA 3 off = pA 3 off ∧ putB 3 off = pB 3 off := by
  have hx0 : 0 ≤ off % 4294967296 := by omega
  have hc : ∀ X, crossI 3 X = X := fun X => by unfold crossI; rw [if_neg (by omega)]
  unfold putA putB
  rw [hc, putTo_3 _ hx0]
  refine ⟨?_, ?_⟩
  · show _ = sI off * 1024 + off / 4096 % 64
    unfold sI
    split <;> (dsimp only; omega)
  · show _ = off / 262144 % 2 * 8192 + off / 524288 % 2 * 2048 + off / 2 % 2048
    dsimp only; omega

theorem put_4 (off : Int) (h1 : -16777216 ≤ off) (h2 : off ≤ 16777214) (_h3 : off % 2 = 0) : putA 4 off = pA 4 off ∧ putB 4 off = pB 4 off := by
  have hx0 : 0 ≤ off % 4294967296 := by omega
  unfold putA putB
  have hA : pA 4 off = sI off * 1024 + off / 4096 % 1024 := by unfold pA; simp
  have hB : pB 4 off = (1 + off / 8388608 % 2 + sI off) % 2 * 8192 + (1 + off / 4194304 % 2 + sI off) % 2 * 2048 + off / 2 % 2048 := by unfold pB; simp
  rw [hA, hB]
  by_cases hs : off < 0
  · have e : sI off = 1 := by unfold sI; rw [if_pos hs]
    have hc : crossI 4 (off % 4294967296) = off % 4294967296 := by
      unfold crossI
      rw [(get_n _ 24 24 16777216 2 rfl rfl (by decide) (by decide) (by decide) (by decide) hx0 : getI _ 24 24 = _), if_neg (by omega)]
    rw [hc, putTo_4 _ hx0, e]
    have hX : off % 4294967296 = off + 4294967296 := by omega
    rw [hX]
    have f1 : (off + 4294967296) / 16777216 % 2 = 1 := by omega
    have f2 : (off + 4294967296) / 4096 % 1024 = off / 4096 % 1024 := by omega
    have f3 : (off + 4294967296) / 8388608 % 2 = (1 + off / 8388608 % 2 + 1) % 2 := by omega
    have f4 : (off + 4294967296) / 4194304 % 2 = (1 + off / 4194304 % 2 + 1) % 2 := by omega
    have f5 : (off + 4294967296) / 2 % 2048 = off / 2 % 2048 := by omega
    rw [f1, f2, f3, f4, f5]
    refine ⟨?_, ?_⟩
    · show 0 + 1 * 1024 + off / 4096 % 1024 * 1 = 1 * 1024 + off / 4096 % 1024
      generalize off / 4096 % 1024 = q; omega
    · generalize (1 + off / 8388608 % 2 + 1) % 2 = q1
      generalize (1 + off / 4194304 % 2 + 1) % 2 = q2
      generalize off / 2 % 2048 = q3
      show 0 + q1 * 8192 + q2 * 2048 + q3 * 1 = q1 * 8192 + q2 * 2048 + q3
      omega
  · have e : sI off = 0 := by unfold sI; rw [if_neg hs]
    have hm : off % 4294967296 = off := by omega
    have hc : crossI 4 (off % 4294967296) = off - off / 4194304 % 4 * 4194304 + (3 - off / 4194304 % 4) * 4194304 := by
      unfold crossI
      rw [(get_n _ 24 24 16777216 2 rfl rfl (by decide) (by decide) (by decide) (by decide) hx0 : getI _ 24 24 = _), if_pos (by omega), hm, xor_ar _ (by omega) (by omega)]
    have h22 : off / 4194304 = 2 * (off / 8388608 % 2) + off / 4194304 % 2 := by omega
    have hq : 0 ≤ off / 8388608 % 2 ∧ off / 8388608 % 2 ≤ 1 ∧ 0 ≤ off / 4194304 % 2 ∧ off / 4194304 % 2 ≤ 1 := by omega
    have h23 : off / 4194304 % 4 = 2 * (off / 8388608 % 2) + off / 4194304 % 2 := by omega
    have hl : off - off / 4194304 % 4 * 4194304 = off % 4194304 := by omega
    have hr : 0 ≤ off % 4194304 ∧ off % 4194304 < 4194304 := by omega
    have g1 : off / 4096 % 1024 = off % 4194304 / 4096 := by omega
    have g2 : off / 2 % 2048 = off % 4194304 / 2 % 2048 := by omega
    rw [hl, h23] at hc
    rw [hc, putTo_4 _ (by omega), e, g1, g2]
    clear hc h22 h23 hl g1 g2 hA hB hm hx0 e hs
    generalize off / 8388608 % 2 = j at *
    generalize off / 4194304 % 2 = i at *
    generalize off % 4194304 = L at *
    have f1 : (L + (3 - (2 * j + i)) * 4194304) / 16777216 % 2 = 0 := by omega
    have f2 : (L + (3 - (2 * j + i)) * 4194304) / 4096 % 1024 = L / 4096 := by omega
    have f3 : (L + (3 - (2 * j + i)) * 4194304) / 8388608 % 2 = (1 + j + 0) % 2 := by omega
    have f4 : (L + (3 - (2 * j + i)) * 4194304) / 4194304 % 2 = (1 + i + 0) % 2 := by omega
    have f5 : (L + (3 - (2 * j + i)) * 4194304) / 2 % 2048 = L / 2 % 2048 := by omega
    rw [f1, f2, f3, f4, f5]
    refine ⟨?_, ?_⟩
    · show 0 + 0 * 1024 + L / 4096 * 1 = 0 * 1024 + L / 4096
      generalize L / 4096 = q; omega
    · generalize (1 + j + 0) % 2 = q1
      generalize (1 + i + 0) % 2 = q2
      generalize L / 2 % 2048 = q3
      show 0 + q1 * 8192 + q2 * 2048 + q3 * 1 = q1 * 8192 + q2 * 2048 + q3
      omega

theorem put_5 (off : Int) (h1 : 0 ≤ off) (h2 : off ≤ 126) (_h3 : off % 2 = 0) : putA 5 off = pA 5 off ∧ putB 5 off = pB 5 off := by
  have hx0 : 0 ≤ off % 4294967296 := by omega
  have hc : ∀ X, crossI 5 X = X := fun X => by unfold crossI; rw [if_neg (by omega)]
  unfold putA putB
  rw [hc, putTo_5 _ hx0]
  refine ⟨?_, ?_⟩
  · show _ = off / 64 % 2 * 512 + off / 2 % 32 * 8
    dsimp only; omega
  · rfl

/-- a kind's range, out of the test -/
theorem fits_spec {k off : Int} (h : fitsB k off = true) : 1 ≤ k ∧ k ≤ 5 ∧ lowI k ≤ off ∧ off ≤ highI k ∧ off % 2 = 0 := by
  unfold fitsB at h; simpa using h

end Om
end Go.Proofs.YtmofimgodmcdjaaDoor
