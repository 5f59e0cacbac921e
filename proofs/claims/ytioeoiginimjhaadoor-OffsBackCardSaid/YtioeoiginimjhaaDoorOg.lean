/- Contract of the program's Get of offsets: a loop over the table of pieces. -/
import Derived.Test.YtioeoiginimjhaaDoorRows
import Derived.Test.YtioeoiginimjhaaDoorOf
import Derived.Deep.RegionHeld3
namespace Go.Proofs.YtioeoiginimjhaaDoor
open Go.ChangeShapes Go.WideShapes Go.ChangeAt Go.RowKit

structure Piece where
  k : Int
  h : Int
  a : Int
  hi : Int
  lo : Int
def pieceTab : List Piece := [⟨1, 0, 0, 8, 1⟩, ⟨2, 0, 0, 11, 1⟩, ⟨3, 0, 10, 20, 20⟩, ⟨3, 0, 0, 17, 12⟩, ⟨3, 1, 13, 18, 18⟩, ⟨3, 1, 11, 19, 19⟩, ⟨3, 1, 0, 11, 1⟩, ⟨4, 0, 10, 24, 24⟩, ⟨4, 0, 0, 21, 12⟩, ⟨4, 1, 13, 23, 23⟩, ⟨4, 1, 11, 22, 22⟩, ⟨4, 1, 0, 11, 1⟩, ⟨5, 0, 9, 6, 6⟩, ⟨5, 0, 3, 5, 1⟩]
def pieceAt (n : Nat) : Piece := pieceTab.getD n ⟨0, 0, 0, 0, 0⟩

def cellsOfPiece (p : Piece) : Value := .agg #[.int .i64 p.k, .int .i64 p.h, .int .i64 p.a, .int .i64 p.hi, .int .i64 p.lo]

theorem index_piece (n : Nat) (hn : n < 14) (w : World) : (Instr.index 36 (.agg pieceCells.toArray) (.int .i64 (n : Int))).run Tryd.prog w = .ok (cellsOfPiece (pieceAt n)) w := by
  rcases (by omega : n = 0 ∨ n = 1 ∨ n = 2 ∨ n = 3 ∨ n = 4 ∨ n = 5 ∨ n = 6 ∨ n = 7 ∨ n = 8 ∨ n = 9 ∨ n = 10 ∨ n = 11 ∨ n = 12 ∨ n = 13) with rfl | rfl | rfl | rfl | rfl | rfl | rfl | rfl | rfl | rfl | rfl | rfl | rfl | rfl <;> kernel_rfl

/-- what the loops ask of a piece -/
structure PieceOk (p : Piece) : Prop where
  h0 : 0 ≤ p.h
  h1 : p.h < 2
  a0 : 0 ≤ p.a
  a1 : p.a < 32
  hi0 : 0 ≤ p.hi
  hi1 : p.hi < 32
  lo0 : 0 ≤ p.lo
  lo1 : p.lo < 32
theorem piece_ok (n : Nat) (hn : n < 14) : PieceOk (pieceAt n) := by
  rcases (by omega : n = 0 ∨ n = 1 ∨ n = 2 ∨ n = 3 ∨ n = 4 ∨ n = 5 ∨ n = 6 ∨ n = 7 ∨ n = 8 ∨ n = 9 ∨ n = 10 ∨ n = 11 ∨ n = 12 ∨ n = 13) with rfl | rfl | rfl | rfl | rfl | rfl | rfl | rfl | rfl | rfl | rfl | rfl | rfl | rfl <;> exact ⟨by decide, by decide, by decide, by decide, by decide, by decide, by decide, by decide⟩

/-- one piece read: into x out of the halfwords -/
def getStep (k h0 h1 : Int) (p : Piece) (x : Int) : Int := if p.k = k then putI x p.hi p.lo (getI (if p.h = 0 then h0 else h1) (p.a + p.hi - p.lo) p.a) else x
def getTo (k h0 h1 : Int) : Nat → Int
  | 0 => 0
  | n + 1 => getStep k h0 h1 (pieceAt n) (getTo k h0 h1 n)

theorem getI_bd (x hi lo : Int) (hx0 : 0 ≤ x) (hx : x < 4294967296) : 0 ≤ getI x hi lo ∧ getI x hi lo < 4294967296 := by
  unfold getI
  split
  · exact getv_bd x hi lo hx0 hx
  · omega
theorem putI_bd (x hi lo v : Int) (hx0 : 0 ≤ x) (hx : x < 4294967296) : 0 ≤ putI x hi lo v ∧ putI x hi lo v < 4294967296 := by
  unfold putI
  split
  · have := Bm.put_lt x.toNat lo.toNat (hi.toNat + 1 - lo.toNat) v.toNat (by omega)
    omega
  · omega

def widthI (k : Int) : Int := if k = 1 then 9 else if k = 2 then 12 else if k = 3 then 21 else if k = 4 then 25 else 8
def getV (k h0 h1 : Int) : Int := signI (crossI k (getTo k h0 h1 14)) (widthI k)

theorem underP : Tryd.prog.underlying 36 = some (.array 14 35) := by kernel_rfl
theorem infoP : (Tryd.prog.info? 36).map (·.size) = some pieceCells.length := by kernel_rfl

theorem top_x (k h a hi lo : Int) (w : World) (ha : 0 ≤ a) (ha2 : a < 32) (hh : 0 ≤ hi) (hh2 : hi < 32) (hl : 0 ≤ lo) (hl2 : lo < 32) :
    Calls Tryd.prog 17 #[.agg #[.int .i64 k, .int .i64 h, .int .i64 a, .int .i64 hi, .int .i64 lo]] w fun e w' => e = .returned (.int .i64 (a + hi - lo)) ∧ w' = w.alloc (.cells #[.int .i64 k, .int .i64 h, .int .i64 a, .int .i64 hi, .int .i64 lo] 35) := by
  go_enter Tryd.func17, Tryd.ntmps17
  go_wp2
  go_ret
  exact ⟨rfl, rfl⟩

theorem below_other {B k : Nat} {a w : World} (h : Below B a (w.drewN k)) (n : Nat) : Below B a (w.drewN n) := ⟨h.os, h.tape, h.output, h.size, h.block⟩

theorem cross_bd (k x : Int) (hx0 : 0 ≤ x) (hx : x < 4294967296) : 0 ≤ crossI k x ∧ crossI k x < 4294967296 := by
  unfold crossI
  split
  · have h := bounds_u32 (wf_bits .xor .u32 x 12582912)
    omega
  · omega

theorem range_later {w : World} {cs : List Value} (h : w.rangeAt 0 0 cs) (hs : 0 < w.heap.size) (o : Obj) (n : Nat) : ((w.alloc o).drewN n).rangeAt 0 0 cs := fun j v hv =>
  (World.cell?_alloc_lt w o ⟨0, 0 + j, none⟩ hs).trans (h j v hv)

theorem oget_c (k a b : Int) (w : World) (hk : 1 ≤ k ∧ k ≤ 5) (hT : Tabs w) :
    Calls Tryd.prog 13 #[.int .i64 k, .int .i64 a, .int .i64 b] w fun e w' => e = .returned (.int .i64 (getV k (a % 4294967296) (b % 4294967296))) ∧ Below w.heap.size w w' := by
  have hp := hT.p
  have hs : 0 < w.heap.size := by have := hT.big; omega
  have HR := Lib.hid hT.r
  have hbig : 1 < w.heap.size := by have := hT.big; omega
  clear hT
  obtain ⟨h0, e0⟩ : ∃ h, a % 4294967296 = h := ⟨_, rfl⟩
  obtain ⟨h1, e1⟩ : ∃ h, b % 4294967296 = h := ⟨_, rfl⟩
  have ha0 : 0 ≤ h0 := by omega
  have ha1 : h0 < 4294967296 := by omega
  have hb0 : 0 ≤ h1 := by omega
  have hb1 : h1 < 4294967296 := by omega
  rw [e0, e1]
  go_enter Tryd.func13, Tryd.ntmps13
  go_wp2_with (first
    | (go_at_call 20; refine (isKind_yes _ _ hk.1 hk.2).mono ?_; rintro e w' ⟨rfl, n, rfl⟩)
    | (refine wpList_load_mid rfl 36 (.global 0) rfl 0 0 rfl pieceCells _ (range_later hp hs _ _) underP rfl infoP ?_))
  clear hp e0 e1
  go_loopw [8, 20] (fun xs is wr => ∃ i' X : Int, 0 ≤ i' ∧ i' ≤ 14 ∧ is = .int .i64 i' ∧ RowKit.Hid (getTo k h0 h1 i'.toNat = X) ∧ xs = .int .u32 X ∧ 0 ≤ X ∧ X < 4294967296 ∧
    wr.cell? ⟨w.heap.size, 0, none⟩ = some (.int .u32 h0) ∧ wr.cell? ⟨w.heap.size, 1, none⟩ = some (.int .u32 h1) ∧ w.heap.size < wr.heap.size ∧ Below w.heap.size w wr) (fun _ is _ => (14 - intOf is).toNat)
  case atStart => exact ⟨0, 0, by omega, by omega, rfl, Lib.hid rfl, rfl, by omega, by omega, by go_simp, by go_simp, by simp, below_drewN ((Below.refl _ _).alloc (Nat.le_refl _) _) _⟩
  case round =>
    obtain ⟨i', X, hi0, hi1, rfl, HX, rfl, hX0, hX1, hc0, hc1, hlt, hbel⟩ := hrel
    by_cases hi : i' < 14
    · have hidx : ∀ W : World, (Instr.index 36 (.agg pieceCells.toArray) (.int .i64 i')).run Tryd.prog W = .ok (cellsOfPiece (pieceAt i'.toNat)) W := fun W => by
        have h := index_piece i'.toNat (by omega) W
        rwa [show ((i'.toNat : Nat) : Int) = i' by omega] at h
      have hok := piece_ok i'.toNat (by omega)
      have HN := Lib.hid (show getTo k h0 h1 (i' + 1).toNat = getStep k h0 h1 (pieceAt i'.toNat) X by
        rw [show (i' + 1).toNat = i'.toNat + 1 by omega, ← HX.out]; rfl)
      clear HX
      generalize pieceAt i'.toNat = p at *
      obtain ⟨pk, ph, pa, phi, plo⟩ := p
      unfold cellsOfPiece at hidx
      dsimp only at hidx
      obtain ⟨q1, q2, q3, q4, q5, q6, q7, q8⟩ := hok
      dsimp only at q1 q2 q3 q4 q5 q6 q7 q8
      by_cases hkk : pk = k
      · have hB : (pk == k) = true := by simp [hkk]
        subst hkk
        rcases (by omega : ph = 0 ∨ ph = 1) with rfl | rfl
        · go_wp2
          go_region_held3 (fun w' => w'.cell? ⟨wr.heap.size, 0, none⟩ = some (.int .i64 pk) ∧ w'.cell? ⟨wr.heap.size, 1, none⟩ = some (.int .i64 0) ∧ w'.cell? ⟨wr.heap.size, 2, none⟩ = some (.int .i64 pa) ∧ w'.cell? ⟨wr.heap.size, 3, none⟩ = some (.int .i64 phi) ∧ w'.cell? ⟨wr.heap.size, 4, none⟩ = some (.int .i64 plo) ∧
            w'.cell? ⟨w.heap.size, 0, none⟩ = some (.int .u32 h0) ∧ w'.cell? ⟨w.heap.size, 1, none⟩ = some (.int .u32 h1) ∧ w.heap.size < w'.heap.size ∧ wr.heap.size < w'.heap.size ∧ Below w.heap.size w w')
            (first
              | (go_split_ands; refine ⟨by assumption, by assumption, by assumption, by assumption, by assumption, by assumption, by assumption, by assumption, by assumption, by first | exact below_drewN (by assumption) _ | exact below_other (by assumption) _⟩)
              | (go_split_ands; refine ⟨(hbel2.cell (by assumption)).trans (by assumption), (hbel2.cell (by assumption)).trans (by assumption), (hbel2.cell (by assumption)).trans (by assumption), (hbel2.cell (by assumption)).trans (by assumption), (hbel2.cell (by assumption)).trans (by assumption), (hbel2.cell (by assumption)).trans (by assumption), (hbel2.cell (by assumption)).trans (by assumption), Nat.lt_of_lt_of_le (by assumption) hbel2.size, Nat.lt_of_lt_of_le (by assumption) hbel2.size, Below.trans (by assumption) (hbel2.mono (Nat.le_of_lt (by assumption)))⟩)
              | (refine ⟨by go_simp, by go_simp, by go_simp, by go_simp, by go_simp, by go_simp, by go_simp, by simp; omega, by simp, (hbel.alloc (by omega) _).drew⟩))
            (first
              | (go_at_call 17; refine (top_c _ _ _ _ _ _ q3 q4 q5 q6 q7 q8).mono ?_; rintro e w' ⟨rfl, hbel2⟩)
              | (go_at_call 18; refine (get_c _ _ _ _ ha0 ha1).mono ?_; rintro e w' ⟨rfl, n1, rfl⟩)
              | (go_at_call 16; refine (put_c _ _ _ _ _ hX0 hX1 (getI_bd _ _ _ ha0 ha1).1 (getI_bd _ _ _ ha0 ha1).2).mono ?_; rintro e w' ⟨rfl, n2, rfl⟩))
          all_goals
            go_split_ands
            go_wp2
            go_roundw
            case rel => exact ⟨i' + 1, _, by omega, by omega, rfl, Lib.hid (by rw [HN.out]; unfold getStep; rw [if_pos rfl]; rfl), rfl, (putI_bd _ _ _ _ hX0 hX1).1, (putI_bd _ _ _ _ hX0 hX1).2, by assumption, by assumption, by assumption, by first | assumption | exact below_other (by assumption) _⟩
            case measure => simp [intOf]; omega
        · go_wp2
          go_region_held3 (fun w' => w'.cell? ⟨wr.heap.size, 0, none⟩ = some (.int .i64 pk) ∧ w'.cell? ⟨wr.heap.size, 1, none⟩ = some (.int .i64 1) ∧ w'.cell? ⟨wr.heap.size, 2, none⟩ = some (.int .i64 pa) ∧ w'.cell? ⟨wr.heap.size, 3, none⟩ = some (.int .i64 phi) ∧ w'.cell? ⟨wr.heap.size, 4, none⟩ = some (.int .i64 plo) ∧
            w'.cell? ⟨w.heap.size, 0, none⟩ = some (.int .u32 h0) ∧ w'.cell? ⟨w.heap.size, 1, none⟩ = some (.int .u32 h1) ∧ w.heap.size < w'.heap.size ∧ wr.heap.size < w'.heap.size ∧ Below w.heap.size w w')
            (first
              | (go_split_ands; refine ⟨by assumption, by assumption, by assumption, by assumption, by assumption, by assumption, by assumption, by assumption, by assumption, by first | exact below_drewN (by assumption) _ | exact below_other (by assumption) _⟩)
              | (go_split_ands; refine ⟨(hbel2.cell (by assumption)).trans (by assumption), (hbel2.cell (by assumption)).trans (by assumption), (hbel2.cell (by assumption)).trans (by assumption), (hbel2.cell (by assumption)).trans (by assumption), (hbel2.cell (by assumption)).trans (by assumption), (hbel2.cell (by assumption)).trans (by assumption), (hbel2.cell (by assumption)).trans (by assumption), Nat.lt_of_lt_of_le (by assumption) hbel2.size, Nat.lt_of_lt_of_le (by assumption) hbel2.size, Below.trans (by assumption) (hbel2.mono (Nat.le_of_lt (by assumption)))⟩)
              | (refine ⟨by go_simp, by go_simp, by go_simp, by go_simp, by go_simp, by go_simp, by go_simp, by simp; omega, by simp, (hbel.alloc (by omega) _).drew⟩))
            (first
              | (go_at_call 17; refine (top_c _ _ _ _ _ _ q3 q4 q5 q6 q7 q8).mono ?_; rintro e w' ⟨rfl, hbel2⟩)
              | (go_at_call 18; refine (get_c _ _ _ _ hb0 hb1).mono ?_; rintro e w' ⟨rfl, n1, rfl⟩)
              | (go_at_call 16; refine (put_c _ _ _ _ _ hX0 hX1 (getI_bd _ _ _ hb0 hb1).1 (getI_bd _ _ _ hb0 hb1).2).mono ?_; rintro e w' ⟨rfl, n2, rfl⟩))
          all_goals
            go_split_ands
            go_wp2
            go_roundw
            case rel => exact ⟨i' + 1, _, by omega, by omega, rfl, Lib.hid (by rw [HN.out]; unfold getStep; rw [if_pos rfl]; rfl), rfl, (putI_bd _ _ _ _ hX0 hX1).1, (putI_bd _ _ _ _ hX0 hX1).2, by assumption, by assumption, by assumption, by first | assumption | exact below_other (by assumption) _⟩
            case measure => simp [intOf]; omega
      · have hB : (pk == k) = false := by simp [hkk]
        have HK := Lib.hid hkk
        clear hkk
        go_wp2
        go_roundw
        case rel => exact ⟨i' + 1, X, by omega, by omega, rfl, Lib.hid (by rw [HN.out]; unfold getStep; rw [if_neg HK.out]), rfl, hX0, hX1, by go_simp, by go_simp, by simp; omega, hbel.alloc (by omega) _⟩
        case measure => simp [intOf]; omega
    · have hR := HR.out
      have HX2 := Lib.hid (show getTo k h0 h1 14 = X by rw [← HX.out, show i'.toNat = 14 by omega])
      clear HX
      rcases kinds hk with rfl | rfl | rfl | rfl | rfl
      · have c2 : wr.cell? ⟨1, 2, none⟩ = some (.int .i64 9) := (hbel.cell (by show 1 < w.heap.size; omega)).trans (by simpa using hR 2 _ rfl)
        clear hR
        go_wp2
        go_quiet (first | (go_at_call 15; first | exact Calls.quiet_of (cross_c _ _ _ hX0 hX1) | exact drawn_on (cross_c _ _ _ hX0 hX1)) | (go_at_call 23; first | exact Calls.quiet_of (sign_c _ _ _ (cross_bd _ _ hX0 hX1).1 (cross_bd _ _ hX0 hX1).2) | exact drawn_on (sign_c _ _ _ (cross_bd _ _ hX0 hX1).1 (cross_bd _ _ hX0 hX1).2)))
        go_wp2
        go_ret
        exact ⟨ret_int (by unfold getV; rw [HX2.out]; rfl), below_drewN hbel _⟩
      · have c2 : wr.cell? ⟨1, 5, none⟩ = some (.int .i64 12) := (hbel.cell (by show 1 < w.heap.size; omega)).trans (by simpa using hR 5 _ rfl)
        clear hR
        go_wp2
        go_quiet (first | (go_at_call 15; first | exact Calls.quiet_of (cross_c _ _ _ hX0 hX1) | exact drawn_on (cross_c _ _ _ hX0 hX1)) | (go_at_call 23; first | exact Calls.quiet_of (sign_c _ _ _ (cross_bd _ _ hX0 hX1).1 (cross_bd _ _ hX0 hX1).2) | exact drawn_on (sign_c _ _ _ (cross_bd _ _ hX0 hX1).1 (cross_bd _ _ hX0 hX1).2)))
        go_wp2
        go_ret
        exact ⟨ret_int (by unfold getV; rw [HX2.out]; rfl), below_drewN hbel _⟩
      · have c2 : wr.cell? ⟨1, 8, none⟩ = some (.int .i64 21) := (hbel.cell (by show 1 < w.heap.size; omega)).trans (by simpa using hR 8 _ rfl)
        clear hR
        go_wp2
        go_quiet (first | (go_at_call 15; first | exact Calls.quiet_of (cross_c _ _ _ hX0 hX1) | exact drawn_on (cross_c _ _ _ hX0 hX1)) | (go_at_call 23; first | exact Calls.quiet_of (sign_c _ _ _ (cross_bd _ _ hX0 hX1).1 (cross_bd _ _ hX0 hX1).2) | exact drawn_on (sign_c _ _ _ (cross_bd _ _ hX0 hX1).1 (cross_bd _ _ hX0 hX1).2)))
        go_wp2
        go_ret
        exact ⟨ret_int (by unfold getV; rw [HX2.out]; rfl), below_drewN hbel _⟩
      · have c2 : wr.cell? ⟨1, 11, none⟩ = some (.int .i64 25) := (hbel.cell (by show 1 < w.heap.size; omega)).trans (by simpa using hR 11 _ rfl)
        clear hR
        go_wp2
        go_quiet (first | (go_at_call 15; first | exact Calls.quiet_of (cross_c _ _ _ hX0 hX1) | exact drawn_on (cross_c _ _ _ hX0 hX1)) | (go_at_call 23; first | exact Calls.quiet_of (sign_c _ _ _ (cross_bd _ _ hX0 hX1).1 (cross_bd _ _ hX0 hX1).2) | exact drawn_on (sign_c _ _ _ (cross_bd _ _ hX0 hX1).1 (cross_bd _ _ hX0 hX1).2)))
        go_wp2
        go_ret
        exact ⟨ret_int (by unfold getV; rw [HX2.out]; rfl), below_drewN hbel _⟩
      · have c2 : wr.cell? ⟨1, 14, none⟩ = some (.int .i64 8) := (hbel.cell (by show 1 < w.heap.size; omega)).trans (by simpa using hR 14 _ rfl)
        clear hR
        go_wp2
        go_quiet (first | (go_at_call 15; first | exact Calls.quiet_of (cross_c _ _ _ hX0 hX1) | exact drawn_on (cross_c _ _ _ hX0 hX1)) | (go_at_call 23; first | exact Calls.quiet_of (sign_c _ _ _ (cross_bd _ _ hX0 hX1).1 (cross_bd _ _ hX0 hX1).2) | exact drawn_on (sign_c _ _ _ (cross_bd _ _ hX0 hX1).1 (cross_bd _ _ hX0 hX1).2)))
        go_wp2
        go_ret
        exact ⟨ret_int (by unfold getV; rw [HX2.out]; rfl), below_drewN hbel _⟩

theorem oget_no (k a b : Int) (w : World) (hk : ¬ (1 ≤ k ∧ k ≤ 5)) :
    Calls Tryd.prog 13 #[.int .i64 k, .int .i64 a, .int .i64 b] w fun e w' => e = .returned (.int .i64 0) ∧ Below w.heap.size w w' := by
  go_enter Tryd.func13, Tryd.ntmps13
  go_wp2_with ((go_at_call 20; refine (isKind_no _ _ hk).mono ?_; rintro e w' ⟨rfl, n, rfl⟩))
  go_ret
  exact ⟨rfl, below_drewN (Below.refl _ _) _⟩
end Go.Proofs.YtioeoiginimjhaaDoor
