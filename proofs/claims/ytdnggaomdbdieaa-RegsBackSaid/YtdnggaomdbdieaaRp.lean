/- Contracts of runLen and part: how long a run is, and how it is written. -/
import Derived.Test.YtdnggaomdbdieaaRows
import Derived.Test.YtdnggaomdbdieaaRf
import Derived.Test.YtdnggaomdbdieaaRa
namespace Go.Proofs.Ytdnggaomdbdieaa
open Go.ChangeShapes Go.WideShapes Go.ChangeAt Go.RowKit

theorem intsN_getD (l : List Nat) (j : Nat) : (Rm.intsN l).getD j 0 = ((l.getD j 0 : Nat) : Int) := by
  unfold Rm.intsN
  rw [List.getD, List.getElem?_map, List.getD]
  cases l[j]? <;> rfl

/-- a row of registers that is not empty has an address, and all of it lies there -/
theorem row_at {w : World} {B : Nat} {A : Option Addr} {l : List Nat} (h : IntsAt w B A (Rm.intsN l)) (hl : l ≠ []) :
    ∃ b off, A = some ⟨b, off, none⟩ ∧ b < B ∧ ∀ j, j < l.length → w.cell? ⟨b, off + j, none⟩ = some (.int .i64 (l.getD j 0 : Nat)) := by
  rcases h with h | ⟨b, off, h1, h2, h3⟩
  · exact absurd (by simpa [Rm.intsN] using h) hl
  · exact ⟨b, off, h1, h2, fun j hj => by rw [← intsN_getD]; exact h3 j (by rw [Rm.intsN_len]; exact hj)⟩

set_option maxHeartbeats 1000000 in
theorem runLen_c (b off c : Nat) (x : Nat) (t : List Nat) (w : World) (hx : x ≤ 15) (ht : t.length ≤ 15)
    (hcells : ∀ j, j < (x :: t).length → w.cell? ⟨b, off + j, none⟩ = some (.int .i64 ((x :: t).getD j 0 : Nat))) :
    Calls Try.prog 26 #[.slice (some ⟨b, off, none⟩) (t.length + 1) c] w fun e w' => e = .returned (.int .i64 (1 + Rm.ext x t : Nat)) ∧ ∃ n, w' = w.drewN n := by
  obtain ⟨V, eV⟩ : ∃ V, 1 + Rm.ext x t = V := ⟨_, rfl⟩
  have HI := Lib.hid eV
  rw [eV]
  clear eV
  have hc0 : w.cell? ⟨b, off, none⟩ = some (.int .i64 (x : Nat)) := hcells 0 (by simp)
  go_enter Try.func26, Try.ntmps26
  go_wp2
  go_loopw [3] (fun nv wr => ∃ n k : Nat, 1 ≤ n ∧ n ≤ t.length + 1 ∧ nv = .int .i64 n ∧ RowKit.Hid (n + Rm.ext (x + n - 1) (t.drop (n - 1)) = V) ∧ wr = w.drewN k) (fun nv _ => (t.length + 1 - intOf nv).toNat)
  case atStart => exact ⟨1, 0, by omega, by omega, rfl, HI, rfl⟩
  case round =>
    obtain ⟨n, k, hn1, hn2, rfl, HF, rfl⟩ := hrel
    have hx2 : (x : Int) ≤ 15 := by omega
    have hn3 : (n : Int) ≤ 16 := by omega
    have hs0 : (0 : Int) ≤ (x : Int) + (n : Int) := by omega
    have hs1 : (x : Int) + (n : Int) ≤ 31 := by omega
    by_cases hlt : n < t.length + 1
    · have hcn := hcells n (by simpa using hlt)
      have hd : t.drop (n - 1) = (x :: t).getD n 0 :: t.drop n := by
        obtain ⟨n', rfl⟩ : ∃ n', n = n' + 1 := ⟨n - 1, by omega⟩
        have hl : n' < t.length := by omega
        rw [Nat.add_sub_cancel, List.drop_eq_getElem_cons hl, List.getD_cons_succ, List.getD, List.getElem?_eq_getElem hl]; rfl
      have hF := HF.out
      rw [hd] at hF
      clear hd HF hcells
      generalize (x :: t).getD n 0 = y at *
      have hlt' : (n : Int) < (t.length : Int) + 1 := by omega
      by_cases h1 : y = x + n
      · by_cases h2 : y ≤ 12
        · rw [Rm.run_go ⟨h1, h2⟩ hn1] at hF
          have HS := Lib.hid hF
          clear hF
          have h1' : (y : Int) = (x : Int) + (n : Int) := by omega
          have h2' : (y : Int) ≤ 12 := by omega
          have g1 : ((y : Int) == (x : Int) + (n : Int)) = true := by simp [h1']
          have g2 : decide ((y : Int) ≤ 12) = true := by simp [h2']
          go_wp2_with fail
          go_quiet (fail)
          go_wp2
          go_roundw
          case rel => exact ⟨n + 1, k + nq, by omega, by omega, by go_num, HS, by first | rfl | exact World.drewN_drewN ..⟩
          case measure => simp [intOf]; omega
        · rw [Rm.run_stop (fun h => h2 h.2) hn1] at hF
          have HS := Lib.hid hF
          clear hF
          have g1 : ((y : Int) == (x : Int) + (n : Int)) = true := by simp; omega
          have g2 : decide ((y : Int) ≤ 12) = false := by simp; omega
          go_wp2_with fail
          go_quiet (fail)
          go_wp2
          go_ret
          exact ⟨ret_int (by have := HS.out; omega), k + nq, by first | rfl | exact World.drewN_drewN ..⟩
      · rw [Rm.run_stop (fun h => h1 h.1) hn1] at hF
        have HS := Lib.hid hF
        clear hF
        have g1 : ((y : Int) == (x : Int) + (n : Int)) = false := by simp; omega
        go_wp2_with fail
        go_quiet (fail)
        go_wp2
        go_ret
        exact ⟨ret_int (by have := HS.out; omega), k + nq, by first | rfl | exact World.drewN_drewN ..⟩
    · obtain rfl : n = t.length + 1 := by omega
      have hF := HF.out
      rw [Nat.add_sub_cancel, List.drop_length, Rm.run_end] at hF
      have HS := Lib.hid hF
      clear hF HF hcells
      have g0 : decide (((t.length + 1 : Nat) : Int) < (t.length : Int) + 1) = false := by simp
      go_wp2_with fail
      go_quiet (fail)
      go_wp2
      go_ret
      exact ⟨ret_int (by have := HS.out; omega), k + nq, by first | rfl | exact World.drewN_drewN ..⟩

theorem cat (a b : List UInt8) : (⟨a.toArray⟩ : ByteArray) ++ ⟨b.toArray⟩ = ⟨(a ++ b).toArray⟩ := ByteArray.mk_append_mk a b

theorem part_one (b off c : Nat) (x : Nat) (w : World) (hc0 : w.cell? ⟨b, off, none⟩ = some (.int .i64 (x : Nat))) :
    Calls Try.prog 27 #[.slice (some ⟨b, off, none⟩) 1 c] w fun e w' => e = .returned (.string ⟨(Rm.nameI (x : Nat)).toArray⟩) ∧ Below w.heap.size w w' := by
  have hn := name_c (x : Nat)
  generalize Rm.nameI (x : Nat) = p at *
  go_enter Try.func27, Try.ntmps27
  go_wp2_with ((go_at_call 8; refine (hn _).mono ?_; rintro e w' ⟨rfl, hb⟩))
  go_ret
  exact ⟨rfl, hb⟩

theorem part_more (b off c n : Nat) (x z : Nat) (w : World) (hb0 : b < w.heap.size) (hn2 : n ≤ 14) (hc0 : w.cell? ⟨b, off, none⟩ = some (.int .i64 (x : Nat))) (hcz : w.cell? ⟨b, off + (n + 1), none⟩ = some (.int .i64 (z : Nat))) :
    Calls Try.prog 27 #[.slice (some ⟨b, off, none⟩) (n + 2) c] w fun e w' => e = .returned (.string ⟨(Rm.nameI (x : Nat) ++ [45] ++ Rm.nameI (z : Nat)).toArray⟩) ∧ Below w.heap.size w w' := by
  have hnx := name_c (x : Nat)
  have hnz := name_c (z : Nat)
  have l1 := Rm.name_len x
  have l2 := Rm.name_len z
  generalize Rm.nameI (x : Nat) = p at *
  generalize Rm.nameI (z : Nat) = q at *
  have l3 : (p.length : Int) ≤ 8388608 := by omega
  have l4 : (q.length : Int) ≤ 8388608 := by omega
  have l5 : ((p ++ [45]).length : Int) ≤ 8388608 := by simp; omega
  go_enter Try.func27, Try.ntmps27
  go_wp2_with fail
  refine (hnx _).mono ?_
  clear hnx
  rintro e w2 ⟨rfl, hb⟩
  have hcz2 := (hb.cell (p := ⟨b, off + (n + 1), none⟩) hb0).trans hcz
  go_wp2_with fail
  refine (hnz _).mono ?_
  clear hnz
  rintro e w3 ⟨rfl, hb3⟩
  go_wp2_with fail
  go_ret
  exact ⟨by rw [cat, cat]; rfl, hb.trans (hb3.mono hb.size)⟩

theorem part_c (b off c e : Nat) (x : Nat) (w : World) (hb0 : b < w.heap.size) (he : e ≤ 15) (hc0 : w.cell? ⟨b, off, none⟩ = some (.int .i64 (x : Nat))) (hcz : w.cell? ⟨b, off + e, none⟩ = some (.int .i64 (x + e : Nat))) :
    Calls Try.prog 27 #[.slice (some ⟨b, off, none⟩) (1 + e) c] w fun e' w' => e' = .returned (.string ⟨(Rm.piece (x, x + e)).toArray⟩) ∧ Below w.heap.size w w' := by
  cases e with
  | zero =>
    have e1 : Rm.piece (x, x + 0) = Rm.nameI (x : Nat) := by simp [Rm.piece]
    rw [e1]
    exact part_one b off c x w hc0
  | succ n =>
    have e1 : Rm.piece (x, x + (n + 1)) = Rm.nameI (x : Nat) ++ [45] ++ Rm.nameI (x + (n + 1) : Nat) := by simp [Rm.piece]
    rw [e1, show 1 + (n + 1) = n + 2 by omega]
    exact part_more b off c n x (x + (n + 1)) w hb0 (by omega) hc0 hcz
end Go.Proofs.Ytdnggaomdbdieaa
