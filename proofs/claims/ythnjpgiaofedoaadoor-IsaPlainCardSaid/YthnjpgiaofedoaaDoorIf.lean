/- Contracts of Find, the program's and the document's own. -/
import Derived.Test.YthnjpgiaofedoaaDoorRows
import Derived.Test.YthnjpgiaofedoaaDoorIa
import Derived.LoopTactic
import Derived.OwnWalk
import Derived.Lib.Strings
import Derived.Deep.MidRow
namespace Go.Proofs.YthnjpgiaofedoaaDoor
open Go.ChangeShapes Go.WideShapes Go.ChangeAt Go.RowKit

theorem bytes_list (l : List UInt8) : (⟨l.toArray⟩ : ByteArray).toList = l := by simp
theorem ret_found {a a' : Int} {b b' : Bool} (h : a' = a ∧ b' = b) : Ending.returned (.tuple #[.int .i64 a, .bool b]) = Ending.returned (.tuple #[.int .i64 a', .bool b']) := by rw [h.1, h.2]

theorem index_name (k : Nat) (h : k < 46) (w : World) : (Instr.index 33 (.agg nameCells.toArray) (.int .i64 (k : Int))).run Tryd.prog w = .ok (.string (nmS k)) w := by
  rcases (by omega : k = 0 ∨ k = 1 ∨ k = 2 ∨ k = 3 ∨ k = 4 ∨ k = 5 ∨ k = 6 ∨ k = 7 ∨ k = 8 ∨ k = 9 ∨ k = 10 ∨ k = 11 ∨ k = 12 ∨ k = 13 ∨ k = 14 ∨ k = 15 ∨ k = 16 ∨ k = 17 ∨ k = 18 ∨ k = 19 ∨ k = 20 ∨ k = 21 ∨ k = 22 ∨ k = 23 ∨ k = 24 ∨ k = 25 ∨ k = 26 ∨ k = 27 ∨ k = 28 ∨ k = 29 ∨ k = 30 ∨ k = 31 ∨ k = 32 ∨ k = 33 ∨ k = 34 ∨ k = 35 ∨ k = 36 ∨ k = 37 ∨ k = 38 ∨ k = 39 ∨ k = 40 ∨ k = 41 ∨ k = 42 ∨ k = 43 ∨ k = 44 ∨ k = 45) with rfl | rfl | rfl | rfl | rfl | rfl | rfl | rfl | rfl | rfl | rfl | rfl | rfl | rfl | rfl | rfl | rfl | rfl | rfl | rfl | rfl | rfl | rfl | rfl | rfl | rfl | rfl | rfl | rfl | rfl | rfl | rfl | rfl | rfl | rfl | rfl | rfl | rfl | rfl | rfl | rfl | rfl | rfl | rfl | rfl | rfl <;> kernel_rfl
theorem underN : Tryd.prog.underlying 33 = some (.array 46 9) := by kernel_rfl
theorem infoN : (Tryd.prog.info? 33).map (·.size) = some nameCells.length := by kernel_rfl

set_option maxHeartbeats 400000 in
theorem find_c (s : ByteArray) (w : World) (hT : Tabs w) :
    Calls Tryd.prog 7 #[.string s] w fun e w' => e = .returned (.tuple #[.int .i64 (Im.findI s.toList), .bool (Im.findI s.toList != 0)]) ∧ ∃ n, w' = w.drewN n := by
  have hp := hT.r
  clear hT
  obtain ⟨V, eV⟩ : ∃ V, Im.findI s.toList = V := ⟨_, rfl⟩
  have HI := Lib.hid eV
  rw [eV]
  clear eV
  go_enter Tryd.func7, Tryd.ntmps7
  go_wp2_with (refine wpList_load_mid rfl 33 (.global 0) rfl 0 0 rfl nameCells _ hp underN rfl infoN ?_)
  clear hp
  go_loopw [7] (fun is wr => ∃ k n : Nat, k ≤ 46 ∧ is = .int .i64 k ∧ RowKit.Hid (Im.findFrom (46 - k) k s.toList = V) ∧ wr = w.drewN n) (fun is _ => (46 - intOf is).toNat)
  case atStart => exact ⟨0, 0, by omega, rfl, HI, rfl⟩
  case round =>
    obtain ⟨k, n, hk, rfl, HF, rfl⟩ := hrel
    by_cases hlt : k < 46
    · have hidx := index_name k hlt
      have hs := Im.from_step (s := s.toList) hlt
      rw [HF.out] at hs
      clear HF
      by_cases h0 : k = 0
      · rw [if_neg (by omega)] at hs
        have HS := Lib.hid hs
        have hno : ¬ (1 ≤ (k : Int) ∧ (k : Int) ≤ 45) := by omega
        clear hs h0
        generalize nmS k = nmk at *
        go_wp2_with ((go_at_call 15; refine (isOp_no _ _ hno).mono ?_; rintro e w' ⟨rfl, m, rfl⟩))
        go_roundw
        case rel => exact ⟨k + 1, n + m, by omega, by go_num, Lib.hid HS.out.symm, by first | rfl | exact World.drewN_drewN ..⟩
        case measure => simp [intOf]; omega
      · have hyes : 1 ≤ (k : Int) ∧ (k : Int) ≤ 45 := by omega
        by_cases hb : Im.nm k = s.toList
        · have hB : ((nmS k).toList == s.toList) = true := by simp [nmS, hb]
          rw [if_pos ⟨h0, hb⟩] at hs
          have HS := Lib.hid hs
          have hv : (V != 0) = true := by simp [hs]; omega
          clear hs hb
          generalize nmS k = nmk at *
          go_wp2_with ((go_at_call 15; refine (isOp_yes _ _ hyes).mono ?_; rintro e w' ⟨rfl, m, rfl⟩))
          go_ret2
          exact ⟨ret_found ⟨HS.out, hv⟩, n + m, by first | rfl | exact World.drewN_drewN ..⟩
        · have hB : ((nmS k).toList == s.toList) = false := by simp [nmS, hb]
          rw [if_neg (fun h => hb h.2)] at hs
          have HS := Lib.hid hs
          clear hs hb
          generalize nmS k = nmk at *
          go_wp2_with ((go_at_call 15; refine (isOp_yes _ _ hyes).mono ?_; rintro e w' ⟨rfl, m, rfl⟩))
          go_roundw
          case rel => exact ⟨k + 1, n + m, by omega, by go_num, Lib.hid HS.out.symm, by first | rfl | exact World.drewN_drewN ..⟩
          case measure => simp [intOf]; omega
    · have hs := Im.from_end (s := s.toList) hlt
      rw [HF.out] at hs
      have HS := Lib.hid hs
      have hv : (V != 0) = false := by simp [hs]
      clear hs HF
      go_wp2
      go_ret2
      exact ⟨ret_found ⟨HS.out, hv⟩, n, rfl⟩

set_option maxHeartbeats 400000 in
theorem rfind_c (s : ByteArray) (w : World) :
    Calls Tryd.prog 8 #[.string s] w fun e w' => e = .returned (.tuple #[.int .i64 (Im.findI s.toList), .bool (Im.findI s.toList != 0)]) ∧ Below w.heap.size w w' := by
  obtain ⟨V, eV⟩ : ∃ V, Im.findI s.toList = V := ⟨_, rfl⟩
  have h1 := Im.from_step (k := 0) (s := s.toList) (by omega)
  rw [if_neg (by omega)] at h1
  have HI := Lib.hid (h1.symm.trans eV)
  rw [eV]
  clear eV h1
  go_enter Tryd.func8, Tryd.ntmps8
  go_wp2
  go_loopw [4] (fun is wr => ∃ k : Nat, 1 ≤ k ∧ k ≤ 46 ∧ is = .int .i64 k ∧ RowKit.Hid (Im.findFrom (46 - k) k s.toList = V) ∧ Below w.heap.size w wr) (fun is _ => (46 - intOf is).toNat)
  case atStart => exact ⟨1, by omega, by omega, rfl, HI, Below.refl _ _⟩
  case round =>
    obtain ⟨k, hk1, hk, rfl, HF, hbel⟩ := hrel
    by_cases hlt : k < 46
    · have hcell := new_name wr k hlt
      have hs := Im.from_step (s := s.toList) hlt
      rw [HF.out] at hs
      clear HF
      have hsz := hbel.size
      by_cases hb : Im.nm k = s.toList
      · have hB : ((nmS k).toList == s.toList) = true := by simp [nmS, hb]
        rw [if_pos ⟨by omega, hb⟩] at hs
        have HS := Lib.hid hs
        have hv : (V != 0) = true := by simp [hs]; omega
        clear hs hb
        generalize nmS k = nmk at *
        go_wp2_with ((go_at_call 16; refine (rnames_c _).mono ?_; rintro e w' ⟨rfl, rfl⟩))
        go_ret2
        exact ⟨ret_found ⟨HS.out, hv⟩, hbel.alloc hsz _⟩
      · have hB : ((nmS k).toList == s.toList) = false := by simp [nmS, hb]
        rw [if_neg (fun h => hb h.2)] at hs
        have HS := Lib.hid hs
        clear hs hb
        generalize nmS k = nmk at *
        go_wp2_with ((go_at_call 16; refine (rnames_c _).mono ?_; rintro e w' ⟨rfl, rfl⟩))
        go_roundw
        case rel => exact ⟨k + 1, by omega, by omega, by go_num, Lib.hid HS.out.symm, hbel.alloc hsz _⟩
        case measure => simp [intOf]; omega
    · have hs := Im.from_end (s := s.toList) hlt
      rw [HF.out] at hs
      have HS := Lib.hid hs
      have hv : (V != 0) = false := by simp [hs]
      clear hs HF
      go_wp2
      go_ret2
      exact ⟨ret_found ⟨HS.out, hv⟩, hbel⟩
end Go.Proofs.YthnjpgiaofedoaaDoor
