/- Contracts of the document's own Name and Find, and of its list of names. -/
import Derived.Test.YtdnggaomdbdieaaRows
import Derived.Test.YtdnggaomdbdieaaRe
import Derived.LoopTactic
import Derived.OwnWalk
namespace Go.Proofs.Ytdnggaomdbdieaa
open Go.ChangeShapes Go.WideShapes Go.ChangeAt Go.RowKit

def nameCells : List Value := Rm.tab.map fun l => .string ⟨l.toArray⟩

theorem rnames_c (w : World) :
    Calls Try.prog 23 #[] w fun e w' => e = .returned (.slice (some ⟨w.heap.size, 0, none⟩) 19 19) ∧ w' = w.alloc (.cells nameCells.toArray 9) := by
  go_enter Try.func23, Try.ntmps23
  go_wp2
  go_ret
  exact ⟨rfl, rfl⟩

theorem new_name (w : World) (j : Nat) (hj : j < 19) : (w.alloc (.cells nameCells.toArray 9)).cell? ⟨w.heap.size, j, none⟩ = some (.string (nmS j)) := by
  rw [World.cell?_alloc_new]
  have hl : j < Rm.tab.length := hj
  simp [nameCells, nmS, Rm.nm, List.getD, List.getElem?_eq_getElem hl]

theorem rname_c (r : Int) (w : World) :
    Calls Try.prog 9 #[.int .i64 r] w fun e w' => e = .returned (.string ⟨(Rm.nameI r).toArray⟩) ∧ Below w.heap.size w w' := by
  by_cases h0 : 0 ≤ r
  · by_cases h15 : r ≤ 15
    · obtain ⟨k, rfl⟩ := Int.eq_ofNat_of_zero_le h0
      have hc := new_name w k (by omega)
      rw [Rm.name_in (by omega)]
      change Calls _ _ _ _ fun e w' => e = .returned (.string (nmS k)) ∧ _
      generalize nmS k = nmk at *
      go_enter Try.func9, Try.ntmps9
      go_wp2_with ((go_at_call 23; refine (rnames_c _).mono ?_; rintro e w' ⟨rfl, rfl⟩))
      go_ret
      exact ⟨rfl, (Below.refl _ _).alloc (Nat.le_refl _) _⟩
    · rw [Rm.name_no (by omega)]
      have h15' : 15 < r := by omega
      go_enter Try.func9, Try.ntmps9
      go_wp2
      go_ret
      exact ⟨rfl, Below.refl _ _⟩
  · rw [Rm.name_no (by omega)]
    have h0' : r < 0 := by omega
    go_enter Try.func9, Try.ntmps9
    go_wp2
    go_ret
    exact ⟨rfl, Below.refl _ _⟩

set_option maxHeartbeats 1000000 in
theorem rfind_c (s : ByteArray) (w : World) :
    Calls Try.prog 11 #[.string s] w fun e w' => e = .returned (.int .i64 (Rm.findI s.toList)) ∧ Below w.heap.size w w' := by
  obtain ⟨V, eV⟩ : ∃ V, Rm.findI s.toList = V := ⟨_, rfl⟩
  have HI := Lib.hid eV
  rw [eV]
  clear eV
  go_enter Try.func11, Try.ntmps11
  go_wp2_with ((go_at_call 23; refine (rnames_c _).mono ?_; rintro e w' ⟨rfl, rfl⟩))
  have hN := new_name w
  have hbw : Below w.heap.size w (w.alloc (.cells nameCells.toArray 9)) := (Below.refl _ _).alloc (Nat.le_refl _) _
  generalize w.alloc (.cells nameCells.toArray 9) = w2 at *
  go_loopw [4] (fun is wr => ∃ k : Nat, k ≤ 19 ∧ is = .int .i64 k ∧ RowKit.Hid (Rm.findFrom (19 - k) k s.toList = V) ∧ wr = w2) (fun is _ => (19 - intOf is).toNat)
  case atStart => exact ⟨0, by omega, rfl, HI, rfl⟩
  case round =>
    obtain ⟨k, hk, rfl, HF, rfl⟩ := hrel
    by_cases hlt : k < 19
    · have hcell := hN k hlt
      clear hN
      have hs := Rm.from_step (s := s.toList) hlt
      rw [HF.out] at hs
      clear HF
      have ePl : Rm.placeI k = if 15 < k then (k : Int) - 3 else k := rfl
      by_cases hb : Rm.nm k = s.toList
      · have hB : ((nmS k).toList == s.toList) = true := by simp [nmS, hb]
        rw [if_pos hb] at hs
        by_cases h15 : 15 < k
        · rw [ePl, if_pos h15] at hs
          have HS := Lib.hid hs
          clear hs hb ePl
          generalize nmS k = nm at *
          go_wp2
          go_ret
          exact ⟨ret_int HS.out.symm, hbw⟩
        · rw [ePl, if_neg h15] at hs
          have h15' : ¬ (15 : Int) < (k : Int) := by omega
          have HS := Lib.hid hs
          clear hs hb ePl
          generalize nmS k = nm at *
          go_wp2
          go_ret
          exact ⟨ret_int HS.out.symm, hbw⟩
      · have hB : ((nmS k).toList == s.toList) = false := by simp [nmS, hb]
        rw [if_neg hb] at hs
        have HS := Lib.hid hs
        clear hs hb ePl
        generalize nmS k = nm at *
        go_wp2
        go_roundw
        case rel => exact ⟨k + 1, by omega, by go_num, Lib.hid HS.out.symm, by first | rfl | trivial⟩
        case measure => simp [intOf]; omega
    · have hs := Rm.from_end (s := s.toList) hlt
      rw [HF.out] at hs
      have HS := Lib.hid hs
      clear hs HF hN
      go_wp2
      go_ret
      exact ⟨ret_int HS.out.symm, hbw⟩
end Go.Proofs.Ytdnggaomdbdieaa
