/- Contracts of Find, the program's and the document's own. -/
import Derived.Test.YtndeknebpimiaaaDoorRows
import Derived.Test.YtndeknebpimiaaaDoorCn
import Derived.LoopTactic
import Derived.OwnWalk
import Derived.Lib.Strings
import Derived.Deep.MidRow
namespace Go.Proofs.YtndeknebpimiaaaDoor
open Go.ChangeShapes Go.WideShapes Go.ChangeAt Go.RowKit

theorem bytes_list (l : List UInt8) : (⟨l.toArray⟩ : ByteArray).toList = l := by simp

/-- the name of a number, as a text -/
def nameAt (n : Nat) : ByteArray := ⟨(Cm.nameTab.getD n []).toArray⟩
theorem index_name (n : Nat) (hn : n < 14) (w : World) : (Instr.index 40 (.agg nameCells.toArray) (.int .i64 (n : Int))).run Tryd.prog w = .ok (.string (nameAt n)) w := by
  rcases (by omega : n = 0 ∨ n = 1 ∨ n = 2 ∨ n = 3 ∨ n = 4 ∨ n = 5 ∨ n = 6 ∨ n = 7 ∨ n = 8 ∨ n = 9 ∨ n = 10 ∨ n = 11 ∨ n = 12 ∨ n = 13) with rfl | rfl | rfl | rfl | rfl | rfl | rfl | rfl | rfl | rfl | rfl | rfl | rfl | rfl <;> kernel_rfl
theorem cell_name (n : Nat) (hn : n < 14) : nameCells[n]? = some (.string (nameAt n)) := by
  rcases (by omega : n = 0 ∨ n = 1 ∨ n = 2 ∨ n = 3 ∨ n = 4 ∨ n = 5 ∨ n = 6 ∨ n = 7 ∨ n = 8 ∨ n = 9 ∨ n = 10 ∨ n = 11 ∨ n = 12 ∨ n = 13) with rfl | rfl | rfl | rfl | rfl | rfl | rfl | rfl | rfl | rfl | rfl | rfl | rfl | rfl <;> kernel_rfl

/-- what is found from k on -/
def fromI (s : List UInt8) (k : Nat) : Int := Cm.findFrom (Cm.nameTab.drop k) k s
theorem from_end (s : List UInt8) (k : Nat) (h : ¬ k < 14) : fromI s k = -1 := by
  unfold fromI
  rw [List.drop_eq_nil_of_le (by show Cm.nameTab.length ≤ k; have : Cm.nameTab.length = 14 := rfl; omega)]; rfl
theorem from_step (s : List UInt8) (k : Nat) (h : k < 14) : fromI s k = if (nameAt k).toList = s then (k : Int) else fromI s (k + 1) := by
  have hl : k < Cm.nameTab.length := h
  unfold fromI
  rw [List.drop_eq_getElem_cons hl]
  unfold nameAt
  rw [bytes_list, List.getD, List.getElem?_eq_getElem hl]
  simp [Cm.findFrom]
theorem find_from (s : List UInt8) (h1 : s ≠ [104, 115]) (h2 : s ≠ [108, 111]) (h3 : s ≠ [97, 108]) (h4 : s ≠ []) : Cm.findI s = fromI s 0 := by
  unfold Cm.findI
  rw [if_neg h1, if_neg h2, if_neg h3, if_neg h4]; rfl

theorem underN : Tryd.prog.underlying 40 = some (.array 14 9) := by kernel_rfl
theorem infoN : (Tryd.prog.info? 40).map (·.size) = some nameCells.length := by kernel_rfl

/-- the texts that are told by themselves -/
theorem find_few {s : ByteArray} {v : Int} (w : World) (h : (s.toList = [104, 115] ∧ v = 2) ∨ (s.toList = [108, 111] ∧ v = 3) ∨ (s.toList = [97, 108] ∧ v = 14) ∨ (s.toList = [] ∧ v = 14)) :
    (Calls Tryd.prog 17 #[.string s] w fun e w' => e = .returned (.int .i64 v) ∧ ∃ n, w' = w.drewN n) ∧
    (Calls Tryd.prog 18 #[.string s] w fun e w' => e = .returned (.int .i64 v) ∧ Below w.heap.size w w') ∧ Cm.findI s.toList = v := by
  rcases h with ⟨h, rfl⟩ | ⟨h, rfl⟩ | ⟨h, rfl⟩ | ⟨h, rfl⟩
  all_goals
    refine ⟨?_, ?_, by rw [h]; decide +kernel⟩
    · go_enter Tryd.func17, Tryd.ntmps17
      go_wp2
      go_ret
      exact ⟨rfl, 0, rfl⟩
    · go_enter Tryd.func18, Tryd.ntmps18
      go_wp2
      go_ret
      exact ⟨rfl, Below.refl _ _⟩

set_option maxHeartbeats 400000 in
theorem find_loop (s : ByteArray) (w : World) (hT : Tabs w) (h1 : (s.toList == [104, 115]) = false) (h2 : (s.toList == [108, 111]) = false) (h3 : (s.toList == [97, 108]) = false) (h4 : s.toList.isEmpty = false) :
    Calls Tryd.prog 17 #[.string s] w fun e w' => e = .returned (.int .i64 (fromI s.toList 0)) ∧ ∃ n, w' = w.drewN n := by
  have hp := hT.r
  clear hT
  go_enter Tryd.func17, Tryd.ntmps17
  go_wp2_with (refine wpList_load_mid rfl 40 (.global 0) rfl 0 0 rfl nameCells _ hp underN rfl infoN ?_)
  clear hp
  go_loopw [14] (fun is wr => ∃ k n : Nat, k ≤ 14 ∧ is = .int .i64 k ∧ RowKit.Hid (fromI s.toList k = fromI s.toList 0) ∧ wr = w.drewN n) (fun is _ => (14 - intOf is).toNat)
  case atStart => exact ⟨0, 0, by omega, rfl, Lib.hid rfl, rfl⟩
  case round =>
    obtain ⟨k, n, hk, rfl, HF, rfl⟩ := hrel
    by_cases hlt : k < 14
    · have hidx := index_name k hlt
      have hs := from_step s.toList k hlt
      rw [HF.out] at hs
      clear HF
      generalize nameAt k = nm at *
      by_cases hb : nm.toList = s.toList
      · have hB : (nm.toList == s.toList) = true := by simp [hb]
        rw [if_pos hb] at hs
        have HS := Lib.hid hs
        clear hs hb
        go_wp2
        go_ret
        exact ⟨ret_int HS.out.symm, n, rfl⟩
      · have hB : (nm.toList == s.toList) = false := by simp [hb]
        rw [if_neg hb] at hs
        have HS := Lib.hid hs
        clear hs hb
        go_wp2
        go_roundw
        case rel => exact ⟨k + 1, n, by omega, by go_num, Lib.hid HS.out.symm, rfl⟩
        case measure => simp [intOf]; omega
    · have hs := from_end s.toList k hlt
      rw [HF.out] at hs
      have HS := Lib.hid hs
      clear hs HF
      go_wp2
      go_ret
      exact ⟨ret_int HS.out.symm, n, rfl⟩

set_option maxHeartbeats 400000 in
theorem rfind_loop (s : ByteArray) (w : World) (h1 : (s.toList == [104, 115]) = false) (h2 : (s.toList == [108, 111]) = false) (h3 : (s.toList == [97, 108]) = false) (h4 : s.toList.isEmpty = false) :
    Calls Tryd.prog 18 #[.string s] w fun e w' => e = .returned (.int .i64 (fromI s.toList 0)) ∧ Below w.heap.size w w' := by
  go_enter Tryd.func18, Tryd.ntmps18
  go_wp2
  go_loopw [3] (fun is wr => ∃ k : Nat, k ≤ 14 ∧ is = .int .i64 k ∧ RowKit.Hid (fromI s.toList k = fromI s.toList 0) ∧ Below w.heap.size w wr) (fun is _ => (14 - intOf is).toNat)
  case atStart => exact ⟨0, by omega, rfl, Lib.hid rfl, Below.refl _ _⟩
  case round =>
    obtain ⟨k, hk, rfl, HF, hbel⟩ := hrel
    by_cases hlt : k < 14
    · have hcell : (wr.alloc (.cells nameCells.toArray 9)).cell? ⟨wr.heap.size, k, none⟩ = some (.string (nameAt k)) := (new_name wr k).trans (cell_name k hlt)
      have hs := from_step s.toList k hlt
      rw [HF.out] at hs
      clear HF
      have hsz := hbel.size
      generalize nameAt k = nm at *
      by_cases hb : nm.toList = s.toList
      · have hB : (nm.toList == s.toList) = true := by simp [hb]
        rw [if_pos hb] at hs
        have HS := Lib.hid hs
        clear hs hb
        go_wp2_with ((go_at_call 30; refine (rnames_c _).mono ?_; rintro e w' ⟨rfl, rfl⟩))
        go_ret
        exact ⟨ret_int HS.out.symm, hbel.alloc hsz _⟩
      · have hB : (nm.toList == s.toList) = false := by simp [hb]
        rw [if_neg hb] at hs
        have HS := Lib.hid hs
        clear hs hb
        go_wp2_with ((go_at_call 30; refine (rnames_c _).mono ?_; rintro e w' ⟨rfl, rfl⟩))
        go_roundw
        case rel => exact ⟨k + 1, by omega, by go_num, Lib.hid HS.out.symm, hbel.alloc hsz _⟩
        case measure => simp [intOf]; omega
    · have hs := from_end s.toList k hlt
      rw [HF.out] at hs
      have HS := Lib.hid hs
      clear hs HF
      go_wp2
      go_ret
      exact ⟨ret_int HS.out.symm, hbel⟩

theorem find_both (s : ByteArray) : (∀ w, Tabs w → Calls Tryd.prog 17 #[.string s] w fun e w' => e = .returned (.int .i64 (Cm.findI s.toList)) ∧ ∃ n, w' = w.drewN n) ∧
    ∀ w, Calls Tryd.prog 18 #[.string s] w fun e w' => e = .returned (.int .i64 (Cm.findI s.toList)) ∧ Below w.heap.size w w' := by
  by_cases h1 : s.toList = [104, 115]
  · exact ⟨fun w _ => by rw [(find_few w (.inl ⟨h1, rfl⟩)).2.2]; exact (find_few w (.inl ⟨h1, rfl⟩)).1, fun w => by rw [(find_few w (.inl ⟨h1, rfl⟩)).2.2]; exact (find_few w (.inl ⟨h1, rfl⟩)).2.1⟩
  by_cases h2 : s.toList = [108, 111]
  · exact ⟨fun w _ => by rw [(find_few w (.inr (.inl ⟨h2, rfl⟩))).2.2]; exact (find_few w (.inr (.inl ⟨h2, rfl⟩))).1, fun w => by rw [(find_few w (.inr (.inl ⟨h2, rfl⟩))).2.2]; exact (find_few w (.inr (.inl ⟨h2, rfl⟩))).2.1⟩
  by_cases h3 : s.toList = [97, 108]
  · exact ⟨fun w _ => by rw [(find_few w (.inr (.inr (.inl ⟨h3, rfl⟩)))).2.2]; exact (find_few w (.inr (.inr (.inl ⟨h3, rfl⟩)))).1, fun w => by rw [(find_few w (.inr (.inr (.inl ⟨h3, rfl⟩)))).2.2]; exact (find_few w (.inr (.inr (.inl ⟨h3, rfl⟩)))).2.1⟩
  by_cases h4 : s.toList = []
  · exact ⟨fun w _ => by rw [(find_few w (.inr (.inr (.inr ⟨h4, rfl⟩)))).2.2]; exact (find_few w (.inr (.inr (.inr ⟨h4, rfl⟩)))).1, fun w => by rw [(find_few w (.inr (.inr (.inr ⟨h4, rfl⟩)))).2.2]; exact (find_few w (.inr (.inr (.inr ⟨h4, rfl⟩)))).2.1⟩
  · have b1 : (s.toList == [104, 115]) = false := by simp [h1]
    have b2 : (s.toList == [108, 111]) = false := by simp [h2]
    have b3 : (s.toList == [97, 108]) = false := by simp [h3]
    have b4 : s.toList.isEmpty = false := by simp [h4]
    rw [find_from s.toList h1 h2 h3 h4]
    exact ⟨fun w hT => find_loop s w hT b1 b2 b3 b4, fun w => rfind_loop s w b1 b2 b3 b4⟩
theorem find_c (s : ByteArray) (w : World) (hT : Tabs w) :
    Calls Tryd.prog 17 #[.string s] w fun e w' => e = .returned (.int .i64 (Cm.findI s.toList)) ∧ ∃ n, w' = w.drewN n := (find_both s).1 w hT
theorem rfind_c (s : ByteArray) (w : World) :
    Calls Tryd.prog 18 #[.string s] w fun e w' => e = .returned (.int .i64 (Cm.findI s.toList)) ∧ Below w.heap.size w w' := (find_both s).2 w
end Go.Proofs.YtndeknebpimiaaaDoor
