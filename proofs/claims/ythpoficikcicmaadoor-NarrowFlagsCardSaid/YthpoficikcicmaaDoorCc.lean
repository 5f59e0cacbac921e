/- Contract of the program's Conds. -/
import Derived.Test.YthpoficikcicmaaDoorRows
import Derived.Test.YthpoficikcicmaaDoorCb
import Derived.Test.YthpoficikcicmaaDoorCi
import Derived.Laws.OwnMore
import Derived.Deep.AppendLies
namespace Go.Proofs.YthpoficikcicmaaDoor
open Go.ChangeShapes Go.WideShapes Go.ChangeAt Go.RowKit

theorem ownsRow_drewN {w : World} {base : Nat} {e : TypeId} {size : Nat} {v : Value} {n : Nat} {xs : List Value} (h : w.ownsRow base e size v n xs) (k : Nat) : (w.drewN k).ownsRow base e size v n xs := h

theorem Tryd.info3 : (Tryd.prog.info? 3).map (fun i => (i.zero, i.size, i.bytes)) = some (some (.int .i64 0), 1, 8) := by kernel_rfl

/-- how many instructions follow -/
def stepsI (it : Int) : Nat := if it % 8 = 0 then 0 else if it % 4 = 0 then 1 else if it % 2 = 0 then 2 else 3
theorem steps_less (it : Int) (h : ¬ it % 8 = 0) : stepsI (Cm.nextI it) < stepsI it := by
  unfold stepsI Cm.nextI
  rw [if_neg h, if_neg h]
  repeat' split
  all_goals omega
theorem next_bd (it : Int) (h0 : 0 ≤ it) (h1 : it < 256) : 0 ≤ Cm.nextI it ∧ Cm.nextI it < 256 := by unfold Cm.nextI; split <;> omega
theorem cond_bd (it : Int) : 0 ≤ Cm.condI it ∧ Cm.condI it ≤ 15 := by unfold Cm.condI; split <;> omega

theorem conds_end (fuel : Nat) (it : Int) (acc : List Int) (h : it % 8 = 0) : Cm.condsFrom fuel it acc = acc := by
  cases fuel with
  | zero => rfl
  | succ n => rw [Cm.condsFrom, if_pos h]
theorem conds_step (fuel : Nat) (it : Int) (acc : List Int) (h : ¬ it % 8 = 0) :
    Cm.condsFrom (fuel + 1) it acc = if Cm.condI (Cm.nextI it) = 15 then [] else Cm.condsFrom fuel (Cm.nextI it) (acc ++ [Cm.condI (Cm.nextI it)]) := by
  rw [Cm.condsFrom, if_neg h]
theorem conds_is (c m : Int) (h1 : 0 ≤ c ∧ c ≤ 14) (h2 : 1 ≤ m ∧ m ≤ 15) : Cm.condsFrom 3 (c * 16 + m) [c] = Cm.condsI c m := by
  unfold Cm.condsI; rw [if_pos ⟨h1.1, h1.2, h2.1, h2.2⟩]
theorem state_is (c m : Int) (h1 : 0 ≤ c ∧ c ≤ 14) (h2 : 1 ≤ m ∧ m ≤ 15) : bits .or .i64 (c * 16) m = c * 16 + m :=
  Cm.or_join _ _ 4 (by omega) (by omega) (by omega) (by omega) (by omega) (by omega)

/-- what a block's conditions come back as -/
def RowOut (l : List Int) (w : World) (e : Ending) (w' : World) : Prop := ∃ A c, e = .returned (.slice A l.length c) ∧ IntsAt w' w'.heap.size A l ∧ Below w.heap.size w w'

theorem row_none (w : World) (n : Nat) : RowOut [] w (.returned (.slice none 0 0)) (w.drewN n) := ⟨none, 0, rfl, .inl rfl, below_drewN (Below.refl _ _) _⟩

theorem conds_no_c (c m : Int) (w : World) (h : ¬ (0 ≤ c ∧ c ≤ 14 ∧ 1 ≤ m ∧ m ≤ 15)) :
    Calls Tryd.prog 56 #[.int .i64 c, .int .i64 m] w (RowOut (Cm.condsI c m) w) := by
  rw [Cm.conds_no h]
  by_cases hc : 0 ≤ c ∧ c ≤ 14
  · by_cases hm : 1 ≤ m
    · have hm2 : 15 < m := by omega
      clear h
      go_enter Tryd.func56, Tryd.ntmps56
      go_wp2_with ((go_at_call 68; refine (isCond_yes _ _ hc.1 hc.2).mono ?_; rintro e w' ⟨rfl, k, rfl⟩))
      go_ret
      exact row_none _ _
    · have hm2 : m < 1 := by omega
      clear h hm
      go_enter Tryd.func56, Tryd.ntmps56
      go_wp2_with ((go_at_call 68; refine (isCond_yes _ _ hc.1 hc.2).mono ?_; rintro e w' ⟨rfl, k, rfl⟩))
      go_ret
      exact row_none _ _
  · clear h
    go_enter Tryd.func56, Tryd.ntmps56
    go_wp2_with ((go_at_call 68; refine (isCond_no _ _ hc).mono ?_; rintro e w' ⟨rfl, k, rfl⟩))
    go_ret
    exact row_none _ _

set_option maxHeartbeats 1000000 in
theorem conds_yes_c (c m : Int) (w : World) (hc0 : 0 ≤ c) (hc1 : c ≤ 14) (hm0 : 1 ≤ m) (hm1 : m ≤ 15) :
    Calls Tryd.prog 56 #[.int .i64 c, .int .i64 m] w (RowOut (Cm.condsI c m) w) := by
  obtain ⟨i0, hi, hz0, hz1, hz2⟩ := info_parts Tryd.info3
  have hst := state_is c m ⟨hc0, hc1⟩ ⟨hm0, hm1⟩
  have HI := Lib.hid (conds_is c m ⟨hc0, hc1⟩ ⟨hm0, hm1⟩)
  obtain ⟨V, eV⟩ : ∃ V, Cm.condsI c m = V := ⟨_, rfl⟩
  rw [eV] at HI
  rw [eV]
  clear eV
  go_enter Tryd.func56, Tryd.ntmps56
  go_wp2_with ((go_at_call 68; refine (isCond_yes _ _ hc0 hc1).mono ?_; rintro e w' ⟨rfl, k0, rfl⟩))
  go_loopw [5, 6] (fun v its wr => ∃ (fuel : Nat) (it : Int) (acc : List Int), its = .int .i64 it ∧ 0 ≤ it ∧ it < 256 ∧ stepsI it ≤ fuel ∧ acc.length + fuel ≤ 4 ∧ RowKit.Hid (Cm.condsFrom fuel it acc = V) ∧ wr.ownsRow w.heap.size 3 1 v acc.length (ints acc) ∧ Below w.heap.size w wr) (fun _ its _ => stepsI (intOf its))
  case atStart => exact ⟨3, c * 16 + m, [c], rfl, by omega, by omega, by unfold stepsI; (repeat' split) <;> omega, by simp, HI, ownsRow_drewN (World.ownsRow_lit w #[.int .i64 c] 1 (Nat.le_refl _) (by unfold maxLen; omega) rfl) _, below_drewN ((Below.refl _ _).alloc (Nat.le_refl _) _) _⟩
  case round =>
    obtain ⟨fuel, it, acc, rfl, hi0, hi1, hfu, hal, HF, hB, hbel⟩ := hrel
    have hsz := hbel.size
    by_cases h8 : it % 8 = 0
    · have hb1 : (bits .and .i64 it 7 == 0) = true := by rw [Cm.and7]; simp [h8]
      have hb2 : (bits .and .i64 it 7 != 0) = false := by rw [Cm.and7]; simp [h8]
      have he := conds_end fuel it acc h8
      rw [HF.out] at he
      subst he
      clear h8 HF
      obtain ⟨A, cp, rfl, hI⟩ := IntsAt.of_own hB rfl
      go_wp2
      go_ret
      exact ⟨A, cp, rfl, hI, hbel⟩
    · have hb1 : (bits .and .i64 it 7 == 0) = false := by rw [Cm.and7]; simp [h8]
      have hb2 : (bits .and .i64 it 7 != 0) = true := by rw [Cm.and7]; simp [h8]
      have hless := steps_less it h8
      have hnb := next_bd it hi0 hi1
      obtain ⟨f', rfl⟩ : ∃ f', fuel = f' + 1 := ⟨fuel - 1, by omega⟩
      have hs := conds_step f' it acc h8
      rw [HF.out] at hs
      have hq := cond_bd (Cm.nextI it)
      obtain ⟨d, ed⟩ : ∃ d, Cm.nextI it = d := ⟨_, rfl⟩
      have ED := Lib.hid ed
      rw [ed] at hs hless hnb hq
      obtain ⟨q, eq⟩ : ∃ q, Cm.condI d = q := ⟨_, rfl⟩
      have EQ := Lib.hid eq
      rw [eq] at hs hq
      clear h8 HF ed eq
      obtain ⟨hq0, hq1⟩ := hq
      by_cases h15 : q = 15
      · rw [if_pos h15] at hs
        have HS := Lib.hid hs
        clear hs
        have hn : ¬ (0 ≤ q ∧ q ≤ 14) := by omega
        clear h15
        go_wp2_with (first
          | (go_at_call 69; refine (next_c _ _).mono ?_; rintro e w' ⟨rfl, k1, rfl⟩; rw [ED.out])
          | (go_at_call 70; refine (cond_c _ _).mono ?_; rintro e w' ⟨rfl, k2, rfl⟩; rw [EQ.out])
          | (go_at_call 68; refine (isCond_no _ _ hn).mono ?_; rintro e w' ⟨rfl, k3, rfl⟩))
        go_ret
        rw [HS.out]
        exact ⟨none, 0, rfl, .inl rfl, below_drewN hbel _⟩
      · rw [if_neg h15] at hs
        have HS := Lib.hid hs
        clear hs
        have hq2 : q ≤ 14 := by omega
        clear h15
        go_wp2_with (first
          | (go_at_call 69; refine (next_c _ _).mono ?_; rintro e w' ⟨rfl, k1, rfl⟩; rw [ED.out])
          | (go_at_call 70; refine (cond_c _ _).mono ?_; rintro e w' ⟨rfl, k2, rfl⟩; rw [EQ.out])
          | (go_at_call 68; refine (isCond_yes _ _ hq0 hq2).mono ?_; rintro e w' ⟨rfl, k3, rfl⟩)
          | (at_builtin; refine wpList_append_own _ rfl _ _ 71 rfl w.heap.size 3 i0 (.int .i64 0) 1 8 Tryd.underlying71 hi hz0 hz1 hz2 rfl (by omega) u5 acc.length (ints acc) rfl (ownsRow_drewN (hB.alloc _) _) ⟨wr.heap.size, 0, none⟩ 1 1 [.int .i64 q] rfl rfl (World.news_of_block (cs := #[.int .i64 q]) (t := 3) (fr := (0, 0)) (heap_alloc_new wr _)) (by simp [Value.oneCell']) (by unfold maxLen; omega) (by omega) (by simp; omega) ?_; intro v' w1 hown1 hgrow _))
        go_roundw
        case rel =>
          rw [ints_snoc] at hown1
          refine ⟨f', d, acc ++ [q], rfl, hnb.1, hnb.2, by omega, by simp; omega, Lib.hid HS.out.symm, by simpa using hown1, ?_⟩
          exact (below_drewN (hbel.alloc hsz _) _).grown hgrow (by simp; omega) (fun j hj => (hB.lt j hj).1)
        case measure => simp [intOf]; omega

theorem conds_c (c m : Int) (w : World) : Calls Tryd.prog 56 #[.int .i64 c, .int .i64 m] w (RowOut (Cm.condsI c m) w) := by
  by_cases h : 0 ≤ c ∧ c ≤ 14 ∧ 1 ≤ m ∧ m ≤ 15
  · exact conds_yes_c c m w h.1 h.2.1 h.2.2.1 h.2.2.2
  · exact conds_no_c c m w h
end Go.Proofs.YthpoficikcicmaaDoor
