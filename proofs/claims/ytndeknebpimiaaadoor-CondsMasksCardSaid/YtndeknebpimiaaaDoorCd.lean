/- Contract of the document's own Conds. -/
import Derived.Test.YtndeknebpimiaaaDoorRows
import Derived.Test.YtndeknebpimiaaaDoorCc
namespace Go.Proofs.YtndeknebpimiaaaDoor
open Go.ChangeShapes Go.WideShapes Go.ChangeAt Go.RowKit

/-- how many rounds there are -/
def stepsR (m : Int) : Nat := if m = 8 then 0 else if m % 4 = 0 then 1 else if m % 2 = 0 then 2 else 3
theorem stepsR_less (m : Int) (h0 : 1 ≤ m) (h1 : m ≤ 15) (h : ¬ m = 8) : stepsR (m % 8 * 2) < stepsR m := by
  unfold stepsR
  rw [if_neg h]
  repeat' split
  all_goals omega
theorem rconds_end (c : Int) (fuel : Nat) (acc : List Int) : Cm.rcondsFrom c fuel 8 acc = acc := by
  cases fuel with
  | zero => rfl
  | succ n => rw [Cm.rcondsFrom, if_pos rfl]
theorem rconds_same (c : Int) (fuel : Nat) (m : Int) (acc : List Int) (h : ¬ m = 8) (hx : decide (8 ≤ m) = decide (c % 2 = 1)) :
    Cm.rcondsFrom c (fuel + 1) m acc = Cm.rcondsFrom c fuel (m % 8 * 2) (acc ++ [c]) := by rw [Cm.rcondsFrom, if_neg h, if_pos hx]
theorem rconds_none (c : Int) (fuel : Nat) (m : Int) (acc : List Int) (h : ¬ m = 8) (hx : ¬ decide (8 ≤ m) = decide (c % 2 = 1)) (h14 : c = 14) :
    Cm.rcondsFrom c (fuel + 1) m acc = [] := by rw [Cm.rcondsFrom, if_neg h, if_neg hx, if_pos h14]
theorem rconds_other (c : Int) (fuel : Nat) (m : Int) (acc : List Int) (h : ¬ m = 8) (hx : ¬ decide (8 ≤ m) = decide (c % 2 = 1)) (h14 : ¬ c = 14) :
    Cm.rcondsFrom c (fuel + 1) m acc = Cm.rcondsFrom c fuel (m % 8 * 2) (acc ++ [Cm.turnI c]) := by rw [Cm.rcondsFrom, if_neg h, if_neg hx, if_neg h14]

theorem rconds_no_c (c m : Int) (w : World) (h : ¬ (0 ≤ c ∧ c ≤ 14 ∧ 1 ≤ m ∧ m ≤ 15)) :
    Calls Tryd.prog 23 #[.int .i64 c, .int .i64 m] w (RowOut (Cm.condsI c m) w) := by
  rw [Cm.conds_no h]
  by_cases hc : 0 ≤ c
  · by_cases hc2 : c ≤ 14
    · by_cases hm : 1 ≤ m
      · have hm2 : 15 < m := by omega
        clear h
        go_enter Tryd.func23, Tryd.ntmps23
        go_wp2
        go_ret
        exact row_none w 0
      · have hm2 : m < 1 := by omega
        clear h hm
        go_enter Tryd.func23, Tryd.ntmps23
        go_wp2
        go_ret
        exact row_none w 0
    · have hc3 : 14 < c := by omega
      clear h hc2
      go_enter Tryd.func23, Tryd.ntmps23
      go_wp2
      go_ret
      exact row_none w 0
  · have hc3 : c < 0 := by omega
    clear h hc
    go_enter Tryd.func23, Tryd.ntmps23
    go_wp2
    go_ret
    exact row_none w 0

set_option maxHeartbeats 2000000 in
theorem rconds_yes_c (c m0 : Int) (w : World) (hc0 : 0 ≤ c) (hc1 : c ≤ 14) (hm0 : 1 ≤ m0) (hm1 : m0 ≤ 15) :
    Calls Tryd.prog 23 #[.int .i64 c, .int .i64 m0] w (RowOut (Cm.condsI c m0) w) := by
  obtain ⟨i0, hi, hz0, hz1, hz2⟩ := info_parts Tryd.info3
  have HI := Lib.hid ((Cm.conds_same c m0 ⟨hc0, hc1⟩ ⟨hm0, hm1⟩).trans (conds_is c m0 ⟨hc0, hc1⟩ ⟨hm0, hm1⟩))
  obtain ⟨V, eV⟩ : ∃ V, Cm.condsI c m0 = V := ⟨_, rfl⟩
  rw [eV] at HI
  rw [eV]
  clear eV
  go_enter Tryd.func23, Tryd.ntmps23
  go_wp2
  go_loopw [1, 5] (fun ms v wr => ∃ (fuel : Nat) (m : Int) (acc : List Int), ms = .int .i64 m ∧ 1 ≤ m ∧ m ≤ 15 ∧ stepsR m ≤ fuel ∧ acc.length + fuel ≤ 4 ∧ RowKit.Hid (Cm.rcondsFrom c fuel m acc = V) ∧ wr.ownsRow w.heap.size 3 1 v acc.length (ints acc) ∧ Below w.heap.size w wr) (fun ms _ _ => stepsR (intOf ms))
  case atStart => exact ⟨3, m0, [c], rfl, hm0, hm1, by unfold stepsR; (repeat' split) <;> omega, by simp, HI, World.ownsRow_lit w #[.int .i64 c] 1 (Nat.le_refl _) (by unfold maxLen; omega) rfl, (Below.refl _ _).alloc (Nat.le_refl _) _⟩
  case round =>
    obtain ⟨fuel, m, acc, rfl, hi0, hi1, hfu, hal, HF, hB, hbel⟩ := hrel
    have hsz := hbel.size
    by_cases h8 : m = 8
    · subst h8
      have he := rconds_end c fuel acc
      rw [HF.out] at he
      subst he
      clear HF
      obtain ⟨A, cp, rfl, hI⟩ := IntsAt.of_own hB rfl
      go_wp2
      go_ret
      exact ⟨A, cp, rfl, hI, hbel⟩
    · have hb1 : (m == 8) = false := by simp [h8]
      have hb2 : (m != 8) = true := by simp [h8]
      have hless := stepsR_less m hi0 hi1 h8
      obtain ⟨f', rfl⟩ : ∃ f', fuel = f' + 1 := ⟨fuel - 1, by unfold stepsR at hfu; rw [if_neg h8] at hfu; revert hfu; (repeat' split) <;> omega⟩
      have hnb : 1 ≤ m % 8 * 2 ∧ m % 8 * 2 ≤ 15 := by omega
      by_cases hx : decide (8 ≤ m) = decide (c % 2 = 1)
      · have hs := rconds_same c f' m acc h8 hx
        rw [HF.out] at hs
        have HS := Lib.hid hs
        clear hs HF h8
        rcases (by omega : c % 2 = 0 ∨ c % 2 = 1) with hp | hp <;> rcases (by omega : m < 8 ∨ 8 ≤ m) with hm | hm
        · clear hx
          have hmb : decide (8 ≤ m) = false := by simp; omega
          go_wp2_with ((at_builtin; refine wpList_append_own _ rfl _ _ 33 rfl w.heap.size 3 i0 (.int .i64 0) 1 8 Tryd.underlying33 hi hz0 hz1 hz2 rfl (by omega) u5 acc.length (ints acc) rfl (hB.alloc _) ⟨wr.heap.size, 0, none⟩ 1 1 [.int .i64 c] rfl rfl (World.news_of_block (cs := #[.int .i64 c]) (t := 3) (fr := (0, 0)) (heap_alloc_new wr _)) (by simp [Value.oneCell']) (by unfold maxLen; omega) (by omega) (by simp; omega) ?_; intro v' w1 hown1 hgrow _))
          go_roundw
          case rel =>
            rw [ints_snoc] at hown1
            exact ⟨f', m % 8 * 2, acc ++ [c], rfl, hnb.1, hnb.2, by omega, by simp; omega, Lib.hid HS.out.symm, by simpa using hown1, (hbel.alloc hsz _).grown hgrow (by simp; omega) (fun j hj => (hB.lt j hj).1)⟩
          case measure => simp [intOf]; omega
        · exact absurd hx (by simp; omega)
        · exact absurd hx (by simp; omega)
        · clear hx
          go_wp2_with ((at_builtin; refine wpList_append_own _ rfl _ _ 33 rfl w.heap.size 3 i0 (.int .i64 0) 1 8 Tryd.underlying33 hi hz0 hz1 hz2 rfl (by omega) u5 acc.length (ints acc) rfl (hB.alloc _) ⟨wr.heap.size, 0, none⟩ 1 1 [.int .i64 c] rfl rfl (World.news_of_block (cs := #[.int .i64 c]) (t := 3) (fr := (0, 0)) (heap_alloc_new wr _)) (by simp [Value.oneCell']) (by unfold maxLen; omega) (by omega) (by simp; omega) ?_; intro v' w1 hown1 hgrow _))
          go_roundw
          case rel =>
            rw [ints_snoc] at hown1
            exact ⟨f', m % 8 * 2, acc ++ [c], rfl, hnb.1, hnb.2, by omega, by simp; omega, Lib.hid HS.out.symm, by simpa using hown1, (hbel.alloc hsz _).grown hgrow (by simp; omega) (fun j hj => (hB.lt j hj).1)⟩
          case measure => simp [intOf]; omega
      · by_cases h14 : c = 14
        · have hs := rconds_none c f' m acc h8 hx h14
          rw [HF.out] at hs
          have HS := Lib.hid hs
          subst h14
          have hm : 8 ≤ m := by
            by_cases q : 8 ≤ m
            · exact q
            · exact absurd (by simp; omega) hx
          clear hs HF h8 hx
          go_wp2
          go_ret
          rw [HS.out]
          exact ⟨none, 0, rfl, .inl rfl, hbel⟩
        · have hs := rconds_other c f' m acc h8 hx h14
          rw [HF.out] at hs
          have HS := Lib.hid hs
          have hb14 : (c == 14) = false := by simp [h14]
          obtain ⟨q, eq⟩ : ∃ q, Cm.turnI c = q := ⟨_, rfl⟩
          rw [eq] at HS
          have EQ := Lib.hid eq
          clear hs HF h8 h14 eq
          rcases (by omega : c % 2 = 0 ∨ c % 2 = 1) with hp | hp <;> rcases (by omega : m < 8 ∨ 8 ≤ m) with hm | hm
          · exact absurd (by simp; omega) hx
          · clear hx
            go_wp2_with (first
              | (go_at_call 13; refine (rturn_c _ _).mono ?_; rintro e w' ⟨rfl, k1, rfl⟩; rw [EQ.out])
              | (at_builtin; refine wpList_append_own _ rfl _ _ 33 rfl w.heap.size 3 i0 (.int .i64 0) 1 8 Tryd.underlying33 hi hz0 hz1 hz2 rfl (by omega) u5 acc.length (ints acc) rfl (ownsRow_drewN (hB.alloc _) _) ⟨wr.heap.size, 0, none⟩ 1 1 [.int .i64 q] rfl rfl (World.news_of_block (cs := #[.int .i64 q]) (t := 3) (fr := (0, 0)) (heap_alloc_new wr _)) (by simp [Value.oneCell']) (by unfold maxLen; omega) (by omega) (by simp; omega) ?_; intro v' w1 hown1 hgrow _))
            go_roundw
            case rel =>
              rw [ints_snoc] at hown1
              exact ⟨f', m % 8 * 2, acc ++ [q], rfl, hnb.1, hnb.2, by omega, by simp; omega, Lib.hid HS.out.symm, by simpa using hown1, (below_drewN (hbel.alloc hsz _) _).grown hgrow (by simp; omega) (fun j hj => (hB.lt j hj).1)⟩
            case measure => simp [intOf]; omega
          · clear hx
            have hmb : decide (8 ≤ m) = false := by simp; omega
            go_wp2_with (first
              | (go_at_call 13; refine (rturn_c _ _).mono ?_; rintro e w' ⟨rfl, k1, rfl⟩; rw [EQ.out])
              | (at_builtin; refine wpList_append_own _ rfl _ _ 33 rfl w.heap.size 3 i0 (.int .i64 0) 1 8 Tryd.underlying33 hi hz0 hz1 hz2 rfl (by omega) u5 acc.length (ints acc) rfl (ownsRow_drewN (hB.alloc _) _) ⟨wr.heap.size, 0, none⟩ 1 1 [.int .i64 q] rfl rfl (World.news_of_block (cs := #[.int .i64 q]) (t := 3) (fr := (0, 0)) (heap_alloc_new wr _)) (by simp [Value.oneCell']) (by unfold maxLen; omega) (by omega) (by simp; omega) ?_; intro v' w1 hown1 hgrow _))
            go_roundw
            case rel =>
              rw [ints_snoc] at hown1
              exact ⟨f', m % 8 * 2, acc ++ [q], rfl, hnb.1, hnb.2, by omega, by simp; omega, Lib.hid HS.out.symm, by simpa using hown1, (below_drewN (hbel.alloc hsz _) _).grown hgrow (by simp; omega) (fun j hj => (hB.lt j hj).1)⟩
            case measure => simp [intOf]; omega
          · exact absurd (by simp; omega) hx

theorem rconds_c (c m : Int) (w : World) : Calls Tryd.prog 23 #[.int .i64 c, .int .i64 m] w (RowOut (Cm.condsI c m) w) := by
  by_cases h : 0 ≤ c ∧ c ≤ 14 ∧ 1 ≤ m ∧ m ≤ 15
  · exact rconds_yes_c c m w h.1 h.2.1 h.2.2.1 h.2.2.2
  · exact rconds_no_c c m w h
end Go.Proofs.YtndeknebpimiaaaDoor
