/- Contracts of the program's functions on single conditions and IT states, and of the document's own answers for them: isCond. Contracts of Next and Cond, the program's and the document's own. Rows of numbers in memory; two rows of the same numbers are told to be the same. Contract of the program's Conds. Contracts of isOneOf and has. Contract of the program's Sets. Contracts of what Check asks one by one: registers, the last operand. -/
import Derived.Test.YtdcnkmkaafimlaaDoorRows
import Derived.Test.YtdcnkmkaafimlaaDoorGa
import Derived.LoopTactic
import Derived.OwnWalk
import Derived.Laws.AppendOwn
import Derived.Laws.OwnMore
import Derived.Deep.AppendLies

namespace Go.Proofs.YtdcnkmkaafimlaaDoor
open Go.ChangeShapes Go.WideShapes Go.ChangeAt Go.RowKit

theorem isCond_yes (c : Int) (w : World) (h1 : 0 ≤ c) (h2 : c ≤ 14) :
    Calls Tryd.prog 61 #[.int .i64 c] w fun e w' => e = .returned (.bool true) ∧ ∃ n, w' = w.drewN n := by
  go_enter Tryd.func61, Tryd.ntmps61
  go_wp2
  go_ret
  exact ⟨rfl, 0, rfl⟩
theorem isCond_no (c : Int) (w : World) (h : ¬ (0 ≤ c ∧ c ≤ 14)) :
    Calls Tryd.prog 61 #[.int .i64 c] w fun e w' => e = .returned (.bool false) ∧ ∃ n, w' = w.drewN n := by
  by_cases h1 : 0 ≤ c
  · have h2 : ¬ (c ≤ 14) := by omega
    clear h
    go_enter Tryd.func61, Tryd.ntmps61
    go_wp2
    go_ret
    exact ⟨rfl, 0, rfl⟩
  · clear h
    go_enter Tryd.func61, Tryd.ntmps61
    go_wp2
    go_ret
    exact ⟨rfl, 0, rfl⟩
end Go.Proofs.YtdcnkmkaafimlaaDoor

namespace Go.Proofs.YtdcnkmkaafimlaaDoor
open Go.ChangeShapes Go.WideShapes Go.ChangeAt Go.RowKit

theorem next_val (it : Int) (h : ¬ it % 8 = 0) : bits .or .i64 (it % 256 / 32 * 32) (wrap64 (it * 2) % 32) = Cm.nextI it := by
  unfold Cm.nextI
  rw [if_neg h, wrap64, Cm.or_join _ _ 5 (by omega) (by omega) (by omega) (by omega) (by omega) (by omega)]
  omega

theorem next_c (it : Int) (w : World) :
    Calls Tryd.prog 62 #[.int .i64 it] w fun e w' => e = .returned (.int .i64 (Cm.nextI it)) ∧ ∃ n, w' = w.drewN n := by
  by_cases h : it % 8 = 0
  · have e : Cm.nextI it = 0 := by unfold Cm.nextI; rw [if_pos h]
    rw [e]
    have hB : (bits .and .i64 it 7 == 0) = true := by rw [Cm.and7]; simp [h]
    clear h e
    go_enter Tryd.func62, Tryd.ntmps62
    go_wp2
    go_ret
    exact ⟨rfl, 0, rfl⟩
  · have HV := Lib.hid (next_val it h)
    have hB : (bits .and .i64 it 7 == 0) = false := by rw [Cm.and7]; simp [h]
    clear h
    go_enter Tryd.func62, Tryd.ntmps62
    go_wp2
    go_ret
    exact ⟨ret_int (by rw [← HV.out, ← Cm.and224, ← Cm.and31]), 0, rfl⟩

theorem cond_val (it : Int) : bits .and .i64 (it / 16) 15 = it % 256 / 16 := by
  rw [Cm.and15]; omega

theorem cond_c (it : Int) (w : World) :
    Calls Tryd.prog 63 #[.int .i64 it] w fun e w' => e = .returned (.int .i64 (Cm.condI it)) ∧ ∃ n, w' = w.drewN n := by
  by_cases h : it % 16 = 0
  · have e : Cm.condI it = 14 := by unfold Cm.condI; rw [if_pos h]
    rw [e]
    have hB : (bits .and .i64 it 15 == 0) = true := by rw [Cm.and15]; simp [h]
    clear h e
    go_enter Tryd.func63, Tryd.ntmps63
    go_wp2
    go_ret
    exact ⟨rfl, 0, rfl⟩
  · have e : Cm.condI it = it % 256 / 16 := by unfold Cm.condI; rw [if_neg h]
    rw [e]
    have HV := Lib.hid (cond_val it)
    have hB : (bits .and .i64 it 15 == 0) = false := by rw [Cm.and15]; simp [h]
    clear h e
    go_enter Tryd.func63, Tryd.ntmps63
    go_wp2
    go_ret
    exact ⟨ret_int (by rw [← HV.out]), 0, rfl⟩

end Go.Proofs.YtdcnkmkaafimlaaDoor

namespace Go.Proofs.YtdcnkmkaafimlaaDoor
open Go.ChangeShapes Go.WideShapes Go.ChangeAt Go.RowKit

/-- the numbers of an int slice as they lie in memory -/
def ints (l : List Int) : List Value := l.map (Value.int .i64)
theorem ints_snoc (l : List Int) (z : Int) : ints l ++ [.int .i64 z] = ints (l ++ [z]) := by simp [ints]

/-- the address A leads to the numbers xs, in a block below B (nowhere, where there is none) -/
def IntsAt (w : World) (B : Nat) (A : Option Addr) (xs : List Int) : Prop :=
  xs = [] ∨ ∃ b off, A = some ⟨b, off, none⟩ ∧ b < B ∧ ∀ j, j < xs.length → w.cell? ⟨b, off + j, none⟩ = some (.int .i64 (xs.getD j 0))

theorem IntsAt.below {w w' : World} {B B' : Nat} {A : Option Addr} {xs : List Int} (h : IntsAt w B A xs) (hb : Below B' w w') (hB : B ≤ B') : IntsAt w' B A xs := by
  rcases h with h | ⟨b, off, h1, h2, h3⟩
  · exact .inl h
  · exact .inr ⟨b, off, h1, h2, fun j hj => (hb.cell (p := ⟨b, off + j, none⟩) (by show b < B'; omega)).trans (h3 j hj)⟩
theorem IntsAt.at_ {w : World} {B : Nat} {A : Option Addr} {xs : List Int} (h : IntsAt w B A xs) {k : Nat} (hk : k < xs.length) :
    ∃ b off, A = some ⟨b, off, none⟩ ∧ b < B ∧ w.cell? ⟨b, off + k, none⟩ = some (.int .i64 (xs.getD k 0)) := by
  rcases h with rfl | ⟨b, off, h1, h2, h3⟩
  · simp at hk
  · exact ⟨b, off, h1, h2, h3 k hk⟩
theorem IntsAt.drewN {w : World} {B n : Nat} {A : Option Addr} {xs : List Int} (h : IntsAt w B A xs) : IntsAt (w.drewN n) B A xs := by
  rcases h with h | ⟨b, off, h1, h2, h3⟩
  · exact .inl h
  · exact .inr ⟨b, off, h1, h2, fun j hj => by have := h3 j hj; simpa using this⟩
theorem IntsAt.more {w : World} {B B' : Nat} {A : Option Addr} {xs : List Int} (h : IntsAt w B A xs) (hB : B ≤ B') : IntsAt w B' A xs := by
  rcases h with h | ⟨b, off, h1, h2, h3⟩
  · exact .inl h
  · exact .inr ⟨b, off, h1, by omega, h3⟩
theorem IntsAt.new_ (w : World) (xs : List Int) : IntsAt (w.alloc (.cells (ints xs).toArray 3)) (w.heap.size + 1) (some ⟨w.heap.size, 0, none⟩) xs := by
  refine .inr ⟨w.heap.size, 0, rfl, by omega, fun j hj => ?_⟩
  rw [Nat.zero_add, World.cell?_alloc_new]
  simp [ints, List.getD, List.getElem?_eq_getElem hj]

/-- a row of the call's own reads as its numbers -/
theorem IntsAt.of_own {w : World} {base n : Nat} {v : Value} {xs : List Int} (h : w.ownsRow base 3 1 v n (ints xs)) (hn : n = xs.length) :
    ∃ A c, v = .slice A xs.length c ∧ IntsAt w w.heap.size A xs := by
  subst hn
  have hlt := h.lt
  rcases h.2 with ⟨rfl, h0⟩ | ⟨g, cap, cur, rfl, _, hh, hnc, _, hsz, ht⟩
  · have e : xs = [] := List.eq_nil_of_length_eq_zero h0
    subst e
    exact ⟨none, 0, rfl, .inl rfl⟩
  · refine ⟨_, cap, rfl, .inr ⟨g, 0, rfl, (hlt g rfl).2, fun j hj => ?_⟩⟩
    have hj2 : j < cur.size := by omega
    have e1 : cur.toList[j]? = (ints xs)[j]? := by
      rw [← ht, List.getElem?_take_of_lt (by omega)]
    have e2 : (ints xs)[j]? = some (.int .i64 (xs.getD j 0)) := by
      simp [ints, List.getD, List.getElem?_eq_getElem hj]
    rw [Nat.zero_add]
    simp only [World.cell?, hh]
    rw [← e2, ← e1, Array.getElem?_toList]
    simp

end Go.Proofs.YtdcnkmkaafimlaaDoor

namespace Go.Proofs.YtdcnkmkaafimlaaDoor
open Go.ChangeShapes Go.WideShapes Go.ChangeAt Go.RowKit

theorem ownsRow_drewN {w : World} {base : Nat} {e : TypeId} {size : Nat} {v : Value} {n : Nat} {xs : List Value} (h : w.ownsRow base e size v n xs) (k : Nat) : (w.drewN k).ownsRow base e size v n xs := h

theorem Tryd.info3 : (Tryd.prog.info? 3).map (fun i => (i.zero, i.size, i.bytes)) = some (some (.int .i64 0), 1, 8) := by kernel_rfl

/-- how many instructions follow -/
def stepsI (it : Int) : Nat := if it % 8 = 0 then 0 else if it % 4 = 0 then 1 else if it % 2 = 0 then 2 else 3
theorem steps_less (it : Int) (h : ¬ it % 8 = 0) : stepsI (Cm.nextI it) < stepsI it := by
  unfold stepsI Cm.nextI
  rw [if_neg h, if_neg h]
  repeat' split
  all_goals omega
theorem next_bd (it : Int) (h0 : 0 ≤ it) (h1 : it < 256) : 0 ≤ Cm.nextI it ∧ Cm.nextI it < 256 := by unfold Cm.nextI; split <;> omega
theorem cond_bd (it : Int) : 0 ≤ Cm.condI it ∧ Cm.condI it ≤ 15 := by unfold Cm.condI; split <;> omega

theorem conds_end (fuel : Nat) (it : Int) (acc : List Int) (h : it % 8 = 0) : Cm.condsFrom fuel it acc = acc := by
  cases fuel with
  | zero => rfl
  | succ n => rw [Cm.condsFrom, if_pos h]
theorem conds_step (fuel : Nat) (it : Int) (acc : List Int) (h : ¬ it % 8 = 0) :
    Cm.condsFrom (fuel + 1) it acc = if Cm.condI (Cm.nextI it) = 15 then [] else Cm.condsFrom fuel (Cm.nextI it) (acc ++ [Cm.condI (Cm.nextI it)]) := by
  rw [Cm.condsFrom, if_neg h]
theorem conds_is (c m : Int) (h1 : 0 ≤ c ∧ c ≤ 14) (h2 : 1 ≤ m ∧ m ≤ 15) : Cm.condsFrom 3 (c * 16 + m) [c] = Cm.condsI c m := by
  unfold Cm.condsI; rw [if_pos ⟨h1.1, h1.2, h2.1, h2.2⟩]
theorem state_is (c m : Int) (h1 : 0 ≤ c ∧ c ≤ 14) (h2 : 1 ≤ m ∧ m ≤ 15) : bits .or .i64 (c * 16) m = c * 16 + m :=
  Cm.or_join _ _ 4 (by omega) (by omega) (by omega) (by omega) (by omega) (by omega)

/-- what a block's conditions come back as -/
def RowOut (l : List Int) (w : World) (e : Ending) (w' : World) : Prop := ∃ A c, e = .returned (.slice A l.length c) ∧ IntsAt w' w'.heap.size A l ∧ Below w.heap.size w w'

theorem row_none (w : World) (n : Nat) : RowOut [] w (.returned (.slice none 0 0)) (w.drewN n) := ⟨none, 0, rfl, .inl rfl, below_drewN (Below.refl _ _) _⟩

theorem conds_no_c (c m : Int) (w : World) (h : ¬ (0 ≤ c ∧ c ≤ 14 ∧ 1 ≤ m ∧ m ≤ 15)) :
    Calls Tryd.prog 54 #[.int .i64 c, .int .i64 m] w (RowOut (Cm.condsI c m) w) := by
  rw [Cm.conds_no h]
  by_cases hc : 0 ≤ c ∧ c ≤ 14
  · by_cases hm : 1 ≤ m
    · have hm2 : 15 < m := by omega
      clear h
      go_enter Tryd.func54, Tryd.ntmps54
      go_wp2_with ((go_at_call 61; refine (isCond_yes _ _ hc.1 hc.2).mono ?_; rintro e w' ⟨rfl, k, rfl⟩))
      go_ret
      exact row_none _ _
    · have hm2 : m < 1 := by omega
      clear h hm
      go_enter Tryd.func54, Tryd.ntmps54
      go_wp2_with ((go_at_call 61; refine (isCond_yes _ _ hc.1 hc.2).mono ?_; rintro e w' ⟨rfl, k, rfl⟩))
      go_ret
      exact row_none _ _
  · clear h
    go_enter Tryd.func54, Tryd.ntmps54
    go_wp2_with ((go_at_call 61; refine (isCond_no _ _ hc).mono ?_; rintro e w' ⟨rfl, k, rfl⟩))
    go_ret
    exact row_none _ _

set_option maxRecDepth 20000 in
set_option maxHeartbeats 1000000 in
theorem conds_yes_c (c m : Int) (w : World) (hc0 : 0 ≤ c) (hc1 : c ≤ 14) (hm0 : 1 ≤ m) (hm1 : m ≤ 15) :
    Calls Tryd.prog 54 #[.int .i64 c, .int .i64 m] w (RowOut (Cm.condsI c m) w) := by
  obtain ⟨i0, hi, hz0, hz1, hz2⟩ := info_parts Tryd.info3
  have hst := state_is c m ⟨hc0, hc1⟩ ⟨hm0, hm1⟩
  have HI := Lib.hid (conds_is c m ⟨hc0, hc1⟩ ⟨hm0, hm1⟩)
  obtain ⟨V, eV⟩ : ∃ V, Cm.condsI c m = V := ⟨_, rfl⟩
  rw [eV] at HI
  rw [eV]
  clear eV
  go_enter Tryd.func54, Tryd.ntmps54
  go_wp2_with ((go_at_call 61; refine (isCond_yes _ _ hc0 hc1).mono ?_; rintro e w' ⟨rfl, k0, rfl⟩))
  go_loopw [5, 6] (fun v its wr => ∃ (fuel : Nat) (it : Int) (acc : List Int), its = .int .i64 it ∧ 0 ≤ it ∧ it < 256 ∧ stepsI it ≤ fuel ∧ acc.length + fuel ≤ 4 ∧ RowKit.Hid (Cm.condsFrom fuel it acc = V) ∧ wr.ownsRow w.heap.size 3 1 v acc.length (ints acc) ∧ Below w.heap.size w wr) (fun _ its _ => stepsI (intOf its))
  case atStart => exact ⟨3, c * 16 + m, [c], rfl, by omega, by omega, by unfold stepsI; (repeat' split) <;> omega, by simp, HI, ownsRow_drewN (World.ownsRow_lit w #[.int .i64 c] 1 (Nat.le_refl _) (by unfold maxLen; omega) rfl) _, below_drewN ((Below.refl _ _).alloc (Nat.le_refl _) _) _⟩
  case round =>
    obtain ⟨fuel, it, acc, rfl, hi0, hi1, hfu, hal, HF, hB, hbel⟩ := hrel
    have hsz := hbel.size
    by_cases h8 : it % 8 = 0
    · have hb1 : (bits .and .i64 it 7 == 0) = true := by rw [Cm.and7]; simp [h8]
      have hb2 : (bits .and .i64 it 7 != 0) = false := by rw [Cm.and7]; simp [h8]
      have he := conds_end fuel it acc h8
      rw [HF.out] at he
      subst he
      clear h8 HF
      obtain ⟨A, cp, rfl, hI⟩ := IntsAt.of_own hB rfl
      go_wp2
      go_ret
      exact ⟨A, cp, rfl, hI, hbel⟩
    · have hb1 : (bits .and .i64 it 7 == 0) = false := by rw [Cm.and7]; simp [h8]
      have hb2 : (bits .and .i64 it 7 != 0) = true := by rw [Cm.and7]; simp [h8]
      have hless := steps_less it h8
      have hnb := next_bd it hi0 hi1
      obtain ⟨f', rfl⟩ : ∃ f', fuel = f' + 1 := ⟨fuel - 1, by omega⟩
      have hs := conds_step f' it acc h8
      rw [HF.out] at hs
      have hq := cond_bd (Cm.nextI it)
      obtain ⟨d, ed⟩ : ∃ d, Cm.nextI it = d := ⟨_, rfl⟩
      have ED := Lib.hid ed
      rw [ed] at hs hless hnb hq
      obtain ⟨q, eq⟩ : ∃ q, Cm.condI d = q := ⟨_, rfl⟩
      have EQ := Lib.hid eq
      rw [eq] at hs hq
      clear h8 HF ed eq
      obtain ⟨hq0, hq1⟩ := hq
      by_cases h15 : q = 15
      · rw [if_pos h15] at hs
        have HS := Lib.hid hs
        clear hs
        have hn : ¬ (0 ≤ q ∧ q ≤ 14) := by omega
        clear h15
        go_wp2_with (first
          | (go_at_call 62; refine (next_c _ _).mono ?_; rintro e w' ⟨rfl, k1, rfl⟩; rw [ED.out])
          | (go_at_call 63; refine (cond_c _ _).mono ?_; rintro e w' ⟨rfl, k2, rfl⟩; rw [EQ.out])
          | (go_at_call 61; refine (isCond_no _ _ hn).mono ?_; rintro e w' ⟨rfl, k3, rfl⟩))
        go_ret
        rw [HS.out]
        exact ⟨none, 0, rfl, .inl rfl, below_drewN hbel _⟩
      · rw [if_neg h15] at hs
        have HS := Lib.hid hs
        clear hs
        have hq2 : q ≤ 14 := by omega
        clear h15
        go_wp2_with (first
          | (go_at_call 62; refine (next_c _ _).mono ?_; rintro e w' ⟨rfl, k1, rfl⟩; rw [ED.out])
          | (go_at_call 63; refine (cond_c _ _).mono ?_; rintro e w' ⟨rfl, k2, rfl⟩; rw [EQ.out])
          | (go_at_call 61; refine (isCond_yes _ _ hq0 hq2).mono ?_; rintro e w' ⟨rfl, k3, rfl⟩)
          | (at_builtin; refine wpList_append_own _ rfl _ _ 63 rfl w.heap.size 3 i0 (.int .i64 0) 1 8 Tryd.underlying63 hi hz0 hz1 hz2 rfl (by omega) u5 acc.length (ints acc) rfl (ownsRow_drewN (hB.alloc _) _) ⟨wr.heap.size, 0, none⟩ 1 1 [.int .i64 q] rfl rfl (World.news_of_block (cs := #[.int .i64 q]) (t := 3) (fr := (0, 0)) (heap_alloc_new wr _)) (by simp [Value.oneCell']) (by unfold maxLen; omega) (by omega) (by simp; omega) ?_; intro v' w1 hown1 hgrow _))
        go_roundw
        case rel =>
          rw [ints_snoc] at hown1
          refine ⟨f', d, acc ++ [q], rfl, hnb.1, hnb.2, by omega, by simp; omega, Lib.hid HS.out.symm, by simpa using hown1, ?_⟩
          exact (below_drewN (hbel.alloc hsz _) _).grown hgrow (by simp; omega) (fun j hj => (hB.lt j hj).1)
        case measure => simp [intOf]; omega

theorem conds_c (c m : Int) (w : World) : Calls Tryd.prog 54 #[.int .i64 c, .int .i64 m] w (RowOut (Cm.condsI c m) w) := by
  by_cases h : 0 ≤ c ∧ c ≤ 14 ∧ 1 ≤ m ∧ m ≤ 15
  · exact conds_yes_c c m w h.1 h.2.1 h.2.2.1 h.2.2.2
  · exact conds_no_c c m w h
end Go.Proofs.YtdcnkmkaafimlaaDoor

namespace Go.Proofs.YtdcnkmkaafimlaaDoor
open Go.ChangeShapes Go.WideShapes Go.ChangeAt Go.RowKit

theorem one_c (set r : Int) (w : World) :
    Calls Tryd.prog 51 #[.int .i64 set, .int .i64 r] w fun e w' => e = .returned (.bool (Im.oneB set r)) ∧ ∃ n, w' = w.drewN n := by
  by_cases h : set = 0
  · subst h
    rw [show Im.oneB 0 r = decide (r = 0) by simp [Im.oneB]]
    go_enter Tryd.func51, Tryd.ntmps51
    go_wp2
    go_ret
    exact ⟨ret_bool (by rfl), 0, rfl⟩
  · have hs : (set == 0) = false := by simp [h]
    by_cases h0 : 0 ≤ r
    · by_cases h1 : r ≤ 15
      · obtain ⟨k, rfl⟩ := Int.eq_ofNat_of_zero_le h0
        rw [show Im.oneB set k = Im.bit set k by unfold Im.oneB; rw [if_neg h, decide_eq_true (show (0 : Int) ≤ (k : Int) ∧ (k : Int) ≤ 15 from ⟨h0, h1⟩)]; simp]
        clear h
        go_enter Tryd.func51, Tryd.ntmps51
        go_wp2
        go_ret
        exact ⟨ret_bool (by rw [Cm.and1]; rfl), 0, rfl⟩
      · rw [show Im.oneB set r = false by unfold Im.oneB; rw [if_neg h, decide_eq_false (by omega)]; simp]
        clear h
        go_enter Tryd.func51, Tryd.ntmps51
        go_wp2
        go_ret
        exact ⟨rfl, 0, rfl⟩
    · rw [show Im.oneB set r = false by unfold Im.oneB; rw [if_neg h, decide_eq_false (by omega)]; simp]
      clear h
      go_enter Tryd.func51, Tryd.ntmps51
      go_wp2
      go_ret
      exact ⟨rfl, 0, rfl⟩

theorem has_c (least most step n : Int) (w : World) (hs : step = 0 ∨ step = 1 ∨ step = 2) :
    Calls Tryd.prog 52 #[.agg #[.int .i64 least, .int .i64 most, .int .i64 step], .int .i64 n] w fun e w' => e = .returned (.bool (Im.hasB least most step n)) ∧ Below w.heap.size w w' := by
  by_cases h0 : step = 0
  · subst h0
    go_enter Tryd.func52, Tryd.ntmps52
    go_wp2
    go_ret
    exact ⟨ret_bool (by simp [Im.hasB]), (Below.refl _ _).alloc (Nat.le_refl _) _⟩
  · have hs0 : (step != 0) = true := by simp [h0]
    have hs1 : (step == 0) = false := by simp [h0]
    by_cases h1 : least ≤ n
    · by_cases h2 : n ≤ most
      · rcases hs with rfl | rfl | rfl
        · exact absurd rfl h0
        all_goals
          clear h0
          go_enter Tryd.func52, Tryd.ntmps52
          go_wp2
          go_ret
          exact ⟨ret_bool (by simp [Im.hasB, h1, h2]), (Below.refl _ _).alloc (Nat.le_refl _) _⟩
      · have G : Im.hasB least most step n = false := by simp [Im.hasB, h2]
        clear hs h0
        go_enter Tryd.func52, Tryd.ntmps52
        go_wp2
        go_ret
        exact ⟨ret_bool (by first | rfl | rw [G]), (Below.refl _ _).alloc (Nat.le_refl _) _⟩
    · have G : Im.hasB least most step n = false := by simp [Im.hasB, h1]
      clear hs h0
      go_enter Tryd.func52, Tryd.ntmps52
      go_wp2
      go_ret
      exact ⟨ret_bool (by first | rfl | rw [G]), (Below.refl _ _).alloc (Nat.le_refl _) _⟩
end Go.Proofs.YtdcnkmkaafimlaaDoor

namespace Go.Proofs.YtdcnkmkaafimlaaDoor
open Go.ChangeShapes Go.WideShapes Go.ChangeAt Go.RowKit

theorem sets_c (op : Int) (w : World) : Calls Tryd.prog 46 #[.int .i64 op] w fun e w' => e = .returned (.bool (Im.setsB op)) ∧ ∃ n, w' = w.drewN n := by
  by_cases h1 : 1 ≤ op
  · by_cases h2 : op ≤ 11
    · rw [show Im.setsB op = true by simp [Im.setsB, h1, h2]]
      go_enter Tryd.func46, Tryd.ntmps46
      go_wp2
      go_ret
      exact ⟨rfl, 0, rfl⟩
    · by_cases h3 : 16 ≤ op
      · by_cases h4 : op ≤ 19
        · rw [show Im.setsB op = true by simp [Im.setsB, h3, h4]]
          go_enter Tryd.func46, Tryd.ntmps46
          go_wp2
          go_ret
          exact ⟨rfl, 0, rfl⟩
        · rw [show Im.setsB op = false by simp [Im.setsB, h2, h4]]
          go_enter Tryd.func46, Tryd.ntmps46
          go_wp2
          go_ret
          exact ⟨rfl, 0, rfl⟩
      · rw [show Im.setsB op = false by simp [Im.setsB, h2, h3]]
        go_enter Tryd.func46, Tryd.ntmps46
        go_wp2
        go_ret
        exact ⟨rfl, 0, rfl⟩
  · have h3 : ¬ 16 ≤ op := by omega
    rw [show Im.setsB op = false by simp [Im.setsB, h1, h3]]
    go_enter Tryd.func46, Tryd.ntmps46
    go_wp2
    go_ret
    exact ⟨rfl, 0, rfl⟩
end Go.Proofs.YtdcnkmkaafimlaaDoor

namespace Go.Proofs.YtdcnkmkaafimlaaDoor
open Go.ChangeShapes Go.WideShapes Go.ChangeAt Go.RowKit


theorem two_below (w : World) (a b : Obj) : Below w.heap.size w ((w.alloc a).alloc b) := ((Below.refl _ _).alloc (Nat.le_refl _) _).alloc (by simp) _

theorem cell_second (w : World) (o : Obj) (cs : Array Value) (t : TypeId) (j : Nat) : ((w.alloc o).alloc (.cells cs t)).cell? ⟨w.heap.size + 1, j, none⟩ = cs[j]? := by
  have h := World.cell?_alloc_new (w.alloc o) cs t j
  rwa [show (w.alloc o).heap.size = w.heap.size + 1 by simp] at h

theorem regs_c (f0 f1 f2 f3 f4 f5 f6 f7 : Int) (op cond rd rn rm imm mode list : Int) (s : Bool) (w : World) :
    Calls Tryd.prog 42 #[.agg #[.int .i64 f0, .int .i64 f1, .int .i64 f2, .int .i64 f3, .int .i64 f4, .int .i64 f5, .int .i64 f6, .int .i64 f7], .agg #[.int .i64 op, .int .i64 cond, .int .i64 rd, .int .i64 rn, .int .i64 rm, .int .i64 imm, .int .i64 mode, .int .i64 list, .bool s]] w fun e w' => e = .returned (.bool (Im.oneB f0 rd && Im.oneB f1 rn)) ∧ Below w.heap.size w w' := by
  go_enter Tryd.func42, Tryd.ntmps42
  go_wp2_with fail
  refine (one_c f0 rd _).mono ?_
  rintro e w' ⟨rfl, n1, rfl⟩
  cases hA : Im.oneB f0 rd with
  | false =>
    go_wp2
    go_ret
    exact ⟨ret_bool (by simp [hA]), below_drewN (two_below _ _ _) _⟩
  | true =>
    go_wp2_with fail
    refine (one_c f1 rn _).mono ?_
    rintro e w' ⟨rfl, n2, rfl⟩
    go_wp2
    go_ret
    exact ⟨ret_bool (by simp [hA]), below_drewN (two_below _ _ _) _⟩

theorem last_0 (f0 f1 f2 f3 f4 f5 f6 f7 : Int) (op cond rd rn rm imm list : Int) (s : Bool) (w : World) :
    Calls Tryd.prog 43 #[.agg #[.int .i64 f0, .int .i64 f1, .int .i64 f2, .int .i64 f3, .int .i64 f4, .int .i64 f5, .int .i64 f6, .int .i64 f7], .agg #[.int .i64 op, .int .i64 cond, .int .i64 rd, .int .i64 rn, .int .i64 rm, .int .i64 imm, .int .i64 0, .int .i64 list, .bool s]] w fun e w' => e = .returned (.bool (f5 == 0 && f2 == 0 && imm == 0 && rm == 0)) ∧ Below w.heap.size w w' := by
  cases h1 : (f5 == 0) with
  | false =>
    go_enter Tryd.func43, Tryd.ntmps43
    go_wp2
    go_ret
    exact ⟨rfl, two_below _ _ _⟩
  | true =>
    cases h2 : (f2 == 0) with
    | false =>
      go_enter Tryd.func43, Tryd.ntmps43
      go_wp2
      go_ret
      exact ⟨rfl, two_below _ _ _⟩
    | true =>
      cases h3 : (imm == 0) with
      | false =>
        go_enter Tryd.func43, Tryd.ntmps43
        go_wp2
        go_ret
        exact ⟨rfl, two_below _ _ _⟩
      | true =>
        go_enter Tryd.func43, Tryd.ntmps43
        go_wp2
        go_ret
        exact ⟨ret_bool (by simp), two_below _ _ _⟩

theorem last_1 (f0 f1 f2 f3 f4 f5 f6 f7 : Int) (op cond rd rn rm imm list : Int) (s : Bool) (w : World) (hs : f5 = 0 ∨ f5 = 1 ∨ f5 = 2) :
    Calls Tryd.prog 43 #[.agg #[.int .i64 f0, .int .i64 f1, .int .i64 f2, .int .i64 f3, .int .i64 f4, .int .i64 f5, .int .i64 f6, .int .i64 f7], .agg #[.int .i64 op, .int .i64 cond, .int .i64 rd, .int .i64 rn, .int .i64 rm, .int .i64 imm, .int .i64 1, .int .i64 list, .bool s]] w fun e w' => e = .returned (.bool (Im.hasB f3 f4 f5 imm && rm == 0)) ∧ Below w.heap.size w w' := by
  go_enter Tryd.func43, Tryd.ntmps43
  go_wp2_with fail
  refine (has_c f3 f4 f5 imm _ hs).mono ?_
  rintro e w' ⟨rfl, hb⟩
  have hc := hb.cell (p := ⟨w.heap.size + 1, 4, none⟩) (by simp)
  have hbel := (two_below w _ _).trans (hb.mono (by simp; omega))
  clear hb
  cases hA : Im.hasB f3 f4 f5 imm with
  | false =>
    clear hc
    go_wp2
    go_ret
    exact ⟨ret_bool (by simp [hA]), hbel⟩
  | true =>
    have hc2 : w'.cell? ⟨w.heap.size + 1, 4, none⟩ = some (.int .i64 rm) := hc.trans (cell_second _ _ _ _ _)
    clear hc
    go_wp2
    go_ret
    exact ⟨ret_bool (by simp [hA]), hbel⟩

theorem last_2 (f0 f1 f2 f3 f4 f5 f6 f7 : Int) (op cond rd rn rm imm list : Int) (s : Bool) (w : World) :
    Calls Tryd.prog 43 #[.agg #[.int .i64 f0, .int .i64 f1, .int .i64 f2, .int .i64 f3, .int .i64 f4, .int .i64 f5, .int .i64 f6, .int .i64 f7], .agg #[.int .i64 op, .int .i64 cond, .int .i64 rd, .int .i64 rn, .int .i64 rm, .int .i64 imm, .int .i64 2, .int .i64 list, .bool s]] w fun e w' => e = .returned (.bool (!(f2 == 0) && Im.oneB f2 rm && imm == 0)) ∧ Below w.heap.size w w' := by
  cases h1 : (f2 == 0) with
  | true =>
    have h1' : (f2 != 0) = false := by simp [bne, h1]
    go_enter Tryd.func43, Tryd.ntmps43
    go_wp2
    go_ret
    exact ⟨rfl, two_below _ _ _⟩
  | false =>
    have h1' : (f2 != 0) = true := by simp [bne, h1]
    go_enter Tryd.func43, Tryd.ntmps43
    go_wp2_with fail
    refine (one_c f2 rm _).mono ?_
    rintro e w' ⟨rfl, n1, rfl⟩
    cases hA : Im.oneB f2 rm with
    | false =>
      go_wp2
      go_ret
      exact ⟨ret_bool (by simp [hA]), below_drewN (two_below _ _ _) _⟩
    | true =>
      go_wp2
      go_ret
      exact ⟨ret_bool (by simp [hA]), below_drewN (two_below _ _ _) _⟩

theorem last_no (f0 f1 f2 f3 f4 f5 f6 f7 : Int) (op cond rd rn rm imm mode list : Int) (s : Bool) (w : World) (h0 : (mode == 0) = false) (h1 : (mode == 1) = false) (h2 : (mode == 2) = false) :
    Calls Tryd.prog 43 #[.agg #[.int .i64 f0, .int .i64 f1, .int .i64 f2, .int .i64 f3, .int .i64 f4, .int .i64 f5, .int .i64 f6, .int .i64 f7], .agg #[.int .i64 op, .int .i64 cond, .int .i64 rd, .int .i64 rn, .int .i64 rm, .int .i64 imm, .int .i64 mode, .int .i64 list, .bool s]] w fun e w' => e = .returned (.bool false) ∧ Below w.heap.size w w' := by
  go_enter Tryd.func43, Tryd.ntmps43
  go_wp2
  go_ret
  exact ⟨rfl, two_below _ _ _⟩

theorem last_c (f : Im.F) (op cond rd rn rm imm mode list : Int) (s : Bool) (w : World) (hs : f.step = 0 ∨ f.step = 1 ∨ f.step = 2) :
    Calls Tryd.prog 43 #[.agg #[.int .i64 f.rd, .int .i64 f.rn, .int .i64 f.rm, .int .i64 f.least, .int .i64 f.most, .int .i64 f.step, .int .i64 f.list, .int .i64 f.count], .agg #[.int .i64 op, .int .i64 cond, .int .i64 rd, .int .i64 rn, .int .i64 rm, .int .i64 imm, .int .i64 mode, .int .i64 list, .bool s]] w fun e w' => e = .returned (.bool (Im.lastB f mode imm rm)) ∧ Below w.heap.size w w' := by
  by_cases h0 : mode = 0
  · subst h0
    exact last_0 _ _ _ _ _ _ _ _ _ _ _ _ _ _ _ _ _
  by_cases h1 : mode = 1
  · subst h1
    exact last_1 _ _ _ _ _ _ _ _ _ _ _ _ _ _ _ _ _ hs
  by_cases h2 : mode = 2
  · subst h2
    exact last_2 _ _ _ _ _ _ _ _ _ _ _ _ _ _ _ _ _
  · rw [show Im.lastB f mode imm rm = false by unfold Im.lastB; rw [if_neg h0, if_neg h1, if_neg h2]]
    exact last_no _ _ _ _ _ _ _ _ _ _ _ _ _ _ _ _ _ _ (by simp [h0]) (by simp [h1]) (by simp [h2])
end Go.Proofs.YtdcnkmkaafimlaaDoor
