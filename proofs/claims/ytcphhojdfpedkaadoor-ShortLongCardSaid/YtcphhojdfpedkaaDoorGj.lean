/- Contract of the document's own Turn. Contract of the document's own Conds. Contracts of the document's own small questions: Low, Plain, in, branch, last. Contracts of the document's own list and count. Contracts of the document's own low and upper. Worlds in which an instruction lies, and all that was there at w. No conditions. Masks of lists, plainly. No conditions but those that each fact names. A halfword, or none, as it is answered; later worlds. No conditions but those that each fact names. -/
import Derived.Test.YtcphhojdfpedkaaDoorRows
import Derived.Test.YtcphhojdfpedkaaDoorGa
import Derived.ProofKit
import Derived.OpenShut
import Derived.WalkLawsBesides
import Derived.Lib.Hide
import Derived.Outline
import Derived.Deep.QuietTactic
import Derived.BigQuiet
import Derived.Test.YtcphhojdfpedkaaDoorGd
import Derived.LoopTactic
import Derived.OwnWalk
import Derived.LoopN
import Derived.Test.YtcphhojdfpedkaaDoorGb

namespace Go.Proofs.YtcphhojdfpedkaaDoor
open Go.ChangeShapes Go.WideShapes Go.ChangeAt Go.RowKit
theorem rturn_c (c : Int) (w : World) :
    Calls Tryd.prog 78 #[.int .i64 c] w fun e w' => e = .returned (.int .i64 (Cm.turnI c)) ∧ ∃ n, w' = w.drewN n := by
  by_cases h : 0 ≤ c ∧ c ≤ 13
  · have ht : Cm.turnI c = if c % 2 = 0 then c + 1 else c - 1 := by unfold Cm.turnI; rw [if_pos h]
    rw [ht]
    clear ht
    obtain ⟨h1, h2⟩ := h
    by_cases h3 : c % 2 = 0
    · rw [if_pos h3]
      go_enter Tryd.func78, Tryd.ntmps78
      go_wp2
      go_ret
      exact ⟨rfl, 0, rfl⟩
    · rw [if_neg h3]
      go_enter Tryd.func78, Tryd.ntmps78
      go_wp2
      go_ret
      exact ⟨rfl, 0, rfl⟩
  · rw [Cm.turn_no c h]
    by_cases h1 : 0 ≤ c
    · have h2 : 13 < c := by omega
      clear h
      go_enter Tryd.func78, Tryd.ntmps78
      go_wp2
      go_ret
      exact ⟨rfl, 0, rfl⟩
    · have h2 : c < 0 := by omega
      clear h h1
      go_enter Tryd.func78, Tryd.ntmps78
      go_wp2
      go_ret
      exact ⟨rfl, 0, rfl⟩
end Go.Proofs.YtcphhojdfpedkaaDoor

namespace Go.Proofs.YtcphhojdfpedkaaDoor
open Go.ChangeShapes Go.WideShapes Go.ChangeAt Go.RowKit
def stepsR (m : Int) : Nat := if m = 8 then 0 else if m % 4 = 0 then 1 else if m % 2 = 0 then 2 else 3
theorem stepsR_less (m : Int) (h0 : 1 ≤ m) (h1 : m ≤ 15) (h : ¬ m = 8) : stepsR (m % 8 * 2) < stepsR m := by
  unfold stepsR
  rw [if_neg h]
  repeat' split
  all_goals omega
theorem rconds_end (c : Int) (fuel : Nat) (acc : List Int) : Cm.rcondsFrom c fuel 8 acc = acc := by
  cases fuel with
  | zero => rfl
  | succ n => rw [Cm.rcondsFrom, if_pos rfl]
theorem rconds_same (c : Int) (fuel : Nat) (m : Int) (acc : List Int) (h : ¬ m = 8) (hx : decide (8 ≤ m) = decide (c % 2 = 1)) :
    Cm.rcondsFrom c (fuel + 1) m acc = Cm.rcondsFrom c fuel (m % 8 * 2) (acc ++ [c]) := by rw [Cm.rcondsFrom, if_neg h, if_pos hx]
theorem rconds_none (c : Int) (fuel : Nat) (m : Int) (acc : List Int) (h : ¬ m = 8) (hx : ¬ decide (8 ≤ m) = decide (c % 2 = 1)) (h14 : c = 14) :
    Cm.rcondsFrom c (fuel + 1) m acc = [] := by rw [Cm.rcondsFrom, if_neg h, if_neg hx, if_pos h14]
theorem rconds_other (c : Int) (fuel : Nat) (m : Int) (acc : List Int) (h : ¬ m = 8) (hx : ¬ decide (8 ≤ m) = decide (c % 2 = 1)) (h14 : ¬ c = 14) :
    Cm.rcondsFrom c (fuel + 1) m acc = Cm.rcondsFrom c fuel (m % 8 * 2) (acc ++ [Cm.turnI c]) := by rw [Cm.rcondsFrom, if_neg h, if_neg hx, if_neg h14]
theorem rconds_no_c (c m : Int) (w : World) (h : ¬ (0 ≤ c ∧ c ≤ 14 ∧ 1 ≤ m ∧ m ≤ 15)) :
    Calls Tryd.prog 61 #[.int .i64 c, .int .i64 m] w (RowOut (Cm.condsI c m) w) := by
  rw [Cm.conds_no h]
  by_cases hc : 0 ≤ c
  · by_cases hc2 : c ≤ 14
    · by_cases hm : 1 ≤ m
      · have hm2 : 15 < m := by omega
        clear h
        go_enter Tryd.func61, Tryd.ntmps61
        go_wp2
        go_ret
        exact row_none w 0
      · have hm2 : m < 1 := by omega
        clear h hm
        go_enter Tryd.func61, Tryd.ntmps61
        go_wp2
        go_ret
        exact row_none w 0
    · have hc3 : 14 < c := by omega
      clear h hc2
      go_enter Tryd.func61, Tryd.ntmps61
      go_wp2
      go_ret
      exact row_none w 0
  · have hc3 : c < 0 := by omega
    clear h hc
    go_enter Tryd.func61, Tryd.ntmps61
    go_wp2
    go_ret
    exact row_none w 0
set_option maxRecDepth 20000 in
set_option maxHeartbeats 2000000 in
theorem rconds_yes_c (c m0 : Int) (w : World) (hc0 : 0 ≤ c) (hc1 : c ≤ 14) (hm0 : 1 ≤ m0) (hm1 : m0 ≤ 15) :
    Calls Tryd.prog 61 #[.int .i64 c, .int .i64 m0] w (RowOut (Cm.condsI c m0) w) := by
  obtain ⟨i0, hi, hz0, hz1, hz2⟩ := info_parts Tryd.info3
  have HI := Lib.hid ((Cm.conds_same c m0 ⟨hc0, hc1⟩ ⟨hm0, hm1⟩).trans (conds_is c m0 ⟨hc0, hc1⟩ ⟨hm0, hm1⟩))
  obtain ⟨V, eV⟩ : ∃ V, Cm.condsI c m0 = V := ⟨_, rfl⟩
  rw [eV] at HI
  rw [eV]
  clear eV
  go_enter Tryd.func61, Tryd.ntmps61
  go_wp2
  go_loopw [1, 5] (fun ms v wr => ∃ (fuel : Nat) (m : Int) (acc : List Int), ms = .int .i64 m ∧ 1 ≤ m ∧ m ≤ 15 ∧ stepsR m ≤ fuel ∧ acc.length + fuel ≤ 4 ∧ RowKit.Hid (Cm.rcondsFrom c fuel m acc = V) ∧ wr.ownsRow w.heap.size 3 1 v acc.length (ints acc) ∧ Below w.heap.size w wr) (fun ms _ _ => stepsR (intOf ms))
  case atStart => exact ⟨3, m0, [c], rfl, hm0, hm1, by unfold stepsR; (repeat' split) <;> omega, by simp, HI, World.ownsRow_lit w #[.int .i64 c] 1 (Nat.le_refl _) (by unfold maxLen; omega) rfl, (Below.refl _ _).alloc (Nat.le_refl _) _⟩
  case round =>
    obtain ⟨fuel, m, acc, rfl, hi0, hi1, hfu, hal, HF, hB, hbel⟩ := hrel
    have hsz := hbel.size
    by_cases h8 : m = 8
    · subst h8
      have he := rconds_end c fuel acc
      rw [HF.out] at he
      subst he
      clear HF
      obtain ⟨A, cp, rfl, hI⟩ := IntsAt.of_own hB rfl
      go_wp2
      go_ret
      exact ⟨A, cp, rfl, hI, hbel⟩
    · have hb1 : (m == 8) = false := by simp [h8]
      have hb2 : (m != 8) = true := by simp [h8]
      have hless := stepsR_less m hi0 hi1 h8
      obtain ⟨f', rfl⟩ : ∃ f', fuel = f' + 1 := ⟨fuel - 1, by unfold stepsR at hfu; rw [if_neg h8] at hfu; revert hfu; (repeat' split) <;> omega⟩
      have hnb : 1 ≤ m % 8 * 2 ∧ m % 8 * 2 ≤ 15 := by omega
      by_cases hx : decide (8 ≤ m) = decide (c % 2 = 1)
      · have hs := rconds_same c f' m acc h8 hx
        rw [HF.out] at hs
        have HS := Lib.hid hs
        clear hs HF h8
        rcases (by omega : c % 2 = 0 ∨ c % 2 = 1) with hp | hp <;> rcases (by omega : m < 8 ∨ 8 ≤ m) with hm | hm
        · clear hx
          have hmb : decide (8 ≤ m) = false := by simp; omega
          go_wp2_with ((at_builtin; refine wpList_append_own _ rfl _ _ 75 rfl w.heap.size 3 i0 (.int .i64 0) 1 8 Tryd.underlying75 hi hz0 hz1 hz2 rfl (by omega) u5 acc.length (ints acc) rfl (hB.alloc _) ⟨wr.heap.size, 0, none⟩ 1 1 [.int .i64 c] rfl rfl (World.news_of_block (cs := #[.int .i64 c]) (t := 3) (fr := (0, 0)) (heap_alloc_new wr _)) (by simp [Value.oneCell']) (by unfold maxLen; omega) (by omega) (by simp; omega) ?_; intro v' w1 hown1 hgrow _))
          go_roundw
          case rel =>
            rw [ints_snoc] at hown1
            exact ⟨f', m % 8 * 2, acc ++ [c], rfl, hnb.1, hnb.2, by omega, by simp; omega, Lib.hid HS.out.symm, by simpa using hown1, (hbel.alloc hsz _).grown hgrow (by simp; omega) (fun j hj => (hB.lt j hj).1)⟩
          case measure => simp [intOf]; omega
        · exact absurd hx (by simp; omega)
        · exact absurd hx (by simp; omega)
        · clear hx
          go_wp2_with ((at_builtin; refine wpList_append_own _ rfl _ _ 75 rfl w.heap.size 3 i0 (.int .i64 0) 1 8 Tryd.underlying75 hi hz0 hz1 hz2 rfl (by omega) u5 acc.length (ints acc) rfl (hB.alloc _) ⟨wr.heap.size, 0, none⟩ 1 1 [.int .i64 c] rfl rfl (World.news_of_block (cs := #[.int .i64 c]) (t := 3) (fr := (0, 0)) (heap_alloc_new wr _)) (by simp [Value.oneCell']) (by unfold maxLen; omega) (by omega) (by simp; omega) ?_; intro v' w1 hown1 hgrow _))
          go_roundw
          case rel =>
            rw [ints_snoc] at hown1
            exact ⟨f', m % 8 * 2, acc ++ [c], rfl, hnb.1, hnb.2, by omega, by simp; omega, Lib.hid HS.out.symm, by simpa using hown1, (hbel.alloc hsz _).grown hgrow (by simp; omega) (fun j hj => (hB.lt j hj).1)⟩
          case measure => simp [intOf]; omega
      · by_cases h14 : c = 14
        · have hs := rconds_none c f' m acc h8 hx h14
          rw [HF.out] at hs
          have HS := Lib.hid hs
          subst h14
          have hm : 8 ≤ m := by
            by_cases q : 8 ≤ m
            · exact q
            · exact absurd (by simp; omega) hx
          clear hs HF h8 hx
          go_wp2
          go_ret
          rw [HS.out]
          exact ⟨none, 0, rfl, .inl rfl, hbel⟩
        · have hs := rconds_other c f' m acc h8 hx h14
          rw [HF.out] at hs
          have HS := Lib.hid hs
          have hb14 : (c == 14) = false := by simp [h14]
          obtain ⟨q, eq⟩ : ∃ q, Cm.turnI c = q := ⟨_, rfl⟩
          rw [eq] at HS
          have EQ := Lib.hid eq
          clear hs HF h8 h14 eq
          rcases (by omega : c % 2 = 0 ∨ c % 2 = 1) with hp | hp <;> rcases (by omega : m < 8 ∨ 8 ≤ m) with hm | hm
          · exact absurd (by simp; omega) hx
          · clear hx
            go_wp2_with (first
              | (go_at_call 78; refine (rturn_c _ _).mono ?_; rintro e w' ⟨rfl, k1, rfl⟩; rw [EQ.out])
              | (at_builtin; refine wpList_append_own _ rfl _ _ 75 rfl w.heap.size 3 i0 (.int .i64 0) 1 8 Tryd.underlying75 hi hz0 hz1 hz2 rfl (by omega) u5 acc.length (ints acc) rfl (ownsRow_drewN (hB.alloc _) _) ⟨wr.heap.size, 0, none⟩ 1 1 [.int .i64 q] rfl rfl (World.news_of_block (cs := #[.int .i64 q]) (t := 3) (fr := (0, 0)) (heap_alloc_new wr _)) (by simp [Value.oneCell']) (by unfold maxLen; omega) (by omega) (by simp; omega) ?_; intro v' w1 hown1 hgrow _))
            go_roundw
            case rel =>
              rw [ints_snoc] at hown1
              exact ⟨f', m % 8 * 2, acc ++ [q], rfl, hnb.1, hnb.2, by omega, by simp; omega, Lib.hid HS.out.symm, by simpa using hown1, (below_drewN (hbel.alloc hsz _) _).grown hgrow (by simp; omega) (fun j hj => (hB.lt j hj).1)⟩
            case measure => simp [intOf]; omega
          · clear hx
            have hmb : decide (8 ≤ m) = false := by simp; omega
            go_wp2_with (first
              | (go_at_call 78; refine (rturn_c _ _).mono ?_; rintro e w' ⟨rfl, k1, rfl⟩; rw [EQ.out])
              | (at_builtin; refine wpList_append_own _ rfl _ _ 75 rfl w.heap.size 3 i0 (.int .i64 0) 1 8 Tryd.underlying75 hi hz0 hz1 hz2 rfl (by omega) u5 acc.length (ints acc) rfl (ownsRow_drewN (hB.alloc _) _) ⟨wr.heap.size, 0, none⟩ 1 1 [.int .i64 q] rfl rfl (World.news_of_block (cs := #[.int .i64 q]) (t := 3) (fr := (0, 0)) (heap_alloc_new wr _)) (by simp [Value.oneCell']) (by unfold maxLen; omega) (by omega) (by simp; omega) ?_; intro v' w1 hown1 hgrow _))
            go_roundw
            case rel =>
              rw [ints_snoc] at hown1
              exact ⟨f', m % 8 * 2, acc ++ [q], rfl, hnb.1, hnb.2, by omega, by simp; omega, Lib.hid HS.out.symm, by simpa using hown1, (below_drewN (hbel.alloc hsz _) _).grown hgrow (by simp; omega) (fun j hj => (hB.lt j hj).1)⟩
            case measure => simp [intOf]; omega
          · exact absurd (by simp; omega) hx
theorem rconds_c (c m : Int) (w : World) : Calls Tryd.prog 61 #[.int .i64 c, .int .i64 m] w (RowOut (Cm.condsI c m) w) := by
  by_cases h : 0 ≤ c ∧ c ≤ 14 ∧ 1 ≤ m ∧ m ≤ 15
  · exact rconds_yes_c c m w h.1 h.2.1 h.2.2.1 h.2.2.2
  · exact rconds_no_c c m w h
end Go.Proofs.YtcphhojdfpedkaaDoor

namespace Go.Proofs.YtcphhojdfpedkaaDoor
open Go.ChangeShapes Go.WideShapes Go.ChangeAt Go.RowKit
theorem one_b (w : World) (a : Obj) : Below w.heap.size w (w.alloc a) := (Below.refl _ _).alloc (Nat.le_refl _) _
theorem two_b (w : World) (a b : Obj) : Below w.heap.size w ((w.alloc a).alloc b) := ((Below.refl _ _).alloc (Nat.le_refl _) _).alloc (by simp) _
theorem three_b (w : World) (a b c : Obj) : Below w.heap.size w (((w.alloc a).alloc b).alloc c) := (two_b w a b).alloc (by simp; omega) _
theorem rlow_c (r : Int) (w : World) : Calls Tryd.prog 60 #[.int .i64 r] w fun e w' => e = .returned (.bool (Rb.inB r 0 7)) ∧ ∃ n, w' = w.drewN n := by
  unfold Rb.inB
  by_cases h0 : 0 ≤ r
  · rw [decide_eq_true h0]
    go_enter Tryd.func60, Tryd.ntmps60
    go_wp2
    go_ret
    exact ⟨rfl, 0, rfl⟩
  · rw [decide_eq_false h0]
    go_enter Tryd.func60, Tryd.ntmps60
    go_wp2
    go_ret
    exact ⟨rfl, 0, rfl⟩
theorem rplain_c (r : Int) (w : World) : Calls Tryd.prog 54 #[.int .i64 r] w fun e w' => e = .returned (.bool (Rb.plainB r)) ∧ ∃ n, w' = w.drewN n := by
  unfold Rb.plainB
  by_cases h0 : 0 ≤ r
  · rw [decide_eq_true h0]
    by_cases h1 : r ≤ 12
    · rw [decide_eq_true h1]
      go_enter Tryd.func54, Tryd.ntmps54
      go_wp2
      go_ret
      exact ⟨rfl, 0, rfl⟩
    · rw [decide_eq_false h1]
      go_enter Tryd.func54, Tryd.ntmps54
      go_wp2
      go_ret
      exact ⟨rfl, 0, rfl⟩
  · rw [decide_eq_false h0]
    go_enter Tryd.func54, Tryd.ntmps54
    go_wp2
    go_ret
    exact ⟨rfl, 0, rfl⟩
theorem rin_c (n lo hi : Int) (w : World) : Calls Tryd.prog 56 #[.int .i64 n, .int .i64 lo, .int .i64 hi] w fun e w' => e = .returned (.bool (Rb.inB n lo hi)) ∧ ∃ n, w' = w.drewN n := by
  unfold Rb.inB
  by_cases h0 : lo ≤ n
  · rw [decide_eq_true h0]
    go_enter Tryd.func56, Tryd.ntmps56
    go_wp2
    go_ret
    exact ⟨rfl, 0, rfl⟩
  · rw [decide_eq_false h0]
    go_enter Tryd.func56, Tryd.ntmps56
    go_wp2
    go_ret
    exact ⟨rfl, 0, rfl⟩
theorem rbranch_c (n : Int) (w : World) : Calls Tryd.prog 59 #[.int .i64 n] w fun e w' => e = .returned (.bool (Rb.branchR n)) ∧ ∃ n, w' = w.drewN n := by
  unfold Rb.branchR
  cases h : (Int.tmod n 2 == 0) with
  | false =>
    go_enter Tryd.func59, Tryd.ntmps59
    go_wp2
    go_ret
    exact ⟨rfl, 0, rfl⟩
  | true =>
    go_enter Tryd.func59, Tryd.ntmps59
    go_wp2_with fail
    refine (rin_c _ _ _ _).mono ?_
    rintro e w' ⟨rfl, k, rfl⟩
    go_wp2
    go_ret
    exact ⟨rfl, k, rfl⟩
theorem rlast_c (op cond rd rn rm imm mode list lo hi : Int) (s : Bool) (w : World) : Calls Tryd.prog 55 #[.agg #[.int .i64 op, .int .i64 cond, .int .i64 rd, .int .i64 rn, .int .i64 rm, .int .i64 imm, .int .i64 mode, .int .i64 list, .bool s], .int .i64 lo, .int .i64 hi] w fun e w' => e = .returned (.bool (Rb.lastR ⟨op, cond, rd, rn, rm, imm, mode, list, s⟩ lo hi)) ∧ Below w.heap.size w w' := by
  unfold Rb.lastR
  dsimp only
  cases h1 : (mode == 1) with
  | true =>
    rw [if_pos (eq_of_beq h1)]
    go_enter Tryd.func55, Tryd.ntmps55
    go_wp2_with fail
    refine (rin_c _ _ _ _).mono ?_
    rintro e w' ⟨rfl, k, rfl⟩
    go_wp2
    go_ret
    exact ⟨rfl, below_drewN (one_b _ _) _⟩
  | false =>
    rw [if_neg (by simpa using h1)]
    cases h2 : (mode == 2) with
    | false =>
      go_enter Tryd.func55, Tryd.ntmps55
      go_wp2
      go_ret
      exact ⟨rfl, one_b _ _⟩
    | true =>
      go_enter Tryd.func55, Tryd.ntmps55
      go_wp2_with fail
      refine (rplain_c _ _).mono ?_
      rintro e w' ⟨rfl, k, rfl⟩
      go_wp2
      go_ret
      exact ⟨ret_bool (by simp), below_drewN (one_b _ _) _⟩
end Go.Proofs.YtcphhojdfpedkaaDoor

namespace Go.Proofs.YtcphhojdfpedkaaDoor
open Go.ChangeShapes Go.WideShapes Go.ChangeAt Go.RowKit
theorem regs_step {l more : Int} {r : Nat} (h : r < 16) : Rb.regsOk l more r (16 - r) = (!(Im.bit l r && (!Rb.plainB r && !((r : Int) == more))) && Rb.regsOk l more (r + 1) (16 - (r + 1))) := by
  rw [show 16 - r = (16 - (r + 1)) + 1 by omega]; rfl
theorem regs_end {l more : Int} {r : Nat} (h : ¬ r < 16) : Rb.regsOk l more r (16 - r) = true := by
  rw [show 16 - r = 0 by omega]; rfl
set_option maxHeartbeats 1000000 in
theorem rlist_c (l more : Int) (w : World) : Calls Tryd.prog 57 #[.int .i64 l, .int .i64 more] w fun e w' => e = .returned (.bool (Rb.listR l more)) ∧ ∃ n, w' = w.drewN n := by
  obtain ⟨V, eV⟩ : ∃ V, Rb.regsOk l more 0 16 = V := ⟨_, rfl⟩
  have HI := Lib.hid (show Rb.regsOk l more 0 (16 - 0) = V from eV)
  unfold Rb.listR
  rw [eV]
  clear eV
  go_enter Tryd.func57, Tryd.ntmps57
  go_wp2
  go_loopw [5] (fun rv wr => ∃ r n : Nat, r ≤ 16 ∧ rv = .int .i64 r ∧ RowKit.Hid (Rb.regsOk l more r (16 - r) = V) ∧ wr = w.drewN n) (fun rv _ => (16 - intOf rv).toNat)
  case atStart => exact ⟨0, 0, by omega, rfl, HI, rfl⟩
  case round =>
    obtain ⟨r, n, hr, rfl, HF, rfl⟩ := hrel
    by_cases hlt : r < 16
    · have hs := regs_step (l := l) (more := more) hlt
      rw [HF.out] at hs
      clear HF
      cases hb : Im.bit l r with
      | false =>
        have hB : (bits .and .i64 (l / 2 ^ r) 1 == 1) = false := by rw [Cm.and1]; exact hb
        rw [hb] at hs
        have HS := Lib.hid hs
        clear hs hb
        go_wp2
        go_roundw
        case rel => exact ⟨r + 1, n, by omega, by go_num, Lib.hid HS.out.symm, by first | rfl | trivial⟩
        case measure => simp [intOf]; omega
      | true =>
        have hB : (bits .and .i64 (l / 2 ^ r) 1 == 1) = true := by rw [Cm.and1]; exact hb
        rw [hb] at hs
        have hP := fun W => rplain_c (r : Int) W
        generalize Rb.plainB (r : Int) = p at hs hP
        cases p with
        | true =>
          have HS := Lib.hid hs
          clear hs hb
          go_wp2_with fail
          refine (hP _).mono ?_
          rintro e w' ⟨rfl, k, rfl⟩
          go_wp2
          go_roundw
          case rel => exact ⟨r + 1, n + k, by omega, by go_num, Lib.hid HS.out.symm, by first | rfl | exact World.drewN_drewN ..⟩
          case measure => simp [intOf]; omega
        | false =>
          cases hm : ((r : Int) == more) with
          | true =>
            have hm' : ((r : Int) != more) = false := by simp [bne, hm]
            rw [hm] at hs
            have HS := Lib.hid hs
            clear hs hb
            go_wp2_with fail
            refine (hP _).mono ?_
            rintro e w' ⟨rfl, k, rfl⟩
            go_wp2
            go_roundw
            case rel => exact ⟨r + 1, n + k, by omega, by go_num, Lib.hid HS.out.symm, by first | rfl | exact World.drewN_drewN ..⟩
            case measure => simp [intOf]; omega
          | false =>
            have hm' : ((r : Int) != more) = true := by simp [bne, hm]
            rw [hm] at hs
            have hV : V = false := by simpa using hs
            subst hV
            clear hs hb
            go_wp2_with fail
            refine (hP _).mono ?_
            rintro e w' ⟨rfl, k, rfl⟩
            go_wp2
            go_ret
            exact ⟨rfl, n + k, by first | rfl | exact World.drewN_drewN ..⟩
    · have hs := regs_end (l := l) (more := more) hlt
      rw [HF.out] at hs
      subst hs
      clear HF
      by_cases h0 : 0 < l
      · have HG := Lib.hid (show (true && (decide (0 < l) && decide (l < 65536))) = decide (l < 65536) by rw [decide_eq_true h0]; rfl)
        go_wp2
        go_ret
        exact ⟨ret_bool HG.out.symm, n, rfl⟩
      · have HG := Lib.hid (show (true && (decide (0 < l) && decide (l < 65536))) = false by rw [decide_eq_false h0]; rfl)
        go_wp2
        go_ret
        exact ⟨ret_bool HG.out.symm, n, rfl⟩
theorem half_wrap (l : Nat) (h : l < 65536) : wrap64 ((l : Int) / 2) = ((l / 2 : Nat) : Int) := by rw [wrap64]; omega
theorem sum_mod (a l : Nat) : (a : Int) + (l : Int) % 2 = ((a + l % 2 : Nat) : Int) := by omega
theorem half_less (l : Nat) (h0 : ¬ l = 0) (h : l < 65536) : (intOf (Value.int .i64 (wrap64 ((l : Int) / 2)))).toNat < (intOf (Value.int .i64 (l : Int))).toNat := by
  rw [half_wrap l h]
  simp only [intOf]
  omega
set_option maxHeartbeats 4000000 in
theorem rcount_g (P : Nat → Nat → Nat) (P0 : ∀ k, P k 0 = 0) (PS : ∀ k m, P (k + 1) m = m % 2 + P k (m / 2)) (m : Nat) (hm : m < 65536) (w : World) :
    Calls Tryd.prog 58 #[.int .i64 (m : Int)] w fun e w' => e = .returned (.int .i64 (P 16 m : Int)) ∧ ∃ n, w' = w.drewN n := by
  obtain ⟨V, eV⟩ : ∃ V, P 16 m = V := ⟨_, rfl⟩
  have HI := Lib.hid (show 0 + P 16 m = V by rw [eV]; omega)
  rw [eV]
  clear eV
  have HP0 := Lib.hid P0
  have HPS := Lib.hid PS
  clear P0 PS
  go_enter Tryd.func58, Tryd.ntmps58
  go_wp2
  go_loopw [0, 3] (fun lv nv wr => ∃ k l a : Nat, k ≤ 16 ∧ l < 65536 ∧ l < 2 ^ k ∧ a + k ≤ 16 ∧ lv = .int .i64 l ∧ nv = .int .i64 a ∧ RowKit.Hid (a + P k l = V) ∧ wr = w) (fun lv _ _ => (intOf lv).toNat)
  case atStart => exact ⟨16, m, 0, by omega, hm, hm, by omega, rfl, rfl, HI, rfl⟩
  case round =>
    obtain ⟨k, l, a, hk, hl6, hl, ha, rfl, rfl, HF, rfl⟩ := hrel
    clear hm HI
    by_cases h0 : l = 0
    · subst h0
      have hv := HF.out
      rw [HP0.out] at hv
      have HV := Lib.hid hv
      clear hv HF
      go_wp2
      go_ret
      exact ⟨ret_int (by have := HV.out; omega), 0, rfl⟩
    · have hk0 : k ≠ 0 := by
        rintro rfl
        rw [Nat.pow_zero] at hl
        omega
      obtain ⟨k', rfl⟩ : ∃ k', k = k' + 1 := ⟨k - 1, by omega⟩
      clear hk0
      have hs := HF.out
      rw [HPS.out] at hs
      have HS := Lib.hid (show (a + l % 2) + P k' (l / 2) = V by omega)
      have hl2 : l / 2 < 2 ^ k' := by rw [Nat.pow_succ] at hl; omega
      have HL := Lib.hid hl2
      have hp : (0 : Int) < (l : Int) := by omega
      have ha2 : (a : Int) < 16 := by omega
      have HA := Lib.hid (show a + l % 2 + k' ≤ 16 by omega)
      have HK := Lib.hid (show k' ≤ 16 by omega)
      have HM := Lib.hid hl6
      have H2 := Lib.hid (show l / 2 < 65536 by omega)
      have H0 := Lib.hid h0
      clear hs HF hl hl2 ha hk h0 hl6
      go_wp2
      go_roundw
      case rel => exact ⟨k', l / 2, a + l % 2, HK.out, H2.out, HL.out, HA.out, congrArg (Value.int .i64) (half_wrap l HM.out), congrArg (Value.int .i64) (sum_mod a l), HS, by first | rfl | trivial⟩
      case measure => exact half_less l H0.out HM.out
theorem rcount_c (m : Nat) (hm : m < 65536) (w : World) : Calls Tryd.prog 58 #[.int .i64 (m : Int)] w fun e w' => e = .returned (.int .i64 (Rb.popF 16 m : Int)) ∧ ∃ n, w' = w.drewN n :=
  rcount_g Rb.popF Rb.pop_of_zero (fun _ _ => rfl) m hm w
end Go.Proofs.YtcphhojdfpedkaaDoor

namespace Go.Proofs.YtcphhojdfpedkaaDoor
open Go.ChangeShapes Go.WideShapes Go.ChangeAt Go.RowKit
theorem low_in (r : Int) : Rb.inB r 0 7 = Nm.low r := by
  unfold Rb.inB Nm.low
  rw [Bool.eq_iff_iff]
  simp
set_option maxHeartbeats 1000000 in
theorem rlows_1 (b : Nat) (r0 : Int) (w : World) (h0 : w.cell? ⟨b, 0, none⟩ = some (.int .i64 r0)) : Calls Tryd.prog 50 #[.slice (some ⟨b, 0, none⟩) 1 1] w fun e w' => e = .returned (.bool (Nm.low r0)) ∧ ∃ n, w' = w.drewN n := by
  go_enter Tryd.func50, Tryd.ntmps50
  go_wp2
  refine wp_loop_rounds 2 ?_
  rw [rounds_succ]
  go_wp2_with fail
  refine (rlow_c r0 _).mono ?_
  rintro e w' ⟨rfl, n0, rfl⟩
  rw [low_in]
  cases g0 : Nm.low r0 with
  | false =>
    go_wp2
    go_ret
    exact ⟨ret_bool (by simp [g0]), _, by first | rfl | simp only [World.drewN_drewN]⟩
  | true =>
    go_wp2
    rw [rounds_succ]
    go_wp2
    go_ret
    exact ⟨ret_bool (by simp [g0]), _, by first | rfl | simp only [World.drewN_drewN]⟩
set_option maxHeartbeats 1000000 in
theorem rlows_2 (b : Nat) (r0 r1 : Int) (w : World) (h0 : w.cell? ⟨b, 0, none⟩ = some (.int .i64 r0)) (h1 : w.cell? ⟨b, 1, none⟩ = some (.int .i64 r1)) : Calls Tryd.prog 50 #[.slice (some ⟨b, 0, none⟩) 2 2] w fun e w' => e = .returned (.bool (Nm.low r0 && Nm.low r1)) ∧ ∃ n, w' = w.drewN n := by
  go_enter Tryd.func50, Tryd.ntmps50
  go_wp2
  refine wp_loop_rounds 3 ?_
  rw [rounds_succ]
  go_wp2_with fail
  refine (rlow_c r0 _).mono ?_
  rintro e w' ⟨rfl, n0, rfl⟩
  rw [low_in]
  cases g0 : Nm.low r0 with
  | false =>
    go_wp2
    go_ret
    exact ⟨ret_bool (by simp [g0]), _, by first | rfl | simp only [World.drewN_drewN]⟩
  | true =>
    go_wp2
    rw [rounds_succ]
    go_wp2_with fail
    refine (rlow_c r1 _).mono ?_
    rintro e w' ⟨rfl, n1, rfl⟩
    rw [low_in]
    cases g1 : Nm.low r1 with
    | false =>
      go_wp2
      go_ret
      exact ⟨ret_bool (by simp [g0, g1]), _, by first | rfl | simp only [World.drewN_drewN]⟩
    | true =>
      go_wp2
      rw [rounds_succ]
      go_wp2
      go_ret
      exact ⟨ret_bool (by simp [g0, g1]), _, by first | rfl | simp only [World.drewN_drewN]⟩
set_option maxHeartbeats 1000000 in
theorem rlows_3 (b : Nat) (r0 r1 r2 : Int) (w : World) (h0 : w.cell? ⟨b, 0, none⟩ = some (.int .i64 r0)) (h1 : w.cell? ⟨b, 1, none⟩ = some (.int .i64 r1)) (h2 : w.cell? ⟨b, 2, none⟩ = some (.int .i64 r2)) : Calls Tryd.prog 50 #[.slice (some ⟨b, 0, none⟩) 3 3] w fun e w' => e = .returned (.bool (Nm.low r0 && (Nm.low r1 && Nm.low r2))) ∧ ∃ n, w' = w.drewN n := by
  go_enter Tryd.func50, Tryd.ntmps50
  go_wp2
  refine wp_loop_rounds 4 ?_
  rw [rounds_succ]
  go_wp2_with fail
  refine (rlow_c r0 _).mono ?_
  rintro e w' ⟨rfl, n0, rfl⟩
  rw [low_in]
  cases g0 : Nm.low r0 with
  | false =>
    go_wp2
    go_ret
    exact ⟨ret_bool (by simp [g0]), _, by first | rfl | simp only [World.drewN_drewN]⟩
  | true =>
    go_wp2
    rw [rounds_succ]
    go_wp2_with fail
    refine (rlow_c r1 _).mono ?_
    rintro e w' ⟨rfl, n1, rfl⟩
    rw [low_in]
    cases g1 : Nm.low r1 with
    | false =>
      go_wp2
      go_ret
      exact ⟨ret_bool (by simp [g0, g1]), _, by first | rfl | simp only [World.drewN_drewN]⟩
    | true =>
      go_wp2
      rw [rounds_succ]
      go_wp2_with fail
      refine (rlow_c r2 _).mono ?_
      rintro e w' ⟨rfl, n2, rfl⟩
      rw [low_in]
      cases g2 : Nm.low r2 with
      | false =>
        go_wp2
        go_ret
        exact ⟨ret_bool (by simp [g0, g1, g2]), _, by first | rfl | simp only [World.drewN_drewN]⟩
      | true =>
        go_wp2
        rw [rounds_succ]
        go_wp2
        go_ret
        exact ⟨ret_bool (by simp [g0, g1, g2]), _, by first | rfl | simp only [World.drewN_drewN]⟩
theorem cell_at0 (X : World) (cs : Array Value) (t : TypeId) (b j : Nat) (hb : b = X.heap.size) : (X.alloc (.cells cs t)).cell? ⟨b, j, none⟩ = cs[j]? := by subst hb; exact World.cell?_alloc_new X cs t j
theorem up_is (r : Int) (h0 : 0 ≤ r) (h1 : r ≤ 15) : bits .or .i64 (r / 8 * 128) (bits .and .i64 r 7) = Nm.up r := by
  rw [Cm.and7, Cm.or_join _ _ 7 (by omega) (by omega) (by omega) (by omega) (by omega) (by omega)]
  rfl
theorem or_up_all : ((List.range 16).all fun m => (List.range 16).all fun r => (bits .or .i64 (17408 + (m : Int) * 8) (Nm.up r) == 17408 + (m : Int) * 8 + Nm.up r) && ((bits .or .i64 (17664 + (m : Int) * 8) (Nm.up r) == 17664 + (m : Int) * 8 + Nm.up r) && (bits .or .i64 (17920 + (m : Int) * 8) (Nm.up r) == 17920 + (m : Int) * 8 + Nm.up r))) = true := by decide +kernel
theorem or_up (m r : Int) (hm0 : 0 ≤ m) (hm1 : m ≤ 15) (hr0 : 0 ≤ r) (hr1 : r ≤ 15) : bits .or .i64 (17408 + m * 8) (Nm.up r) = 17408 + m * 8 + Nm.up r ∧ bits .or .i64 (17664 + m * 8) (Nm.up r) = 17664 + m * 8 + Nm.up r ∧ bits .or .i64 (17920 + m * 8) (Nm.up r) = 17920 + m * 8 + Nm.up r := by
  have h := or_up_all
  rw [List.all_eq_true] at h
  have h2 := h m.toNat (by simp; omega)
  rw [List.all_eq_true] at h2
  have h3 := h2 r.toNat (by simp; omega)
  rw [show ((m.toNat : Nat) : Int) = m by omega, show ((r.toNat : Nat) : Int) = r by omega] at h3
  simp only [Bool.and_eq_true, beq_iff_eq] at h3
  exact h3
theorem rupper_c (r : Int) (w : World) (h0 : 0 ≤ r) (h1 : r ≤ 15) : Calls Tryd.prog 51 #[.int .i64 r] w fun e w' => e = .returned (.int .i64 (Nm.up r)) ∧ ∃ n, w' = w.drewN n := by
  have HU := Lib.hid (up_is r h0 h1)
  go_enter Tryd.func51, Tryd.ntmps51
  go_wp2
  go_ret
  exact ⟨ret_int HU.out, 0, rfl⟩
end Go.Proofs.YtcphhojdfpedkaaDoor

namespace Go.Proofs.YtcphhojdfpedkaaDoor
open Go.ChangeShapes Go.WideShapes Go.ChangeAt Go.RowKit
structure Held (b : Nat) (A : Array Value) (w W : World) : Prop where
  c : ∀ j, W.cell? ⟨b, j, none⟩ = A[j]?
  lt : b < W.heap.size
  bel : Below w.heap.size w W
theorem Held.step {b : Nat} {A : Array Value} {w W W' : World} (h : Held b A w W) (hb : Below W.heap.size W W') : Held b A w W' :=
  ⟨fun j => (hb.cell (p := ⟨b, j, none⟩) h.lt).trans (h.c j), Nat.lt_of_lt_of_le h.lt hb.size, h.bel.trans (hb.mono h.bel.size)⟩
theorem Held.alloc {b : Nat} {A : Array Value} {w W : World} (h : Held b A w W) (o : Obj) : Held b A w (W.alloc o) := h.step (one_b _ _)
theorem Held.drewn {b : Nat} {A : Array Value} {w W : World} (h : Held b A w W) (n : Nat) : Held b A w (W.drewN n) := h.step (below_drewN (Below.refl _ _) n)
theorem Held.start (w : World) (A : Array Value) (t : TypeId) : Held w.heap.size A w (w.alloc (.cells A t)) :=
  ⟨fun j => World.cell?_alloc_new w A t j, by simp, one_b _ _⟩
def Okay (e : Ending) : Option Int → Prop
  | some h => e = .returned (.tuple #[.int .i64 h, .bool true])
  | none => ∃ h, e = .returned (.tuple #[.int .i64 h, .bool false])
theorem okay_some {A B : Int} {o : Option Int} (ho : o = some B) (h : A = B) : Okay (.returned (.tuple #[.int .i64 A, .bool true])) o := by subst ho h; rfl
theorem okay_none {A : Int} {o : Option Int} (ho : o = none) : Okay (.returned (.tuple #[.int .i64 A, .bool false])) o := by subst ho; exact ⟨A, rfl⟩
theorem chain1 (a : Bool) : a = false ∨ a = true := by cases a <;> simp
theorem chain2 (a b : Bool) : a = false ∨ (a = true ∧ b = false) ∨ (a = true ∧ b = true) := by cases a <;> cases b <;> simp
theorem chain3 (a b c : Bool) : a = false ∨ (a = true ∧ b = false) ∨ (a = true ∧ b = true ∧ c = false) ∨ (a = true ∧ b = true ∧ c = true) := by cases a <;> cases b <;> cases c <;> simp
end Go.Proofs.YtcphhojdfpedkaaDoor

namespace Go.Proofs.YtcphhojdfpedkaaDoor
open Go.ChangeShapes Go.WideShapes Go.ChangeAt Go.RowKit
namespace Vy
theorem nat_mid (y k : Nat) : y &&& ((2 ^ k - 1) * 2 ^ 8) = y / 2 ^ 8 % 2 ^ k * 2 ^ 8 := by
  apply Nat.eq_of_testBit_eq
  intro i
  rw [Nat.testBit_and, Nat.testBit_mul_two_pow, Nat.testBit_mul_two_pow, Nat.testBit_mod_two_pow, Nat.testBit_div_two_pow, Nat.testBit_two_pow_sub_one]
  by_cases h : 8 ≤ i
  · simp [h, Nat.sub_add_cancel h, Bool.and_comm]
  · simp [h]
theorem and16128 (x : Int) (h0 : 0 ≤ x) (h1 : x ≤ 65535) : (bits .and .i64 x 16128 == 0) = (x / 256 % 64 == 0) := by
  rw [show (16128 : Int) = ((16128 : Nat) : Int) by rfl, Cm.i64_and x 16128 (by decide)]
  have := nat_mid (x % 18446744073709551616).toNat 6
  rw [show (16128 : Nat) = (2 ^ 6 - 1) * 2 ^ 8 by decide, this, Bool.eq_iff_iff, beq_iff_eq, beq_iff_eq]
  omega
theorem and32512 (x : Int) (h0 : 0 ≤ x) (h1 : x ≤ 65535) : (bits .and .i64 x 32512 == 0) = (x / 256 % 128 == 0) := by
  rw [show (32512 : Int) = ((32512 : Nat) : Int) by rfl, Cm.i64_and x 32512 (by decide)]
  have := nat_mid (x % 18446744073709551616).toNat 7
  rw [show (32512 : Nat) = (2 ^ 7 - 1) * 2 ^ 8 by decide, this, Bool.eq_iff_iff, beq_iff_eq, beq_iff_eq]
  omega
theorem low8 (x : Int) (h0 : 0 ≤ x) : (x == x % 256) = decide (x ≤ 255) := by
  rw [Bool.eq_iff_iff, beq_iff_eq, decide_eq_true_eq]
  omega
end Vy
end Go.Proofs.YtcphhojdfpedkaaDoor

namespace Go.Proofs.YtcphhojdfpedkaaDoor
open Go.ChangeShapes Go.WideShapes Go.ChangeAt Go.RowKit
def optV : Option Int → Value
  | none => .tuple #[.int .i64 0, .bool false]
  | some h => .tuple #[.int .i64 h, .bool true]
structure Later (w W : World) : Prop where
  tabs : Tabs W
  bel : Below w.heap.size w W
theorem Later.refl {w : World} (h : Tabs w) : Later w w := ⟨h, Below.refl _ _⟩
theorem Later.step {w W W' : World} (h : Later w W) (hb : Below W.heap.size W W') : Later w W' := ⟨h.tabs.below hb h.tabs.big, h.bel.trans (hb.mono h.bel.size)⟩
theorem Later.drewn {w W : World} (h : Later w W) (n : Nat) : Later w (W.drewN n) := ⟨h.tabs.drew n, below_drewN h.bel n⟩
end Go.Proofs.YtcphhojdfpedkaaDoor
