/- Contract of the document's own two (text by gen_v.py). -/
import Derived.Test.YthpoficikcicmaaDoorRows
import Derived.Test.YthpoficikcicmaaDoorGj
import Derived.Test.YthpoficikcicmaaDoorGc
namespace Go.Proofs.YthpoficikcicmaaDoor
open Go.ChangeShapes Go.WideShapes Go.ChangeAt Go.RowKit

set_option linter.unusedSimpArgs false in
set_option maxRecDepth 100000 in
set_option maxHeartbeats 4000000 in
theorem two1_2 (cond rd rn rm imm list : Int) (s : Bool) (f it : Bool) (w : World)  : Calls Tryd.prog 19 #[.agg #[.int .i64 1, .int .i64 cond, .int .i64 rd, .int .i64 rn, .int .i64 rm, .int .i64 imm, .int .i64 2, .int .i64 list, .bool s], .bool f, .bool it] w fun e w' => Okay e (Nm.twoI ⟨1, cond, rd, rn, rm, imm, 2, list, s⟩ f it) ∧ Below w.heap.size w w' := by
  have hI := Lib.hid (Held.start w #[.int .i64 1, .int .i64 cond, .int .i64 rd, .int .i64 rn, .int .i64 rm, .int .i64 imm, .int .i64 2, .int .i64 list, .bool s] 23)
  rcases chain3 (rd == rn) (f) (Nm.low rd && Nm.low rm) with h1 | ⟨h1, h2⟩ | ⟨h1, h2, h3⟩ | ⟨h1, h2, h3⟩
  all_goals
    go_enter Tryd.func19, Tryd.ntmps19
    go_wp2_with (first | (go_at_call 40; refine (rlows_2 _ rd rm _ (by first | exact cell_at0 _ _ _ _ 0 (by simp) | exact cell_at _ _ _ _ _ 0 (by simp)) (by first | exact cell_at0 _ _ _ _ 1 (by simp) | exact cell_at _ _ _ _ _ 1 (by simp))).mono ?_; rintro e w' ⟨rfl, nl, rfl⟩))
    go_ret2
    refine ⟨?_, Held.bel (b := w.heap.size) (A := #[.int .i64 1, .int .i64 cond, .int .i64 rd, .int .i64 rn, .int .i64 rm, .int .i64 imm, .int .i64 2, .int .i64 list, .bool s]) (by (repeat (first | exact hI.out | apply Held.drewn | apply Held.drew | apply Held.alloc)))⟩
    first
      | (exact okay_none (by unfold Nm.twoI; dsimp only; (try simp only [Nm.opt, *]); all_goals rfl))
      | (refine okay_some (B := 16384 + rm * 8 + rd) (by unfold Nm.twoI; dsimp only; (try simp only [Nm.opt, *]); all_goals rfl) ?_; simp only [Bool.and_eq_true] at h3; have r0 := Nm.low_is h3.1; have r1 := Nm.low_is h3.2; (try rw [show IntKind.i64.wrap (rm * 8) = rm * 8 from IntWalk.i64_in _ (by omega)]); (try rw [show wrap64 (rm * 8) = rm * 8 by unfold wrap64; omega]); (try rw [show IntKind.i64.wrap (rd) = rd from IntWalk.i64_in _ (by omega)]); (try rw [show wrap64 (rd) = rd by unfold wrap64; omega]); rw [Cm.or_join (rm * 8) (rd) 3 (by omega) (by omega) (by omega) (by omega) (by omega) (by omega)]; rw [Cm.or_join 16384 (rm * 8 + rd) 6 (by omega) (by omega) (by omega) (by omega) (by omega) (by omega)]; all_goals (try omega))
set_option linter.unusedSimpArgs false in
set_option maxRecDepth 100000 in
set_option maxHeartbeats 4000000 in
theorem two2_2 (cond rd rn rm imm list : Int) (s : Bool) (f it : Bool) (w : World)  : Calls Tryd.prog 19 #[.agg #[.int .i64 2, .int .i64 cond, .int .i64 rd, .int .i64 rn, .int .i64 rm, .int .i64 imm, .int .i64 2, .int .i64 list, .bool s], .bool f, .bool it] w fun e w' => Okay e (Nm.twoI ⟨2, cond, rd, rn, rm, imm, 2, list, s⟩ f it) ∧ Below w.heap.size w w' := by
  have hI := Lib.hid (Held.start w #[.int .i64 2, .int .i64 cond, .int .i64 rd, .int .i64 rn, .int .i64 rm, .int .i64 imm, .int .i64 2, .int .i64 list, .bool s] 23)
  rcases chain3 (rd == rn) (f) (Nm.low rd && Nm.low rm) with h1 | ⟨h1, h2⟩ | ⟨h1, h2, h3⟩ | ⟨h1, h2, h3⟩
  all_goals
    go_enter Tryd.func19, Tryd.ntmps19
    go_wp2_with (first | (go_at_call 40; refine (rlows_2 _ rd rm _ (by first | exact cell_at0 _ _ _ _ 0 (by simp) | exact cell_at _ _ _ _ _ 0 (by simp)) (by first | exact cell_at0 _ _ _ _ 1 (by simp) | exact cell_at _ _ _ _ _ 1 (by simp))).mono ?_; rintro e w' ⟨rfl, nl, rfl⟩))
    go_ret2
    refine ⟨?_, Held.bel (b := w.heap.size) (A := #[.int .i64 2, .int .i64 cond, .int .i64 rd, .int .i64 rn, .int .i64 rm, .int .i64 imm, .int .i64 2, .int .i64 list, .bool s]) (by (repeat (first | exact hI.out | apply Held.drewn | apply Held.drew | apply Held.alloc)))⟩
    first
      | (exact okay_none (by unfold Nm.twoI; dsimp only; (try simp only [Nm.opt, *]); all_goals rfl))
      | (refine okay_some (B := 16448 + rm * 8 + rd) (by unfold Nm.twoI; dsimp only; (try simp only [Nm.opt, *]); all_goals rfl) ?_; simp only [Bool.and_eq_true] at h3; have r0 := Nm.low_is h3.1; have r1 := Nm.low_is h3.2; (try rw [show IntKind.i64.wrap (rm * 8) = rm * 8 from IntWalk.i64_in _ (by omega)]); (try rw [show wrap64 (rm * 8) = rm * 8 by unfold wrap64; omega]); (try rw [show IntKind.i64.wrap (rd) = rd from IntWalk.i64_in _ (by omega)]); (try rw [show wrap64 (rd) = rd by unfold wrap64; omega]); rw [Cm.or_join (rm * 8) (rd) 3 (by omega) (by omega) (by omega) (by omega) (by omega) (by omega)]; rw [Cm.or_join 16448 (rm * 8 + rd) 6 (by omega) (by omega) (by omega) (by omega) (by omega) (by omega)]; all_goals (try omega))
set_option linter.unusedSimpArgs false in
set_option maxRecDepth 100000 in
set_option maxHeartbeats 4000000 in
theorem two3_2 (cond rd rn rm imm list : Int) (s : Bool) (f it : Bool) (w : World)  : Calls Tryd.prog 19 #[.agg #[.int .i64 3, .int .i64 cond, .int .i64 rd, .int .i64 rn, .int .i64 rm, .int .i64 imm, .int .i64 2, .int .i64 list, .bool s], .bool f, .bool it] w fun e w' => Okay e (Nm.twoI ⟨3, cond, rd, rn, rm, imm, 2, list, s⟩ f it) ∧ Below w.heap.size w w' := by
  have hI := Lib.hid (Held.start w #[.int .i64 3, .int .i64 cond, .int .i64 rd, .int .i64 rn, .int .i64 rm, .int .i64 imm, .int .i64 2, .int .i64 list, .bool s] 23)
  rcases chain3 (rd == rn) (f) (Nm.low rd && Nm.low rm) with h1 | ⟨h1, h2⟩ | ⟨h1, h2, h3⟩ | ⟨h1, h2, h3⟩
  all_goals
    go_enter Tryd.func19, Tryd.ntmps19
    go_wp2_with (first | (go_at_call 40; refine (rlows_2 _ rd rm _ (by first | exact cell_at0 _ _ _ _ 0 (by simp) | exact cell_at _ _ _ _ _ 0 (by simp)) (by first | exact cell_at0 _ _ _ _ 1 (by simp) | exact cell_at _ _ _ _ _ 1 (by simp))).mono ?_; rintro e w' ⟨rfl, nl, rfl⟩))
    go_ret2
    refine ⟨?_, Held.bel (b := w.heap.size) (A := #[.int .i64 3, .int .i64 cond, .int .i64 rd, .int .i64 rn, .int .i64 rm, .int .i64 imm, .int .i64 2, .int .i64 list, .bool s]) (by (repeat (first | exact hI.out | apply Held.drewn | apply Held.drew | apply Held.alloc)))⟩
    first
      | (exact okay_none (by unfold Nm.twoI; dsimp only; (try simp only [Nm.opt, *]); all_goals rfl))
      | (refine okay_some (B := 17152 + rm * 8 + rd) (by unfold Nm.twoI; dsimp only; (try simp only [Nm.opt, *]); all_goals rfl) ?_; simp only [Bool.and_eq_true] at h3; have r0 := Nm.low_is h3.1; have r1 := Nm.low_is h3.2; (try rw [show IntKind.i64.wrap (rm * 8) = rm * 8 from IntWalk.i64_in _ (by omega)]); (try rw [show wrap64 (rm * 8) = rm * 8 by unfold wrap64; omega]); (try rw [show IntKind.i64.wrap (rd) = rd from IntWalk.i64_in _ (by omega)]); (try rw [show wrap64 (rd) = rd by unfold wrap64; omega]); rw [Cm.or_join (rm * 8) (rd) 3 (by omega) (by omega) (by omega) (by omega) (by omega) (by omega)]; rw [Cm.or_join 17152 (rm * 8 + rd) 6 (by omega) (by omega) (by omega) (by omega) (by omega) (by omega)]; all_goals (try omega))
set_option linter.unusedSimpArgs false in
set_option maxRecDepth 100000 in
set_option maxHeartbeats 4000000 in
theorem two4_2 (cond rd rn rm imm list : Int) (s : Bool) (f it : Bool) (w : World)  : Calls Tryd.prog 19 #[.agg #[.int .i64 4, .int .i64 cond, .int .i64 rd, .int .i64 rn, .int .i64 rm, .int .i64 imm, .int .i64 2, .int .i64 list, .bool s], .bool f, .bool it] w fun e w' => Okay e (Nm.twoI ⟨4, cond, rd, rn, rm, imm, 2, list, s⟩ f it) ∧ Below w.heap.size w w' := by
  have hI := Lib.hid (Held.start w #[.int .i64 4, .int .i64 cond, .int .i64 rd, .int .i64 rn, .int .i64 rm, .int .i64 imm, .int .i64 2, .int .i64 list, .bool s] 23)
  rcases chain3 (rd == rn) (f) (Nm.low rd && Nm.low rm) with h1 | ⟨h1, h2⟩ | ⟨h1, h2, h3⟩ | ⟨h1, h2, h3⟩
  all_goals
    go_enter Tryd.func19, Tryd.ntmps19
    go_wp2_with (first | (go_at_call 40; refine (rlows_2 _ rd rm _ (by first | exact cell_at0 _ _ _ _ 0 (by simp) | exact cell_at _ _ _ _ _ 0 (by simp)) (by first | exact cell_at0 _ _ _ _ 1 (by simp) | exact cell_at _ _ _ _ _ 1 (by simp))).mono ?_; rintro e w' ⟨rfl, nl, rfl⟩))
    go_ret2
    refine ⟨?_, Held.bel (b := w.heap.size) (A := #[.int .i64 4, .int .i64 cond, .int .i64 rd, .int .i64 rn, .int .i64 rm, .int .i64 imm, .int .i64 2, .int .i64 list, .bool s]) (by (repeat (first | exact hI.out | apply Held.drewn | apply Held.drew | apply Held.alloc)))⟩
    first
      | (exact okay_none (by unfold Nm.twoI; dsimp only; (try simp only [Nm.opt, *]); all_goals rfl))
      | (refine okay_some (B := 17280 + rm * 8 + rd) (by unfold Nm.twoI; dsimp only; (try simp only [Nm.opt, *]); all_goals rfl) ?_; simp only [Bool.and_eq_true] at h3; have r0 := Nm.low_is h3.1; have r1 := Nm.low_is h3.2; (try rw [show IntKind.i64.wrap (rm * 8) = rm * 8 from IntWalk.i64_in _ (by omega)]); (try rw [show wrap64 (rm * 8) = rm * 8 by unfold wrap64; omega]); (try rw [show IntKind.i64.wrap (rd) = rd from IntWalk.i64_in _ (by omega)]); (try rw [show wrap64 (rd) = rd by unfold wrap64; omega]); rw [Cm.or_join (rm * 8) (rd) 3 (by omega) (by omega) (by omega) (by omega) (by omega) (by omega)]; rw [Cm.or_join 17280 (rm * 8 + rd) 6 (by omega) (by omega) (by omega) (by omega) (by omega) (by omega)]; all_goals (try omega))
set_option linter.unusedSimpArgs false in
set_option maxRecDepth 100000 in
set_option maxHeartbeats 4000000 in
theorem two6_2 (cond rd rn rm imm list : Int) (s : Bool) (f it : Bool) (w : World)  : Calls Tryd.prog 19 #[.agg #[.int .i64 6, .int .i64 cond, .int .i64 rd, .int .i64 rn, .int .i64 rm, .int .i64 imm, .int .i64 2, .int .i64 list, .bool s], .bool f, .bool it] w fun e w' => Okay e (Nm.twoI ⟨6, cond, rd, rn, rm, imm, 2, list, s⟩ f it) ∧ Below w.heap.size w w' := by
  have hI := Lib.hid (Held.start w #[.int .i64 6, .int .i64 cond, .int .i64 rd, .int .i64 rn, .int .i64 rm, .int .i64 imm, .int .i64 2, .int .i64 list, .bool s] 23)
  rcases chain3 (rd == rn) (f) (Nm.low rd && Nm.low rm) with h1 | ⟨h1, h2⟩ | ⟨h1, h2, h3⟩ | ⟨h1, h2, h3⟩
  all_goals
    go_enter Tryd.func19, Tryd.ntmps19
    go_wp2_with (first | (go_at_call 40; refine (rlows_2 _ rd rm _ (by first | exact cell_at0 _ _ _ _ 0 (by simp) | exact cell_at _ _ _ _ _ 0 (by simp)) (by first | exact cell_at0 _ _ _ _ 1 (by simp) | exact cell_at _ _ _ _ _ 1 (by simp))).mono ?_; rintro e w' ⟨rfl, nl, rfl⟩))
    go_ret2
    refine ⟨?_, Held.bel (b := w.heap.size) (A := #[.int .i64 6, .int .i64 cond, .int .i64 rd, .int .i64 rn, .int .i64 rm, .int .i64 imm, .int .i64 2, .int .i64 list, .bool s]) (by (repeat (first | exact hI.out | apply Held.drewn | apply Held.drew | apply Held.alloc)))⟩
    first
      | (exact okay_none (by unfold Nm.twoI; dsimp only; (try simp only [Nm.opt, *]); all_goals rfl))
      | (refine okay_some (B := 16704 + rm * 8 + rd) (by unfold Nm.twoI; dsimp only; (try simp only [Nm.opt, *]); all_goals rfl) ?_; simp only [Bool.and_eq_true] at h3; have r0 := Nm.low_is h3.1; have r1 := Nm.low_is h3.2; (try rw [show IntKind.i64.wrap (rm * 8) = rm * 8 from IntWalk.i64_in _ (by omega)]); (try rw [show wrap64 (rm * 8) = rm * 8 by unfold wrap64; omega]); (try rw [show IntKind.i64.wrap (rd) = rd from IntWalk.i64_in _ (by omega)]); (try rw [show wrap64 (rd) = rd by unfold wrap64; omega]); rw [Cm.or_join (rm * 8) (rd) 3 (by omega) (by omega) (by omega) (by omega) (by omega) (by omega)]; rw [Cm.or_join 16704 (rm * 8 + rd) 6 (by omega) (by omega) (by omega) (by omega) (by omega) (by omega)]; all_goals (try omega))
set_option linter.unusedSimpArgs false in
set_option maxRecDepth 100000 in
set_option maxHeartbeats 4000000 in
theorem two8_2 (cond rd rn rm imm list : Int) (s : Bool) (f it : Bool) (w : World)  : Calls Tryd.prog 19 #[.agg #[.int .i64 8, .int .i64 cond, .int .i64 rd, .int .i64 rn, .int .i64 rm, .int .i64 imm, .int .i64 2, .int .i64 list, .bool s], .bool f, .bool it] w fun e w' => Okay e (Nm.twoI ⟨8, cond, rd, rn, rm, imm, 2, list, s⟩ f it) ∧ Below w.heap.size w w' := by
  have hI := Lib.hid (Held.start w #[.int .i64 8, .int .i64 cond, .int .i64 rd, .int .i64 rn, .int .i64 rm, .int .i64 imm, .int .i64 2, .int .i64 list, .bool s] 23)
  rcases chain3 (rd == rn) (f) (Nm.low rd && Nm.low rm) with h1 | ⟨h1, h2⟩ | ⟨h1, h2, h3⟩ | ⟨h1, h2, h3⟩
  all_goals
    go_enter Tryd.func19, Tryd.ntmps19
    go_wp2_with (first | (go_at_call 40; refine (rlows_2 _ rd rm _ (by first | exact cell_at0 _ _ _ _ 0 (by simp) | exact cell_at _ _ _ _ _ 0 (by simp)) (by first | exact cell_at0 _ _ _ _ 1 (by simp) | exact cell_at _ _ _ _ _ 1 (by simp))).mono ?_; rintro e w' ⟨rfl, nl, rfl⟩))
    go_ret2
    refine ⟨?_, Held.bel (b := w.heap.size) (A := #[.int .i64 8, .int .i64 cond, .int .i64 rd, .int .i64 rn, .int .i64 rm, .int .i64 imm, .int .i64 2, .int .i64 list, .bool s]) (by (repeat (first | exact hI.out | apply Held.drewn | apply Held.drew | apply Held.alloc)))⟩
    first
      | (exact okay_none (by unfold Nm.twoI; dsimp only; (try simp only [Nm.opt, *]); all_goals rfl))
      | (refine okay_some (B := 16768 + rm * 8 + rd) (by unfold Nm.twoI; dsimp only; (try simp only [Nm.opt, *]); all_goals rfl) ?_; simp only [Bool.and_eq_true] at h3; have r0 := Nm.low_is h3.1; have r1 := Nm.low_is h3.2; (try rw [show IntKind.i64.wrap (rm * 8) = rm * 8 from IntWalk.i64_in _ (by omega)]); (try rw [show wrap64 (rm * 8) = rm * 8 by unfold wrap64; omega]); (try rw [show IntKind.i64.wrap (rd) = rd from IntWalk.i64_in _ (by omega)]); (try rw [show wrap64 (rd) = rd by unfold wrap64; omega]); rw [Cm.or_join (rm * 8) (rd) 3 (by omega) (by omega) (by omega) (by omega) (by omega) (by omega)]; rw [Cm.or_join 16768 (rm * 8 + rd) 6 (by omega) (by omega) (by omega) (by omega) (by omega) (by omega)]; all_goals (try omega))
set_option linter.unusedSimpArgs false in
set_option maxRecDepth 100000 in
set_option maxHeartbeats 4000000 in
theorem two11_2 (cond rd rn rm imm list : Int) (s : Bool) (f it : Bool) (w : World)  : Calls Tryd.prog 19 #[.agg #[.int .i64 11, .int .i64 cond, .int .i64 rd, .int .i64 rn, .int .i64 rm, .int .i64 imm, .int .i64 2, .int .i64 list, .bool s], .bool f, .bool it] w fun e w' => Okay e (Nm.twoI ⟨11, cond, rd, rn, rm, imm, 2, list, s⟩ f it) ∧ Below w.heap.size w w' := by
  have hI := Lib.hid (Held.start w #[.int .i64 11, .int .i64 cond, .int .i64 rd, .int .i64 rn, .int .i64 rm, .int .i64 imm, .int .i64 2, .int .i64 list, .bool s] 23)
  cases hsp : (rd == rn)
  all_goals
    rcases chain2 (f) (Nm.low rd && Nm.low rm) with h1 | ⟨h1, h2⟩ | ⟨h1, h2⟩
    all_goals
      go_enter Tryd.func19, Tryd.ntmps19
      go_wp2_with (first | (go_at_call 40; refine (rlows_2 _ rd rm _ (by first | exact cell_at0 _ _ _ _ 0 (by simp) | exact cell_at _ _ _ _ _ 0 (by simp)) (by first | exact cell_at0 _ _ _ _ 1 (by simp) | exact cell_at _ _ _ _ _ 1 (by simp))).mono ?_; rintro e w' ⟨rfl, nl, rfl⟩))
      go_ret2
      refine ⟨?_, Held.bel (b := w.heap.size) (A := #[.int .i64 11, .int .i64 cond, .int .i64 rd, .int .i64 rn, .int .i64 rm, .int .i64 imm, .int .i64 2, .int .i64 list, .bool s]) (by (repeat (first | exact hI.out | apply Held.drewn | apply Held.drew | apply Held.alloc)))⟩
      first
        | (exact okay_none (by unfold Nm.twoI; dsimp only; (try simp only [Nm.opt, *]); all_goals rfl))
        | (refine okay_some (B := 17344 + rm * 8 + rd) (by unfold Nm.twoI; dsimp only; (try simp only [Nm.opt, *]); all_goals rfl) ?_; simp only [Bool.and_eq_true] at h2; have r0 := Nm.low_is h2.1; have r1 := Nm.low_is h2.2; (try rw [show IntKind.i64.wrap (rm * 8) = rm * 8 from IntWalk.i64_in _ (by omega)]); (try rw [show wrap64 (rm * 8) = rm * 8 by unfold wrap64; omega]); (try rw [show IntKind.i64.wrap (rd) = rd from IntWalk.i64_in _ (by omega)]); (try rw [show wrap64 (rd) = rd by unfold wrap64; omega]); rw [Cm.or_join (rm * 8) (rd) 3 (by omega) (by omega) (by omega) (by omega) (by omega) (by omega)]; rw [Cm.or_join 17344 (rm * 8 + rd) 6 (by omega) (by omega) (by omega) (by omega) (by omega) (by omega)]; all_goals (try omega))
end Go.Proofs.YthpoficikcicmaaDoor
