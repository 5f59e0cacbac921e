/- Contract of the document's own shift (text by gen_v.py). Contract of the document's own shift (text by gen_v.py). -/
import Derived.Test.YtcphhojdfpedkaaDoorGc
import Derived.Test.YtcphhojdfpedkaaDoorGj

namespace Go.Proofs.YtcphhojdfpedkaaDoor
open Go.ChangeShapes Go.WideShapes Go.ChangeAt Go.RowKit
set_option linter.unusedSimpArgs false in
set_option maxRecDepth 100000 in
set_option maxHeartbeats 4000000 in
theorem shift16_2 (cond rd rn rm imm list : Int) (s : Bool) (f : Bool) (w : World)  : Calls Tryd.prog 24 #[.agg #[.int .i64 16, .int .i64 cond, .int .i64 rd, .int .i64 rn, .int .i64 rm, .int .i64 imm, .int .i64 2, .int .i64 list, .bool s], .bool f] w fun e w' => Okay e (Nm.shiftI ⟨16, cond, rd, rn, rm, imm, 2, list, s⟩ f) ∧ Below w.heap.size w w' := by
  have hI := Lib.hid (Held.start w #[.int .i64 16, .int .i64 cond, .int .i64 rd, .int .i64 rn, .int .i64 rm, .int .i64 imm, .int .i64 2, .int .i64 list, .bool s] 23)
  rcases chain3 (f) (rd == rn) (Nm.low rd && Nm.low rm) with h1 | ⟨h1, h2⟩ | ⟨h1, h2, h3⟩ | ⟨h1, h2, h3⟩
  all_goals
    go_enter Tryd.func24, Tryd.ntmps24
    go_wp2_with fail
    refine wp_region_idx 25 [true, true, true, true, true, true, true, true, true, true, true, true, true, true, true, true, true, true, true, true, true, false, false, true, true, false] (S := (fun W => Held w.heap.size #[.int .i64 16, .int .i64 cond, .int .i64 rd, .int .i64 rn, .int .i64 rm, .int .i64 imm, .int .i64 2, .int .i64 list, .bool s] w W)) (by kernel_rfl) (by kernel_rfl) (fun _ _ d _ _ h => by cases d <;> exact h) (by (repeat (first | exact hI.out | apply Held.drewn | apply Held.drew | apply Held.alloc))) ?_
    simp only [List.zip_cons_cons, List.zip_nil_left]
    repeat (first
      | ((refine idx_pure rfl ?_ ?_ ?_; rotate_left; · (intro W hSw; (try dsimp only at hSw); obtain ⟨hq1, hq2, _⟩ := hSw; go_simp) <;> with_reducible rfl); (try simp only [Act.put, List.setIfInBounds_toArray, List.set_cons_zero, List.set_cons_succ]))
      | (refine idx_no rfl rfl rfl ?_; (try simp only [Act.put, List.setIfInBounds_toArray, List.set_cons_zero, List.set_cons_succ]))
      | ((refine idx_yes rfl rfl rfl ?_ ?_ ?_; rotate_left; · (intro W hSw; (try dsimp only at hSw); obtain ⟨hq1, hq2, _⟩ := hSw; go_simp) <;> with_reducible rfl); (try simp only [Act.put, List.setIfInBounds_toArray, List.set_cons_zero, List.set_cons_succ]))
      | (refine idx_call_no rfl rfl rfl ?_; (try simp only [Act.put, List.setIfInBounds_toArray, List.set_cons_zero, List.set_cons_succ]))
      | (refine idx_call rfl (fun K hK => ?_); go_simp; first | (refine hK.out _ _ (by (repeat (first | exact hI.out | apply Held.drewn | apply Held.drew | apply Held.alloc))) ?_; clear hK K; (try simp only [Act.put, List.setIfInBounds_toArray, List.set_cons_zero, List.set_cons_succ])) | (refine (rlows_2 _ rd rm _ (by first | exact cell_at0 _ _ _ _ 0 (by simp) | exact cell_at _ _ _ _ _ 0 (by simp)) (by first | exact cell_at0 _ _ _ _ 1 (by simp) | exact cell_at _ _ _ _ _ 1 (by simp))).mono ?_; rintro e w' ⟨rfl, nl, rfl⟩; go_wp2_with fail; refine hK.out _ _ (by (repeat (first | exact hI.out | apply Held.drewn | apply Held.drew | apply Held.alloc))) ?_; clear hK K; (try simp only [Act.put, List.setIfInBounds_toArray, List.set_cons_zero, List.set_cons_succ])))
      | (refine idx_call_yes rfl rfl rfl (fun K hK => ?_); go_simp; first | (refine hK.out _ _ (by (repeat (first | exact hI.out | apply Held.drewn | apply Held.drew | apply Held.alloc))) ?_; clear hK K; (try simp only [Act.put, List.setIfInBounds_toArray, List.set_cons_zero, List.set_cons_succ])) | (refine (rlows_2 _ rd rm _ (by first | exact cell_at0 _ _ _ _ 0 (by simp) | exact cell_at _ _ _ _ _ 0 (by simp)) (by first | exact cell_at0 _ _ _ _ 1 (by simp) | exact cell_at _ _ _ _ _ 1 (by simp))).mono ?_; rintro e w' ⟨rfl, nl, rfl⟩; go_wp2_with fail; refine hK.out _ _ (by (repeat (first | exact hI.out | apply Held.drewn | apply Held.drew | apply Held.alloc))) ?_; clear hK K; (try simp only [Act.put, List.setIfInBounds_toArray, List.set_cons_zero, List.set_cons_succ]))))
    refine idx_end ?_
    go_wp2
    go_ret2
    refine ⟨?_, Held.bel (b := w.heap.size) (A := #[.int .i64 16, .int .i64 cond, .int .i64 rd, .int .i64 rn, .int .i64 rm, .int .i64 imm, .int .i64 2, .int .i64 list, .bool s]) (by (repeat (first | exact hI.out | apply Held.drewn | apply Held.drew | apply Held.alloc)))⟩
    first
      | (exact okay_none (by unfold Nm.shiftI; dsimp only; (try simp only [Nm.opt, *]); all_goals rfl))
      | (refine okay_some (B := 16512 + rm * 8 + rd) (by unfold Nm.shiftI; dsimp only; (try simp only [Nm.opt, *]); all_goals rfl) ?_; simp only [Bool.and_eq_true] at h3; have r0 := Nm.low_is h3.1; have r1 := Nm.low_is h3.2; (try rw [show IntKind.i64.wrap (rm * 8) = rm * 8 from IntWalk.i64_in _ (by omega)]); (try rw [show wrap64 (rm * 8) = rm * 8 by unfold wrap64; omega]); (try rw [show IntKind.i64.wrap (rd) = rd from IntWalk.i64_in _ (by omega)]); (try rw [show wrap64 (rd) = rd by unfold wrap64; omega]); rw [Cm.or_join (16512) (rm * 8) 6 (by omega) (by omega) (by omega) (by omega) (by omega) (by omega), Cm.or_join (16512 + rm * 8) (rd) 3 (by omega) (by omega) (by omega) (by omega) (by omega) (by omega)]; all_goals (try omega))
set_option linter.unusedSimpArgs false in
set_option maxRecDepth 100000 in
set_option maxHeartbeats 4000000 in
theorem shift17_2 (cond rd rn rm imm list : Int) (s : Bool) (f : Bool) (w : World)  : Calls Tryd.prog 24 #[.agg #[.int .i64 17, .int .i64 cond, .int .i64 rd, .int .i64 rn, .int .i64 rm, .int .i64 imm, .int .i64 2, .int .i64 list, .bool s], .bool f] w fun e w' => Okay e (Nm.shiftI ⟨17, cond, rd, rn, rm, imm, 2, list, s⟩ f) ∧ Below w.heap.size w w' := by
  have hI := Lib.hid (Held.start w #[.int .i64 17, .int .i64 cond, .int .i64 rd, .int .i64 rn, .int .i64 rm, .int .i64 imm, .int .i64 2, .int .i64 list, .bool s] 23)
  rcases chain3 (f) (rd == rn) (Nm.low rd && Nm.low rm) with h1 | ⟨h1, h2⟩ | ⟨h1, h2, h3⟩ | ⟨h1, h2, h3⟩
  all_goals
    go_enter Tryd.func24, Tryd.ntmps24
    go_wp2_with fail
    refine wp_region_idx 25 [true, true, true, true, true, true, true, true, true, true, true, true, true, true, true, true, true, true, true, true, true, false, false, true, true, false] (S := (fun W => Held w.heap.size #[.int .i64 17, .int .i64 cond, .int .i64 rd, .int .i64 rn, .int .i64 rm, .int .i64 imm, .int .i64 2, .int .i64 list, .bool s] w W)) (by kernel_rfl) (by kernel_rfl) (fun _ _ d _ _ h => by cases d <;> exact h) (by (repeat (first | exact hI.out | apply Held.drewn | apply Held.drew | apply Held.alloc))) ?_
    simp only [List.zip_cons_cons, List.zip_nil_left]
    repeat (first
      | ((refine idx_pure rfl ?_ ?_ ?_; rotate_left; · (intro W hSw; (try dsimp only at hSw); obtain ⟨hq1, hq2, _⟩ := hSw; go_simp) <;> with_reducible rfl); (try simp only [Act.put, List.setIfInBounds_toArray, List.set_cons_zero, List.set_cons_succ]))
      | (refine idx_no rfl rfl rfl ?_; (try simp only [Act.put, List.setIfInBounds_toArray, List.set_cons_zero, List.set_cons_succ]))
      | ((refine idx_yes rfl rfl rfl ?_ ?_ ?_; rotate_left; · (intro W hSw; (try dsimp only at hSw); obtain ⟨hq1, hq2, _⟩ := hSw; go_simp) <;> with_reducible rfl); (try simp only [Act.put, List.setIfInBounds_toArray, List.set_cons_zero, List.set_cons_succ]))
      | (refine idx_call_no rfl rfl rfl ?_; (try simp only [Act.put, List.setIfInBounds_toArray, List.set_cons_zero, List.set_cons_succ]))
      | (refine idx_call rfl (fun K hK => ?_); go_simp; first | (refine hK.out _ _ (by (repeat (first | exact hI.out | apply Held.drewn | apply Held.drew | apply Held.alloc))) ?_; clear hK K; (try simp only [Act.put, List.setIfInBounds_toArray, List.set_cons_zero, List.set_cons_succ])) | (refine (rlows_2 _ rd rm _ (by first | exact cell_at0 _ _ _ _ 0 (by simp) | exact cell_at _ _ _ _ _ 0 (by simp)) (by first | exact cell_at0 _ _ _ _ 1 (by simp) | exact cell_at _ _ _ _ _ 1 (by simp))).mono ?_; rintro e w' ⟨rfl, nl, rfl⟩; go_wp2_with fail; refine hK.out _ _ (by (repeat (first | exact hI.out | apply Held.drewn | apply Held.drew | apply Held.alloc))) ?_; clear hK K; (try simp only [Act.put, List.setIfInBounds_toArray, List.set_cons_zero, List.set_cons_succ])))
      | (refine idx_call_yes rfl rfl rfl (fun K hK => ?_); go_simp; first | (refine hK.out _ _ (by (repeat (first | exact hI.out | apply Held.drewn | apply Held.drew | apply Held.alloc))) ?_; clear hK K; (try simp only [Act.put, List.setIfInBounds_toArray, List.set_cons_zero, List.set_cons_succ])) | (refine (rlows_2 _ rd rm _ (by first | exact cell_at0 _ _ _ _ 0 (by simp) | exact cell_at _ _ _ _ _ 0 (by simp)) (by first | exact cell_at0 _ _ _ _ 1 (by simp) | exact cell_at _ _ _ _ _ 1 (by simp))).mono ?_; rintro e w' ⟨rfl, nl, rfl⟩; go_wp2_with fail; refine hK.out _ _ (by (repeat (first | exact hI.out | apply Held.drewn | apply Held.drew | apply Held.alloc))) ?_; clear hK K; (try simp only [Act.put, List.setIfInBounds_toArray, List.set_cons_zero, List.set_cons_succ]))))
    refine idx_end ?_
    go_wp2
    go_ret2
    refine ⟨?_, Held.bel (b := w.heap.size) (A := #[.int .i64 17, .int .i64 cond, .int .i64 rd, .int .i64 rn, .int .i64 rm, .int .i64 imm, .int .i64 2, .int .i64 list, .bool s]) (by (repeat (first | exact hI.out | apply Held.drewn | apply Held.drew | apply Held.alloc)))⟩
    first
      | (exact okay_none (by unfold Nm.shiftI; dsimp only; (try simp only [Nm.opt, *]); all_goals rfl))
      | (refine okay_some (B := 16576 + rm * 8 + rd) (by unfold Nm.shiftI; dsimp only; (try simp only [Nm.opt, *]); all_goals rfl) ?_; simp only [Bool.and_eq_true] at h3; have r0 := Nm.low_is h3.1; have r1 := Nm.low_is h3.2; (try rw [show IntKind.i64.wrap (rm * 8) = rm * 8 from IntWalk.i64_in _ (by omega)]); (try rw [show wrap64 (rm * 8) = rm * 8 by unfold wrap64; omega]); (try rw [show IntKind.i64.wrap (rd) = rd from IntWalk.i64_in _ (by omega)]); (try rw [show wrap64 (rd) = rd by unfold wrap64; omega]); rw [Cm.or_join (16576) (rm * 8) 6 (by omega) (by omega) (by omega) (by omega) (by omega) (by omega), Cm.or_join (16576 + rm * 8) (rd) 3 (by omega) (by omega) (by omega) (by omega) (by omega) (by omega)]; all_goals (try omega))
set_option linter.unusedSimpArgs false in
set_option maxRecDepth 100000 in
set_option maxHeartbeats 4000000 in
theorem shift18_2 (cond rd rn rm imm list : Int) (s : Bool) (f : Bool) (w : World)  : Calls Tryd.prog 24 #[.agg #[.int .i64 18, .int .i64 cond, .int .i64 rd, .int .i64 rn, .int .i64 rm, .int .i64 imm, .int .i64 2, .int .i64 list, .bool s], .bool f] w fun e w' => Okay e (Nm.shiftI ⟨18, cond, rd, rn, rm, imm, 2, list, s⟩ f) ∧ Below w.heap.size w w' := by
  have hI := Lib.hid (Held.start w #[.int .i64 18, .int .i64 cond, .int .i64 rd, .int .i64 rn, .int .i64 rm, .int .i64 imm, .int .i64 2, .int .i64 list, .bool s] 23)
  rcases chain3 (f) (rd == rn) (Nm.low rd && Nm.low rm) with h1 | ⟨h1, h2⟩ | ⟨h1, h2, h3⟩ | ⟨h1, h2, h3⟩
  all_goals
    go_enter Tryd.func24, Tryd.ntmps24
    go_wp2_with fail
    refine wp_region_idx 25 [true, true, true, true, true, true, true, true, true, true, true, true, true, true, true, true, true, true, true, true, true, false, false, true, true, false] (S := (fun W => Held w.heap.size #[.int .i64 18, .int .i64 cond, .int .i64 rd, .int .i64 rn, .int .i64 rm, .int .i64 imm, .int .i64 2, .int .i64 list, .bool s] w W)) (by kernel_rfl) (by kernel_rfl) (fun _ _ d _ _ h => by cases d <;> exact h) (by (repeat (first | exact hI.out | apply Held.drewn | apply Held.drew | apply Held.alloc))) ?_
    simp only [List.zip_cons_cons, List.zip_nil_left]
    repeat (first
      | ((refine idx_pure rfl ?_ ?_ ?_; rotate_left; · (intro W hSw; (try dsimp only at hSw); obtain ⟨hq1, hq2, _⟩ := hSw; go_simp) <;> with_reducible rfl); (try simp only [Act.put, List.setIfInBounds_toArray, List.set_cons_zero, List.set_cons_succ]))
      | (refine idx_no rfl rfl rfl ?_; (try simp only [Act.put, List.setIfInBounds_toArray, List.set_cons_zero, List.set_cons_succ]))
      | ((refine idx_yes rfl rfl rfl ?_ ?_ ?_; rotate_left; · (intro W hSw; (try dsimp only at hSw); obtain ⟨hq1, hq2, _⟩ := hSw; go_simp) <;> with_reducible rfl); (try simp only [Act.put, List.setIfInBounds_toArray, List.set_cons_zero, List.set_cons_succ]))
      | (refine idx_call_no rfl rfl rfl ?_; (try simp only [Act.put, List.setIfInBounds_toArray, List.set_cons_zero, List.set_cons_succ]))
      | (refine idx_call rfl (fun K hK => ?_); go_simp; first | (refine hK.out _ _ (by (repeat (first | exact hI.out | apply Held.drewn | apply Held.drew | apply Held.alloc))) ?_; clear hK K; (try simp only [Act.put, List.setIfInBounds_toArray, List.set_cons_zero, List.set_cons_succ])) | (refine (rlows_2 _ rd rm _ (by first | exact cell_at0 _ _ _ _ 0 (by simp) | exact cell_at _ _ _ _ _ 0 (by simp)) (by first | exact cell_at0 _ _ _ _ 1 (by simp) | exact cell_at _ _ _ _ _ 1 (by simp))).mono ?_; rintro e w' ⟨rfl, nl, rfl⟩; go_wp2_with fail; refine hK.out _ _ (by (repeat (first | exact hI.out | apply Held.drewn | apply Held.drew | apply Held.alloc))) ?_; clear hK K; (try simp only [Act.put, List.setIfInBounds_toArray, List.set_cons_zero, List.set_cons_succ])))
      | (refine idx_call_yes rfl rfl rfl (fun K hK => ?_); go_simp; first | (refine hK.out _ _ (by (repeat (first | exact hI.out | apply Held.drewn | apply Held.drew | apply Held.alloc))) ?_; clear hK K; (try simp only [Act.put, List.setIfInBounds_toArray, List.set_cons_zero, List.set_cons_succ])) | (refine (rlows_2 _ rd rm _ (by first | exact cell_at0 _ _ _ _ 0 (by simp) | exact cell_at _ _ _ _ _ 0 (by simp)) (by first | exact cell_at0 _ _ _ _ 1 (by simp) | exact cell_at _ _ _ _ _ 1 (by simp))).mono ?_; rintro e w' ⟨rfl, nl, rfl⟩; go_wp2_with fail; refine hK.out _ _ (by (repeat (first | exact hI.out | apply Held.drewn | apply Held.drew | apply Held.alloc))) ?_; clear hK K; (try simp only [Act.put, List.setIfInBounds_toArray, List.set_cons_zero, List.set_cons_succ]))))
    refine idx_end ?_
    go_wp2
    go_ret2
    refine ⟨?_, Held.bel (b := w.heap.size) (A := #[.int .i64 18, .int .i64 cond, .int .i64 rd, .int .i64 rn, .int .i64 rm, .int .i64 imm, .int .i64 2, .int .i64 list, .bool s]) (by (repeat (first | exact hI.out | apply Held.drewn | apply Held.drew | apply Held.alloc)))⟩
    first
      | (exact okay_none (by unfold Nm.shiftI; dsimp only; (try simp only [Nm.opt, *]); all_goals rfl))
      | (refine okay_some (B := 16640 + rm * 8 + rd) (by unfold Nm.shiftI; dsimp only; (try simp only [Nm.opt, *]); all_goals rfl) ?_; simp only [Bool.and_eq_true] at h3; have r0 := Nm.low_is h3.1; have r1 := Nm.low_is h3.2; (try rw [show IntKind.i64.wrap (rm * 8) = rm * 8 from IntWalk.i64_in _ (by omega)]); (try rw [show wrap64 (rm * 8) = rm * 8 by unfold wrap64; omega]); (try rw [show IntKind.i64.wrap (rd) = rd from IntWalk.i64_in _ (by omega)]); (try rw [show wrap64 (rd) = rd by unfold wrap64; omega]); rw [Cm.or_join (16640) (rm * 8) 6 (by omega) (by omega) (by omega) (by omega) (by omega) (by omega), Cm.or_join (16640 + rm * 8) (rd) 3 (by omega) (by omega) (by omega) (by omega) (by omega) (by omega)]; all_goals (try omega))
set_option linter.unusedSimpArgs false in
set_option maxRecDepth 100000 in
set_option maxHeartbeats 4000000 in
theorem shift19_2 (cond rd rn rm imm list : Int) (s : Bool) (f : Bool) (w : World)  : Calls Tryd.prog 24 #[.agg #[.int .i64 19, .int .i64 cond, .int .i64 rd, .int .i64 rn, .int .i64 rm, .int .i64 imm, .int .i64 2, .int .i64 list, .bool s], .bool f] w fun e w' => Okay e (Nm.shiftI ⟨19, cond, rd, rn, rm, imm, 2, list, s⟩ f) ∧ Below w.heap.size w w' := by
  have hI := Lib.hid (Held.start w #[.int .i64 19, .int .i64 cond, .int .i64 rd, .int .i64 rn, .int .i64 rm, .int .i64 imm, .int .i64 2, .int .i64 list, .bool s] 23)
  rcases chain3 (f) (rd == rn) (Nm.low rd && Nm.low rm) with h1 | ⟨h1, h2⟩ | ⟨h1, h2, h3⟩ | ⟨h1, h2, h3⟩
  all_goals
    go_enter Tryd.func24, Tryd.ntmps24
    go_wp2_with fail
    refine wp_region_idx 25 [true, true, true, true, true, true, true, true, true, true, true, true, true, true, true, true, true, true, true, true, true, false, false, true, true, false] (S := (fun W => Held w.heap.size #[.int .i64 19, .int .i64 cond, .int .i64 rd, .int .i64 rn, .int .i64 rm, .int .i64 imm, .int .i64 2, .int .i64 list, .bool s] w W)) (by kernel_rfl) (by kernel_rfl) (fun _ _ d _ _ h => by cases d <;> exact h) (by (repeat (first | exact hI.out | apply Held.drewn | apply Held.drew | apply Held.alloc))) ?_
    simp only [List.zip_cons_cons, List.zip_nil_left]
    repeat (first
      | ((refine idx_pure rfl ?_ ?_ ?_; rotate_left; · (intro W hSw; (try dsimp only at hSw); obtain ⟨hq1, hq2, _⟩ := hSw; go_simp) <;> with_reducible rfl); (try simp only [Act.put, List.setIfInBounds_toArray, List.set_cons_zero, List.set_cons_succ]))
      | (refine idx_no rfl rfl rfl ?_; (try simp only [Act.put, List.setIfInBounds_toArray, List.set_cons_zero, List.set_cons_succ]))
      | ((refine idx_yes rfl rfl rfl ?_ ?_ ?_; rotate_left; · (intro W hSw; (try dsimp only at hSw); obtain ⟨hq1, hq2, _⟩ := hSw; go_simp) <;> with_reducible rfl); (try simp only [Act.put, List.setIfInBounds_toArray, List.set_cons_zero, List.set_cons_succ]))
      | (refine idx_call_no rfl rfl rfl ?_; (try simp only [Act.put, List.setIfInBounds_toArray, List.set_cons_zero, List.set_cons_succ]))
      | (refine idx_call rfl (fun K hK => ?_); go_simp; first | (refine hK.out _ _ (by (repeat (first | exact hI.out | apply Held.drewn | apply Held.drew | apply Held.alloc))) ?_; clear hK K; (try simp only [Act.put, List.setIfInBounds_toArray, List.set_cons_zero, List.set_cons_succ])) | (refine (rlows_2 _ rd rm _ (by first | exact cell_at0 _ _ _ _ 0 (by simp) | exact cell_at _ _ _ _ _ 0 (by simp)) (by first | exact cell_at0 _ _ _ _ 1 (by simp) | exact cell_at _ _ _ _ _ 1 (by simp))).mono ?_; rintro e w' ⟨rfl, nl, rfl⟩; go_wp2_with fail; refine hK.out _ _ (by (repeat (first | exact hI.out | apply Held.drewn | apply Held.drew | apply Held.alloc))) ?_; clear hK K; (try simp only [Act.put, List.setIfInBounds_toArray, List.set_cons_zero, List.set_cons_succ])))
      | (refine idx_call_yes rfl rfl rfl (fun K hK => ?_); go_simp; first | (refine hK.out _ _ (by (repeat (first | exact hI.out | apply Held.drewn | apply Held.drew | apply Held.alloc))) ?_; clear hK K; (try simp only [Act.put, List.setIfInBounds_toArray, List.set_cons_zero, List.set_cons_succ])) | (refine (rlows_2 _ rd rm _ (by first | exact cell_at0 _ _ _ _ 0 (by simp) | exact cell_at _ _ _ _ _ 0 (by simp)) (by first | exact cell_at0 _ _ _ _ 1 (by simp) | exact cell_at _ _ _ _ _ 1 (by simp))).mono ?_; rintro e w' ⟨rfl, nl, rfl⟩; go_wp2_with fail; refine hK.out _ _ (by (repeat (first | exact hI.out | apply Held.drewn | apply Held.drew | apply Held.alloc))) ?_; clear hK K; (try simp only [Act.put, List.setIfInBounds_toArray, List.set_cons_zero, List.set_cons_succ]))))
    refine idx_end ?_
    go_wp2
    go_ret2
    refine ⟨?_, Held.bel (b := w.heap.size) (A := #[.int .i64 19, .int .i64 cond, .int .i64 rd, .int .i64 rn, .int .i64 rm, .int .i64 imm, .int .i64 2, .int .i64 list, .bool s]) (by (repeat (first | exact hI.out | apply Held.drewn | apply Held.drew | apply Held.alloc)))⟩
    first
      | (exact okay_none (by unfold Nm.shiftI; dsimp only; (try simp only [Nm.opt, *]); all_goals rfl))
      | (refine okay_some (B := 16832 + rm * 8 + rd) (by unfold Nm.shiftI; dsimp only; (try simp only [Nm.opt, *]); all_goals rfl) ?_; simp only [Bool.and_eq_true] at h3; have r0 := Nm.low_is h3.1; have r1 := Nm.low_is h3.2; (try rw [show IntKind.i64.wrap (rm * 8) = rm * 8 from IntWalk.i64_in _ (by omega)]); (try rw [show wrap64 (rm * 8) = rm * 8 by unfold wrap64; omega]); (try rw [show IntKind.i64.wrap (rd) = rd from IntWalk.i64_in _ (by omega)]); (try rw [show wrap64 (rd) = rd by unfold wrap64; omega]); rw [Cm.or_join (16832) (rm * 8) 6 (by omega) (by omega) (by omega) (by omega) (by omega) (by omega), Cm.or_join (16832 + rm * 8) (rd) 3 (by omega) (by omega) (by omega) (by omega) (by omega) (by omega)]; all_goals (try omega))
end Go.Proofs.YtcphhojdfpedkaaDoor

namespace Go.Proofs.YtcphhojdfpedkaaDoor
open Go.ChangeShapes Go.WideShapes Go.ChangeAt Go.RowKit
set_option linter.unusedSimpArgs false in
set_option maxRecDepth 100000 in
set_option maxHeartbeats 4000000 in
theorem shift16_1 (cond rd rn rm imm list : Int) (s : Bool) (f : Bool) (w : World)  : Calls Tryd.prog 24 #[.agg #[.int .i64 16, .int .i64 cond, .int .i64 rd, .int .i64 rn, .int .i64 rm, .int .i64 imm, .int .i64 1, .int .i64 list, .bool s], .bool f] w fun e w' => Okay e (Nm.shiftI ⟨16, cond, rd, rn, rm, imm, 1, list, s⟩ f) ∧ Below w.heap.size w w' := by
  have hI := Lib.hid (Held.start w #[.int .i64 16, .int .i64 cond, .int .i64 rd, .int .i64 rn, .int .i64 rm, .int .i64 imm, .int .i64 1, .int .i64 list, .bool s] 23)
  have ha := Cm.and31 imm
  rcases chain2 (f) (Nm.low rd && Nm.low rn) with h1 | ⟨h1, h2⟩ | ⟨h1, h2⟩
  all_goals
    go_enter Tryd.func24, Tryd.ntmps24
    go_wp2_with fail
    refine wp_region_idx 31 [true, true, true, true, true, true, true, true, true, true, true, true, true, true, true, true, true, true, true, true, true, true, true, true, true, true, true, false, false, true, true, false] (S := (fun W => Held w.heap.size #[.int .i64 16, .int .i64 cond, .int .i64 rd, .int .i64 rn, .int .i64 rm, .int .i64 imm, .int .i64 1, .int .i64 list, .bool s] w W)) (by kernel_rfl) (by kernel_rfl) (fun _ _ d _ _ h => by cases d <;> exact h) (by (repeat (first | exact hI.out | apply Held.drewn | apply Held.drew | apply Held.alloc))) ?_
    simp only [List.zip_cons_cons, List.zip_nil_left]
    repeat (first
      | ((refine idx_pure rfl ?_ ?_ ?_; rotate_left; · (intro W hSw; (try dsimp only at hSw); obtain ⟨hq1, hq2, _⟩ := hSw; go_simp) <;> with_reducible rfl); (try simp only [Act.put, List.setIfInBounds_toArray, List.set_cons_zero, List.set_cons_succ]))
      | (refine idx_no rfl rfl rfl ?_; (try simp only [Act.put, List.setIfInBounds_toArray, List.set_cons_zero, List.set_cons_succ]))
      | ((refine idx_yes rfl rfl rfl ?_ ?_ ?_; rotate_left; · (intro W hSw; (try dsimp only at hSw); obtain ⟨hq1, hq2, _⟩ := hSw; go_simp) <;> with_reducible rfl); (try simp only [Act.put, List.setIfInBounds_toArray, List.set_cons_zero, List.set_cons_succ]))
      | (refine idx_call_no rfl rfl rfl ?_; (try simp only [Act.put, List.setIfInBounds_toArray, List.set_cons_zero, List.set_cons_succ]))
      | (refine idx_call rfl (fun K hK => ?_); go_simp; first | (refine hK.out _ _ (by (repeat (first | exact hI.out | apply Held.drewn | apply Held.drew | apply Held.alloc))) ?_; clear hK K; (try simp only [Act.put, List.setIfInBounds_toArray, List.set_cons_zero, List.set_cons_succ])) | (refine (rlows_2 _ rd rn _ (by first | exact cell_at0 _ _ _ _ 0 (by simp) | exact cell_at _ _ _ _ _ 0 (by simp)) (by first | exact cell_at0 _ _ _ _ 1 (by simp) | exact cell_at _ _ _ _ _ 1 (by simp))).mono ?_; rintro e w' ⟨rfl, nl, rfl⟩; go_wp2_with fail; refine hK.out _ _ (by (repeat (first | exact hI.out | apply Held.drewn | apply Held.drew | apply Held.alloc))) ?_; clear hK K; (try simp only [Act.put, List.setIfInBounds_toArray, List.set_cons_zero, List.set_cons_succ])))
      | (refine idx_call_yes rfl rfl rfl (fun K hK => ?_); go_simp; first | (refine hK.out _ _ (by (repeat (first | exact hI.out | apply Held.drewn | apply Held.drew | apply Held.alloc))) ?_; clear hK K; (try simp only [Act.put, List.setIfInBounds_toArray, List.set_cons_zero, List.set_cons_succ])) | (refine (rlows_2 _ rd rn _ (by first | exact cell_at0 _ _ _ _ 0 (by simp) | exact cell_at _ _ _ _ _ 0 (by simp)) (by first | exact cell_at0 _ _ _ _ 1 (by simp) | exact cell_at _ _ _ _ _ 1 (by simp))).mono ?_; rintro e w' ⟨rfl, nl, rfl⟩; go_wp2_with fail; refine hK.out _ _ (by (repeat (first | exact hI.out | apply Held.drewn | apply Held.drew | apply Held.alloc))) ?_; clear hK K; (try simp only [Act.put, List.setIfInBounds_toArray, List.set_cons_zero, List.set_cons_succ]))))
    refine idx_end ?_
    go_wp2
    go_ret2
    refine ⟨?_, Held.bel (b := w.heap.size) (A := #[.int .i64 16, .int .i64 cond, .int .i64 rd, .int .i64 rn, .int .i64 rm, .int .i64 imm, .int .i64 1, .int .i64 list, .bool s]) (by (repeat (first | exact hI.out | apply Held.drewn | apply Held.drew | apply Held.alloc)))⟩
    first
      | (exact okay_none (by unfold Nm.shiftI; dsimp only; (try simp only [Nm.opt, *]); all_goals rfl))
      | (refine okay_some (B := (16 - 16) * 2048 + imm % 32 * 64 + rn * 8 + rd) (by unfold Nm.shiftI; dsimp only; (try simp only [Nm.opt, *]); all_goals rfl) ?_; simp only [Bool.and_eq_true] at h2; have r0 := Nm.low_is h2.1; have r1 := Nm.low_is h2.2; (try rw [show IntKind.i64.wrap (IntKind.i64.wrap 0 * 2048) = 0 by decide]); (try rw [show IntKind.i64.wrap (imm % 32 * 64) = imm % 32 * 64 from IntWalk.i64_in _ (by omega)]); (try rw [show wrap64 (imm % 32 * 64) = imm % 32 * 64 by unfold wrap64; omega]); (try rw [show IntKind.i64.wrap (rn * 8) = rn * 8 from IntWalk.i64_in _ (by omega)]); (try rw [show wrap64 (rn * 8) = rn * 8 by unfold wrap64; omega]); (try rw [show IntKind.i64.wrap (rd) = rd from IntWalk.i64_in _ (by omega)]); (try rw [show wrap64 (rd) = rd by unfold wrap64; omega]); rw [Cm.or_join (0) (imm % 32 * 64) 11 (by omega) (by omega) (by omega) (by omega) (by omega) (by omega), Cm.or_join (0 + imm % 32 * 64) (rn * 8) 6 (by omega) (by omega) (by omega) (by omega) (by omega) (by omega), Cm.or_join (0 + imm % 32 * 64 + rn * 8) (rd) 3 (by omega) (by omega) (by omega) (by omega) (by omega) (by omega)]; all_goals (try omega))
set_option linter.unusedSimpArgs false in
set_option maxRecDepth 100000 in
set_option maxHeartbeats 4000000 in
theorem shift17_1 (cond rd rn rm imm list : Int) (s : Bool) (f : Bool) (w : World)  : Calls Tryd.prog 24 #[.agg #[.int .i64 17, .int .i64 cond, .int .i64 rd, .int .i64 rn, .int .i64 rm, .int .i64 imm, .int .i64 1, .int .i64 list, .bool s], .bool f] w fun e w' => Okay e (Nm.shiftI ⟨17, cond, rd, rn, rm, imm, 1, list, s⟩ f) ∧ Below w.heap.size w w' := by
  have hI := Lib.hid (Held.start w #[.int .i64 17, .int .i64 cond, .int .i64 rd, .int .i64 rn, .int .i64 rm, .int .i64 imm, .int .i64 1, .int .i64 list, .bool s] 23)
  have ha := Cm.and31 imm
  rcases chain2 (f) (Nm.low rd && Nm.low rn) with h1 | ⟨h1, h2⟩ | ⟨h1, h2⟩
  all_goals
    go_enter Tryd.func24, Tryd.ntmps24
    go_wp2_with fail
    refine wp_region_idx 31 [true, true, true, true, true, true, true, true, true, true, true, true, true, true, true, true, true, true, true, true, true, true, true, true, true, true, true, false, false, true, true, false] (S := (fun W => Held w.heap.size #[.int .i64 17, .int .i64 cond, .int .i64 rd, .int .i64 rn, .int .i64 rm, .int .i64 imm, .int .i64 1, .int .i64 list, .bool s] w W)) (by kernel_rfl) (by kernel_rfl) (fun _ _ d _ _ h => by cases d <;> exact h) (by (repeat (first | exact hI.out | apply Held.drewn | apply Held.drew | apply Held.alloc))) ?_
    simp only [List.zip_cons_cons, List.zip_nil_left]
    repeat (first
      | ((refine idx_pure rfl ?_ ?_ ?_; rotate_left; · (intro W hSw; (try dsimp only at hSw); obtain ⟨hq1, hq2, _⟩ := hSw; go_simp) <;> with_reducible rfl); (try simp only [Act.put, List.setIfInBounds_toArray, List.set_cons_zero, List.set_cons_succ]))
      | (refine idx_no rfl rfl rfl ?_; (try simp only [Act.put, List.setIfInBounds_toArray, List.set_cons_zero, List.set_cons_succ]))
      | ((refine idx_yes rfl rfl rfl ?_ ?_ ?_; rotate_left; · (intro W hSw; (try dsimp only at hSw); obtain ⟨hq1, hq2, _⟩ := hSw; go_simp) <;> with_reducible rfl); (try simp only [Act.put, List.setIfInBounds_toArray, List.set_cons_zero, List.set_cons_succ]))
      | (refine idx_call_no rfl rfl rfl ?_; (try simp only [Act.put, List.setIfInBounds_toArray, List.set_cons_zero, List.set_cons_succ]))
      | (refine idx_call rfl (fun K hK => ?_); go_simp; first | (refine hK.out _ _ (by (repeat (first | exact hI.out | apply Held.drewn | apply Held.drew | apply Held.alloc))) ?_; clear hK K; (try simp only [Act.put, List.setIfInBounds_toArray, List.set_cons_zero, List.set_cons_succ])) | (refine (rlows_2 _ rd rn _ (by first | exact cell_at0 _ _ _ _ 0 (by simp) | exact cell_at _ _ _ _ _ 0 (by simp)) (by first | exact cell_at0 _ _ _ _ 1 (by simp) | exact cell_at _ _ _ _ _ 1 (by simp))).mono ?_; rintro e w' ⟨rfl, nl, rfl⟩; go_wp2_with fail; refine hK.out _ _ (by (repeat (first | exact hI.out | apply Held.drewn | apply Held.drew | apply Held.alloc))) ?_; clear hK K; (try simp only [Act.put, List.setIfInBounds_toArray, List.set_cons_zero, List.set_cons_succ])))
      | (refine idx_call_yes rfl rfl rfl (fun K hK => ?_); go_simp; first | (refine hK.out _ _ (by (repeat (first | exact hI.out | apply Held.drewn | apply Held.drew | apply Held.alloc))) ?_; clear hK K; (try simp only [Act.put, List.setIfInBounds_toArray, List.set_cons_zero, List.set_cons_succ])) | (refine (rlows_2 _ rd rn _ (by first | exact cell_at0 _ _ _ _ 0 (by simp) | exact cell_at _ _ _ _ _ 0 (by simp)) (by first | exact cell_at0 _ _ _ _ 1 (by simp) | exact cell_at _ _ _ _ _ 1 (by simp))).mono ?_; rintro e w' ⟨rfl, nl, rfl⟩; go_wp2_with fail; refine hK.out _ _ (by (repeat (first | exact hI.out | apply Held.drewn | apply Held.drew | apply Held.alloc))) ?_; clear hK K; (try simp only [Act.put, List.setIfInBounds_toArray, List.set_cons_zero, List.set_cons_succ]))))
    refine idx_end ?_
    go_wp2
    go_ret2
    refine ⟨?_, Held.bel (b := w.heap.size) (A := #[.int .i64 17, .int .i64 cond, .int .i64 rd, .int .i64 rn, .int .i64 rm, .int .i64 imm, .int .i64 1, .int .i64 list, .bool s]) (by (repeat (first | exact hI.out | apply Held.drewn | apply Held.drew | apply Held.alloc)))⟩
    first
      | (exact okay_none (by unfold Nm.shiftI; dsimp only; (try simp only [Nm.opt, *]); all_goals rfl))
      | (refine okay_some (B := (17 - 16) * 2048 + imm % 32 * 64 + rn * 8 + rd) (by unfold Nm.shiftI; dsimp only; (try simp only [Nm.opt, *]); all_goals rfl) ?_; simp only [Bool.and_eq_true] at h2; have r0 := Nm.low_is h2.1; have r1 := Nm.low_is h2.2; (try rw [show IntKind.i64.wrap (IntKind.i64.wrap 1 * 2048) = 2048 by decide]); (try rw [show IntKind.i64.wrap (imm % 32 * 64) = imm % 32 * 64 from IntWalk.i64_in _ (by omega)]); (try rw [show wrap64 (imm % 32 * 64) = imm % 32 * 64 by unfold wrap64; omega]); (try rw [show IntKind.i64.wrap (rn * 8) = rn * 8 from IntWalk.i64_in _ (by omega)]); (try rw [show wrap64 (rn * 8) = rn * 8 by unfold wrap64; omega]); (try rw [show IntKind.i64.wrap (rd) = rd from IntWalk.i64_in _ (by omega)]); (try rw [show wrap64 (rd) = rd by unfold wrap64; omega]); rw [Cm.or_join (2048) (imm % 32 * 64) 11 (by omega) (by omega) (by omega) (by omega) (by omega) (by omega), Cm.or_join (2048 + imm % 32 * 64) (rn * 8) 6 (by omega) (by omega) (by omega) (by omega) (by omega) (by omega), Cm.or_join (2048 + imm % 32 * 64 + rn * 8) (rd) 3 (by omega) (by omega) (by omega) (by omega) (by omega) (by omega)]; all_goals (try omega))
set_option linter.unusedSimpArgs false in
set_option maxRecDepth 100000 in
set_option maxHeartbeats 4000000 in
theorem shift18_1 (cond rd rn rm imm list : Int) (s : Bool) (f : Bool) (w : World)  : Calls Tryd.prog 24 #[.agg #[.int .i64 18, .int .i64 cond, .int .i64 rd, .int .i64 rn, .int .i64 rm, .int .i64 imm, .int .i64 1, .int .i64 list, .bool s], .bool f] w fun e w' => Okay e (Nm.shiftI ⟨18, cond, rd, rn, rm, imm, 1, list, s⟩ f) ∧ Below w.heap.size w w' := by
  have hI := Lib.hid (Held.start w #[.int .i64 18, .int .i64 cond, .int .i64 rd, .int .i64 rn, .int .i64 rm, .int .i64 imm, .int .i64 1, .int .i64 list, .bool s] 23)
  have ha := Cm.and31 imm
  rcases chain2 (f) (Nm.low rd && Nm.low rn) with h1 | ⟨h1, h2⟩ | ⟨h1, h2⟩
  all_goals
    go_enter Tryd.func24, Tryd.ntmps24
    go_wp2_with fail
    refine wp_region_idx 31 [true, true, true, true, true, true, true, true, true, true, true, true, true, true, true, true, true, true, true, true, true, true, true, true, true, true, true, false, false, true, true, false] (S := (fun W => Held w.heap.size #[.int .i64 18, .int .i64 cond, .int .i64 rd, .int .i64 rn, .int .i64 rm, .int .i64 imm, .int .i64 1, .int .i64 list, .bool s] w W)) (by kernel_rfl) (by kernel_rfl) (fun _ _ d _ _ h => by cases d <;> exact h) (by (repeat (first | exact hI.out | apply Held.drewn | apply Held.drew | apply Held.alloc))) ?_
    simp only [List.zip_cons_cons, List.zip_nil_left]
    repeat (first
      | ((refine idx_pure rfl ?_ ?_ ?_; rotate_left; · (intro W hSw; (try dsimp only at hSw); obtain ⟨hq1, hq2, _⟩ := hSw; go_simp) <;> with_reducible rfl); (try simp only [Act.put, List.setIfInBounds_toArray, List.set_cons_zero, List.set_cons_succ]))
      | (refine idx_no rfl rfl rfl ?_; (try simp only [Act.put, List.setIfInBounds_toArray, List.set_cons_zero, List.set_cons_succ]))
      | ((refine idx_yes rfl rfl rfl ?_ ?_ ?_; rotate_left; · (intro W hSw; (try dsimp only at hSw); obtain ⟨hq1, hq2, _⟩ := hSw; go_simp) <;> with_reducible rfl); (try simp only [Act.put, List.setIfInBounds_toArray, List.set_cons_zero, List.set_cons_succ]))
      | (refine idx_call_no rfl rfl rfl ?_; (try simp only [Act.put, List.setIfInBounds_toArray, List.set_cons_zero, List.set_cons_succ]))
      | (refine idx_call rfl (fun K hK => ?_); go_simp; first | (refine hK.out _ _ (by (repeat (first | exact hI.out | apply Held.drewn | apply Held.drew | apply Held.alloc))) ?_; clear hK K; (try simp only [Act.put, List.setIfInBounds_toArray, List.set_cons_zero, List.set_cons_succ])) | (refine (rlows_2 _ rd rn _ (by first | exact cell_at0 _ _ _ _ 0 (by simp) | exact cell_at _ _ _ _ _ 0 (by simp)) (by first | exact cell_at0 _ _ _ _ 1 (by simp) | exact cell_at _ _ _ _ _ 1 (by simp))).mono ?_; rintro e w' ⟨rfl, nl, rfl⟩; go_wp2_with fail; refine hK.out _ _ (by (repeat (first | exact hI.out | apply Held.drewn | apply Held.drew | apply Held.alloc))) ?_; clear hK K; (try simp only [Act.put, List.setIfInBounds_toArray, List.set_cons_zero, List.set_cons_succ])))
      | (refine idx_call_yes rfl rfl rfl (fun K hK => ?_); go_simp; first | (refine hK.out _ _ (by (repeat (first | exact hI.out | apply Held.drewn | apply Held.drew | apply Held.alloc))) ?_; clear hK K; (try simp only [Act.put, List.setIfInBounds_toArray, List.set_cons_zero, List.set_cons_succ])) | (refine (rlows_2 _ rd rn _ (by first | exact cell_at0 _ _ _ _ 0 (by simp) | exact cell_at _ _ _ _ _ 0 (by simp)) (by first | exact cell_at0 _ _ _ _ 1 (by simp) | exact cell_at _ _ _ _ _ 1 (by simp))).mono ?_; rintro e w' ⟨rfl, nl, rfl⟩; go_wp2_with fail; refine hK.out _ _ (by (repeat (first | exact hI.out | apply Held.drewn | apply Held.drew | apply Held.alloc))) ?_; clear hK K; (try simp only [Act.put, List.setIfInBounds_toArray, List.set_cons_zero, List.set_cons_succ]))))
    refine idx_end ?_
    go_wp2
    go_ret2
    refine ⟨?_, Held.bel (b := w.heap.size) (A := #[.int .i64 18, .int .i64 cond, .int .i64 rd, .int .i64 rn, .int .i64 rm, .int .i64 imm, .int .i64 1, .int .i64 list, .bool s]) (by (repeat (first | exact hI.out | apply Held.drewn | apply Held.drew | apply Held.alloc)))⟩
    first
      | (exact okay_none (by unfold Nm.shiftI; dsimp only; (try simp only [Nm.opt, *]); all_goals rfl))
      | (refine okay_some (B := (18 - 16) * 2048 + imm % 32 * 64 + rn * 8 + rd) (by unfold Nm.shiftI; dsimp only; (try simp only [Nm.opt, *]); all_goals rfl) ?_; simp only [Bool.and_eq_true] at h2; have r0 := Nm.low_is h2.1; have r1 := Nm.low_is h2.2; (try rw [show IntKind.i64.wrap (IntKind.i64.wrap 2 * 2048) = 4096 by decide]); (try rw [show IntKind.i64.wrap (imm % 32 * 64) = imm % 32 * 64 from IntWalk.i64_in _ (by omega)]); (try rw [show wrap64 (imm % 32 * 64) = imm % 32 * 64 by unfold wrap64; omega]); (try rw [show IntKind.i64.wrap (rn * 8) = rn * 8 from IntWalk.i64_in _ (by omega)]); (try rw [show wrap64 (rn * 8) = rn * 8 by unfold wrap64; omega]); (try rw [show IntKind.i64.wrap (rd) = rd from IntWalk.i64_in _ (by omega)]); (try rw [show wrap64 (rd) = rd by unfold wrap64; omega]); rw [Cm.or_join (4096) (imm % 32 * 64) 11 (by omega) (by omega) (by omega) (by omega) (by omega) (by omega), Cm.or_join (4096 + imm % 32 * 64) (rn * 8) 6 (by omega) (by omega) (by omega) (by omega) (by omega) (by omega), Cm.or_join (4096 + imm % 32 * 64 + rn * 8) (rd) 3 (by omega) (by omega) (by omega) (by omega) (by omega) (by omega)]; all_goals (try omega))
set_option linter.unusedSimpArgs false in
set_option maxRecDepth 100000 in
set_option maxHeartbeats 4000000 in
theorem shift19_1 (cond rd rn rm imm list : Int) (s : Bool) (f : Bool) (w : World)  : Calls Tryd.prog 24 #[.agg #[.int .i64 19, .int .i64 cond, .int .i64 rd, .int .i64 rn, .int .i64 rm, .int .i64 imm, .int .i64 1, .int .i64 list, .bool s], .bool f] w fun e w' => Okay e (Nm.shiftI ⟨19, cond, rd, rn, rm, imm, 1, list, s⟩ f) ∧ Below w.heap.size w w' := by
  have hI := Lib.hid (Held.start w #[.int .i64 19, .int .i64 cond, .int .i64 rd, .int .i64 rn, .int .i64 rm, .int .i64 imm, .int .i64 1, .int .i64 list, .bool s] 23)
  have ha := Cm.and31 imm
  all_goals
    go_enter Tryd.func24, Tryd.ntmps24
    go_wp2_with fail
    refine wp_region_idx 31 [true, true, true, true, true, true, true, true, true, true, true, true, true, true, true, true, true, true, true, true, true, true, true, true, true, true, true, false, false, true, true, false] (S := (fun W => Held w.heap.size #[.int .i64 19, .int .i64 cond, .int .i64 rd, .int .i64 rn, .int .i64 rm, .int .i64 imm, .int .i64 1, .int .i64 list, .bool s] w W)) (by kernel_rfl) (by kernel_rfl) (fun _ _ d _ _ h => by cases d <;> exact h) (by (repeat (first | exact hI.out | apply Held.drewn | apply Held.drew | apply Held.alloc))) ?_
    simp only [List.zip_cons_cons, List.zip_nil_left]
    repeat (first
      | ((refine idx_pure rfl ?_ ?_ ?_; rotate_left; · (intro W hSw; (try dsimp only at hSw); obtain ⟨hq1, hq2, _⟩ := hSw; go_simp) <;> with_reducible rfl); (try simp only [Act.put, List.setIfInBounds_toArray, List.set_cons_zero, List.set_cons_succ]))
      | (refine idx_no rfl rfl rfl ?_; (try simp only [Act.put, List.setIfInBounds_toArray, List.set_cons_zero, List.set_cons_succ]))
      | ((refine idx_yes rfl rfl rfl ?_ ?_ ?_; rotate_left; · (intro W hSw; (try dsimp only at hSw); obtain ⟨hq1, hq2, _⟩ := hSw; go_simp) <;> with_reducible rfl); (try simp only [Act.put, List.setIfInBounds_toArray, List.set_cons_zero, List.set_cons_succ]))
      | (refine idx_call_no rfl rfl rfl ?_; (try simp only [Act.put, List.setIfInBounds_toArray, List.set_cons_zero, List.set_cons_succ]))
      | (refine idx_call rfl (fun K hK => ?_); go_simp; first | (refine hK.out _ _ (by (repeat (first | exact hI.out | apply Held.drewn | apply Held.drew | apply Held.alloc))) ?_; clear hK K; (try simp only [Act.put, List.setIfInBounds_toArray, List.set_cons_zero, List.set_cons_succ])) | (refine (rlows_2 _ rd rn _ (by first | exact cell_at0 _ _ _ _ 0 (by simp) | exact cell_at _ _ _ _ _ 0 (by simp)) (by first | exact cell_at0 _ _ _ _ 1 (by simp) | exact cell_at _ _ _ _ _ 1 (by simp))).mono ?_; rintro e w' ⟨rfl, nl, rfl⟩; go_wp2_with fail; refine hK.out _ _ (by (repeat (first | exact hI.out | apply Held.drewn | apply Held.drew | apply Held.alloc))) ?_; clear hK K; (try simp only [Act.put, List.setIfInBounds_toArray, List.set_cons_zero, List.set_cons_succ])))
      | (refine idx_call_yes rfl rfl rfl (fun K hK => ?_); go_simp; first | (refine hK.out _ _ (by (repeat (first | exact hI.out | apply Held.drewn | apply Held.drew | apply Held.alloc))) ?_; clear hK K; (try simp only [Act.put, List.setIfInBounds_toArray, List.set_cons_zero, List.set_cons_succ])) | (refine (rlows_2 _ rd rn _ (by first | exact cell_at0 _ _ _ _ 0 (by simp) | exact cell_at _ _ _ _ _ 0 (by simp)) (by first | exact cell_at0 _ _ _ _ 1 (by simp) | exact cell_at _ _ _ _ _ 1 (by simp))).mono ?_; rintro e w' ⟨rfl, nl, rfl⟩; go_wp2_with fail; refine hK.out _ _ (by (repeat (first | exact hI.out | apply Held.drewn | apply Held.drew | apply Held.alloc))) ?_; clear hK K; (try simp only [Act.put, List.setIfInBounds_toArray, List.set_cons_zero, List.set_cons_succ]))))
    refine idx_end ?_
    go_wp2
    go_ret2
    refine ⟨?_, Held.bel (b := w.heap.size) (A := #[.int .i64 19, .int .i64 cond, .int .i64 rd, .int .i64 rn, .int .i64 rm, .int .i64 imm, .int .i64 1, .int .i64 list, .bool s]) (by (repeat (first | exact hI.out | apply Held.drewn | apply Held.drew | apply Held.alloc)))⟩
    (exact okay_none (by unfold Nm.shiftI; dsimp only; (try simp only [Nm.opt, *]); all_goals rfl))
end Go.Proofs.YtcphhojdfpedkaaDoor
