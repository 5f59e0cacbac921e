/- Contract of the document's own load (text by gen_v.py). Contract of the document's own load (text by gen_v.py). Contract of the document's own move (text by gen_v.py). -/
import Derived.Test.YtcphhojdfpedkaaDoorGc
import Derived.Test.YtcphhojdfpedkaaDoorGj

namespace Go.Proofs.YtcphhojdfpedkaaDoor
open Go.ChangeShapes Go.WideShapes Go.ChangeAt Go.RowKit
set_option linter.unusedSimpArgs false in
set_option maxRecDepth 100000 in
set_option maxHeartbeats 4000000 in
theorem load25_sp (cond rd rm imm list : Int) (s : Bool) (w : World) (hi0 : 0 ≤ imm) : Calls Tryd.prog 25 #[.agg #[.int .i64 25, .int .i64 cond, .int .i64 rd, .int .i64 13, .int .i64 rm, .int .i64 imm, .int .i64 1, .int .i64 list, .bool s]] w fun e w' => Okay e (Nm.loadI ⟨25, cond, rd, 13, rm, imm, 1, list, s⟩) ∧ Below w.heap.size w w' := by
  have hI := Lib.hid (Held.start w #[.int .i64 25, .int .i64 cond, .int .i64 rd, .int .i64 13, .int .i64 rm, .int .i64 imm, .int .i64 1, .int .i64 list, .bool s] 23)
  have ht : Int.tmod imm 4 = imm % 4 := Int.tmod_eq_emod_of_nonneg hi0
  have hq : Int.tdiv imm 4 = imm / 4 := Int.tdiv_eq_ediv_of_nonneg hi0
  rcases chain3 (Nm.low rd) (imm % 4 == 0) (decide (imm ≤ 1020)) with h1 | ⟨h1, h2⟩ | ⟨h1, h2, h3⟩ | ⟨h1, h2, h3⟩
  all_goals
    go_enter Tryd.func25, Tryd.ntmps25
    go_wp2_with fail
    refine wp_region_idx 35 [true, true, true, true, true, true, true, true, true, true, true, true, true, true, true, true, true, true, true, true, false, false, true, true, true, true, true, true, true, true, true, true, true, true, true, false] (S := (fun W => Held w.heap.size #[.int .i64 25, .int .i64 cond, .int .i64 rd, .int .i64 13, .int .i64 rm, .int .i64 imm, .int .i64 1, .int .i64 list, .bool s] w W)) (by kernel_rfl) (by kernel_rfl) (fun _ _ d _ _ h => by cases d <;> exact h) (by (repeat (first | exact hI.out | apply Held.drewn | apply Held.drew | apply Held.alloc))) ?_
    simp only [List.zip_cons_cons, List.zip_nil_left]
    repeat (first
      | ((refine idx_pure rfl ?_ ?_ ?_; rotate_left; · (intro W hSw; (try dsimp only at hSw); obtain ⟨hq1, hq2, _⟩ := hSw; go_simp) <;> with_reducible rfl); (try simp only [Act.put, List.setIfInBounds_toArray, List.set_cons_zero, List.set_cons_succ]))
      | (refine idx_no rfl rfl rfl ?_; (try simp only [Act.put, List.setIfInBounds_toArray, List.set_cons_zero, List.set_cons_succ]))
      | ((refine idx_yes rfl rfl rfl ?_ ?_ ?_; rotate_left; · (intro W hSw; (try dsimp only at hSw); obtain ⟨hq1, hq2, _⟩ := hSw; go_simp) <;> with_reducible rfl); (try simp only [Act.put, List.setIfInBounds_toArray, List.set_cons_zero, List.set_cons_succ]))
      | (refine idx_call_no rfl rfl rfl ?_; (try simp only [Act.put, List.setIfInBounds_toArray, List.set_cons_zero, List.set_cons_succ]))
      | (refine idx_call rfl (fun K hK => ?_); go_simp; first | (refine hK.out _ _ (by (repeat (first | exact hI.out | apply Held.drewn | apply Held.drew | apply Held.alloc))) ?_; clear hK K; (try simp only [Act.put, List.setIfInBounds_toArray, List.set_cons_zero, List.set_cons_succ])) | (refine (rlows_1 _ rd _ (by first | exact cell_at0 _ _ _ _ 0 (by simp) | exact cell_at _ _ _ _ _ 0 (by simp))).mono ?_; rintro e w' ⟨rfl, nl, rfl⟩; go_wp2_with fail; refine hK.out _ _ (by (repeat (first | exact hI.out | apply Held.drewn | apply Held.drew | apply Held.alloc))) ?_; clear hK K; (try simp only [Act.put, List.setIfInBounds_toArray, List.set_cons_zero, List.set_cons_succ])))
      | (refine idx_call_yes rfl rfl rfl (fun K hK => ?_); go_simp; first | (refine hK.out _ _ (by (repeat (first | exact hI.out | apply Held.drewn | apply Held.drew | apply Held.alloc))) ?_; clear hK K; (try simp only [Act.put, List.setIfInBounds_toArray, List.set_cons_zero, List.set_cons_succ])) | (refine (rlows_1 _ rd _ (by first | exact cell_at0 _ _ _ _ 0 (by simp) | exact cell_at _ _ _ _ _ 0 (by simp))).mono ?_; rintro e w' ⟨rfl, nl, rfl⟩; go_wp2_with fail; refine hK.out _ _ (by (repeat (first | exact hI.out | apply Held.drewn | apply Held.drew | apply Held.alloc))) ?_; clear hK K; (try simp only [Act.put, List.setIfInBounds_toArray, List.set_cons_zero, List.set_cons_succ]))))
    refine idx_end ?_
    go_wp2
    go_ret2
    refine ⟨?_, Held.bel (b := w.heap.size) (A := #[.int .i64 25, .int .i64 cond, .int .i64 rd, .int .i64 13, .int .i64 rm, .int .i64 imm, .int .i64 1, .int .i64 list, .bool s]) (by (repeat (first | exact hI.out | apply Held.drewn | apply Held.drew | apply Held.alloc)))⟩
    first
      | (exact okay_none (by unfold Nm.loadI; dsimp only; (try simp only [Nm.opt, *]); all_goals rfl))
      | (refine okay_some (B := 38912 + rd * 256 + imm / 4) (by unfold Nm.loadI; dsimp only; (try simp only [Nm.opt, *]); all_goals rfl) ?_; have r0 := Nm.low_is h1; have q3 := of_decide_eq_true h3; (try rw [show IntKind.i64.wrap (rd * 256) = rd * 256 from IntWalk.i64_in _ (by omega)]); (try rw [show wrap64 (rd * 256) = rd * 256 by unfold wrap64; omega]); (try rw [show IntKind.i64.wrap (imm / 4) = imm / 4 from IntWalk.i64_in _ (by omega)]); (try rw [show wrap64 (imm / 4) = imm / 4 by unfold wrap64; omega]); rw [Cm.or_join (38912) (rd * 256) 11 (by omega) (by omega) (by omega) (by omega) (by omega) (by omega), Cm.or_join (38912 + rd * 256) (imm / 4) 8 (by omega) (by omega) (by omega) (by omega) (by omega) (by omega)]; all_goals (try omega))
set_option linter.unusedSimpArgs false in
set_option maxRecDepth 100000 in
set_option maxHeartbeats 4000000 in
theorem load26_sp (cond rd rm imm list : Int) (s : Bool) (w : World) (hi0 : 0 ≤ imm) : Calls Tryd.prog 25 #[.agg #[.int .i64 26, .int .i64 cond, .int .i64 rd, .int .i64 13, .int .i64 rm, .int .i64 imm, .int .i64 1, .int .i64 list, .bool s]] w fun e w' => Okay e (Nm.loadI ⟨26, cond, rd, 13, rm, imm, 1, list, s⟩) ∧ Below w.heap.size w w' := by
  have hI := Lib.hid (Held.start w #[.int .i64 26, .int .i64 cond, .int .i64 rd, .int .i64 13, .int .i64 rm, .int .i64 imm, .int .i64 1, .int .i64 list, .bool s] 23)
  have ht : Int.tmod imm 4 = imm % 4 := Int.tmod_eq_emod_of_nonneg hi0
  have hq : Int.tdiv imm 4 = imm / 4 := Int.tdiv_eq_ediv_of_nonneg hi0
  all_goals
    go_enter Tryd.func25, Tryd.ntmps25
    go_wp2_with fail
    refine wp_region_idx 35 [true, true, true, true, true, true, true, true, true, true, true, true, true, true, true, true, true, true, true, true, false, false, true, true, true, true, true, true, true, true, true, true, true, true, true, false] (S := (fun W => Held w.heap.size #[.int .i64 26, .int .i64 cond, .int .i64 rd, .int .i64 13, .int .i64 rm, .int .i64 imm, .int .i64 1, .int .i64 list, .bool s] w W)) (by kernel_rfl) (by kernel_rfl) (fun _ _ d _ _ h => by cases d <;> exact h) (by (repeat (first | exact hI.out | apply Held.drewn | apply Held.drew | apply Held.alloc))) ?_
    simp only [List.zip_cons_cons, List.zip_nil_left]
    repeat (first
      | ((refine idx_pure rfl ?_ ?_ ?_; rotate_left; · (intro W hSw; (try dsimp only at hSw); obtain ⟨hq1, hq2, _⟩ := hSw; go_simp) <;> with_reducible rfl); (try simp only [Act.put, List.setIfInBounds_toArray, List.set_cons_zero, List.set_cons_succ]))
      | (refine idx_no rfl rfl rfl ?_; (try simp only [Act.put, List.setIfInBounds_toArray, List.set_cons_zero, List.set_cons_succ]))
      | ((refine idx_yes rfl rfl rfl ?_ ?_ ?_; rotate_left; · (intro W hSw; (try dsimp only at hSw); obtain ⟨hq1, hq2, _⟩ := hSw; go_simp) <;> with_reducible rfl); (try simp only [Act.put, List.setIfInBounds_toArray, List.set_cons_zero, List.set_cons_succ]))
      | (refine idx_call_no rfl rfl rfl ?_; (try simp only [Act.put, List.setIfInBounds_toArray, List.set_cons_zero, List.set_cons_succ]))
      | (refine idx_call rfl (fun K hK => ?_); go_simp; first | (refine hK.out _ _ (by (repeat (first | exact hI.out | apply Held.drewn | apply Held.drew | apply Held.alloc))) ?_; clear hK K; (try simp only [Act.put, List.setIfInBounds_toArray, List.set_cons_zero, List.set_cons_succ])) | (refine (rlows_1 _ rd _ (by first | exact cell_at0 _ _ _ _ 0 (by simp) | exact cell_at _ _ _ _ _ 0 (by simp))).mono ?_; rintro e w' ⟨rfl, nl, rfl⟩; go_wp2_with fail; refine hK.out _ _ (by (repeat (first | exact hI.out | apply Held.drewn | apply Held.drew | apply Held.alloc))) ?_; clear hK K; (try simp only [Act.put, List.setIfInBounds_toArray, List.set_cons_zero, List.set_cons_succ])))
      | (refine idx_call_yes rfl rfl rfl (fun K hK => ?_); go_simp; first | (refine hK.out _ _ (by (repeat (first | exact hI.out | apply Held.drewn | apply Held.drew | apply Held.alloc))) ?_; clear hK K; (try simp only [Act.put, List.setIfInBounds_toArray, List.set_cons_zero, List.set_cons_succ])) | (refine (rlows_1 _ rd _ (by first | exact cell_at0 _ _ _ _ 0 (by simp) | exact cell_at _ _ _ _ _ 0 (by simp))).mono ?_; rintro e w' ⟨rfl, nl, rfl⟩; go_wp2_with fail; refine hK.out _ _ (by (repeat (first | exact hI.out | apply Held.drewn | apply Held.drew | apply Held.alloc))) ?_; clear hK K; (try simp only [Act.put, List.setIfInBounds_toArray, List.set_cons_zero, List.set_cons_succ]))))
    refine idx_end ?_
    go_wp2
    go_ret2
    refine ⟨?_, Held.bel (b := w.heap.size) (A := #[.int .i64 26, .int .i64 cond, .int .i64 rd, .int .i64 13, .int .i64 rm, .int .i64 imm, .int .i64 1, .int .i64 list, .bool s]) (by (repeat (first | exact hI.out | apply Held.drewn | apply Held.drew | apply Held.alloc)))⟩
    (exact okay_none (by unfold Nm.loadI; dsimp only; (try simp only [Nm.opt, *]); all_goals rfl))
set_option linter.unusedSimpArgs false in
set_option maxRecDepth 100000 in
set_option maxHeartbeats 4000000 in
theorem load27_sp (cond rd rm imm list : Int) (s : Bool) (w : World) (hi0 : 0 ≤ imm) : Calls Tryd.prog 25 #[.agg #[.int .i64 27, .int .i64 cond, .int .i64 rd, .int .i64 13, .int .i64 rm, .int .i64 imm, .int .i64 1, .int .i64 list, .bool s]] w fun e w' => Okay e (Nm.loadI ⟨27, cond, rd, 13, rm, imm, 1, list, s⟩) ∧ Below w.heap.size w w' := by
  have hI := Lib.hid (Held.start w #[.int .i64 27, .int .i64 cond, .int .i64 rd, .int .i64 13, .int .i64 rm, .int .i64 imm, .int .i64 1, .int .i64 list, .bool s] 23)
  have ht : Int.tmod imm 4 = imm % 4 := Int.tmod_eq_emod_of_nonneg hi0
  have hq : Int.tdiv imm 4 = imm / 4 := Int.tdiv_eq_ediv_of_nonneg hi0
  all_goals
    go_enter Tryd.func25, Tryd.ntmps25
    go_wp2_with fail
    refine wp_region_idx 35 [true, true, true, true, true, true, true, true, true, true, true, true, true, true, true, true, true, true, true, true, false, false, true, true, true, true, true, true, true, true, true, true, true, true, true, false] (S := (fun W => Held w.heap.size #[.int .i64 27, .int .i64 cond, .int .i64 rd, .int .i64 13, .int .i64 rm, .int .i64 imm, .int .i64 1, .int .i64 list, .bool s] w W)) (by kernel_rfl) (by kernel_rfl) (fun _ _ d _ _ h => by cases d <;> exact h) (by (repeat (first | exact hI.out | apply Held.drewn | apply Held.drew | apply Held.alloc))) ?_
    simp only [List.zip_cons_cons, List.zip_nil_left]
    repeat (first
      | ((refine idx_pure rfl ?_ ?_ ?_; rotate_left; · (intro W hSw; (try dsimp only at hSw); obtain ⟨hq1, hq2, _⟩ := hSw; go_simp) <;> with_reducible rfl); (try simp only [Act.put, List.setIfInBounds_toArray, List.set_cons_zero, List.set_cons_succ]))
      | (refine idx_no rfl rfl rfl ?_; (try simp only [Act.put, List.setIfInBounds_toArray, List.set_cons_zero, List.set_cons_succ]))
      | ((refine idx_yes rfl rfl rfl ?_ ?_ ?_; rotate_left; · (intro W hSw; (try dsimp only at hSw); obtain ⟨hq1, hq2, _⟩ := hSw; go_simp) <;> with_reducible rfl); (try simp only [Act.put, List.setIfInBounds_toArray, List.set_cons_zero, List.set_cons_succ]))
      | (refine idx_call_no rfl rfl rfl ?_; (try simp only [Act.put, List.setIfInBounds_toArray, List.set_cons_zero, List.set_cons_succ]))
      | (refine idx_call rfl (fun K hK => ?_); go_simp; first | (refine hK.out _ _ (by (repeat (first | exact hI.out | apply Held.drewn | apply Held.drew | apply Held.alloc))) ?_; clear hK K; (try simp only [Act.put, List.setIfInBounds_toArray, List.set_cons_zero, List.set_cons_succ])) | (refine (rlows_1 _ rd _ (by first | exact cell_at0 _ _ _ _ 0 (by simp) | exact cell_at _ _ _ _ _ 0 (by simp))).mono ?_; rintro e w' ⟨rfl, nl, rfl⟩; go_wp2_with fail; refine hK.out _ _ (by (repeat (first | exact hI.out | apply Held.drewn | apply Held.drew | apply Held.alloc))) ?_; clear hK K; (try simp only [Act.put, List.setIfInBounds_toArray, List.set_cons_zero, List.set_cons_succ])))
      | (refine idx_call_yes rfl rfl rfl (fun K hK => ?_); go_simp; first | (refine hK.out _ _ (by (repeat (first | exact hI.out | apply Held.drewn | apply Held.drew | apply Held.alloc))) ?_; clear hK K; (try simp only [Act.put, List.setIfInBounds_toArray, List.set_cons_zero, List.set_cons_succ])) | (refine (rlows_1 _ rd _ (by first | exact cell_at0 _ _ _ _ 0 (by simp) | exact cell_at _ _ _ _ _ 0 (by simp))).mono ?_; rintro e w' ⟨rfl, nl, rfl⟩; go_wp2_with fail; refine hK.out _ _ (by (repeat (first | exact hI.out | apply Held.drewn | apply Held.drew | apply Held.alloc))) ?_; clear hK K; (try simp only [Act.put, List.setIfInBounds_toArray, List.set_cons_zero, List.set_cons_succ]))))
    refine idx_end ?_
    go_wp2
    go_ret2
    refine ⟨?_, Held.bel (b := w.heap.size) (A := #[.int .i64 27, .int .i64 cond, .int .i64 rd, .int .i64 13, .int .i64 rm, .int .i64 imm, .int .i64 1, .int .i64 list, .bool s]) (by (repeat (first | exact hI.out | apply Held.drewn | apply Held.drew | apply Held.alloc)))⟩
    (exact okay_none (by unfold Nm.loadI; dsimp only; (try simp only [Nm.opt, *]); all_goals rfl))
set_option linter.unusedSimpArgs false in
set_option maxRecDepth 100000 in
set_option maxHeartbeats 4000000 in
theorem load28_sp (cond rd rm imm list : Int) (s : Bool) (w : World) (hi0 : 0 ≤ imm) : Calls Tryd.prog 25 #[.agg #[.int .i64 28, .int .i64 cond, .int .i64 rd, .int .i64 13, .int .i64 rm, .int .i64 imm, .int .i64 1, .int .i64 list, .bool s]] w fun e w' => Okay e (Nm.loadI ⟨28, cond, rd, 13, rm, imm, 1, list, s⟩) ∧ Below w.heap.size w w' := by
  have hI := Lib.hid (Held.start w #[.int .i64 28, .int .i64 cond, .int .i64 rd, .int .i64 13, .int .i64 rm, .int .i64 imm, .int .i64 1, .int .i64 list, .bool s] 23)
  have ht : Int.tmod imm 4 = imm % 4 := Int.tmod_eq_emod_of_nonneg hi0
  have hq : Int.tdiv imm 4 = imm / 4 := Int.tdiv_eq_ediv_of_nonneg hi0
  rcases chain3 (Nm.low rd) (imm % 4 == 0) (decide (imm ≤ 1020)) with h1 | ⟨h1, h2⟩ | ⟨h1, h2, h3⟩ | ⟨h1, h2, h3⟩
  all_goals
    go_enter Tryd.func25, Tryd.ntmps25
    go_wp2_with fail
    refine wp_region_idx 35 [true, true, true, true, true, true, true, true, true, true, true, true, true, true, true, true, true, true, true, true, false, false, true, true, true, true, true, true, true, true, true, true, true, true, true, false] (S := (fun W => Held w.heap.size #[.int .i64 28, .int .i64 cond, .int .i64 rd, .int .i64 13, .int .i64 rm, .int .i64 imm, .int .i64 1, .int .i64 list, .bool s] w W)) (by kernel_rfl) (by kernel_rfl) (fun _ _ d _ _ h => by cases d <;> exact h) (by (repeat (first | exact hI.out | apply Held.drewn | apply Held.drew | apply Held.alloc))) ?_
    simp only [List.zip_cons_cons, List.zip_nil_left]
    repeat (first
      | ((refine idx_pure rfl ?_ ?_ ?_; rotate_left; · (intro W hSw; (try dsimp only at hSw); obtain ⟨hq1, hq2, _⟩ := hSw; go_simp) <;> with_reducible rfl); (try simp only [Act.put, List.setIfInBounds_toArray, List.set_cons_zero, List.set_cons_succ]))
      | (refine idx_no rfl rfl rfl ?_; (try simp only [Act.put, List.setIfInBounds_toArray, List.set_cons_zero, List.set_cons_succ]))
      | ((refine idx_yes rfl rfl rfl ?_ ?_ ?_; rotate_left; · (intro W hSw; (try dsimp only at hSw); obtain ⟨hq1, hq2, _⟩ := hSw; go_simp) <;> with_reducible rfl); (try simp only [Act.put, List.setIfInBounds_toArray, List.set_cons_zero, List.set_cons_succ]))
      | (refine idx_call_no rfl rfl rfl ?_; (try simp only [Act.put, List.setIfInBounds_toArray, List.set_cons_zero, List.set_cons_succ]))
      | (refine idx_call rfl (fun K hK => ?_); go_simp; first | (refine hK.out _ _ (by (repeat (first | exact hI.out | apply Held.drewn | apply Held.drew | apply Held.alloc))) ?_; clear hK K; (try simp only [Act.put, List.setIfInBounds_toArray, List.set_cons_zero, List.set_cons_succ])) | (refine (rlows_1 _ rd _ (by first | exact cell_at0 _ _ _ _ 0 (by simp) | exact cell_at _ _ _ _ _ 0 (by simp))).mono ?_; rintro e w' ⟨rfl, nl, rfl⟩; go_wp2_with fail; refine hK.out _ _ (by (repeat (first | exact hI.out | apply Held.drewn | apply Held.drew | apply Held.alloc))) ?_; clear hK K; (try simp only [Act.put, List.setIfInBounds_toArray, List.set_cons_zero, List.set_cons_succ])))
      | (refine idx_call_yes rfl rfl rfl (fun K hK => ?_); go_simp; first | (refine hK.out _ _ (by (repeat (first | exact hI.out | apply Held.drewn | apply Held.drew | apply Held.alloc))) ?_; clear hK K; (try simp only [Act.put, List.setIfInBounds_toArray, List.set_cons_zero, List.set_cons_succ])) | (refine (rlows_1 _ rd _ (by first | exact cell_at0 _ _ _ _ 0 (by simp) | exact cell_at _ _ _ _ _ 0 (by simp))).mono ?_; rintro e w' ⟨rfl, nl, rfl⟩; go_wp2_with fail; refine hK.out _ _ (by (repeat (first | exact hI.out | apply Held.drewn | apply Held.drew | apply Held.alloc))) ?_; clear hK K; (try simp only [Act.put, List.setIfInBounds_toArray, List.set_cons_zero, List.set_cons_succ]))))
    refine idx_end ?_
    go_wp2
    go_ret2
    refine ⟨?_, Held.bel (b := w.heap.size) (A := #[.int .i64 28, .int .i64 cond, .int .i64 rd, .int .i64 13, .int .i64 rm, .int .i64 imm, .int .i64 1, .int .i64 list, .bool s]) (by (repeat (first | exact hI.out | apply Held.drewn | apply Held.drew | apply Held.alloc)))⟩
    first
      | (exact okay_none (by unfold Nm.loadI; dsimp only; (try simp only [Nm.opt, *]); all_goals rfl))
      | (refine okay_some (B := 36864 + rd * 256 + imm / 4) (by unfold Nm.loadI; dsimp only; (try simp only [Nm.opt, *]); all_goals rfl) ?_; have r0 := Nm.low_is h1; have q3 := of_decide_eq_true h3; (try rw [show IntKind.i64.wrap (rd * 256) = rd * 256 from IntWalk.i64_in _ (by omega)]); (try rw [show wrap64 (rd * 256) = rd * 256 by unfold wrap64; omega]); (try rw [show IntKind.i64.wrap (imm / 4) = imm / 4 from IntWalk.i64_in _ (by omega)]); (try rw [show wrap64 (imm / 4) = imm / 4 by unfold wrap64; omega]); rw [Cm.or_join (36864) (rd * 256) 11 (by omega) (by omega) (by omega) (by omega) (by omega) (by omega), Cm.or_join (36864 + rd * 256) (imm / 4) 8 (by omega) (by omega) (by omega) (by omega) (by omega) (by omega)]; all_goals (try omega))
set_option linter.unusedSimpArgs false in
set_option maxRecDepth 100000 in
set_option maxHeartbeats 4000000 in
theorem load29_sp (cond rd rm imm list : Int) (s : Bool) (w : World) (hi0 : 0 ≤ imm) : Calls Tryd.prog 25 #[.agg #[.int .i64 29, .int .i64 cond, .int .i64 rd, .int .i64 13, .int .i64 rm, .int .i64 imm, .int .i64 1, .int .i64 list, .bool s]] w fun e w' => Okay e (Nm.loadI ⟨29, cond, rd, 13, rm, imm, 1, list, s⟩) ∧ Below w.heap.size w w' := by
  have hI := Lib.hid (Held.start w #[.int .i64 29, .int .i64 cond, .int .i64 rd, .int .i64 13, .int .i64 rm, .int .i64 imm, .int .i64 1, .int .i64 list, .bool s] 23)
  have ht : Int.tmod imm 4 = imm % 4 := Int.tmod_eq_emod_of_nonneg hi0
  have hq : Int.tdiv imm 4 = imm / 4 := Int.tdiv_eq_ediv_of_nonneg hi0
  all_goals
    go_enter Tryd.func25, Tryd.ntmps25
    go_wp2_with fail
    refine wp_region_idx 35 [true, true, true, true, true, true, true, true, true, true, true, true, true, true, true, true, true, true, true, true, false, false, true, true, true, true, true, true, true, true, true, true, true, true, true, false] (S := (fun W => Held w.heap.size #[.int .i64 29, .int .i64 cond, .int .i64 rd, .int .i64 13, .int .i64 rm, .int .i64 imm, .int .i64 1, .int .i64 list, .bool s] w W)) (by kernel_rfl) (by kernel_rfl) (fun _ _ d _ _ h => by cases d <;> exact h) (by (repeat (first | exact hI.out | apply Held.drewn | apply Held.drew | apply Held.alloc))) ?_
    simp only [List.zip_cons_cons, List.zip_nil_left]
    repeat (first
      | ((refine idx_pure rfl ?_ ?_ ?_; rotate_left; · (intro W hSw; (try dsimp only at hSw); obtain ⟨hq1, hq2, _⟩ := hSw; go_simp) <;> with_reducible rfl); (try simp only [Act.put, List.setIfInBounds_toArray, List.set_cons_zero, List.set_cons_succ]))
      | (refine idx_no rfl rfl rfl ?_; (try simp only [Act.put, List.setIfInBounds_toArray, List.set_cons_zero, List.set_cons_succ]))
      | ((refine idx_yes rfl rfl rfl ?_ ?_ ?_; rotate_left; · (intro W hSw; (try dsimp only at hSw); obtain ⟨hq1, hq2, _⟩ := hSw; go_simp) <;> with_reducible rfl); (try simp only [Act.put, List.setIfInBounds_toArray, List.set_cons_zero, List.set_cons_succ]))
      | (refine idx_call_no rfl rfl rfl ?_; (try simp only [Act.put, List.setIfInBounds_toArray, List.set_cons_zero, List.set_cons_succ]))
      | (refine idx_call rfl (fun K hK => ?_); go_simp; first | (refine hK.out _ _ (by (repeat (first | exact hI.out | apply Held.drewn | apply Held.drew | apply Held.alloc))) ?_; clear hK K; (try simp only [Act.put, List.setIfInBounds_toArray, List.set_cons_zero, List.set_cons_succ])) | (refine (rlows_1 _ rd _ (by first | exact cell_at0 _ _ _ _ 0 (by simp) | exact cell_at _ _ _ _ _ 0 (by simp))).mono ?_; rintro e w' ⟨rfl, nl, rfl⟩; go_wp2_with fail; refine hK.out _ _ (by (repeat (first | exact hI.out | apply Held.drewn | apply Held.drew | apply Held.alloc))) ?_; clear hK K; (try simp only [Act.put, List.setIfInBounds_toArray, List.set_cons_zero, List.set_cons_succ])))
      | (refine idx_call_yes rfl rfl rfl (fun K hK => ?_); go_simp; first | (refine hK.out _ _ (by (repeat (first | exact hI.out | apply Held.drewn | apply Held.drew | apply Held.alloc))) ?_; clear hK K; (try simp only [Act.put, List.setIfInBounds_toArray, List.set_cons_zero, List.set_cons_succ])) | (refine (rlows_1 _ rd _ (by first | exact cell_at0 _ _ _ _ 0 (by simp) | exact cell_at _ _ _ _ _ 0 (by simp))).mono ?_; rintro e w' ⟨rfl, nl, rfl⟩; go_wp2_with fail; refine hK.out _ _ (by (repeat (first | exact hI.out | apply Held.drewn | apply Held.drew | apply Held.alloc))) ?_; clear hK K; (try simp only [Act.put, List.setIfInBounds_toArray, List.set_cons_zero, List.set_cons_succ]))))
    refine idx_end ?_
    go_wp2
    go_ret2
    refine ⟨?_, Held.bel (b := w.heap.size) (A := #[.int .i64 29, .int .i64 cond, .int .i64 rd, .int .i64 13, .int .i64 rm, .int .i64 imm, .int .i64 1, .int .i64 list, .bool s]) (by (repeat (first | exact hI.out | apply Held.drewn | apply Held.drew | apply Held.alloc)))⟩
    (exact okay_none (by unfold Nm.loadI; dsimp only; (try simp only [Nm.opt, *]); all_goals rfl))
set_option linter.unusedSimpArgs false in
set_option maxRecDepth 100000 in
set_option maxHeartbeats 4000000 in
theorem load30_sp (cond rd rm imm list : Int) (s : Bool) (w : World) (hi0 : 0 ≤ imm) : Calls Tryd.prog 25 #[.agg #[.int .i64 30, .int .i64 cond, .int .i64 rd, .int .i64 13, .int .i64 rm, .int .i64 imm, .int .i64 1, .int .i64 list, .bool s]] w fun e w' => Okay e (Nm.loadI ⟨30, cond, rd, 13, rm, imm, 1, list, s⟩) ∧ Below w.heap.size w w' := by
  have hI := Lib.hid (Held.start w #[.int .i64 30, .int .i64 cond, .int .i64 rd, .int .i64 13, .int .i64 rm, .int .i64 imm, .int .i64 1, .int .i64 list, .bool s] 23)
  have ht : Int.tmod imm 4 = imm % 4 := Int.tmod_eq_emod_of_nonneg hi0
  have hq : Int.tdiv imm 4 = imm / 4 := Int.tdiv_eq_ediv_of_nonneg hi0
  all_goals
    go_enter Tryd.func25, Tryd.ntmps25
    go_wp2_with fail
    refine wp_region_idx 35 [true, true, true, true, true, true, true, true, true, true, true, true, true, true, true, true, true, true, true, true, false, false, true, true, true, true, true, true, true, true, true, true, true, true, true, false] (S := (fun W => Held w.heap.size #[.int .i64 30, .int .i64 cond, .int .i64 rd, .int .i64 13, .int .i64 rm, .int .i64 imm, .int .i64 1, .int .i64 list, .bool s] w W)) (by kernel_rfl) (by kernel_rfl) (fun _ _ d _ _ h => by cases d <;> exact h) (by (repeat (first | exact hI.out | apply Held.drewn | apply Held.drew | apply Held.alloc))) ?_
    simp only [List.zip_cons_cons, List.zip_nil_left]
    repeat (first
      | ((refine idx_pure rfl ?_ ?_ ?_; rotate_left; · (intro W hSw; (try dsimp only at hSw); obtain ⟨hq1, hq2, _⟩ := hSw; go_simp) <;> with_reducible rfl); (try simp only [Act.put, List.setIfInBounds_toArray, List.set_cons_zero, List.set_cons_succ]))
      | (refine idx_no rfl rfl rfl ?_; (try simp only [Act.put, List.setIfInBounds_toArray, List.set_cons_zero, List.set_cons_succ]))
      | ((refine idx_yes rfl rfl rfl ?_ ?_ ?_; rotate_left; · (intro W hSw; (try dsimp only at hSw); obtain ⟨hq1, hq2, _⟩ := hSw; go_simp) <;> with_reducible rfl); (try simp only [Act.put, List.setIfInBounds_toArray, List.set_cons_zero, List.set_cons_succ]))
      | (refine idx_call_no rfl rfl rfl ?_; (try simp only [Act.put, List.setIfInBounds_toArray, List.set_cons_zero, List.set_cons_succ]))
      | (refine idx_call rfl (fun K hK => ?_); go_simp; first | (refine hK.out _ _ (by (repeat (first | exact hI.out | apply Held.drewn | apply Held.drew | apply Held.alloc))) ?_; clear hK K; (try simp only [Act.put, List.setIfInBounds_toArray, List.set_cons_zero, List.set_cons_succ])) | (refine (rlows_1 _ rd _ (by first | exact cell_at0 _ _ _ _ 0 (by simp) | exact cell_at _ _ _ _ _ 0 (by simp))).mono ?_; rintro e w' ⟨rfl, nl, rfl⟩; go_wp2_with fail; refine hK.out _ _ (by (repeat (first | exact hI.out | apply Held.drewn | apply Held.drew | apply Held.alloc))) ?_; clear hK K; (try simp only [Act.put, List.setIfInBounds_toArray, List.set_cons_zero, List.set_cons_succ])))
      | (refine idx_call_yes rfl rfl rfl (fun K hK => ?_); go_simp; first | (refine hK.out _ _ (by (repeat (first | exact hI.out | apply Held.drewn | apply Held.drew | apply Held.alloc))) ?_; clear hK K; (try simp only [Act.put, List.setIfInBounds_toArray, List.set_cons_zero, List.set_cons_succ])) | (refine (rlows_1 _ rd _ (by first | exact cell_at0 _ _ _ _ 0 (by simp) | exact cell_at _ _ _ _ _ 0 (by simp))).mono ?_; rintro e w' ⟨rfl, nl, rfl⟩; go_wp2_with fail; refine hK.out _ _ (by (repeat (first | exact hI.out | apply Held.drewn | apply Held.drew | apply Held.alloc))) ?_; clear hK K; (try simp only [Act.put, List.setIfInBounds_toArray, List.set_cons_zero, List.set_cons_succ]))))
    refine idx_end ?_
    go_wp2
    go_ret2
    refine ⟨?_, Held.bel (b := w.heap.size) (A := #[.int .i64 30, .int .i64 cond, .int .i64 rd, .int .i64 13, .int .i64 rm, .int .i64 imm, .int .i64 1, .int .i64 list, .bool s]) (by (repeat (first | exact hI.out | apply Held.drewn | apply Held.drew | apply Held.alloc)))⟩
    (exact okay_none (by unfold Nm.loadI; dsimp only; (try simp only [Nm.opt, *]); all_goals rfl))
end Go.Proofs.YtcphhojdfpedkaaDoor

namespace Go.Proofs.YtcphhojdfpedkaaDoor
open Go.ChangeShapes Go.WideShapes Go.ChangeAt Go.RowKit
set_option linter.unusedSimpArgs false in
set_option maxRecDepth 100000 in
set_option maxHeartbeats 4000000 in
theorem load25_2 (cond rd rn rm imm list : Int) (s : Bool) (w : World)  : Calls Tryd.prog 25 #[.agg #[.int .i64 25, .int .i64 cond, .int .i64 rd, .int .i64 rn, .int .i64 rm, .int .i64 imm, .int .i64 2, .int .i64 list, .bool s]] w fun e w' => Okay e (Nm.loadI ⟨25, cond, rd, rn, rm, imm, 2, list, s⟩) ∧ Below w.heap.size w w' := by
  have hI := Lib.hid (Held.start w #[.int .i64 25, .int .i64 cond, .int .i64 rd, .int .i64 rn, .int .i64 rm, .int .i64 imm, .int .i64 2, .int .i64 list, .bool s] 23)
  rcases chain1 (Nm.low rd && (Nm.low rn && Nm.low rm)) with h1 | h1
  all_goals
    go_enter Tryd.func25, Tryd.ntmps25
    go_wp2_with fail
    refine wp_region_idx 21 [true, true, true, true, true, true, true, true, true, true, true, true, true, true, true, true, true, true, false, false, true, false] (S := (fun W => Held w.heap.size #[.int .i64 25, .int .i64 cond, .int .i64 rd, .int .i64 rn, .int .i64 rm, .int .i64 imm, .int .i64 2, .int .i64 list, .bool s] w W)) (by kernel_rfl) (by kernel_rfl) (fun _ _ d _ _ h => by cases d <;> exact h) (by (repeat (first | exact hI.out | apply Held.drewn | apply Held.drew | apply Held.alloc))) ?_
    simp only [List.zip_cons_cons, List.zip_nil_left]
    repeat (first
      | ((refine idx_pure rfl ?_ ?_ ?_; rotate_left; · (intro W hSw; (try dsimp only at hSw); obtain ⟨hq1, hq2, _⟩ := hSw; go_simp) <;> with_reducible rfl); (try simp only [Act.put, List.setIfInBounds_toArray, List.set_cons_zero, List.set_cons_succ]))
      | (refine idx_no rfl rfl rfl ?_; (try simp only [Act.put, List.setIfInBounds_toArray, List.set_cons_zero, List.set_cons_succ]))
      | ((refine idx_yes rfl rfl rfl ?_ ?_ ?_; rotate_left; · (intro W hSw; (try dsimp only at hSw); obtain ⟨hq1, hq2, _⟩ := hSw; go_simp) <;> with_reducible rfl); (try simp only [Act.put, List.setIfInBounds_toArray, List.set_cons_zero, List.set_cons_succ]))
      | (refine idx_call_no rfl rfl rfl ?_; (try simp only [Act.put, List.setIfInBounds_toArray, List.set_cons_zero, List.set_cons_succ]))
      | (refine idx_call rfl (fun K hK => ?_); go_simp; first | (refine hK.out _ _ (by (repeat (first | exact hI.out | apply Held.drewn | apply Held.drew | apply Held.alloc))) ?_; clear hK K; (try simp only [Act.put, List.setIfInBounds_toArray, List.set_cons_zero, List.set_cons_succ])) | (refine (rlows_3 _ rd rn rm _ (by first | exact cell_at0 _ _ _ _ 0 (by simp) | exact cell_at _ _ _ _ _ 0 (by simp)) (by first | exact cell_at0 _ _ _ _ 1 (by simp) | exact cell_at _ _ _ _ _ 1 (by simp)) (by first | exact cell_at0 _ _ _ _ 2 (by simp) | exact cell_at _ _ _ _ _ 2 (by simp))).mono ?_; rintro e w' ⟨rfl, nl, rfl⟩; go_wp2_with fail; refine hK.out _ _ (by (repeat (first | exact hI.out | apply Held.drewn | apply Held.drew | apply Held.alloc))) ?_; clear hK K; (try simp only [Act.put, List.setIfInBounds_toArray, List.set_cons_zero, List.set_cons_succ])))
      | (refine idx_call_yes rfl rfl rfl (fun K hK => ?_); go_simp; first | (refine hK.out _ _ (by (repeat (first | exact hI.out | apply Held.drewn | apply Held.drew | apply Held.alloc))) ?_; clear hK K; (try simp only [Act.put, List.setIfInBounds_toArray, List.set_cons_zero, List.set_cons_succ])) | (refine (rlows_3 _ rd rn rm _ (by first | exact cell_at0 _ _ _ _ 0 (by simp) | exact cell_at _ _ _ _ _ 0 (by simp)) (by first | exact cell_at0 _ _ _ _ 1 (by simp) | exact cell_at _ _ _ _ _ 1 (by simp)) (by first | exact cell_at0 _ _ _ _ 2 (by simp) | exact cell_at _ _ _ _ _ 2 (by simp))).mono ?_; rintro e w' ⟨rfl, nl, rfl⟩; go_wp2_with fail; refine hK.out _ _ (by (repeat (first | exact hI.out | apply Held.drewn | apply Held.drew | apply Held.alloc))) ?_; clear hK K; (try simp only [Act.put, List.setIfInBounds_toArray, List.set_cons_zero, List.set_cons_succ]))))
    refine idx_end ?_
    go_wp2
    go_ret2
    refine ⟨?_, Held.bel (b := w.heap.size) (A := #[.int .i64 25, .int .i64 cond, .int .i64 rd, .int .i64 rn, .int .i64 rm, .int .i64 imm, .int .i64 2, .int .i64 list, .bool s]) (by (repeat (first | exact hI.out | apply Held.drewn | apply Held.drew | apply Held.alloc)))⟩
    first
      | (exact okay_none (by unfold Nm.loadI; dsimp only; (try simp only [Nm.opt, *]); all_goals rfl))
      | (refine okay_some (B := 22528 + rm * 64 + rn * 8 + rd) (by unfold Nm.loadI; dsimp only; (try simp only [Nm.opt, *]); all_goals rfl) ?_; simp only [Bool.and_eq_true] at h1; have r0 := Nm.low_is h1.1; have r1 := Nm.low_is h1.2.1; have r2 := Nm.low_is h1.2.2; (try rw [show IntKind.i64.wrap (rm * 64) = rm * 64 from IntWalk.i64_in _ (by omega)]); (try rw [show wrap64 (rm * 64) = rm * 64 by unfold wrap64; omega]); (try rw [show IntKind.i64.wrap (rn * 8) = rn * 8 from IntWalk.i64_in _ (by omega)]); (try rw [show wrap64 (rn * 8) = rn * 8 by unfold wrap64; omega]); (try rw [show IntKind.i64.wrap (rd) = rd from IntWalk.i64_in _ (by omega)]); (try rw [show wrap64 (rd) = rd by unfold wrap64; omega]); rw [Cm.or_join (22528) (rm * 64) 9 (by omega) (by omega) (by omega) (by omega) (by omega) (by omega), Cm.or_join (22528 + rm * 64) (rn * 8) 6 (by omega) (by omega) (by omega) (by omega) (by omega) (by omega), Cm.or_join (22528 + rm * 64 + rn * 8) (rd) 3 (by omega) (by omega) (by omega) (by omega) (by omega) (by omega)]; all_goals (try omega))
set_option linter.unusedSimpArgs false in
set_option maxRecDepth 100000 in
set_option maxHeartbeats 4000000 in
theorem load26_2 (cond rd rn rm imm list : Int) (s : Bool) (w : World)  : Calls Tryd.prog 25 #[.agg #[.int .i64 26, .int .i64 cond, .int .i64 rd, .int .i64 rn, .int .i64 rm, .int .i64 imm, .int .i64 2, .int .i64 list, .bool s]] w fun e w' => Okay e (Nm.loadI ⟨26, cond, rd, rn, rm, imm, 2, list, s⟩) ∧ Below w.heap.size w w' := by
  have hI := Lib.hid (Held.start w #[.int .i64 26, .int .i64 cond, .int .i64 rd, .int .i64 rn, .int .i64 rm, .int .i64 imm, .int .i64 2, .int .i64 list, .bool s] 23)
  rcases chain1 (Nm.low rd && (Nm.low rn && Nm.low rm)) with h1 | h1
  all_goals
    go_enter Tryd.func25, Tryd.ntmps25
    go_wp2_with fail
    refine wp_region_idx 21 [true, true, true, true, true, true, true, true, true, true, true, true, true, true, true, true, true, true, false, false, true, false] (S := (fun W => Held w.heap.size #[.int .i64 26, .int .i64 cond, .int .i64 rd, .int .i64 rn, .int .i64 rm, .int .i64 imm, .int .i64 2, .int .i64 list, .bool s] w W)) (by kernel_rfl) (by kernel_rfl) (fun _ _ d _ _ h => by cases d <;> exact h) (by (repeat (first | exact hI.out | apply Held.drewn | apply Held.drew | apply Held.alloc))) ?_
    simp only [List.zip_cons_cons, List.zip_nil_left]
    repeat (first
      | ((refine idx_pure rfl ?_ ?_ ?_; rotate_left; · (intro W hSw; (try dsimp only at hSw); obtain ⟨hq1, hq2, _⟩ := hSw; go_simp) <;> with_reducible rfl); (try simp only [Act.put, List.setIfInBounds_toArray, List.set_cons_zero, List.set_cons_succ]))
      | (refine idx_no rfl rfl rfl ?_; (try simp only [Act.put, List.setIfInBounds_toArray, List.set_cons_zero, List.set_cons_succ]))
      | ((refine idx_yes rfl rfl rfl ?_ ?_ ?_; rotate_left; · (intro W hSw; (try dsimp only at hSw); obtain ⟨hq1, hq2, _⟩ := hSw; go_simp) <;> with_reducible rfl); (try simp only [Act.put, List.setIfInBounds_toArray, List.set_cons_zero, List.set_cons_succ]))
      | (refine idx_call_no rfl rfl rfl ?_; (try simp only [Act.put, List.setIfInBounds_toArray, List.set_cons_zero, List.set_cons_succ]))
      | (refine idx_call rfl (fun K hK => ?_); go_simp; first | (refine hK.out _ _ (by (repeat (first | exact hI.out | apply Held.drewn | apply Held.drew | apply Held.alloc))) ?_; clear hK K; (try simp only [Act.put, List.setIfInBounds_toArray, List.set_cons_zero, List.set_cons_succ])) | (refine (rlows_3 _ rd rn rm _ (by first | exact cell_at0 _ _ _ _ 0 (by simp) | exact cell_at _ _ _ _ _ 0 (by simp)) (by first | exact cell_at0 _ _ _ _ 1 (by simp) | exact cell_at _ _ _ _ _ 1 (by simp)) (by first | exact cell_at0 _ _ _ _ 2 (by simp) | exact cell_at _ _ _ _ _ 2 (by simp))).mono ?_; rintro e w' ⟨rfl, nl, rfl⟩; go_wp2_with fail; refine hK.out _ _ (by (repeat (first | exact hI.out | apply Held.drewn | apply Held.drew | apply Held.alloc))) ?_; clear hK K; (try simp only [Act.put, List.setIfInBounds_toArray, List.set_cons_zero, List.set_cons_succ])))
      | (refine idx_call_yes rfl rfl rfl (fun K hK => ?_); go_simp; first | (refine hK.out _ _ (by (repeat (first | exact hI.out | apply Held.drewn | apply Held.drew | apply Held.alloc))) ?_; clear hK K; (try simp only [Act.put, List.setIfInBounds_toArray, List.set_cons_zero, List.set_cons_succ])) | (refine (rlows_3 _ rd rn rm _ (by first | exact cell_at0 _ _ _ _ 0 (by simp) | exact cell_at _ _ _ _ _ 0 (by simp)) (by first | exact cell_at0 _ _ _ _ 1 (by simp) | exact cell_at _ _ _ _ _ 1 (by simp)) (by first | exact cell_at0 _ _ _ _ 2 (by simp) | exact cell_at _ _ _ _ _ 2 (by simp))).mono ?_; rintro e w' ⟨rfl, nl, rfl⟩; go_wp2_with fail; refine hK.out _ _ (by (repeat (first | exact hI.out | apply Held.drewn | apply Held.drew | apply Held.alloc))) ?_; clear hK K; (try simp only [Act.put, List.setIfInBounds_toArray, List.set_cons_zero, List.set_cons_succ]))))
    refine idx_end ?_
    go_wp2
    go_ret2
    refine ⟨?_, Held.bel (b := w.heap.size) (A := #[.int .i64 26, .int .i64 cond, .int .i64 rd, .int .i64 rn, .int .i64 rm, .int .i64 imm, .int .i64 2, .int .i64 list, .bool s]) (by (repeat (first | exact hI.out | apply Held.drewn | apply Held.drew | apply Held.alloc)))⟩
    first
      | (exact okay_none (by unfold Nm.loadI; dsimp only; (try simp only [Nm.opt, *]); all_goals rfl))
      | (refine okay_some (B := 23552 + rm * 64 + rn * 8 + rd) (by unfold Nm.loadI; dsimp only; (try simp only [Nm.opt, *]); all_goals rfl) ?_; simp only [Bool.and_eq_true] at h1; have r0 := Nm.low_is h1.1; have r1 := Nm.low_is h1.2.1; have r2 := Nm.low_is h1.2.2; (try rw [show IntKind.i64.wrap (rm * 64) = rm * 64 from IntWalk.i64_in _ (by omega)]); (try rw [show wrap64 (rm * 64) = rm * 64 by unfold wrap64; omega]); (try rw [show IntKind.i64.wrap (rn * 8) = rn * 8 from IntWalk.i64_in _ (by omega)]); (try rw [show wrap64 (rn * 8) = rn * 8 by unfold wrap64; omega]); (try rw [show IntKind.i64.wrap (rd) = rd from IntWalk.i64_in _ (by omega)]); (try rw [show wrap64 (rd) = rd by unfold wrap64; omega]); rw [Cm.or_join (23552) (rm * 64) 9 (by omega) (by omega) (by omega) (by omega) (by omega) (by omega), Cm.or_join (23552 + rm * 64) (rn * 8) 6 (by omega) (by omega) (by omega) (by omega) (by omega) (by omega), Cm.or_join (23552 + rm * 64 + rn * 8) (rd) 3 (by omega) (by omega) (by omega) (by omega) (by omega) (by omega)]; all_goals (try omega))
set_option linter.unusedSimpArgs false in
set_option maxRecDepth 100000 in
set_option maxHeartbeats 4000000 in
theorem load27_2 (cond rd rn rm imm list : Int) (s : Bool) (w : World)  : Calls Tryd.prog 25 #[.agg #[.int .i64 27, .int .i64 cond, .int .i64 rd, .int .i64 rn, .int .i64 rm, .int .i64 imm, .int .i64 2, .int .i64 list, .bool s]] w fun e w' => Okay e (Nm.loadI ⟨27, cond, rd, rn, rm, imm, 2, list, s⟩) ∧ Below w.heap.size w w' := by
  have hI := Lib.hid (Held.start w #[.int .i64 27, .int .i64 cond, .int .i64 rd, .int .i64 rn, .int .i64 rm, .int .i64 imm, .int .i64 2, .int .i64 list, .bool s] 23)
  rcases chain1 (Nm.low rd && (Nm.low rn && Nm.low rm)) with h1 | h1
  all_goals
    go_enter Tryd.func25, Tryd.ntmps25
    go_wp2_with fail
    refine wp_region_idx 21 [true, true, true, true, true, true, true, true, true, true, true, true, true, true, true, true, true, true, false, false, true, false] (S := (fun W => Held w.heap.size #[.int .i64 27, .int .i64 cond, .int .i64 rd, .int .i64 rn, .int .i64 rm, .int .i64 imm, .int .i64 2, .int .i64 list, .bool s] w W)) (by kernel_rfl) (by kernel_rfl) (fun _ _ d _ _ h => by cases d <;> exact h) (by (repeat (first | exact hI.out | apply Held.drewn | apply Held.drew | apply Held.alloc))) ?_
    simp only [List.zip_cons_cons, List.zip_nil_left]
    repeat (first
      | ((refine idx_pure rfl ?_ ?_ ?_; rotate_left; · (intro W hSw; (try dsimp only at hSw); obtain ⟨hq1, hq2, _⟩ := hSw; go_simp) <;> with_reducible rfl); (try simp only [Act.put, List.setIfInBounds_toArray, List.set_cons_zero, List.set_cons_succ]))
      | (refine idx_no rfl rfl rfl ?_; (try simp only [Act.put, List.setIfInBounds_toArray, List.set_cons_zero, List.set_cons_succ]))
      | ((refine idx_yes rfl rfl rfl ?_ ?_ ?_; rotate_left; · (intro W hSw; (try dsimp only at hSw); obtain ⟨hq1, hq2, _⟩ := hSw; go_simp) <;> with_reducible rfl); (try simp only [Act.put, List.setIfInBounds_toArray, List.set_cons_zero, List.set_cons_succ]))
      | (refine idx_call_no rfl rfl rfl ?_; (try simp only [Act.put, List.setIfInBounds_toArray, List.set_cons_zero, List.set_cons_succ]))
      | (refine idx_call rfl (fun K hK => ?_); go_simp; first | (refine hK.out _ _ (by (repeat (first | exact hI.out | apply Held.drewn | apply Held.drew | apply Held.alloc))) ?_; clear hK K; (try simp only [Act.put, List.setIfInBounds_toArray, List.set_cons_zero, List.set_cons_succ])) | (refine (rlows_3 _ rd rn rm _ (by first | exact cell_at0 _ _ _ _ 0 (by simp) | exact cell_at _ _ _ _ _ 0 (by simp)) (by first | exact cell_at0 _ _ _ _ 1 (by simp) | exact cell_at _ _ _ _ _ 1 (by simp)) (by first | exact cell_at0 _ _ _ _ 2 (by simp) | exact cell_at _ _ _ _ _ 2 (by simp))).mono ?_; rintro e w' ⟨rfl, nl, rfl⟩; go_wp2_with fail; refine hK.out _ _ (by (repeat (first | exact hI.out | apply Held.drewn | apply Held.drew | apply Held.alloc))) ?_; clear hK K; (try simp only [Act.put, List.setIfInBounds_toArray, List.set_cons_zero, List.set_cons_succ])))
      | (refine idx_call_yes rfl rfl rfl (fun K hK => ?_); go_simp; first | (refine hK.out _ _ (by (repeat (first | exact hI.out | apply Held.drewn | apply Held.drew | apply Held.alloc))) ?_; clear hK K; (try simp only [Act.put, List.setIfInBounds_toArray, List.set_cons_zero, List.set_cons_succ])) | (refine (rlows_3 _ rd rn rm _ (by first | exact cell_at0 _ _ _ _ 0 (by simp) | exact cell_at _ _ _ _ _ 0 (by simp)) (by first | exact cell_at0 _ _ _ _ 1 (by simp) | exact cell_at _ _ _ _ _ 1 (by simp)) (by first | exact cell_at0 _ _ _ _ 2 (by simp) | exact cell_at _ _ _ _ _ 2 (by simp))).mono ?_; rintro e w' ⟨rfl, nl, rfl⟩; go_wp2_with fail; refine hK.out _ _ (by (repeat (first | exact hI.out | apply Held.drewn | apply Held.drew | apply Held.alloc))) ?_; clear hK K; (try simp only [Act.put, List.setIfInBounds_toArray, List.set_cons_zero, List.set_cons_succ]))))
    refine idx_end ?_
    go_wp2
    go_ret2
    refine ⟨?_, Held.bel (b := w.heap.size) (A := #[.int .i64 27, .int .i64 cond, .int .i64 rd, .int .i64 rn, .int .i64 rm, .int .i64 imm, .int .i64 2, .int .i64 list, .bool s]) (by (repeat (first | exact hI.out | apply Held.drewn | apply Held.drew | apply Held.alloc)))⟩
    first
      | (exact okay_none (by unfold Nm.loadI; dsimp only; (try simp only [Nm.opt, *]); all_goals rfl))
      | (refine okay_some (B := 23040 + rm * 64 + rn * 8 + rd) (by unfold Nm.loadI; dsimp only; (try simp only [Nm.opt, *]); all_goals rfl) ?_; simp only [Bool.and_eq_true] at h1; have r0 := Nm.low_is h1.1; have r1 := Nm.low_is h1.2.1; have r2 := Nm.low_is h1.2.2; (try rw [show IntKind.i64.wrap (rm * 64) = rm * 64 from IntWalk.i64_in _ (by omega)]); (try rw [show wrap64 (rm * 64) = rm * 64 by unfold wrap64; omega]); (try rw [show IntKind.i64.wrap (rn * 8) = rn * 8 from IntWalk.i64_in _ (by omega)]); (try rw [show wrap64 (rn * 8) = rn * 8 by unfold wrap64; omega]); (try rw [show IntKind.i64.wrap (rd) = rd from IntWalk.i64_in _ (by omega)]); (try rw [show wrap64 (rd) = rd by unfold wrap64; omega]); rw [Cm.or_join (23040) (rm * 64) 9 (by omega) (by omega) (by omega) (by omega) (by omega) (by omega), Cm.or_join (23040 + rm * 64) (rn * 8) 6 (by omega) (by omega) (by omega) (by omega) (by omega) (by omega), Cm.or_join (23040 + rm * 64 + rn * 8) (rd) 3 (by omega) (by omega) (by omega) (by omega) (by omega) (by omega)]; all_goals (try omega))
set_option linter.unusedSimpArgs false in
set_option maxRecDepth 100000 in
set_option maxHeartbeats 4000000 in
theorem load28_2 (cond rd rn rm imm list : Int) (s : Bool) (w : World)  : Calls Tryd.prog 25 #[.agg #[.int .i64 28, .int .i64 cond, .int .i64 rd, .int .i64 rn, .int .i64 rm, .int .i64 imm, .int .i64 2, .int .i64 list, .bool s]] w fun e w' => Okay e (Nm.loadI ⟨28, cond, rd, rn, rm, imm, 2, list, s⟩) ∧ Below w.heap.size w w' := by
  have hI := Lib.hid (Held.start w #[.int .i64 28, .int .i64 cond, .int .i64 rd, .int .i64 rn, .int .i64 rm, .int .i64 imm, .int .i64 2, .int .i64 list, .bool s] 23)
  rcases chain1 (Nm.low rd && (Nm.low rn && Nm.low rm)) with h1 | h1
  all_goals
    go_enter Tryd.func25, Tryd.ntmps25
    go_wp2_with fail
    refine wp_region_idx 21 [true, true, true, true, true, true, true, true, true, true, true, true, true, true, true, true, true, true, false, false, true, false] (S := (fun W => Held w.heap.size #[.int .i64 28, .int .i64 cond, .int .i64 rd, .int .i64 rn, .int .i64 rm, .int .i64 imm, .int .i64 2, .int .i64 list, .bool s] w W)) (by kernel_rfl) (by kernel_rfl) (fun _ _ d _ _ h => by cases d <;> exact h) (by (repeat (first | exact hI.out | apply Held.drewn | apply Held.drew | apply Held.alloc))) ?_
    simp only [List.zip_cons_cons, List.zip_nil_left]
    repeat (first
      | ((refine idx_pure rfl ?_ ?_ ?_; rotate_left; · (intro W hSw; (try dsimp only at hSw); obtain ⟨hq1, hq2, _⟩ := hSw; go_simp) <;> with_reducible rfl); (try simp only [Act.put, List.setIfInBounds_toArray, List.set_cons_zero, List.set_cons_succ]))
      | (refine idx_no rfl rfl rfl ?_; (try simp only [Act.put, List.setIfInBounds_toArray, List.set_cons_zero, List.set_cons_succ]))
      | ((refine idx_yes rfl rfl rfl ?_ ?_ ?_; rotate_left; · (intro W hSw; (try dsimp only at hSw); obtain ⟨hq1, hq2, _⟩ := hSw; go_simp) <;> with_reducible rfl); (try simp only [Act.put, List.setIfInBounds_toArray, List.set_cons_zero, List.set_cons_succ]))
      | (refine idx_call_no rfl rfl rfl ?_; (try simp only [Act.put, List.setIfInBounds_toArray, List.set_cons_zero, List.set_cons_succ]))
      | (refine idx_call rfl (fun K hK => ?_); go_simp; first | (refine hK.out _ _ (by (repeat (first | exact hI.out | apply Held.drewn | apply Held.drew | apply Held.alloc))) ?_; clear hK K; (try simp only [Act.put, List.setIfInBounds_toArray, List.set_cons_zero, List.set_cons_succ])) | (refine (rlows_3 _ rd rn rm _ (by first | exact cell_at0 _ _ _ _ 0 (by simp) | exact cell_at _ _ _ _ _ 0 (by simp)) (by first | exact cell_at0 _ _ _ _ 1 (by simp) | exact cell_at _ _ _ _ _ 1 (by simp)) (by first | exact cell_at0 _ _ _ _ 2 (by simp) | exact cell_at _ _ _ _ _ 2 (by simp))).mono ?_; rintro e w' ⟨rfl, nl, rfl⟩; go_wp2_with fail; refine hK.out _ _ (by (repeat (first | exact hI.out | apply Held.drewn | apply Held.drew | apply Held.alloc))) ?_; clear hK K; (try simp only [Act.put, List.setIfInBounds_toArray, List.set_cons_zero, List.set_cons_succ])))
      | (refine idx_call_yes rfl rfl rfl (fun K hK => ?_); go_simp; first | (refine hK.out _ _ (by (repeat (first | exact hI.out | apply Held.drewn | apply Held.drew | apply Held.alloc))) ?_; clear hK K; (try simp only [Act.put, List.setIfInBounds_toArray, List.set_cons_zero, List.set_cons_succ])) | (refine (rlows_3 _ rd rn rm _ (by first | exact cell_at0 _ _ _ _ 0 (by simp) | exact cell_at _ _ _ _ _ 0 (by simp)) (by first | exact cell_at0 _ _ _ _ 1 (by simp) | exact cell_at _ _ _ _ _ 1 (by simp)) (by first | exact cell_at0 _ _ _ _ 2 (by simp) | exact cell_at _ _ _ _ _ 2 (by simp))).mono ?_; rintro e w' ⟨rfl, nl, rfl⟩; go_wp2_with fail; refine hK.out _ _ (by (repeat (first | exact hI.out | apply Held.drewn | apply Held.drew | apply Held.alloc))) ?_; clear hK K; (try simp only [Act.put, List.setIfInBounds_toArray, List.set_cons_zero, List.set_cons_succ]))))
    refine idx_end ?_
    go_wp2
    go_ret2
    refine ⟨?_, Held.bel (b := w.heap.size) (A := #[.int .i64 28, .int .i64 cond, .int .i64 rd, .int .i64 rn, .int .i64 rm, .int .i64 imm, .int .i64 2, .int .i64 list, .bool s]) (by (repeat (first | exact hI.out | apply Held.drewn | apply Held.drew | apply Held.alloc)))⟩
    first
      | (exact okay_none (by unfold Nm.loadI; dsimp only; (try simp only [Nm.opt, *]); all_goals rfl))
      | (refine okay_some (B := 20480 + rm * 64 + rn * 8 + rd) (by unfold Nm.loadI; dsimp only; (try simp only [Nm.opt, *]); all_goals rfl) ?_; simp only [Bool.and_eq_true] at h1; have r0 := Nm.low_is h1.1; have r1 := Nm.low_is h1.2.1; have r2 := Nm.low_is h1.2.2; (try rw [show IntKind.i64.wrap (rm * 64) = rm * 64 from IntWalk.i64_in _ (by omega)]); (try rw [show wrap64 (rm * 64) = rm * 64 by unfold wrap64; omega]); (try rw [show IntKind.i64.wrap (rn * 8) = rn * 8 from IntWalk.i64_in _ (by omega)]); (try rw [show wrap64 (rn * 8) = rn * 8 by unfold wrap64; omega]); (try rw [show IntKind.i64.wrap (rd) = rd from IntWalk.i64_in _ (by omega)]); (try rw [show wrap64 (rd) = rd by unfold wrap64; omega]); rw [Cm.or_join (20480) (rm * 64) 9 (by omega) (by omega) (by omega) (by omega) (by omega) (by omega), Cm.or_join (20480 + rm * 64) (rn * 8) 6 (by omega) (by omega) (by omega) (by omega) (by omega) (by omega), Cm.or_join (20480 + rm * 64 + rn * 8) (rd) 3 (by omega) (by omega) (by omega) (by omega) (by omega) (by omega)]; all_goals (try omega))
set_option linter.unusedSimpArgs false in
set_option maxRecDepth 100000 in
set_option maxHeartbeats 4000000 in
theorem load29_2 (cond rd rn rm imm list : Int) (s : Bool) (w : World)  : Calls Tryd.prog 25 #[.agg #[.int .i64 29, .int .i64 cond, .int .i64 rd, .int .i64 rn, .int .i64 rm, .int .i64 imm, .int .i64 2, .int .i64 list, .bool s]] w fun e w' => Okay e (Nm.loadI ⟨29, cond, rd, rn, rm, imm, 2, list, s⟩) ∧ Below w.heap.size w w' := by
  have hI := Lib.hid (Held.start w #[.int .i64 29, .int .i64 cond, .int .i64 rd, .int .i64 rn, .int .i64 rm, .int .i64 imm, .int .i64 2, .int .i64 list, .bool s] 23)
  rcases chain1 (Nm.low rd && (Nm.low rn && Nm.low rm)) with h1 | h1
  all_goals
    go_enter Tryd.func25, Tryd.ntmps25
    go_wp2_with fail
    refine wp_region_idx 21 [true, true, true, true, true, true, true, true, true, true, true, true, true, true, true, true, true, true, false, false, true, false] (S := (fun W => Held w.heap.size #[.int .i64 29, .int .i64 cond, .int .i64 rd, .int .i64 rn, .int .i64 rm, .int .i64 imm, .int .i64 2, .int .i64 list, .bool s] w W)) (by kernel_rfl) (by kernel_rfl) (fun _ _ d _ _ h => by cases d <;> exact h) (by (repeat (first | exact hI.out | apply Held.drewn | apply Held.drew | apply Held.alloc))) ?_
    simp only [List.zip_cons_cons, List.zip_nil_left]
    repeat (first
      | ((refine idx_pure rfl ?_ ?_ ?_; rotate_left; · (intro W hSw; (try dsimp only at hSw); obtain ⟨hq1, hq2, _⟩ := hSw; go_simp) <;> with_reducible rfl); (try simp only [Act.put, List.setIfInBounds_toArray, List.set_cons_zero, List.set_cons_succ]))
      | (refine idx_no rfl rfl rfl ?_; (try simp only [Act.put, List.setIfInBounds_toArray, List.set_cons_zero, List.set_cons_succ]))
      | ((refine idx_yes rfl rfl rfl ?_ ?_ ?_; rotate_left; · (intro W hSw; (try dsimp only at hSw); obtain ⟨hq1, hq2, _⟩ := hSw; go_simp) <;> with_reducible rfl); (try simp only [Act.put, List.setIfInBounds_toArray, List.set_cons_zero, List.set_cons_succ]))
      | (refine idx_call_no rfl rfl rfl ?_; (try simp only [Act.put, List.setIfInBounds_toArray, List.set_cons_zero, List.set_cons_succ]))
      | (refine idx_call rfl (fun K hK => ?_); go_simp; first | (refine hK.out _ _ (by (repeat (first | exact hI.out | apply Held.drewn | apply Held.drew | apply Held.alloc))) ?_; clear hK K; (try simp only [Act.put, List.setIfInBounds_toArray, List.set_cons_zero, List.set_cons_succ])) | (refine (rlows_3 _ rd rn rm _ (by first | exact cell_at0 _ _ _ _ 0 (by simp) | exact cell_at _ _ _ _ _ 0 (by simp)) (by first | exact cell_at0 _ _ _ _ 1 (by simp) | exact cell_at _ _ _ _ _ 1 (by simp)) (by first | exact cell_at0 _ _ _ _ 2 (by simp) | exact cell_at _ _ _ _ _ 2 (by simp))).mono ?_; rintro e w' ⟨rfl, nl, rfl⟩; go_wp2_with fail; refine hK.out _ _ (by (repeat (first | exact hI.out | apply Held.drewn | apply Held.drew | apply Held.alloc))) ?_; clear hK K; (try simp only [Act.put, List.setIfInBounds_toArray, List.set_cons_zero, List.set_cons_succ])))
      | (refine idx_call_yes rfl rfl rfl (fun K hK => ?_); go_simp; first | (refine hK.out _ _ (by (repeat (first | exact hI.out | apply Held.drewn | apply Held.drew | apply Held.alloc))) ?_; clear hK K; (try simp only [Act.put, List.setIfInBounds_toArray, List.set_cons_zero, List.set_cons_succ])) | (refine (rlows_3 _ rd rn rm _ (by first | exact cell_at0 _ _ _ _ 0 (by simp) | exact cell_at _ _ _ _ _ 0 (by simp)) (by first | exact cell_at0 _ _ _ _ 1 (by simp) | exact cell_at _ _ _ _ _ 1 (by simp)) (by first | exact cell_at0 _ _ _ _ 2 (by simp) | exact cell_at _ _ _ _ _ 2 (by simp))).mono ?_; rintro e w' ⟨rfl, nl, rfl⟩; go_wp2_with fail; refine hK.out _ _ (by (repeat (first | exact hI.out | apply Held.drewn | apply Held.drew | apply Held.alloc))) ?_; clear hK K; (try simp only [Act.put, List.setIfInBounds_toArray, List.set_cons_zero, List.set_cons_succ]))))
    refine idx_end ?_
    go_wp2
    go_ret2
    refine ⟨?_, Held.bel (b := w.heap.size) (A := #[.int .i64 29, .int .i64 cond, .int .i64 rd, .int .i64 rn, .int .i64 rm, .int .i64 imm, .int .i64 2, .int .i64 list, .bool s]) (by (repeat (first | exact hI.out | apply Held.drewn | apply Held.drew | apply Held.alloc)))⟩
    first
      | (exact okay_none (by unfold Nm.loadI; dsimp only; (try simp only [Nm.opt, *]); all_goals rfl))
      | (refine okay_some (B := 21504 + rm * 64 + rn * 8 + rd) (by unfold Nm.loadI; dsimp only; (try simp only [Nm.opt, *]); all_goals rfl) ?_; simp only [Bool.and_eq_true] at h1; have r0 := Nm.low_is h1.1; have r1 := Nm.low_is h1.2.1; have r2 := Nm.low_is h1.2.2; (try rw [show IntKind.i64.wrap (rm * 64) = rm * 64 from IntWalk.i64_in _ (by omega)]); (try rw [show wrap64 (rm * 64) = rm * 64 by unfold wrap64; omega]); (try rw [show IntKind.i64.wrap (rn * 8) = rn * 8 from IntWalk.i64_in _ (by omega)]); (try rw [show wrap64 (rn * 8) = rn * 8 by unfold wrap64; omega]); (try rw [show IntKind.i64.wrap (rd) = rd from IntWalk.i64_in _ (by omega)]); (try rw [show wrap64 (rd) = rd by unfold wrap64; omega]); rw [Cm.or_join (21504) (rm * 64) 9 (by omega) (by omega) (by omega) (by omega) (by omega) (by omega), Cm.or_join (21504 + rm * 64) (rn * 8) 6 (by omega) (by omega) (by omega) (by omega) (by omega) (by omega), Cm.or_join (21504 + rm * 64 + rn * 8) (rd) 3 (by omega) (by omega) (by omega) (by omega) (by omega) (by omega)]; all_goals (try omega))
set_option linter.unusedSimpArgs false in
set_option maxRecDepth 100000 in
set_option maxHeartbeats 4000000 in
theorem load30_2 (cond rd rn rm imm list : Int) (s : Bool) (w : World)  : Calls Tryd.prog 25 #[.agg #[.int .i64 30, .int .i64 cond, .int .i64 rd, .int .i64 rn, .int .i64 rm, .int .i64 imm, .int .i64 2, .int .i64 list, .bool s]] w fun e w' => Okay e (Nm.loadI ⟨30, cond, rd, rn, rm, imm, 2, list, s⟩) ∧ Below w.heap.size w w' := by
  have hI := Lib.hid (Held.start w #[.int .i64 30, .int .i64 cond, .int .i64 rd, .int .i64 rn, .int .i64 rm, .int .i64 imm, .int .i64 2, .int .i64 list, .bool s] 23)
  rcases chain1 (Nm.low rd && (Nm.low rn && Nm.low rm)) with h1 | h1
  all_goals
    go_enter Tryd.func25, Tryd.ntmps25
    go_wp2_with fail
    refine wp_region_idx 21 [true, true, true, true, true, true, true, true, true, true, true, true, true, true, true, true, true, true, false, false, true, false] (S := (fun W => Held w.heap.size #[.int .i64 30, .int .i64 cond, .int .i64 rd, .int .i64 rn, .int .i64 rm, .int .i64 imm, .int .i64 2, .int .i64 list, .bool s] w W)) (by kernel_rfl) (by kernel_rfl) (fun _ _ d _ _ h => by cases d <;> exact h) (by (repeat (first | exact hI.out | apply Held.drewn | apply Held.drew | apply Held.alloc))) ?_
    simp only [List.zip_cons_cons, List.zip_nil_left]
    repeat (first
      | ((refine idx_pure rfl ?_ ?_ ?_; rotate_left; · (intro W hSw; (try dsimp only at hSw); obtain ⟨hq1, hq2, _⟩ := hSw; go_simp) <;> with_reducible rfl); (try simp only [Act.put, List.setIfInBounds_toArray, List.set_cons_zero, List.set_cons_succ]))
      | (refine idx_no rfl rfl rfl ?_; (try simp only [Act.put, List.setIfInBounds_toArray, List.set_cons_zero, List.set_cons_succ]))
      | ((refine idx_yes rfl rfl rfl ?_ ?_ ?_; rotate_left; · (intro W hSw; (try dsimp only at hSw); obtain ⟨hq1, hq2, _⟩ := hSw; go_simp) <;> with_reducible rfl); (try simp only [Act.put, List.setIfInBounds_toArray, List.set_cons_zero, List.set_cons_succ]))
      | (refine idx_call_no rfl rfl rfl ?_; (try simp only [Act.put, List.setIfInBounds_toArray, List.set_cons_zero, List.set_cons_succ]))
      | (refine idx_call rfl (fun K hK => ?_); go_simp; first | (refine hK.out _ _ (by (repeat (first | exact hI.out | apply Held.drewn | apply Held.drew | apply Held.alloc))) ?_; clear hK K; (try simp only [Act.put, List.setIfInBounds_toArray, List.set_cons_zero, List.set_cons_succ])) | (refine (rlows_3 _ rd rn rm _ (by first | exact cell_at0 _ _ _ _ 0 (by simp) | exact cell_at _ _ _ _ _ 0 (by simp)) (by first | exact cell_at0 _ _ _ _ 1 (by simp) | exact cell_at _ _ _ _ _ 1 (by simp)) (by first | exact cell_at0 _ _ _ _ 2 (by simp) | exact cell_at _ _ _ _ _ 2 (by simp))).mono ?_; rintro e w' ⟨rfl, nl, rfl⟩; go_wp2_with fail; refine hK.out _ _ (by (repeat (first | exact hI.out | apply Held.drewn | apply Held.drew | apply Held.alloc))) ?_; clear hK K; (try simp only [Act.put, List.setIfInBounds_toArray, List.set_cons_zero, List.set_cons_succ])))
      | (refine idx_call_yes rfl rfl rfl (fun K hK => ?_); go_simp; first | (refine hK.out _ _ (by (repeat (first | exact hI.out | apply Held.drewn | apply Held.drew | apply Held.alloc))) ?_; clear hK K; (try simp only [Act.put, List.setIfInBounds_toArray, List.set_cons_zero, List.set_cons_succ])) | (refine (rlows_3 _ rd rn rm _ (by first | exact cell_at0 _ _ _ _ 0 (by simp) | exact cell_at _ _ _ _ _ 0 (by simp)) (by first | exact cell_at0 _ _ _ _ 1 (by simp) | exact cell_at _ _ _ _ _ 1 (by simp)) (by first | exact cell_at0 _ _ _ _ 2 (by simp) | exact cell_at _ _ _ _ _ 2 (by simp))).mono ?_; rintro e w' ⟨rfl, nl, rfl⟩; go_wp2_with fail; refine hK.out _ _ (by (repeat (first | exact hI.out | apply Held.drewn | apply Held.drew | apply Held.alloc))) ?_; clear hK K; (try simp only [Act.put, List.setIfInBounds_toArray, List.set_cons_zero, List.set_cons_succ]))))
    refine idx_end ?_
    go_wp2
    go_ret2
    refine ⟨?_, Held.bel (b := w.heap.size) (A := #[.int .i64 30, .int .i64 cond, .int .i64 rd, .int .i64 rn, .int .i64 rm, .int .i64 imm, .int .i64 2, .int .i64 list, .bool s]) (by (repeat (first | exact hI.out | apply Held.drewn | apply Held.drew | apply Held.alloc)))⟩
    first
      | (exact okay_none (by unfold Nm.loadI; dsimp only; (try simp only [Nm.opt, *]); all_goals rfl))
      | (refine okay_some (B := 20992 + rm * 64 + rn * 8 + rd) (by unfold Nm.loadI; dsimp only; (try simp only [Nm.opt, *]); all_goals rfl) ?_; simp only [Bool.and_eq_true] at h1; have r0 := Nm.low_is h1.1; have r1 := Nm.low_is h1.2.1; have r2 := Nm.low_is h1.2.2; (try rw [show IntKind.i64.wrap (rm * 64) = rm * 64 from IntWalk.i64_in _ (by omega)]); (try rw [show wrap64 (rm * 64) = rm * 64 by unfold wrap64; omega]); (try rw [show IntKind.i64.wrap (rn * 8) = rn * 8 from IntWalk.i64_in _ (by omega)]); (try rw [show wrap64 (rn * 8) = rn * 8 by unfold wrap64; omega]); (try rw [show IntKind.i64.wrap (rd) = rd from IntWalk.i64_in _ (by omega)]); (try rw [show wrap64 (rd) = rd by unfold wrap64; omega]); rw [Cm.or_join (20992) (rm * 64) 9 (by omega) (by omega) (by omega) (by omega) (by omega) (by omega), Cm.or_join (20992 + rm * 64) (rn * 8) 6 (by omega) (by omega) (by omega) (by omega) (by omega) (by omega), Cm.or_join (20992 + rm * 64 + rn * 8) (rd) 3 (by omega) (by omega) (by omega) (by omega) (by omega) (by omega)]; all_goals (try omega))
end Go.Proofs.YtcphhojdfpedkaaDoor

namespace Go.Proofs.YtcphhojdfpedkaaDoor
open Go.ChangeShapes Go.WideShapes Go.ChangeAt Go.RowKit
set_option linter.unusedSimpArgs false in
set_option maxRecDepth 100000 in
set_option maxHeartbeats 4000000 in
theorem move12_1 (cond rd rn rm imm list : Int) (s : Bool) (f it : Bool) (w : World) (hi0 : 0 ≤ imm) : Calls Tryd.prog 22 #[.agg #[.int .i64 12, .int .i64 cond, .int .i64 rd, .int .i64 rn, .int .i64 rm, .int .i64 imm, .int .i64 1, .int .i64 list, .bool s], .bool f, .bool it] w fun e w' => Okay e (Nm.moveI ⟨12, cond, rd, rn, rm, imm, 1, list, s⟩ f it) ∧ Below w.heap.size w w' := by
  have hI := Lib.hid (Held.start w #[.int .i64 12, .int .i64 cond, .int .i64 rd, .int .i64 rn, .int .i64 rm, .int .i64 imm, .int .i64 1, .int .i64 list, .bool s] 23)
  rcases chain2 (Nm.low rn) (decide (imm ≤ 255)) with h1 | ⟨h1, h2⟩ | ⟨h1, h2⟩
  all_goals
    go_enter Tryd.func22, Tryd.ntmps22
    go_wp2_with fail
    refine wp_region_idx 17 [true, true, true, true, true, true, true, true, true, false, false, true, true, true, true, true, true, false] (S := (fun W => Held w.heap.size #[.int .i64 12, .int .i64 cond, .int .i64 rd, .int .i64 rn, .int .i64 rm, .int .i64 imm, .int .i64 1, .int .i64 list, .bool s] w W)) (by kernel_rfl) (by kernel_rfl) (fun _ _ d _ _ h => by cases d <;> exact h) (by (repeat (first | exact hI.out | apply Held.drewn | apply Held.drew | apply Held.alloc))) ?_
    simp only [List.zip_cons_cons, List.zip_nil_left]
    repeat (first
      | ((refine idx_pure rfl ?_ ?_ ?_; rotate_left; · (intro W hSw; (try dsimp only at hSw); obtain ⟨hq1, hq2, _⟩ := hSw; go_simp) <;> with_reducible rfl); (try simp only [Act.put, List.setIfInBounds_toArray, List.set_cons_zero, List.set_cons_succ]))
      | (refine idx_no rfl rfl rfl ?_; (try simp only [Act.put, List.setIfInBounds_toArray, List.set_cons_zero, List.set_cons_succ]))
      | ((refine idx_yes rfl rfl rfl ?_ ?_ ?_; rotate_left; · (intro W hSw; (try dsimp only at hSw); obtain ⟨hq1, hq2, _⟩ := hSw; go_simp) <;> with_reducible rfl); (try simp only [Act.put, List.setIfInBounds_toArray, List.set_cons_zero, List.set_cons_succ]))
      | (refine idx_call_no rfl rfl rfl ?_; (try simp only [Act.put, List.setIfInBounds_toArray, List.set_cons_zero, List.set_cons_succ]))
      | (refine idx_call rfl (fun K hK => ?_); go_simp; first | (refine hK.out _ _ (by (repeat (first | exact hI.out | apply Held.drewn | apply Held.drew | apply Held.alloc))) ?_; clear hK K; (try simp only [Act.put, List.setIfInBounds_toArray, List.set_cons_zero, List.set_cons_succ])) | (refine (rlows_1 _ rn _ (by first | exact cell_at0 _ _ _ _ 0 (by simp) | exact cell_at _ _ _ _ _ 0 (by simp))).mono ?_; rintro e w' ⟨rfl, nl, rfl⟩; go_wp2_with fail; refine hK.out _ _ (by (repeat (first | exact hI.out | apply Held.drewn | apply Held.drew | apply Held.alloc))) ?_; clear hK K; (try simp only [Act.put, List.setIfInBounds_toArray, List.set_cons_zero, List.set_cons_succ])))
      | (refine idx_call_yes rfl rfl rfl (fun K hK => ?_); go_simp; first | (refine hK.out _ _ (by (repeat (first | exact hI.out | apply Held.drewn | apply Held.drew | apply Held.alloc))) ?_; clear hK K; (try simp only [Act.put, List.setIfInBounds_toArray, List.set_cons_zero, List.set_cons_succ])) | (refine (rlows_1 _ rn _ (by first | exact cell_at0 _ _ _ _ 0 (by simp) | exact cell_at _ _ _ _ _ 0 (by simp))).mono ?_; rintro e w' ⟨rfl, nl, rfl⟩; go_wp2_with fail; refine hK.out _ _ (by (repeat (first | exact hI.out | apply Held.drewn | apply Held.drew | apply Held.alloc))) ?_; clear hK K; (try simp only [Act.put, List.setIfInBounds_toArray, List.set_cons_zero, List.set_cons_succ]))))
    refine idx_end ?_
    go_wp2
    go_ret2
    refine ⟨?_, Held.bel (b := w.heap.size) (A := #[.int .i64 12, .int .i64 cond, .int .i64 rd, .int .i64 rn, .int .i64 rm, .int .i64 imm, .int .i64 1, .int .i64 list, .bool s]) (by (repeat (first | exact hI.out | apply Held.drewn | apply Held.drew | apply Held.alloc)))⟩
    first
      | (exact okay_none (by unfold Nm.moveI; dsimp only; (try simp only [Nm.opt, *]); all_goals rfl))
      | (refine okay_some (B := 10240 + rn * 256 + imm) (by unfold Nm.moveI; dsimp only; (try simp only [Nm.opt, *]); all_goals rfl) ?_; have r0 := Nm.low_is h1; have q255 := of_decide_eq_true h2; (try rw [show IntKind.i64.wrap (rn * 256) = rn * 256 from IntWalk.i64_in _ (by omega)]); (try rw [show wrap64 (rn * 256) = rn * 256 by unfold wrap64; omega]); (try rw [show IntKind.i64.wrap (imm) = imm from IntWalk.i64_in _ (by omega)]); (try rw [show wrap64 (imm) = imm by unfold wrap64; omega]); rw [Cm.or_join (10240) (rn * 256) 11 (by omega) (by omega) (by omega) (by omega) (by omega) (by omega), Cm.or_join (10240 + rn * 256) (imm) 8 (by omega) (by omega) (by omega) (by omega) (by omega) (by omega)]; all_goals (try omega))
set_option linter.unusedSimpArgs false in
set_option maxRecDepth 100000 in
set_option maxHeartbeats 4000000 in
theorem move12_2a (cond rd rn rm imm list : Int) (s : Bool) (f it : Bool) (w : World) (hl : (Nm.low rn && Nm.low rm) = true) : Calls Tryd.prog 22 #[.agg #[.int .i64 12, .int .i64 cond, .int .i64 rd, .int .i64 rn, .int .i64 rm, .int .i64 imm, .int .i64 2, .int .i64 list, .bool s], .bool f, .bool it] w fun e w' => Okay e (Nm.moveI ⟨12, cond, rd, rn, rm, imm, 2, list, s⟩ f it) ∧ Below w.heap.size w w' := by
  have hI := Lib.hid (Held.start w #[.int .i64 12, .int .i64 cond, .int .i64 rd, .int .i64 rn, .int .i64 rm, .int .i64 imm, .int .i64 2, .int .i64 list, .bool s] 23)
  all_goals
    go_enter Tryd.func22, Tryd.ntmps22
    go_wp2_with (first | (go_at_call 50; refine (rlows_2 _ rn rm _ (by first | exact cell_at0 _ _ _ _ 0 (by simp) | exact cell_at _ _ _ _ _ 0 (by simp)) (by first | exact cell_at0 _ _ _ _ 1 (by simp) | exact cell_at _ _ _ _ _ 1 (by simp))).mono ?_; rintro e w' ⟨rfl, nl, rfl⟩))
    go_ret2
    refine ⟨?_, Held.bel (b := w.heap.size) (A := #[.int .i64 12, .int .i64 cond, .int .i64 rd, .int .i64 rn, .int .i64 rm, .int .i64 imm, .int .i64 2, .int .i64 list, .bool s]) (by (repeat (first | exact hI.out | apply Held.drewn | apply Held.drew | apply Held.alloc)))⟩
    first
      | (exact okay_none (by unfold Nm.moveI; dsimp only; (try simp only [Nm.opt, *]); all_goals rfl))
      | (refine okay_some (B := 17024 + rm * 8 + rn) (by unfold Nm.moveI; dsimp only; (try simp only [Nm.opt, *]); all_goals rfl) ?_; simp only [Bool.and_eq_true] at hl; have r0 := Nm.low_is hl.1; have r1 := Nm.low_is hl.2; (try rw [show IntKind.i64.wrap (rm * 8) = rm * 8 from IntWalk.i64_in _ (by omega)]); (try rw [show wrap64 (rm * 8) = rm * 8 by unfold wrap64; omega]); (try rw [show IntKind.i64.wrap (rn) = rn from IntWalk.i64_in _ (by omega)]); (try rw [show wrap64 (rn) = rn by unfold wrap64; omega]); rw [Cm.or_join (17024) (rm * 8) 6 (by omega) (by omega) (by omega) (by omega) (by omega) (by omega), Cm.or_join (17024 + rm * 8) (rn) 3 (by omega) (by omega) (by omega) (by omega) (by omega) (by omega)]; all_goals (try omega))
set_option linter.unusedSimpArgs false in
set_option maxRecDepth 100000 in
set_option maxHeartbeats 4000000 in
theorem move12_2b (cond rd rn rm imm list : Int) (s : Bool) (f it : Bool) (w : World) (hl : (Nm.low rn && Nm.low rm) = false) (hn0 : 0 ≤ rn) (hn1 : rn ≤ 15) (hm0 : 0 ≤ rm) (hm1 : rm ≤ 15)  : Calls Tryd.prog 22 #[.agg #[.int .i64 12, .int .i64 cond, .int .i64 rd, .int .i64 rn, .int .i64 rm, .int .i64 imm, .int .i64 2, .int .i64 list, .bool s], .bool f, .bool it] w fun e w' => Okay e (Nm.moveI ⟨12, cond, rd, rn, rm, imm, 2, list, s⟩ f it) ∧ Below w.heap.size w w' := by
  have hI := Lib.hid (Held.start w #[.int .i64 12, .int .i64 cond, .int .i64 rd, .int .i64 rn, .int .i64 rm, .int .i64 imm, .int .i64 2, .int .i64 list, .bool s] 23)
  all_goals
    go_enter Tryd.func22, Tryd.ntmps22
    go_wp2_with (first | (go_at_call 50; refine (rlows_2 _ rn rm _ (by first | exact cell_at0 _ _ _ _ 0 (by simp) | exact cell_at _ _ _ _ _ 0 (by simp)) (by first | exact cell_at0 _ _ _ _ 1 (by simp) | exact cell_at _ _ _ _ _ 1 (by simp))).mono ?_; rintro e w' ⟨rfl, nl, rfl⟩))
    refine wp_region_idx 9 [true, true, true, true, true, true, false, true, true, false] (S := (fun W => Held w.heap.size #[.int .i64 12, .int .i64 cond, .int .i64 rd, .int .i64 rn, .int .i64 rm, .int .i64 imm, .int .i64 2, .int .i64 list, .bool s] w W)) (by kernel_rfl) (by kernel_rfl) (fun _ _ d _ _ h => by cases d <;> exact h) (by (repeat (first | exact hI.out | apply Held.drewn | apply Held.drew | apply Held.alloc))) ?_
    simp only [List.zip_cons_cons, List.zip_nil_left]
    repeat (first
      | ((refine idx_pure rfl ?_ ?_ ?_; rotate_left; · (intro W hSw; (try dsimp only at hSw); obtain ⟨hq1, hq2, _⟩ := hSw; go_simp) <;> with_reducible rfl); (try simp only [Act.put, List.setIfInBounds_toArray, List.set_cons_zero, List.set_cons_succ]))
      | (refine idx_no rfl rfl rfl ?_; (try simp only [Act.put, List.setIfInBounds_toArray, List.set_cons_zero, List.set_cons_succ]))
      | ((refine idx_yes rfl rfl rfl ?_ ?_ ?_; rotate_left; · (intro W hSw; (try dsimp only at hSw); obtain ⟨hq1, hq2, _⟩ := hSw; go_simp) <;> with_reducible rfl); (try simp only [Act.put, List.setIfInBounds_toArray, List.set_cons_zero, List.set_cons_succ]))
      | (refine idx_call_no rfl rfl rfl ?_; (try simp only [Act.put, List.setIfInBounds_toArray, List.set_cons_zero, List.set_cons_succ]))
      | (refine idx_call rfl (fun K hK => ?_); go_simp; first | (refine hK.out _ _ (by (repeat (first | exact hI.out | apply Held.drewn | apply Held.drew | apply Held.alloc))) ?_; clear hK K; (try simp only [Act.put, List.setIfInBounds_toArray, List.set_cons_zero, List.set_cons_succ])) | (refine (rupper_c rn _ (by omega) (by omega)).mono ?_; rintro e w' ⟨rfl, nu, rfl⟩; go_wp2_with fail; refine hK.out _ _ (by (repeat (first | exact hI.out | apply Held.drewn | apply Held.drew | apply Held.alloc))) ?_; clear hK K; (try simp only [Act.put, List.setIfInBounds_toArray, List.set_cons_zero, List.set_cons_succ])))
      | (refine idx_call_yes rfl rfl rfl (fun K hK => ?_); go_simp; first | (refine hK.out _ _ (by (repeat (first | exact hI.out | apply Held.drewn | apply Held.drew | apply Held.alloc))) ?_; clear hK K; (try simp only [Act.put, List.setIfInBounds_toArray, List.set_cons_zero, List.set_cons_succ])) | (refine (rupper_c rn _ (by omega) (by omega)).mono ?_; rintro e w' ⟨rfl, nu, rfl⟩; go_wp2_with fail; refine hK.out _ _ (by (repeat (first | exact hI.out | apply Held.drewn | apply Held.drew | apply Held.alloc))) ?_; clear hK K; (try simp only [Act.put, List.setIfInBounds_toArray, List.set_cons_zero, List.set_cons_succ]))))
    refine idx_end ?_
    go_wp2
    go_ret2
    refine ⟨?_, Held.bel (b := w.heap.size) (A := #[.int .i64 12, .int .i64 cond, .int .i64 rd, .int .i64 rn, .int .i64 rm, .int .i64 imm, .int .i64 2, .int .i64 list, .bool s]) (by (repeat (first | exact hI.out | apply Held.drewn | apply Held.drew | apply Held.alloc)))⟩
    first
      | (exact okay_none (by unfold Nm.moveI; dsimp only; (try simp only [Nm.opt, *]); all_goals rfl))
      | (refine okay_some (B := 17664 + rm * 8 + Nm.up rn) (by unfold Nm.moveI; dsimp only; (try simp only [Nm.opt, *]); all_goals rfl) ?_; (try rw [show IntKind.i64.wrap (rm * 8) = rm * 8 from IntWalk.i64_in _ (by omega)]); (try rw [show wrap64 (rm * 8) = rm * 8 by unfold wrap64; omega]); rw [Cm.or_join (17664) (rm * 8) 7 (by omega) (by omega) (by omega) (by omega) (by omega) (by omega)]; rw [(or_up rm rn hm0 hm1 hn0 hn1).2.1]; all_goals (try omega))
set_option linter.unusedSimpArgs false in
set_option maxRecDepth 100000 in
set_option maxHeartbeats 4000000 in
theorem move10_1 (cond rd rn rm imm list : Int) (s : Bool) (f it : Bool) (w : World) (hi0 : 0 ≤ imm) : Calls Tryd.prog 22 #[.agg #[.int .i64 10, .int .i64 cond, .int .i64 rd, .int .i64 rn, .int .i64 rm, .int .i64 imm, .int .i64 1, .int .i64 list, .bool s], .bool f, .bool it] w fun e w' => Okay e (Nm.moveI ⟨10, cond, rd, rn, rm, imm, 1, list, s⟩ f it) ∧ Below w.heap.size w w' := by
  have hI := Lib.hid (Held.start w #[.int .i64 10, .int .i64 cond, .int .i64 rd, .int .i64 rn, .int .i64 rm, .int .i64 imm, .int .i64 1, .int .i64 list, .bool s] 23)
  rcases chain3 (Nm.low rd) (decide (imm ≤ 255)) (f) with h1 | ⟨h1, h2⟩ | ⟨h1, h2, h3⟩ | ⟨h1, h2, h3⟩
  all_goals
    go_enter Tryd.func22, Tryd.ntmps22
    go_wp2_with fail
    refine wp_region_idx 20 [true, true, true, true, true, true, true, true, true, false, false, true, true, true, true, true, true, true, true, true, false] (S := (fun W => Held w.heap.size #[.int .i64 10, .int .i64 cond, .int .i64 rd, .int .i64 rn, .int .i64 rm, .int .i64 imm, .int .i64 1, .int .i64 list, .bool s] w W)) (by kernel_rfl) (by kernel_rfl) (fun _ _ d _ _ h => by cases d <;> exact h) (by (repeat (first | exact hI.out | apply Held.drewn | apply Held.drew | apply Held.alloc))) ?_
    simp only [List.zip_cons_cons, List.zip_nil_left]
    repeat (first
      | ((refine idx_pure rfl ?_ ?_ ?_; rotate_left; · (intro W hSw; (try dsimp only at hSw); obtain ⟨hq1, hq2, _⟩ := hSw; go_simp) <;> with_reducible rfl); (try simp only [Act.put, List.setIfInBounds_toArray, List.set_cons_zero, List.set_cons_succ]))
      | (refine idx_no rfl rfl rfl ?_; (try simp only [Act.put, List.setIfInBounds_toArray, List.set_cons_zero, List.set_cons_succ]))
      | ((refine idx_yes rfl rfl rfl ?_ ?_ ?_; rotate_left; · (intro W hSw; (try dsimp only at hSw); obtain ⟨hq1, hq2, _⟩ := hSw; go_simp) <;> with_reducible rfl); (try simp only [Act.put, List.setIfInBounds_toArray, List.set_cons_zero, List.set_cons_succ]))
      | (refine idx_call_no rfl rfl rfl ?_; (try simp only [Act.put, List.setIfInBounds_toArray, List.set_cons_zero, List.set_cons_succ]))
      | (refine idx_call rfl (fun K hK => ?_); go_simp; first | (refine hK.out _ _ (by (repeat (first | exact hI.out | apply Held.drewn | apply Held.drew | apply Held.alloc))) ?_; clear hK K; (try simp only [Act.put, List.setIfInBounds_toArray, List.set_cons_zero, List.set_cons_succ])) | (refine (rlows_1 _ rd _ (by first | exact cell_at0 _ _ _ _ 0 (by simp) | exact cell_at _ _ _ _ _ 0 (by simp))).mono ?_; rintro e w' ⟨rfl, nl, rfl⟩; go_wp2_with fail; refine hK.out _ _ (by (repeat (first | exact hI.out | apply Held.drewn | apply Held.drew | apply Held.alloc))) ?_; clear hK K; (try simp only [Act.put, List.setIfInBounds_toArray, List.set_cons_zero, List.set_cons_succ])))
      | (refine idx_call_yes rfl rfl rfl (fun K hK => ?_); go_simp; first | (refine hK.out _ _ (by (repeat (first | exact hI.out | apply Held.drewn | apply Held.drew | apply Held.alloc))) ?_; clear hK K; (try simp only [Act.put, List.setIfInBounds_toArray, List.set_cons_zero, List.set_cons_succ])) | (refine (rlows_1 _ rd _ (by first | exact cell_at0 _ _ _ _ 0 (by simp) | exact cell_at _ _ _ _ _ 0 (by simp))).mono ?_; rintro e w' ⟨rfl, nl, rfl⟩; go_wp2_with fail; refine hK.out _ _ (by (repeat (first | exact hI.out | apply Held.drewn | apply Held.drew | apply Held.alloc))) ?_; clear hK K; (try simp only [Act.put, List.setIfInBounds_toArray, List.set_cons_zero, List.set_cons_succ]))))
    refine idx_end ?_
    go_wp2
    go_ret2
    refine ⟨?_, Held.bel (b := w.heap.size) (A := #[.int .i64 10, .int .i64 cond, .int .i64 rd, .int .i64 rn, .int .i64 rm, .int .i64 imm, .int .i64 1, .int .i64 list, .bool s]) (by (repeat (first | exact hI.out | apply Held.drewn | apply Held.drew | apply Held.alloc)))⟩
    first
      | (exact okay_none (by unfold Nm.moveI; dsimp only; (try simp only [Nm.opt, *]); all_goals rfl))
      | (refine okay_some (B := 8192 + rd * 256 + imm) (by unfold Nm.moveI; dsimp only; (try simp only [Nm.opt, *]); all_goals rfl) ?_; have r0 := Nm.low_is h1; have q255 := of_decide_eq_true h2; (try rw [show IntKind.i64.wrap (rd * 256) = rd * 256 from IntWalk.i64_in _ (by omega)]); (try rw [show wrap64 (rd * 256) = rd * 256 by unfold wrap64; omega]); (try rw [show IntKind.i64.wrap (imm) = imm from IntWalk.i64_in _ (by omega)]); (try rw [show wrap64 (imm) = imm by unfold wrap64; omega]); rw [Cm.or_join (8192) (rd * 256) 11 (by omega) (by omega) (by omega) (by omega) (by omega) (by omega), Cm.or_join (8192 + rd * 256) (imm) 8 (by omega) (by omega) (by omega) (by omega) (by omega) (by omega)]; all_goals (try omega))
set_option linter.unusedSimpArgs false in
set_option maxRecDepth 100000 in
set_option maxHeartbeats 4000000 in
theorem move10_2s (cond rd rn rm imm list : Int) (f it : Bool) (w : World)  : Calls Tryd.prog 22 #[.agg #[.int .i64 10, .int .i64 cond, .int .i64 rd, .int .i64 rn, .int .i64 rm, .int .i64 imm, .int .i64 2, .int .i64 list, .bool true], .bool f, .bool it] w fun e w' => Okay e (Nm.moveI ⟨10, cond, rd, rn, rm, imm, 2, list, true⟩ f it) ∧ Below w.heap.size w w' := by
  have hI := Lib.hid (Held.start w #[.int .i64 10, .int .i64 cond, .int .i64 rd, .int .i64 rn, .int .i64 rm, .int .i64 imm, .int .i64 2, .int .i64 list, .bool true] 23)
  rcases chain2 (!it) (Nm.low rd && Nm.low rm) with h1 | ⟨h1, h2⟩ | ⟨h1, h2⟩
  all_goals
    go_enter Tryd.func22, Tryd.ntmps22
    go_wp2_with fail
    refine wp_region_idx 17 [true, true, true, true, true, true, true, true, true, true, true, true, true, false, false, true, true, false] (S := (fun W => Held w.heap.size #[.int .i64 10, .int .i64 cond, .int .i64 rd, .int .i64 rn, .int .i64 rm, .int .i64 imm, .int .i64 2, .int .i64 list, .bool true] w W)) (by kernel_rfl) (by kernel_rfl) (fun _ _ d _ _ h => by cases d <;> exact h) (by (repeat (first | exact hI.out | apply Held.drewn | apply Held.drew | apply Held.alloc))) ?_
    simp only [List.zip_cons_cons, List.zip_nil_left]
    repeat (first
      | ((refine idx_pure rfl ?_ ?_ ?_; rotate_left; · (intro W hSw; (try dsimp only at hSw); obtain ⟨hq1, hq2, _⟩ := hSw; go_simp) <;> with_reducible rfl); (try simp only [Act.put, List.setIfInBounds_toArray, List.set_cons_zero, List.set_cons_succ]))
      | (refine idx_no rfl rfl rfl ?_; (try simp only [Act.put, List.setIfInBounds_toArray, List.set_cons_zero, List.set_cons_succ]))
      | ((refine idx_yes rfl rfl rfl ?_ ?_ ?_; rotate_left; · (intro W hSw; (try dsimp only at hSw); obtain ⟨hq1, hq2, _⟩ := hSw; go_simp) <;> with_reducible rfl); (try simp only [Act.put, List.setIfInBounds_toArray, List.set_cons_zero, List.set_cons_succ]))
      | (refine idx_call_no rfl rfl rfl ?_; (try simp only [Act.put, List.setIfInBounds_toArray, List.set_cons_zero, List.set_cons_succ]))
      | (refine idx_call rfl (fun K hK => ?_); go_simp; first | (refine hK.out _ _ (by (repeat (first | exact hI.out | apply Held.drewn | apply Held.drew | apply Held.alloc))) ?_; clear hK K; (try simp only [Act.put, List.setIfInBounds_toArray, List.set_cons_zero, List.set_cons_succ])) | (refine (rlows_2 _ rd rm _ (by first | exact cell_at0 _ _ _ _ 0 (by simp) | exact cell_at _ _ _ _ _ 0 (by simp)) (by first | exact cell_at0 _ _ _ _ 1 (by simp) | exact cell_at _ _ _ _ _ 1 (by simp))).mono ?_; rintro e w' ⟨rfl, nl, rfl⟩; go_wp2_with fail; refine hK.out _ _ (by (repeat (first | exact hI.out | apply Held.drewn | apply Held.drew | apply Held.alloc))) ?_; clear hK K; (try simp only [Act.put, List.setIfInBounds_toArray, List.set_cons_zero, List.set_cons_succ])))
      | (refine idx_call_yes rfl rfl rfl (fun K hK => ?_); go_simp; first | (refine hK.out _ _ (by (repeat (first | exact hI.out | apply Held.drewn | apply Held.drew | apply Held.alloc))) ?_; clear hK K; (try simp only [Act.put, List.setIfInBounds_toArray, List.set_cons_zero, List.set_cons_succ])) | (refine (rlows_2 _ rd rm _ (by first | exact cell_at0 _ _ _ _ 0 (by simp) | exact cell_at _ _ _ _ _ 0 (by simp)) (by first | exact cell_at0 _ _ _ _ 1 (by simp) | exact cell_at _ _ _ _ _ 1 (by simp))).mono ?_; rintro e w' ⟨rfl, nl, rfl⟩; go_wp2_with fail; refine hK.out _ _ (by (repeat (first | exact hI.out | apply Held.drewn | apply Held.drew | apply Held.alloc))) ?_; clear hK K; (try simp only [Act.put, List.setIfInBounds_toArray, List.set_cons_zero, List.set_cons_succ]))))
    refine idx_end ?_
    go_wp2
    go_ret2
    refine ⟨?_, Held.bel (b := w.heap.size) (A := #[.int .i64 10, .int .i64 cond, .int .i64 rd, .int .i64 rn, .int .i64 rm, .int .i64 imm, .int .i64 2, .int .i64 list, .bool true]) (by (repeat (first | exact hI.out | apply Held.drewn | apply Held.drew | apply Held.alloc)))⟩
    first
      | (exact okay_none (by unfold Nm.moveI; dsimp only; (try simp only [Nm.opt, *]); all_goals rfl))
      | (refine okay_some (B := rm * 8 + rd) (by unfold Nm.moveI; dsimp only; (try simp only [Nm.opt, *]); all_goals rfl) ?_; simp only [Bool.and_eq_true] at h2; have r0 := Nm.low_is h2.1; have r1 := Nm.low_is h2.2; (try rw [show IntKind.i64.wrap (rm * 8) = rm * 8 from IntWalk.i64_in _ (by omega)]); (try rw [show wrap64 (rm * 8) = rm * 8 by unfold wrap64; omega]); (try rw [show IntKind.i64.wrap (rd) = rd from IntWalk.i64_in _ (by omega)]); (try rw [show wrap64 (rd) = rd by unfold wrap64; omega]); rw [Cm.or_join (rm * 8) (rd) 3 (by omega) (by omega) (by omega) (by omega) (by omega) (by omega)]; all_goals (try omega))
set_option linter.unusedSimpArgs false in
set_option maxRecDepth 100000 in
set_option maxHeartbeats 4000000 in
theorem move10_2n (cond rd rn rm imm list : Int) (f it : Bool) (w : World) (hd0 : 0 ≤ rd) (hd1 : rd ≤ 15) (hm0 : 0 ≤ rm) (hm1 : rm ≤ 15)  : Calls Tryd.prog 22 #[.agg #[.int .i64 10, .int .i64 cond, .int .i64 rd, .int .i64 rn, .int .i64 rm, .int .i64 imm, .int .i64 2, .int .i64 list, .bool false], .bool f, .bool it] w fun e w' => Okay e (Nm.moveI ⟨10, cond, rd, rn, rm, imm, 2, list, false⟩ f it) ∧ Below w.heap.size w w' := by
  have hI := Lib.hid (Held.start w #[.int .i64 10, .int .i64 cond, .int .i64 rd, .int .i64 rn, .int .i64 rm, .int .i64 imm, .int .i64 2, .int .i64 list, .bool false] 23)
  all_goals
    go_enter Tryd.func22, Tryd.ntmps22
    go_wp2_with fail
    refine wp_region_idx 9 [true, true, true, true, true, true, false, true, true, false] (S := (fun W => Held w.heap.size #[.int .i64 10, .int .i64 cond, .int .i64 rd, .int .i64 rn, .int .i64 rm, .int .i64 imm, .int .i64 2, .int .i64 list, .bool false] w W)) (by kernel_rfl) (by kernel_rfl) (fun _ _ d _ _ h => by cases d <;> exact h) (by (repeat (first | exact hI.out | apply Held.drewn | apply Held.drew | apply Held.alloc))) ?_
    simp only [List.zip_cons_cons, List.zip_nil_left]
    repeat (first
      | ((refine idx_pure rfl ?_ ?_ ?_; rotate_left; · (intro W hSw; (try dsimp only at hSw); obtain ⟨hq1, hq2, _⟩ := hSw; go_simp) <;> with_reducible rfl); (try simp only [Act.put, List.setIfInBounds_toArray, List.set_cons_zero, List.set_cons_succ]))
      | (refine idx_no rfl rfl rfl ?_; (try simp only [Act.put, List.setIfInBounds_toArray, List.set_cons_zero, List.set_cons_succ]))
      | ((refine idx_yes rfl rfl rfl ?_ ?_ ?_; rotate_left; · (intro W hSw; (try dsimp only at hSw); obtain ⟨hq1, hq2, _⟩ := hSw; go_simp) <;> with_reducible rfl); (try simp only [Act.put, List.setIfInBounds_toArray, List.set_cons_zero, List.set_cons_succ]))
      | (refine idx_call_no rfl rfl rfl ?_; (try simp only [Act.put, List.setIfInBounds_toArray, List.set_cons_zero, List.set_cons_succ]))
      | (refine idx_call rfl (fun K hK => ?_); go_simp; first | (refine hK.out _ _ (by (repeat (first | exact hI.out | apply Held.drewn | apply Held.drew | apply Held.alloc))) ?_; clear hK K; (try simp only [Act.put, List.setIfInBounds_toArray, List.set_cons_zero, List.set_cons_succ])) | (refine (rupper_c rd _ (by omega) (by omega)).mono ?_; rintro e w' ⟨rfl, nu, rfl⟩; go_wp2_with fail; refine hK.out _ _ (by (repeat (first | exact hI.out | apply Held.drewn | apply Held.drew | apply Held.alloc))) ?_; clear hK K; (try simp only [Act.put, List.setIfInBounds_toArray, List.set_cons_zero, List.set_cons_succ])))
      | (refine idx_call_yes rfl rfl rfl (fun K hK => ?_); go_simp; first | (refine hK.out _ _ (by (repeat (first | exact hI.out | apply Held.drewn | apply Held.drew | apply Held.alloc))) ?_; clear hK K; (try simp only [Act.put, List.setIfInBounds_toArray, List.set_cons_zero, List.set_cons_succ])) | (refine (rupper_c rd _ (by omega) (by omega)).mono ?_; rintro e w' ⟨rfl, nu, rfl⟩; go_wp2_with fail; refine hK.out _ _ (by (repeat (first | exact hI.out | apply Held.drewn | apply Held.drew | apply Held.alloc))) ?_; clear hK K; (try simp only [Act.put, List.setIfInBounds_toArray, List.set_cons_zero, List.set_cons_succ]))))
    refine idx_end ?_
    go_wp2
    go_ret2
    refine ⟨?_, Held.bel (b := w.heap.size) (A := #[.int .i64 10, .int .i64 cond, .int .i64 rd, .int .i64 rn, .int .i64 rm, .int .i64 imm, .int .i64 2, .int .i64 list, .bool false]) (by (repeat (first | exact hI.out | apply Held.drewn | apply Held.drew | apply Held.alloc)))⟩
    first
      | (exact okay_none (by unfold Nm.moveI; dsimp only; (try simp only [Nm.opt, *]); all_goals rfl))
      | (refine okay_some (B := 17920 + rm * 8 + Nm.up rd) (by unfold Nm.moveI; dsimp only; (try simp only [Nm.opt, *]); all_goals rfl) ?_; (try rw [show IntKind.i64.wrap (rm * 8) = rm * 8 from IntWalk.i64_in _ (by omega)]); (try rw [show wrap64 (rm * 8) = rm * 8 by unfold wrap64; omega]); rw [Cm.or_join (17920) (rm * 8) 7 (by omega) (by omega) (by omega) (by omega) (by omega) (by omega)]; rw [(or_up rm rd hm0 hm1 hd0 hd1).2.2]; all_goals (try omega))
end Go.Proofs.YtcphhojdfpedkaaDoor
