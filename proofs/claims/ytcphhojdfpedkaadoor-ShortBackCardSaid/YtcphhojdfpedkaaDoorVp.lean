/- Contract of the document's own rest (text by gen_v.py). -/
import Derived.Test.YtcphhojdfpedkaaDoorGc
import Derived.Test.YtcphhojdfpedkaaDoorGj
namespace Go.Proofs.YtcphhojdfpedkaaDoor
open Go.ChangeShapes Go.WideShapes Go.ChangeAt Go.RowKit
set_option linter.unusedSimpArgs false in
set_option maxRecDepth 100000 in
set_option maxHeartbeats 4000000 in
theorem rest40_a (cond rd rn rm imm mode list : Int) (s it : Bool) (w : World) (hi0 : 0 ≤ imm) : Calls Tryd.prog 27 #[.agg #[.int .i64 40, .int .i64 cond, .int .i64 rd, .int .i64 rn, .int .i64 rm, .int .i64 imm, .int .i64 mode, .int .i64 list, .bool s], .bool it] w fun e w' => Okay e (Nm.restI ⟨40, cond, rd, rn, rm, imm, mode, list, s⟩ it) ∧ Below w.heap.size w w' := by
  have hI := Lib.hid (Held.start w #[.int .i64 40, .int .i64 cond, .int .i64 rd, .int .i64 rn, .int .i64 rm, .int .i64 imm, .int .i64 mode, .int .i64 list, .bool s] 23)
  have ht : Int.tmod imm 4 = imm % 4 := Int.tmod_eq_emod_of_nonneg hi0
  have hq : Int.tdiv imm 4 = imm / 4 := Int.tdiv_eq_ediv_of_nonneg hi0
  have hd0 : decide (0 ≤ imm) = true := by simpa using hi0
  rcases chain3 (Nm.low rd) (decide (imm ≤ 1020)) (imm % 4 == 0) with h1 | ⟨h1, h2⟩ | ⟨h1, h2, h3⟩ | ⟨h1, h2, h3⟩
  all_goals
    go_enter Tryd.func27, Tryd.ntmps27
    go_wp2_with fail
    refine wp_region_idx 29 [true, true, true, true, true, true, true, true, true, true, false, false, true, true, true, true, true, true, true, true, true, true, true, true, true, true, true, true, true, false] (S := (fun W => Held w.heap.size #[.int .i64 40, .int .i64 cond, .int .i64 rd, .int .i64 rn, .int .i64 rm, .int .i64 imm, .int .i64 mode, .int .i64 list, .bool s] w W)) (by kernel_rfl) (by kernel_rfl) (fun _ _ d _ _ h => by cases d <;> exact h) (by (repeat (first | exact hI.out | apply Held.drewn | apply Held.drew | apply Held.alloc))) ?_
    simp only [List.zip_cons_cons, List.zip_nil_left]
    repeat (first
      | ((refine idx_pure rfl ?_ ?_ ?_; rotate_left; · (intro W hSw; (try dsimp only at hSw); obtain ⟨hq1, hq2, _⟩ := hSw; go_simp) <;> with_reducible rfl); (try simp only [Act.put, List.setIfInBounds_toArray, List.set_cons_zero, List.set_cons_succ]))
      | (refine idx_no rfl rfl rfl ?_; (try simp only [Act.put, List.setIfInBounds_toArray, List.set_cons_zero, List.set_cons_succ]))
      | ((refine idx_yes rfl rfl rfl ?_ ?_ ?_; rotate_left; · (intro W hSw; (try dsimp only at hSw); obtain ⟨hq1, hq2, _⟩ := hSw; go_simp) <;> with_reducible rfl); (try simp only [Act.put, List.setIfInBounds_toArray, List.set_cons_zero, List.set_cons_succ]))
      | (refine idx_call_no rfl rfl rfl ?_; (try simp only [Act.put, List.setIfInBounds_toArray, List.set_cons_zero, List.set_cons_succ]))
      | (refine idx_call rfl (fun K hK => ?_); go_simp; first | (refine hK.out _ _ (by (repeat (first | exact hI.out | apply Held.drewn | apply Held.drew | apply Held.alloc))) ?_; clear hK K; (try simp only [Act.put, List.setIfInBounds_toArray, List.set_cons_zero, List.set_cons_succ])) | (refine (rlows_1 _ rd _ (by first | exact cell_at0 _ _ _ _ 0 (by simp) | exact cell_at _ _ _ _ _ 0 (by simp))).mono ?_; rintro e w' ⟨rfl, nl, rfl⟩; go_wp2_with fail; refine hK.out _ _ (by (repeat (first | exact hI.out | apply Held.drewn | apply Held.drew | apply Held.alloc))) ?_; clear hK K; (try simp only [Act.put, List.setIfInBounds_toArray, List.set_cons_zero, List.set_cons_succ])))
      | (refine idx_call_yes rfl rfl rfl (fun K hK => ?_); go_simp; first | (refine hK.out _ _ (by (repeat (first | exact hI.out | apply Held.drewn | apply Held.drew | apply Held.alloc))) ?_; clear hK K; (try simp only [Act.put, List.setIfInBounds_toArray, List.set_cons_zero, List.set_cons_succ])) | (refine (rlows_1 _ rd _ (by first | exact cell_at0 _ _ _ _ 0 (by simp) | exact cell_at _ _ _ _ _ 0 (by simp))).mono ?_; rintro e w' ⟨rfl, nl, rfl⟩; go_wp2_with fail; refine hK.out _ _ (by (repeat (first | exact hI.out | apply Held.drewn | apply Held.drew | apply Held.alloc))) ?_; clear hK K; (try simp only [Act.put, List.setIfInBounds_toArray, List.set_cons_zero, List.set_cons_succ]))))
    refine idx_end ?_
    go_wp2
    go_ret2
    refine ⟨?_, Held.bel (b := w.heap.size) (A := #[.int .i64 40, .int .i64 cond, .int .i64 rd, .int .i64 rn, .int .i64 rm, .int .i64 imm, .int .i64 mode, .int .i64 list, .bool s]) (by (repeat (first | exact hI.out | apply Held.drewn | apply Held.drew | apply Held.alloc)))⟩
    first
      | (exact okay_none (by unfold Nm.restI; dsimp only; (try simp only [Nm.opt, *]); all_goals rfl))
      | (refine okay_some (B := 18432 + rd * 256 + imm / 4) (by unfold Nm.restI; dsimp only; (try simp only [Nm.opt, *]); all_goals rfl) ?_; have r0 := Nm.low_is h1; have q3 := of_decide_eq_true h2; (try rw [show IntKind.i64.wrap (rd * 256) = rd * 256 from IntWalk.i64_in _ (by omega)]); (try rw [show wrap64 (rd * 256) = rd * 256 by unfold wrap64; omega]); (try rw [show IntKind.i64.wrap (imm / 4) = imm / 4 from IntWalk.i64_in _ (by omega)]); (try rw [show wrap64 (imm / 4) = imm / 4 by unfold wrap64; omega]); rw [Cm.or_join (18432) (rd * 256) 11 (by omega) (by omega) (by omega) (by omega) (by omega) (by omega), Cm.or_join (18432 + rd * 256) (imm / 4) 8 (by omega) (by omega) (by omega) (by omega) (by omega) (by omega)]; all_goals (try omega))
set_option linter.unusedSimpArgs false in
set_option maxRecDepth 100000 in
set_option maxHeartbeats 4000000 in
theorem rest40_b (cond rd rn rm imm mode list : Int) (s it : Bool) (w : World) (hi0 : imm < 0) : Calls Tryd.prog 27 #[.agg #[.int .i64 40, .int .i64 cond, .int .i64 rd, .int .i64 rn, .int .i64 rm, .int .i64 imm, .int .i64 mode, .int .i64 list, .bool s], .bool it] w fun e w' => Okay e (Nm.restI ⟨40, cond, rd, rn, rm, imm, mode, list, s⟩ it) ∧ Below w.heap.size w w' := by
  have hI := Lib.hid (Held.start w #[.int .i64 40, .int .i64 cond, .int .i64 rd, .int .i64 rn, .int .i64 rm, .int .i64 imm, .int .i64 mode, .int .i64 list, .bool s] 23)
  have hd0 : decide (0 ≤ imm) = false := by simp; omega
  rcases chain1 (Nm.low rd) with h1 | h1
  all_goals
    go_enter Tryd.func27, Tryd.ntmps27
    go_wp2_with fail
    refine wp_region_idx 29 [true, true, true, true, true, true, true, true, true, true, false, false, true, true, true, true, true, true, true, true, true, true, true, true, true, true, true, true, true, false] (S := (fun W => Held w.heap.size #[.int .i64 40, .int .i64 cond, .int .i64 rd, .int .i64 rn, .int .i64 rm, .int .i64 imm, .int .i64 mode, .int .i64 list, .bool s] w W)) (by kernel_rfl) (by kernel_rfl) (fun _ _ d _ _ h => by cases d <;> exact h) (by (repeat (first | exact hI.out | apply Held.drewn | apply Held.drew | apply Held.alloc))) ?_
    simp only [List.zip_cons_cons, List.zip_nil_left]
    repeat (first
      | ((refine idx_pure rfl ?_ ?_ ?_; rotate_left; · (intro W hSw; (try dsimp only at hSw); obtain ⟨hq1, hq2, _⟩ := hSw; go_simp) <;> with_reducible rfl); (try simp only [Act.put, List.setIfInBounds_toArray, List.set_cons_zero, List.set_cons_succ]))
      | (refine idx_no rfl rfl rfl ?_; (try simp only [Act.put, List.setIfInBounds_toArray, List.set_cons_zero, List.set_cons_succ]))
      | ((refine idx_yes rfl rfl rfl ?_ ?_ ?_; rotate_left; · (intro W hSw; (try dsimp only at hSw); obtain ⟨hq1, hq2, _⟩ := hSw; go_simp) <;> with_reducible rfl); (try simp only [Act.put, List.setIfInBounds_toArray, List.set_cons_zero, List.set_cons_succ]))
      | (refine idx_call_no rfl rfl rfl ?_; (try simp only [Act.put, List.setIfInBounds_toArray, List.set_cons_zero, List.set_cons_succ]))
      | (refine idx_call rfl (fun K hK => ?_); go_simp; first | (refine hK.out _ _ (by (repeat (first | exact hI.out | apply Held.drewn | apply Held.drew | apply Held.alloc))) ?_; clear hK K; (try simp only [Act.put, List.setIfInBounds_toArray, List.set_cons_zero, List.set_cons_succ])) | (refine (rlows_1 _ rd _ (by first | exact cell_at0 _ _ _ _ 0 (by simp) | exact cell_at _ _ _ _ _ 0 (by simp))).mono ?_; rintro e w' ⟨rfl, nl, rfl⟩; go_wp2_with fail; refine hK.out _ _ (by (repeat (first | exact hI.out | apply Held.drewn | apply Held.drew | apply Held.alloc))) ?_; clear hK K; (try simp only [Act.put, List.setIfInBounds_toArray, List.set_cons_zero, List.set_cons_succ])))
      | (refine idx_call_yes rfl rfl rfl (fun K hK => ?_); go_simp; first | (refine hK.out _ _ (by (repeat (first | exact hI.out | apply Held.drewn | apply Held.drew | apply Held.alloc))) ?_; clear hK K; (try simp only [Act.put, List.setIfInBounds_toArray, List.set_cons_zero, List.set_cons_succ])) | (refine (rlows_1 _ rd _ (by first | exact cell_at0 _ _ _ _ 0 (by simp) | exact cell_at _ _ _ _ _ 0 (by simp))).mono ?_; rintro e w' ⟨rfl, nl, rfl⟩; go_wp2_with fail; refine hK.out _ _ (by (repeat (first | exact hI.out | apply Held.drewn | apply Held.drew | apply Held.alloc))) ?_; clear hK K; (try simp only [Act.put, List.setIfInBounds_toArray, List.set_cons_zero, List.set_cons_succ]))))
    refine idx_end ?_
    go_wp2
    go_ret2
    refine ⟨?_, Held.bel (b := w.heap.size) (A := #[.int .i64 40, .int .i64 cond, .int .i64 rd, .int .i64 rn, .int .i64 rm, .int .i64 imm, .int .i64 mode, .int .i64 list, .bool s]) (by (repeat (first | exact hI.out | apply Held.drewn | apply Held.drew | apply Held.alloc)))⟩
    (exact okay_none (by unfold Nm.restI; dsimp only; (try simp only [Nm.opt, *]); all_goals rfl))
set_option linter.unusedSimpArgs false in
set_option maxRecDepth 100000 in
set_option maxHeartbeats 4000000 in
theorem rest41_a (cond rd rn rm imm mode list : Int) (s it : Bool) (w : World) (hi0 : 0 ≤ imm) : Calls Tryd.prog 27 #[.agg #[.int .i64 41, .int .i64 cond, .int .i64 rd, .int .i64 rn, .int .i64 rm, .int .i64 imm, .int .i64 mode, .int .i64 list, .bool s], .bool it] w fun e w' => Okay e (Nm.restI ⟨41, cond, rd, rn, rm, imm, mode, list, s⟩ it) ∧ Below w.heap.size w w' := by
  have hI := Lib.hid (Held.start w #[.int .i64 41, .int .i64 cond, .int .i64 rd, .int .i64 rn, .int .i64 rm, .int .i64 imm, .int .i64 mode, .int .i64 list, .bool s] 23)
  have ht : Int.tmod imm 4 = imm % 4 := Int.tmod_eq_emod_of_nonneg hi0
  have hq : Int.tdiv imm 4 = imm / 4 := Int.tdiv_eq_ediv_of_nonneg hi0
  have hd0 : decide (0 ≤ imm) = true := by simpa using hi0
  rcases chain3 (Nm.low rd) (decide (imm ≤ 1020)) (imm % 4 == 0) with h1 | ⟨h1, h2⟩ | ⟨h1, h2, h3⟩ | ⟨h1, h2, h3⟩
  all_goals
    go_enter Tryd.func27, Tryd.ntmps27
    go_wp2_with fail
    refine wp_region_idx 29 [true, true, true, true, true, true, true, true, true, true, false, false, true, true, true, true, true, true, true, true, true, true, true, true, true, true, true, true, true, false] (S := (fun W => Held w.heap.size #[.int .i64 41, .int .i64 cond, .int .i64 rd, .int .i64 rn, .int .i64 rm, .int .i64 imm, .int .i64 mode, .int .i64 list, .bool s] w W)) (by kernel_rfl) (by kernel_rfl) (fun _ _ d _ _ h => by cases d <;> exact h) (by (repeat (first | exact hI.out | apply Held.drewn | apply Held.drew | apply Held.alloc))) ?_
    simp only [List.zip_cons_cons, List.zip_nil_left]
    repeat (first
      | ((refine idx_pure rfl ?_ ?_ ?_; rotate_left; · (intro W hSw; (try dsimp only at hSw); obtain ⟨hq1, hq2, _⟩ := hSw; go_simp) <;> with_reducible rfl); (try simp only [Act.put, List.setIfInBounds_toArray, List.set_cons_zero, List.set_cons_succ]))
      | (refine idx_no rfl rfl rfl ?_; (try simp only [Act.put, List.setIfInBounds_toArray, List.set_cons_zero, List.set_cons_succ]))
      | ((refine idx_yes rfl rfl rfl ?_ ?_ ?_; rotate_left; · (intro W hSw; (try dsimp only at hSw); obtain ⟨hq1, hq2, _⟩ := hSw; go_simp) <;> with_reducible rfl); (try simp only [Act.put, List.setIfInBounds_toArray, List.set_cons_zero, List.set_cons_succ]))
      | (refine idx_call_no rfl rfl rfl ?_; (try simp only [Act.put, List.setIfInBounds_toArray, List.set_cons_zero, List.set_cons_succ]))
      | (refine idx_call rfl (fun K hK => ?_); go_simp; first | (refine hK.out _ _ (by (repeat (first | exact hI.out | apply Held.drewn | apply Held.drew | apply Held.alloc))) ?_; clear hK K; (try simp only [Act.put, List.setIfInBounds_toArray, List.set_cons_zero, List.set_cons_succ])) | (refine (rlows_1 _ rd _ (by first | exact cell_at0 _ _ _ _ 0 (by simp) | exact cell_at _ _ _ _ _ 0 (by simp))).mono ?_; rintro e w' ⟨rfl, nl, rfl⟩; go_wp2_with fail; refine hK.out _ _ (by (repeat (first | exact hI.out | apply Held.drewn | apply Held.drew | apply Held.alloc))) ?_; clear hK K; (try simp only [Act.put, List.setIfInBounds_toArray, List.set_cons_zero, List.set_cons_succ])))
      | (refine idx_call_yes rfl rfl rfl (fun K hK => ?_); go_simp; first | (refine hK.out _ _ (by (repeat (first | exact hI.out | apply Held.drewn | apply Held.drew | apply Held.alloc))) ?_; clear hK K; (try simp only [Act.put, List.setIfInBounds_toArray, List.set_cons_zero, List.set_cons_succ])) | (refine (rlows_1 _ rd _ (by first | exact cell_at0 _ _ _ _ 0 (by simp) | exact cell_at _ _ _ _ _ 0 (by simp))).mono ?_; rintro e w' ⟨rfl, nl, rfl⟩; go_wp2_with fail; refine hK.out _ _ (by (repeat (first | exact hI.out | apply Held.drewn | apply Held.drew | apply Held.alloc))) ?_; clear hK K; (try simp only [Act.put, List.setIfInBounds_toArray, List.set_cons_zero, List.set_cons_succ]))))
    refine idx_end ?_
    go_wp2
    go_ret2
    refine ⟨?_, Held.bel (b := w.heap.size) (A := #[.int .i64 41, .int .i64 cond, .int .i64 rd, .int .i64 rn, .int .i64 rm, .int .i64 imm, .int .i64 mode, .int .i64 list, .bool s]) (by (repeat (first | exact hI.out | apply Held.drewn | apply Held.drew | apply Held.alloc)))⟩
    first
      | (exact okay_none (by unfold Nm.restI; dsimp only; (try simp only [Nm.opt, *]); all_goals rfl))
      | (refine okay_some (B := 40960 + rd * 256 + imm / 4) (by unfold Nm.restI; dsimp only; (try simp only [Nm.opt, *]); all_goals rfl) ?_; have r0 := Nm.low_is h1; have q3 := of_decide_eq_true h2; (try rw [show IntKind.i64.wrap (rd * 256) = rd * 256 from IntWalk.i64_in _ (by omega)]); (try rw [show wrap64 (rd * 256) = rd * 256 by unfold wrap64; omega]); (try rw [show IntKind.i64.wrap (imm / 4) = imm / 4 from IntWalk.i64_in _ (by omega)]); (try rw [show wrap64 (imm / 4) = imm / 4 by unfold wrap64; omega]); rw [Cm.or_join (40960) (rd * 256) 11 (by omega) (by omega) (by omega) (by omega) (by omega) (by omega), Cm.or_join (40960 + rd * 256) (imm / 4) 8 (by omega) (by omega) (by omega) (by omega) (by omega) (by omega)]; all_goals (try omega))
set_option linter.unusedSimpArgs false in
set_option maxRecDepth 100000 in
set_option maxHeartbeats 4000000 in
theorem rest41_b (cond rd rn rm imm mode list : Int) (s it : Bool) (w : World) (hi0 : imm < 0) : Calls Tryd.prog 27 #[.agg #[.int .i64 41, .int .i64 cond, .int .i64 rd, .int .i64 rn, .int .i64 rm, .int .i64 imm, .int .i64 mode, .int .i64 list, .bool s], .bool it] w fun e w' => Okay e (Nm.restI ⟨41, cond, rd, rn, rm, imm, mode, list, s⟩ it) ∧ Below w.heap.size w w' := by
  have hI := Lib.hid (Held.start w #[.int .i64 41, .int .i64 cond, .int .i64 rd, .int .i64 rn, .int .i64 rm, .int .i64 imm, .int .i64 mode, .int .i64 list, .bool s] 23)
  have hd0 : decide (0 ≤ imm) = false := by simp; omega
  rcases chain1 (Nm.low rd) with h1 | h1
  all_goals
    go_enter Tryd.func27, Tryd.ntmps27
    go_wp2_with fail
    refine wp_region_idx 29 [true, true, true, true, true, true, true, true, true, true, false, false, true, true, true, true, true, true, true, true, true, true, true, true, true, true, true, true, true, false] (S := (fun W => Held w.heap.size #[.int .i64 41, .int .i64 cond, .int .i64 rd, .int .i64 rn, .int .i64 rm, .int .i64 imm, .int .i64 mode, .int .i64 list, .bool s] w W)) (by kernel_rfl) (by kernel_rfl) (fun _ _ d _ _ h => by cases d <;> exact h) (by (repeat (first | exact hI.out | apply Held.drewn | apply Held.drew | apply Held.alloc))) ?_
    simp only [List.zip_cons_cons, List.zip_nil_left]
    repeat (first
      | ((refine idx_pure rfl ?_ ?_ ?_; rotate_left; · (intro W hSw; (try dsimp only at hSw); obtain ⟨hq1, hq2, _⟩ := hSw; go_simp) <;> with_reducible rfl); (try simp only [Act.put, List.setIfInBounds_toArray, List.set_cons_zero, List.set_cons_succ]))
      | (refine idx_no rfl rfl rfl ?_; (try simp only [Act.put, List.setIfInBounds_toArray, List.set_cons_zero, List.set_cons_succ]))
      | ((refine idx_yes rfl rfl rfl ?_ ?_ ?_; rotate_left; · (intro W hSw; (try dsimp only at hSw); obtain ⟨hq1, hq2, _⟩ := hSw; go_simp) <;> with_reducible rfl); (try simp only [Act.put, List.setIfInBounds_toArray, List.set_cons_zero, List.set_cons_succ]))
      | (refine idx_call_no rfl rfl rfl ?_; (try simp only [Act.put, List.setIfInBounds_toArray, List.set_cons_zero, List.set_cons_succ]))
      | (refine idx_call rfl (fun K hK => ?_); go_simp; first | (refine hK.out _ _ (by (repeat (first | exact hI.out | apply Held.drewn | apply Held.drew | apply Held.alloc))) ?_; clear hK K; (try simp only [Act.put, List.setIfInBounds_toArray, List.set_cons_zero, List.set_cons_succ])) | (refine (rlows_1 _ rd _ (by first | exact cell_at0 _ _ _ _ 0 (by simp) | exact cell_at _ _ _ _ _ 0 (by simp))).mono ?_; rintro e w' ⟨rfl, nl, rfl⟩; go_wp2_with fail; refine hK.out _ _ (by (repeat (first | exact hI.out | apply Held.drewn | apply Held.drew | apply Held.alloc))) ?_; clear hK K; (try simp only [Act.put, List.setIfInBounds_toArray, List.set_cons_zero, List.set_cons_succ])))
      | (refine idx_call_yes rfl rfl rfl (fun K hK => ?_); go_simp; first | (refine hK.out _ _ (by (repeat (first | exact hI.out | apply Held.drewn | apply Held.drew | apply Held.alloc))) ?_; clear hK K; (try simp only [Act.put, List.setIfInBounds_toArray, List.set_cons_zero, List.set_cons_succ])) | (refine (rlows_1 _ rd _ (by first | exact cell_at0 _ _ _ _ 0 (by simp) | exact cell_at _ _ _ _ _ 0 (by simp))).mono ?_; rintro e w' ⟨rfl, nl, rfl⟩; go_wp2_with fail; refine hK.out _ _ (by (repeat (first | exact hI.out | apply Held.drewn | apply Held.drew | apply Held.alloc))) ?_; clear hK K; (try simp only [Act.put, List.setIfInBounds_toArray, List.set_cons_zero, List.set_cons_succ]))))
    refine idx_end ?_
    go_wp2
    go_ret2
    refine ⟨?_, Held.bel (b := w.heap.size) (A := #[.int .i64 41, .int .i64 cond, .int .i64 rd, .int .i64 rn, .int .i64 rm, .int .i64 imm, .int .i64 mode, .int .i64 list, .bool s]) (by (repeat (first | exact hI.out | apply Held.drewn | apply Held.drew | apply Held.alloc)))⟩
    (exact okay_none (by unfold Nm.restI; dsimp only; (try simp only [Nm.opt, *]); all_goals rfl))
end Go.Proofs.YtcphhojdfpedkaaDoor
