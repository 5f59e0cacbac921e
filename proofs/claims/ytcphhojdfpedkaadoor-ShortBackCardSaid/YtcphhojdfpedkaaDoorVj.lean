/- Contract of the document's own load (text by gen_v.py). -/
import Derived.Test.YtcphhojdfpedkaaDoorGc
import Derived.Test.YtcphhojdfpedkaaDoorGj
namespace Go.Proofs.YtcphhojdfpedkaaDoor
open Go.ChangeShapes Go.WideShapes Go.ChangeAt Go.RowKit
set_option linter.unusedSimpArgs false in
set_option maxRecDepth 100000 in
set_option maxHeartbeats 4000000 in
theorem load25_1 (cond rd rn rm imm list : Int) (s : Bool) (w : World) (hi0 : 0 ≤ imm) (hi1 : imm ≤ 4095) (hn13 : (rn == 13) = false) : Calls Tryd.prog 25 #[.agg #[.int .i64 25, .int .i64 cond, .int .i64 rd, .int .i64 rn, .int .i64 rm, .int .i64 imm, .int .i64 1, .int .i64 list, .bool s]] w fun e w' => Okay e (Nm.loadI ⟨25, cond, rd, rn, rm, imm, 1, list, s⟩) ∧ Below w.heap.size w w' := by
  have hI := Lib.hid (Held.start w #[.int .i64 25, .int .i64 cond, .int .i64 rd, .int .i64 rn, .int .i64 rm, .int .i64 imm, .int .i64 1, .int .i64 list, .bool s] 23)
  have ht : Int.tmod imm 4 = imm % 4 := Int.tmod_eq_emod_of_nonneg hi0
  have hq : Int.tdiv imm 4 = imm / 4 := Int.tdiv_eq_ediv_of_nonneg hi0
  have hwq : IntKind.i64.wrap (imm / 4) = imm / 4 := IntWalk.i64_in _ (by omega)
  have hn13p : ¬ rn = 13 := by simpa using hn13
  rcases chain3 (Nm.low rd && Nm.low rn) (imm % 4 == 0) (decide (imm / 4 ≤ 31)) with h1 | ⟨h1, h2⟩ | ⟨h1, h2, h3⟩ | ⟨h1, h2, h3⟩
  all_goals
    go_enter Tryd.func25, Tryd.ntmps25
    go_wp2_with fail
    refine wp_region_idx 35 [true, true, true, true, true, true, true, true, true, true, true, true, true, true, true, true, true, true, false, false, true, true, true, true, true, true, true, true, true, true, true, true, true, true, true, false] (S := (fun W => Held w.heap.size #[.int .i64 25, .int .i64 cond, .int .i64 rd, .int .i64 rn, .int .i64 rm, .int .i64 imm, .int .i64 1, .int .i64 list, .bool s] w W)) (by kernel_rfl) (by kernel_rfl) (fun _ _ d _ _ h => by cases d <;> exact h) (by (repeat (first | exact hI.out | apply Held.drewn | apply Held.drew | apply Held.alloc))) ?_
    simp only [List.zip_cons_cons, List.zip_nil_left]
    repeat (first
      | ((refine idx_pure rfl ?_ ?_ ?_; rotate_left; · (intro W hSw; (try dsimp only at hSw); obtain ⟨hq1, hq2, _⟩ := hSw; go_simp) <;> with_reducible rfl); (try simp only [Act.put, List.setIfInBounds_toArray, List.set_cons_zero, List.set_cons_succ]))
      | (refine idx_no rfl rfl rfl ?_; (try simp only [Act.put, List.setIfInBounds_toArray, List.set_cons_zero, List.set_cons_succ]))
      | ((refine idx_yes rfl rfl rfl ?_ ?_ ?_; rotate_left; · (intro W hSw; (try dsimp only at hSw); obtain ⟨hq1, hq2, _⟩ := hSw; go_simp) <;> with_reducible rfl); (try simp only [Act.put, List.setIfInBounds_toArray, List.set_cons_zero, List.set_cons_succ]))
      | (refine idx_call_no rfl rfl rfl ?_; (try simp only [Act.put, List.setIfInBounds_toArray, List.set_cons_zero, List.set_cons_succ]))
      | (refine idx_call rfl (fun K hK => ?_); go_simp; first | (refine hK.out _ _ (by (repeat (first | exact hI.out | apply Held.drewn | apply Held.drew | apply Held.alloc))) ?_; clear hK K; (try simp only [Act.put, List.setIfInBounds_toArray, List.set_cons_zero, List.set_cons_succ])) | (refine (rlows_2 _ rd rn _ (by first | exact cell_at0 _ _ _ _ 0 (by simp) | exact cell_at _ _ _ _ _ 0 (by simp)) (by first | exact cell_at0 _ _ _ _ 1 (by simp) | exact cell_at _ _ _ _ _ 1 (by simp))).mono ?_; rintro e w' ⟨rfl, nl, rfl⟩; go_wp2_with fail; refine hK.out _ _ (by (repeat (first | exact hI.out | apply Held.drewn | apply Held.drew | apply Held.alloc))) ?_; clear hK K; (try simp only [Act.put, List.setIfInBounds_toArray, List.set_cons_zero, List.set_cons_succ])))
      | (refine idx_call_yes rfl rfl rfl (fun K hK => ?_); go_simp; first | (refine hK.out _ _ (by (repeat (first | exact hI.out | apply Held.drewn | apply Held.drew | apply Held.alloc))) ?_; clear hK K; (try simp only [Act.put, List.setIfInBounds_toArray, List.set_cons_zero, List.set_cons_succ])) | (refine (rlows_2 _ rd rn _ (by first | exact cell_at0 _ _ _ _ 0 (by simp) | exact cell_at _ _ _ _ _ 0 (by simp)) (by first | exact cell_at0 _ _ _ _ 1 (by simp) | exact cell_at _ _ _ _ _ 1 (by simp))).mono ?_; rintro e w' ⟨rfl, nl, rfl⟩; go_wp2_with fail; refine hK.out _ _ (by (repeat (first | exact hI.out | apply Held.drewn | apply Held.drew | apply Held.alloc))) ?_; clear hK K; (try simp only [Act.put, List.setIfInBounds_toArray, List.set_cons_zero, List.set_cons_succ]))))
    refine idx_end ?_
    go_wp2
    go_ret2
    refine ⟨?_, Held.bel (b := w.heap.size) (A := #[.int .i64 25, .int .i64 cond, .int .i64 rd, .int .i64 rn, .int .i64 rm, .int .i64 imm, .int .i64 1, .int .i64 list, .bool s]) (by (repeat (first | exact hI.out | apply Held.drewn | apply Held.drew | apply Held.alloc)))⟩
    first
      | (exact okay_none (by unfold Nm.loadI; dsimp only; rw [show Nm.byB 25 = 4 from rfl, show Nm.immB 25 = 26624 from rfl]; simp only [if_neg hn13p, Int.emod_one, Int.ediv_one, ← Bool.and_assoc]; (try simp only [Nm.opt, *]); all_goals rfl))
      | (refine okay_some (B := 26624 + imm / 4 * 64 + rn * 8 + rd) (by unfold Nm.loadI; dsimp only; rw [show Nm.byB 25 = 4 from rfl, show Nm.immB 25 = 26624 from rfl]; simp only [if_neg hn13p, Int.emod_one, Int.ediv_one, ← Bool.and_assoc]; (try simp only [Nm.opt, *]); all_goals rfl) ?_; simp only [Bool.and_eq_true] at h1; have r0 := Nm.low_is h1.1; have r1 := Nm.low_is h1.2; have q3 := of_decide_eq_true h3; (try rw [show IntKind.i64.wrap (imm / 4 * 64) = imm / 4 * 64 from IntWalk.i64_in _ (by omega)]); (try rw [show wrap64 (imm / 4 * 64) = imm / 4 * 64 by unfold wrap64; omega]); (try rw [show IntKind.i64.wrap (rn * 8) = rn * 8 from IntWalk.i64_in _ (by omega)]); (try rw [show wrap64 (rn * 8) = rn * 8 by unfold wrap64; omega]); (try rw [show IntKind.i64.wrap (rd) = rd from IntWalk.i64_in _ (by omega)]); (try rw [show wrap64 (rd) = rd by unfold wrap64; omega]); rw [Cm.or_join (26624) (imm / 4 * 64) 11 (by omega) (by omega) (by omega) (by omega) (by omega) (by omega), Cm.or_join (26624 + imm / 4 * 64) (rn * 8) 6 (by omega) (by omega) (by omega) (by omega) (by omega) (by omega), Cm.or_join (26624 + imm / 4 * 64 + rn * 8) (rd) 3 (by omega) (by omega) (by omega) (by omega) (by omega) (by omega)]; all_goals (try omega))
set_option linter.unusedSimpArgs false in
set_option maxRecDepth 100000 in
set_option maxHeartbeats 4000000 in
theorem load26_1 (cond rd rn rm imm list : Int) (s : Bool) (w : World) (hi0 : 0 ≤ imm) (hi1 : imm ≤ 4095) (hn13 : (rn == 13) = false) : Calls Tryd.prog 25 #[.agg #[.int .i64 26, .int .i64 cond, .int .i64 rd, .int .i64 rn, .int .i64 rm, .int .i64 imm, .int .i64 1, .int .i64 list, .bool s]] w fun e w' => Okay e (Nm.loadI ⟨26, cond, rd, rn, rm, imm, 1, list, s⟩) ∧ Below w.heap.size w w' := by
  have hI := Lib.hid (Held.start w #[.int .i64 26, .int .i64 cond, .int .i64 rd, .int .i64 rn, .int .i64 rm, .int .i64 imm, .int .i64 1, .int .i64 list, .bool s] 23)
  have ht : Int.tmod imm 1 = 0 := by rw [Int.tmod_eq_emod_of_nonneg hi0]; omega
  have hq : Int.tdiv imm 1 = imm := by rw [Int.tdiv_eq_ediv_of_nonneg hi0]; omega
  have hwq : IntKind.i64.wrap imm = imm := IntWalk.i64_in _ (by omega)
  have hn13p : ¬ rn = 13 := by simpa using hn13
  rcases chain2 (Nm.low rd && Nm.low rn) (decide (imm ≤ 31)) with h1 | ⟨h1, h2⟩ | ⟨h1, h2⟩
  all_goals
    go_enter Tryd.func25, Tryd.ntmps25
    go_wp2_with fail
    refine wp_region_idx 35 [true, true, true, true, true, true, true, true, true, true, true, true, true, true, true, true, true, true, false, false, true, true, true, true, true, true, true, true, true, true, true, true, true, true, true, false] (S := (fun W => Held w.heap.size #[.int .i64 26, .int .i64 cond, .int .i64 rd, .int .i64 rn, .int .i64 rm, .int .i64 imm, .int .i64 1, .int .i64 list, .bool s] w W)) (by kernel_rfl) (by kernel_rfl) (fun _ _ d _ _ h => by cases d <;> exact h) (by (repeat (first | exact hI.out | apply Held.drewn | apply Held.drew | apply Held.alloc))) ?_
    simp only [List.zip_cons_cons, List.zip_nil_left]
    repeat (first
      | ((refine idx_pure rfl ?_ ?_ ?_; rotate_left; · (intro W hSw; (try dsimp only at hSw); obtain ⟨hq1, hq2, _⟩ := hSw; go_simp) <;> with_reducible rfl); (try simp only [Act.put, List.setIfInBounds_toArray, List.set_cons_zero, List.set_cons_succ]))
      | (refine idx_no rfl rfl rfl ?_; (try simp only [Act.put, List.setIfInBounds_toArray, List.set_cons_zero, List.set_cons_succ]))
      | ((refine idx_yes rfl rfl rfl ?_ ?_ ?_; rotate_left; · (intro W hSw; (try dsimp only at hSw); obtain ⟨hq1, hq2, _⟩ := hSw; go_simp) <;> with_reducible rfl); (try simp only [Act.put, List.setIfInBounds_toArray, List.set_cons_zero, List.set_cons_succ]))
      | (refine idx_call_no rfl rfl rfl ?_; (try simp only [Act.put, List.setIfInBounds_toArray, List.set_cons_zero, List.set_cons_succ]))
      | (refine idx_call rfl (fun K hK => ?_); go_simp; first | (refine hK.out _ _ (by (repeat (first | exact hI.out | apply Held.drewn | apply Held.drew | apply Held.alloc))) ?_; clear hK K; (try simp only [Act.put, List.setIfInBounds_toArray, List.set_cons_zero, List.set_cons_succ])) | (refine (rlows_2 _ rd rn _ (by first | exact cell_at0 _ _ _ _ 0 (by simp) | exact cell_at _ _ _ _ _ 0 (by simp)) (by first | exact cell_at0 _ _ _ _ 1 (by simp) | exact cell_at _ _ _ _ _ 1 (by simp))).mono ?_; rintro e w' ⟨rfl, nl, rfl⟩; go_wp2_with fail; refine hK.out _ _ (by (repeat (first | exact hI.out | apply Held.drewn | apply Held.drew | apply Held.alloc))) ?_; clear hK K; (try simp only [Act.put, List.setIfInBounds_toArray, List.set_cons_zero, List.set_cons_succ])))
      | (refine idx_call_yes rfl rfl rfl (fun K hK => ?_); go_simp; first | (refine hK.out _ _ (by (repeat (first | exact hI.out | apply Held.drewn | apply Held.drew | apply Held.alloc))) ?_; clear hK K; (try simp only [Act.put, List.setIfInBounds_toArray, List.set_cons_zero, List.set_cons_succ])) | (refine (rlows_2 _ rd rn _ (by first | exact cell_at0 _ _ _ _ 0 (by simp) | exact cell_at _ _ _ _ _ 0 (by simp)) (by first | exact cell_at0 _ _ _ _ 1 (by simp) | exact cell_at _ _ _ _ _ 1 (by simp))).mono ?_; rintro e w' ⟨rfl, nl, rfl⟩; go_wp2_with fail; refine hK.out _ _ (by (repeat (first | exact hI.out | apply Held.drewn | apply Held.drew | apply Held.alloc))) ?_; clear hK K; (try simp only [Act.put, List.setIfInBounds_toArray, List.set_cons_zero, List.set_cons_succ]))))
    refine idx_end ?_
    go_wp2
    go_ret2
    refine ⟨?_, Held.bel (b := w.heap.size) (A := #[.int .i64 26, .int .i64 cond, .int .i64 rd, .int .i64 rn, .int .i64 rm, .int .i64 imm, .int .i64 1, .int .i64 list, .bool s]) (by (repeat (first | exact hI.out | apply Held.drewn | apply Held.drew | apply Held.alloc)))⟩
    first
      | (exact okay_none (by unfold Nm.loadI; dsimp only; rw [show Nm.byB 26 = 1 from rfl, show Nm.immB 26 = 30720 from rfl]; simp only [if_neg hn13p, Int.emod_one, Int.ediv_one, ← Bool.and_assoc]; (try simp only [Nm.opt, *]); all_goals rfl))
      | (refine okay_some (B := 30720 + imm * 64 + rn * 8 + rd) (by unfold Nm.loadI; dsimp only; rw [show Nm.byB 26 = 1 from rfl, show Nm.immB 26 = 30720 from rfl]; simp only [if_neg hn13p, Int.emod_one, Int.ediv_one, ← Bool.and_assoc]; (try simp only [Nm.opt, *]); all_goals rfl) ?_; simp only [Bool.and_eq_true] at h1; have r0 := Nm.low_is h1.1; have r1 := Nm.low_is h1.2; have q3 := of_decide_eq_true h2; (try rw [show IntKind.i64.wrap (imm * 64) = imm * 64 from IntWalk.i64_in _ (by omega)]); (try rw [show wrap64 (imm * 64) = imm * 64 by unfold wrap64; omega]); (try rw [show IntKind.i64.wrap (rn * 8) = rn * 8 from IntWalk.i64_in _ (by omega)]); (try rw [show wrap64 (rn * 8) = rn * 8 by unfold wrap64; omega]); (try rw [show IntKind.i64.wrap (rd) = rd from IntWalk.i64_in _ (by omega)]); (try rw [show wrap64 (rd) = rd by unfold wrap64; omega]); rw [Cm.or_join (30720) (imm * 64) 11 (by omega) (by omega) (by omega) (by omega) (by omega) (by omega), Cm.or_join (30720 + imm * 64) (rn * 8) 6 (by omega) (by omega) (by omega) (by omega) (by omega) (by omega), Cm.or_join (30720 + imm * 64 + rn * 8) (rd) 3 (by omega) (by omega) (by omega) (by omega) (by omega) (by omega)]; all_goals (try omega))
set_option linter.unusedSimpArgs false in
set_option maxRecDepth 100000 in
set_option maxHeartbeats 4000000 in
theorem load27_1 (cond rd rn rm imm list : Int) (s : Bool) (w : World) (hi0 : 0 ≤ imm) (hi1 : imm ≤ 4095) (hn13 : (rn == 13) = false) : Calls Tryd.prog 25 #[.agg #[.int .i64 27, .int .i64 cond, .int .i64 rd, .int .i64 rn, .int .i64 rm, .int .i64 imm, .int .i64 1, .int .i64 list, .bool s]] w fun e w' => Okay e (Nm.loadI ⟨27, cond, rd, rn, rm, imm, 1, list, s⟩) ∧ Below w.heap.size w w' := by
  have hI := Lib.hid (Held.start w #[.int .i64 27, .int .i64 cond, .int .i64 rd, .int .i64 rn, .int .i64 rm, .int .i64 imm, .int .i64 1, .int .i64 list, .bool s] 23)
  have ht : Int.tmod imm 2 = imm % 2 := Int.tmod_eq_emod_of_nonneg hi0
  have hq : Int.tdiv imm 2 = imm / 2 := Int.tdiv_eq_ediv_of_nonneg hi0
  have hwq : IntKind.i64.wrap (imm / 2) = imm / 2 := IntWalk.i64_in _ (by omega)
  have hn13p : ¬ rn = 13 := by simpa using hn13
  rcases chain3 (Nm.low rd && Nm.low rn) (imm % 2 == 0) (decide (imm / 2 ≤ 31)) with h1 | ⟨h1, h2⟩ | ⟨h1, h2, h3⟩ | ⟨h1, h2, h3⟩
  all_goals
    go_enter Tryd.func25, Tryd.ntmps25
    go_wp2_with fail
    refine wp_region_idx 35 [true, true, true, true, true, true, true, true, true, true, true, true, true, true, true, true, true, true, false, false, true, true, true, true, true, true, true, true, true, true, true, true, true, true, true, false] (S := (fun W => Held w.heap.size #[.int .i64 27, .int .i64 cond, .int .i64 rd, .int .i64 rn, .int .i64 rm, .int .i64 imm, .int .i64 1, .int .i64 list, .bool s] w W)) (by kernel_rfl) (by kernel_rfl) (fun _ _ d _ _ h => by cases d <;> exact h) (by (repeat (first | exact hI.out | apply Held.drewn | apply Held.drew | apply Held.alloc))) ?_
    simp only [List.zip_cons_cons, List.zip_nil_left]
    repeat (first
      | ((refine idx_pure rfl ?_ ?_ ?_; rotate_left; · (intro W hSw; (try dsimp only at hSw); obtain ⟨hq1, hq2, _⟩ := hSw; go_simp) <;> with_reducible rfl); (try simp only [Act.put, List.setIfInBounds_toArray, List.set_cons_zero, List.set_cons_succ]))
      | (refine idx_no rfl rfl rfl ?_; (try simp only [Act.put, List.setIfInBounds_toArray, List.set_cons_zero, List.set_cons_succ]))
      | ((refine idx_yes rfl rfl rfl ?_ ?_ ?_; rotate_left; · (intro W hSw; (try dsimp only at hSw); obtain ⟨hq1, hq2, _⟩ := hSw; go_simp) <;> with_reducible rfl); (try simp only [Act.put, List.setIfInBounds_toArray, List.set_cons_zero, List.set_cons_succ]))
      | (refine idx_call_no rfl rfl rfl ?_; (try simp only [Act.put, List.setIfInBounds_toArray, List.set_cons_zero, List.set_cons_succ]))
      | (refine idx_call rfl (fun K hK => ?_); go_simp; first | (refine hK.out _ _ (by (repeat (first | exact hI.out | apply Held.drewn | apply Held.drew | apply Held.alloc))) ?_; clear hK K; (try simp only [Act.put, List.setIfInBounds_toArray, List.set_cons_zero, List.set_cons_succ])) | (refine (rlows_2 _ rd rn _ (by first | exact cell_at0 _ _ _ _ 0 (by simp) | exact cell_at _ _ _ _ _ 0 (by simp)) (by first | exact cell_at0 _ _ _ _ 1 (by simp) | exact cell_at _ _ _ _ _ 1 (by simp))).mono ?_; rintro e w' ⟨rfl, nl, rfl⟩; go_wp2_with fail; refine hK.out _ _ (by (repeat (first | exact hI.out | apply Held.drewn | apply Held.drew | apply Held.alloc))) ?_; clear hK K; (try simp only [Act.put, List.setIfInBounds_toArray, List.set_cons_zero, List.set_cons_succ])))
      | (refine idx_call_yes rfl rfl rfl (fun K hK => ?_); go_simp; first | (refine hK.out _ _ (by (repeat (first | exact hI.out | apply Held.drewn | apply Held.drew | apply Held.alloc))) ?_; clear hK K; (try simp only [Act.put, List.setIfInBounds_toArray, List.set_cons_zero, List.set_cons_succ])) | (refine (rlows_2 _ rd rn _ (by first | exact cell_at0 _ _ _ _ 0 (by simp) | exact cell_at _ _ _ _ _ 0 (by simp)) (by first | exact cell_at0 _ _ _ _ 1 (by simp) | exact cell_at _ _ _ _ _ 1 (by simp))).mono ?_; rintro e w' ⟨rfl, nl, rfl⟩; go_wp2_with fail; refine hK.out _ _ (by (repeat (first | exact hI.out | apply Held.drewn | apply Held.drew | apply Held.alloc))) ?_; clear hK K; (try simp only [Act.put, List.setIfInBounds_toArray, List.set_cons_zero, List.set_cons_succ]))))
    refine idx_end ?_
    go_wp2
    go_ret2
    refine ⟨?_, Held.bel (b := w.heap.size) (A := #[.int .i64 27, .int .i64 cond, .int .i64 rd, .int .i64 rn, .int .i64 rm, .int .i64 imm, .int .i64 1, .int .i64 list, .bool s]) (by (repeat (first | exact hI.out | apply Held.drewn | apply Held.drew | apply Held.alloc)))⟩
    first
      | (exact okay_none (by unfold Nm.loadI; dsimp only; rw [show Nm.byB 27 = 2 from rfl, show Nm.immB 27 = 34816 from rfl]; simp only [if_neg hn13p, Int.emod_one, Int.ediv_one, ← Bool.and_assoc]; (try simp only [Nm.opt, *]); all_goals rfl))
      | (refine okay_some (B := 34816 + imm / 2 * 64 + rn * 8 + rd) (by unfold Nm.loadI; dsimp only; rw [show Nm.byB 27 = 2 from rfl, show Nm.immB 27 = 34816 from rfl]; simp only [if_neg hn13p, Int.emod_one, Int.ediv_one, ← Bool.and_assoc]; (try simp only [Nm.opt, *]); all_goals rfl) ?_; simp only [Bool.and_eq_true] at h1; have r0 := Nm.low_is h1.1; have r1 := Nm.low_is h1.2; have q3 := of_decide_eq_true h3; (try rw [show IntKind.i64.wrap (imm / 2 * 64) = imm / 2 * 64 from IntWalk.i64_in _ (by omega)]); (try rw [show wrap64 (imm / 2 * 64) = imm / 2 * 64 by unfold wrap64; omega]); (try rw [show IntKind.i64.wrap (rn * 8) = rn * 8 from IntWalk.i64_in _ (by omega)]); (try rw [show wrap64 (rn * 8) = rn * 8 by unfold wrap64; omega]); (try rw [show IntKind.i64.wrap (rd) = rd from IntWalk.i64_in _ (by omega)]); (try rw [show wrap64 (rd) = rd by unfold wrap64; omega]); rw [Cm.or_join (34816) (imm / 2 * 64) 11 (by omega) (by omega) (by omega) (by omega) (by omega) (by omega), Cm.or_join (34816 + imm / 2 * 64) (rn * 8) 6 (by omega) (by omega) (by omega) (by omega) (by omega) (by omega), Cm.or_join (34816 + imm / 2 * 64 + rn * 8) (rd) 3 (by omega) (by omega) (by omega) (by omega) (by omega) (by omega)]; all_goals (try omega))
set_option linter.unusedSimpArgs false in
set_option maxRecDepth 100000 in
set_option maxHeartbeats 4000000 in
theorem load28_1 (cond rd rn rm imm list : Int) (s : Bool) (w : World) (hi0 : 0 ≤ imm) (hi1 : imm ≤ 4095) (hn13 : (rn == 13) = false) : Calls Tryd.prog 25 #[.agg #[.int .i64 28, .int .i64 cond, .int .i64 rd, .int .i64 rn, .int .i64 rm, .int .i64 imm, .int .i64 1, .int .i64 list, .bool s]] w fun e w' => Okay e (Nm.loadI ⟨28, cond, rd, rn, rm, imm, 1, list, s⟩) ∧ Below w.heap.size w w' := by
  have hI := Lib.hid (Held.start w #[.int .i64 28, .int .i64 cond, .int .i64 rd, .int .i64 rn, .int .i64 rm, .int .i64 imm, .int .i64 1, .int .i64 list, .bool s] 23)
  have ht : Int.tmod imm 4 = imm % 4 := Int.tmod_eq_emod_of_nonneg hi0
  have hq : Int.tdiv imm 4 = imm / 4 := Int.tdiv_eq_ediv_of_nonneg hi0
  have hwq : IntKind.i64.wrap (imm / 4) = imm / 4 := IntWalk.i64_in _ (by omega)
  have hn13p : ¬ rn = 13 := by simpa using hn13
  rcases chain3 (Nm.low rd && Nm.low rn) (imm % 4 == 0) (decide (imm / 4 ≤ 31)) with h1 | ⟨h1, h2⟩ | ⟨h1, h2, h3⟩ | ⟨h1, h2, h3⟩
  all_goals
    go_enter Tryd.func25, Tryd.ntmps25
    go_wp2_with fail
    refine wp_region_idx 35 [true, true, true, true, true, true, true, true, true, true, true, true, true, true, true, true, true, true, false, false, true, true, true, true, true, true, true, true, true, true, true, true, true, true, true, false] (S := (fun W => Held w.heap.size #[.int .i64 28, .int .i64 cond, .int .i64 rd, .int .i64 rn, .int .i64 rm, .int .i64 imm, .int .i64 1, .int .i64 list, .bool s] w W)) (by kernel_rfl) (by kernel_rfl) (fun _ _ d _ _ h => by cases d <;> exact h) (by (repeat (first | exact hI.out | apply Held.drewn | apply Held.drew | apply Held.alloc))) ?_
    simp only [List.zip_cons_cons, List.zip_nil_left]
    repeat (first
      | ((refine idx_pure rfl ?_ ?_ ?_; rotate_left; · (intro W hSw; (try dsimp only at hSw); obtain ⟨hq1, hq2, _⟩ := hSw; go_simp) <;> with_reducible rfl); (try simp only [Act.put, List.setIfInBounds_toArray, List.set_cons_zero, List.set_cons_succ]))
      | (refine idx_no rfl rfl rfl ?_; (try simp only [Act.put, List.setIfInBounds_toArray, List.set_cons_zero, List.set_cons_succ]))
      | ((refine idx_yes rfl rfl rfl ?_ ?_ ?_; rotate_left; · (intro W hSw; (try dsimp only at hSw); obtain ⟨hq1, hq2, _⟩ := hSw; go_simp) <;> with_reducible rfl); (try simp only [Act.put, List.setIfInBounds_toArray, List.set_cons_zero, List.set_cons_succ]))
      | (refine idx_call_no rfl rfl rfl ?_; (try simp only [Act.put, List.setIfInBounds_toArray, List.set_cons_zero, List.set_cons_succ]))
      | (refine idx_call rfl (fun K hK => ?_); go_simp; first | (refine hK.out _ _ (by (repeat (first | exact hI.out | apply Held.drewn | apply Held.drew | apply Held.alloc))) ?_; clear hK K; (try simp only [Act.put, List.setIfInBounds_toArray, List.set_cons_zero, List.set_cons_succ])) | (refine (rlows_2 _ rd rn _ (by first | exact cell_at0 _ _ _ _ 0 (by simp) | exact cell_at _ _ _ _ _ 0 (by simp)) (by first | exact cell_at0 _ _ _ _ 1 (by simp) | exact cell_at _ _ _ _ _ 1 (by simp))).mono ?_; rintro e w' ⟨rfl, nl, rfl⟩; go_wp2_with fail; refine hK.out _ _ (by (repeat (first | exact hI.out | apply Held.drewn | apply Held.drew | apply Held.alloc))) ?_; clear hK K; (try simp only [Act.put, List.setIfInBounds_toArray, List.set_cons_zero, List.set_cons_succ])))
      | (refine idx_call_yes rfl rfl rfl (fun K hK => ?_); go_simp; first | (refine hK.out _ _ (by (repeat (first | exact hI.out | apply Held.drewn | apply Held.drew | apply Held.alloc))) ?_; clear hK K; (try simp only [Act.put, List.setIfInBounds_toArray, List.set_cons_zero, List.set_cons_succ])) | (refine (rlows_2 _ rd rn _ (by first | exact cell_at0 _ _ _ _ 0 (by simp) | exact cell_at _ _ _ _ _ 0 (by simp)) (by first | exact cell_at0 _ _ _ _ 1 (by simp) | exact cell_at _ _ _ _ _ 1 (by simp))).mono ?_; rintro e w' ⟨rfl, nl, rfl⟩; go_wp2_with fail; refine hK.out _ _ (by (repeat (first | exact hI.out | apply Held.drewn | apply Held.drew | apply Held.alloc))) ?_; clear hK K; (try simp only [Act.put, List.setIfInBounds_toArray, List.set_cons_zero, List.set_cons_succ]))))
    refine idx_end ?_
    go_wp2
    go_ret2
    refine ⟨?_, Held.bel (b := w.heap.size) (A := #[.int .i64 28, .int .i64 cond, .int .i64 rd, .int .i64 rn, .int .i64 rm, .int .i64 imm, .int .i64 1, .int .i64 list, .bool s]) (by (repeat (first | exact hI.out | apply Held.drewn | apply Held.drew | apply Held.alloc)))⟩
    first
      | (exact okay_none (by unfold Nm.loadI; dsimp only; rw [show Nm.byB 28 = 4 from rfl, show Nm.immB 28 = 24576 from rfl]; simp only [if_neg hn13p, Int.emod_one, Int.ediv_one, ← Bool.and_assoc]; (try simp only [Nm.opt, *]); all_goals rfl))
      | (refine okay_some (B := 24576 + imm / 4 * 64 + rn * 8 + rd) (by unfold Nm.loadI; dsimp only; rw [show Nm.byB 28 = 4 from rfl, show Nm.immB 28 = 24576 from rfl]; simp only [if_neg hn13p, Int.emod_one, Int.ediv_one, ← Bool.and_assoc]; (try simp only [Nm.opt, *]); all_goals rfl) ?_; simp only [Bool.and_eq_true] at h1; have r0 := Nm.low_is h1.1; have r1 := Nm.low_is h1.2; have q3 := of_decide_eq_true h3; (try rw [show IntKind.i64.wrap (imm / 4 * 64) = imm / 4 * 64 from IntWalk.i64_in _ (by omega)]); (try rw [show wrap64 (imm / 4 * 64) = imm / 4 * 64 by unfold wrap64; omega]); (try rw [show IntKind.i64.wrap (rn * 8) = rn * 8 from IntWalk.i64_in _ (by omega)]); (try rw [show wrap64 (rn * 8) = rn * 8 by unfold wrap64; omega]); (try rw [show IntKind.i64.wrap (rd) = rd from IntWalk.i64_in _ (by omega)]); (try rw [show wrap64 (rd) = rd by unfold wrap64; omega]); rw [Cm.or_join (24576) (imm / 4 * 64) 11 (by omega) (by omega) (by omega) (by omega) (by omega) (by omega), Cm.or_join (24576 + imm / 4 * 64) (rn * 8) 6 (by omega) (by omega) (by omega) (by omega) (by omega) (by omega), Cm.or_join (24576 + imm / 4 * 64 + rn * 8) (rd) 3 (by omega) (by omega) (by omega) (by omega) (by omega) (by omega)]; all_goals (try omega))
set_option linter.unusedSimpArgs false in
set_option maxRecDepth 100000 in
set_option maxHeartbeats 4000000 in
theorem load29_1 (cond rd rn rm imm list : Int) (s : Bool) (w : World) (hi0 : 0 ≤ imm) (hi1 : imm ≤ 4095) (hn13 : (rn == 13) = false) : Calls Tryd.prog 25 #[.agg #[.int .i64 29, .int .i64 cond, .int .i64 rd, .int .i64 rn, .int .i64 rm, .int .i64 imm, .int .i64 1, .int .i64 list, .bool s]] w fun e w' => Okay e (Nm.loadI ⟨29, cond, rd, rn, rm, imm, 1, list, s⟩) ∧ Below w.heap.size w w' := by
  have hI := Lib.hid (Held.start w #[.int .i64 29, .int .i64 cond, .int .i64 rd, .int .i64 rn, .int .i64 rm, .int .i64 imm, .int .i64 1, .int .i64 list, .bool s] 23)
  have ht : Int.tmod imm 1 = 0 := by rw [Int.tmod_eq_emod_of_nonneg hi0]; omega
  have hq : Int.tdiv imm 1 = imm := by rw [Int.tdiv_eq_ediv_of_nonneg hi0]; omega
  have hwq : IntKind.i64.wrap imm = imm := IntWalk.i64_in _ (by omega)
  have hn13p : ¬ rn = 13 := by simpa using hn13
  rcases chain2 (Nm.low rd && Nm.low rn) (decide (imm ≤ 31)) with h1 | ⟨h1, h2⟩ | ⟨h1, h2⟩
  all_goals
    go_enter Tryd.func25, Tryd.ntmps25
    go_wp2_with fail
    refine wp_region_idx 35 [true, true, true, true, true, true, true, true, true, true, true, true, true, true, true, true, true, true, false, false, true, true, true, true, true, true, true, true, true, true, true, true, true, true, true, false] (S := (fun W => Held w.heap.size #[.int .i64 29, .int .i64 cond, .int .i64 rd, .int .i64 rn, .int .i64 rm, .int .i64 imm, .int .i64 1, .int .i64 list, .bool s] w W)) (by kernel_rfl) (by kernel_rfl) (fun _ _ d _ _ h => by cases d <;> exact h) (by (repeat (first | exact hI.out | apply Held.drewn | apply Held.drew | apply Held.alloc))) ?_
    simp only [List.zip_cons_cons, List.zip_nil_left]
    repeat (first
      | ((refine idx_pure rfl ?_ ?_ ?_; rotate_left; · (intro W hSw; (try dsimp only at hSw); obtain ⟨hq1, hq2, _⟩ := hSw; go_simp) <;> with_reducible rfl); (try simp only [Act.put, List.setIfInBounds_toArray, List.set_cons_zero, List.set_cons_succ]))
      | (refine idx_no rfl rfl rfl ?_; (try simp only [Act.put, List.setIfInBounds_toArray, List.set_cons_zero, List.set_cons_succ]))
      | ((refine idx_yes rfl rfl rfl ?_ ?_ ?_; rotate_left; · (intro W hSw; (try dsimp only at hSw); obtain ⟨hq1, hq2, _⟩ := hSw; go_simp) <;> with_reducible rfl); (try simp only [Act.put, List.setIfInBounds_toArray, List.set_cons_zero, List.set_cons_succ]))
      | (refine idx_call_no rfl rfl rfl ?_; (try simp only [Act.put, List.setIfInBounds_toArray, List.set_cons_zero, List.set_cons_succ]))
      | (refine idx_call rfl (fun K hK => ?_); go_simp; first | (refine hK.out _ _ (by (repeat (first | exact hI.out | apply Held.drewn | apply Held.drew | apply Held.alloc))) ?_; clear hK K; (try simp only [Act.put, List.setIfInBounds_toArray, List.set_cons_zero, List.set_cons_succ])) | (refine (rlows_2 _ rd rn _ (by first | exact cell_at0 _ _ _ _ 0 (by simp) | exact cell_at _ _ _ _ _ 0 (by simp)) (by first | exact cell_at0 _ _ _ _ 1 (by simp) | exact cell_at _ _ _ _ _ 1 (by simp))).mono ?_; rintro e w' ⟨rfl, nl, rfl⟩; go_wp2_with fail; refine hK.out _ _ (by (repeat (first | exact hI.out | apply Held.drewn | apply Held.drew | apply Held.alloc))) ?_; clear hK K; (try simp only [Act.put, List.setIfInBounds_toArray, List.set_cons_zero, List.set_cons_succ])))
      | (refine idx_call_yes rfl rfl rfl (fun K hK => ?_); go_simp; first | (refine hK.out _ _ (by (repeat (first | exact hI.out | apply Held.drewn | apply Held.drew | apply Held.alloc))) ?_; clear hK K; (try simp only [Act.put, List.setIfInBounds_toArray, List.set_cons_zero, List.set_cons_succ])) | (refine (rlows_2 _ rd rn _ (by first | exact cell_at0 _ _ _ _ 0 (by simp) | exact cell_at _ _ _ _ _ 0 (by simp)) (by first | exact cell_at0 _ _ _ _ 1 (by simp) | exact cell_at _ _ _ _ _ 1 (by simp))).mono ?_; rintro e w' ⟨rfl, nl, rfl⟩; go_wp2_with fail; refine hK.out _ _ (by (repeat (first | exact hI.out | apply Held.drewn | apply Held.drew | apply Held.alloc))) ?_; clear hK K; (try simp only [Act.put, List.setIfInBounds_toArray, List.set_cons_zero, List.set_cons_succ]))))
    refine idx_end ?_
    go_wp2
    go_ret2
    refine ⟨?_, Held.bel (b := w.heap.size) (A := #[.int .i64 29, .int .i64 cond, .int .i64 rd, .int .i64 rn, .int .i64 rm, .int .i64 imm, .int .i64 1, .int .i64 list, .bool s]) (by (repeat (first | exact hI.out | apply Held.drewn | apply Held.drew | apply Held.alloc)))⟩
    first
      | (exact okay_none (by unfold Nm.loadI; dsimp only; rw [show Nm.byB 29 = 1 from rfl, show Nm.immB 29 = 28672 from rfl]; simp only [if_neg hn13p, Int.emod_one, Int.ediv_one, ← Bool.and_assoc]; (try simp only [Nm.opt, *]); all_goals rfl))
      | (refine okay_some (B := 28672 + imm * 64 + rn * 8 + rd) (by unfold Nm.loadI; dsimp only; rw [show Nm.byB 29 = 1 from rfl, show Nm.immB 29 = 28672 from rfl]; simp only [if_neg hn13p, Int.emod_one, Int.ediv_one, ← Bool.and_assoc]; (try simp only [Nm.opt, *]); all_goals rfl) ?_; simp only [Bool.and_eq_true] at h1; have r0 := Nm.low_is h1.1; have r1 := Nm.low_is h1.2; have q3 := of_decide_eq_true h2; (try rw [show IntKind.i64.wrap (imm * 64) = imm * 64 from IntWalk.i64_in _ (by omega)]); (try rw [show wrap64 (imm * 64) = imm * 64 by unfold wrap64; omega]); (try rw [show IntKind.i64.wrap (rn * 8) = rn * 8 from IntWalk.i64_in _ (by omega)]); (try rw [show wrap64 (rn * 8) = rn * 8 by unfold wrap64; omega]); (try rw [show IntKind.i64.wrap (rd) = rd from IntWalk.i64_in _ (by omega)]); (try rw [show wrap64 (rd) = rd by unfold wrap64; omega]); rw [Cm.or_join (28672) (imm * 64) 11 (by omega) (by omega) (by omega) (by omega) (by omega) (by omega), Cm.or_join (28672 + imm * 64) (rn * 8) 6 (by omega) (by omega) (by omega) (by omega) (by omega) (by omega), Cm.or_join (28672 + imm * 64 + rn * 8) (rd) 3 (by omega) (by omega) (by omega) (by omega) (by omega) (by omega)]; all_goals (try omega))
set_option linter.unusedSimpArgs false in
set_option maxRecDepth 100000 in
set_option maxHeartbeats 4000000 in
theorem load30_1 (cond rd rn rm imm list : Int) (s : Bool) (w : World) (hi0 : 0 ≤ imm) (hi1 : imm ≤ 4095) (hn13 : (rn == 13) = false) : Calls Tryd.prog 25 #[.agg #[.int .i64 30, .int .i64 cond, .int .i64 rd, .int .i64 rn, .int .i64 rm, .int .i64 imm, .int .i64 1, .int .i64 list, .bool s]] w fun e w' => Okay e (Nm.loadI ⟨30, cond, rd, rn, rm, imm, 1, list, s⟩) ∧ Below w.heap.size w w' := by
  have hI := Lib.hid (Held.start w #[.int .i64 30, .int .i64 cond, .int .i64 rd, .int .i64 rn, .int .i64 rm, .int .i64 imm, .int .i64 1, .int .i64 list, .bool s] 23)
  have ht : Int.tmod imm 2 = imm % 2 := Int.tmod_eq_emod_of_nonneg hi0
  have hq : Int.tdiv imm 2 = imm / 2 := Int.tdiv_eq_ediv_of_nonneg hi0
  have hwq : IntKind.i64.wrap (imm / 2) = imm / 2 := IntWalk.i64_in _ (by omega)
  have hn13p : ¬ rn = 13 := by simpa using hn13
  rcases chain3 (Nm.low rd && Nm.low rn) (imm % 2 == 0) (decide (imm / 2 ≤ 31)) with h1 | ⟨h1, h2⟩ | ⟨h1, h2, h3⟩ | ⟨h1, h2, h3⟩
  all_goals
    go_enter Tryd.func25, Tryd.ntmps25
    go_wp2_with fail
    refine wp_region_idx 35 [true, true, true, true, true, true, true, true, true, true, true, true, true, true, true, true, true, true, false, false, true, true, true, true, true, true, true, true, true, true, true, true, true, true, true, false] (S := (fun W => Held w.heap.size #[.int .i64 30, .int .i64 cond, .int .i64 rd, .int .i64 rn, .int .i64 rm, .int .i64 imm, .int .i64 1, .int .i64 list, .bool s] w W)) (by kernel_rfl) (by kernel_rfl) (fun _ _ d _ _ h => by cases d <;> exact h) (by (repeat (first | exact hI.out | apply Held.drewn | apply Held.drew | apply Held.alloc))) ?_
    simp only [List.zip_cons_cons, List.zip_nil_left]
    repeat (first
      | ((refine idx_pure rfl ?_ ?_ ?_; rotate_left; · (intro W hSw; (try dsimp only at hSw); obtain ⟨hq1, hq2, _⟩ := hSw; go_simp) <;> with_reducible rfl); (try simp only [Act.put, List.setIfInBounds_toArray, List.set_cons_zero, List.set_cons_succ]))
      | (refine idx_no rfl rfl rfl ?_; (try simp only [Act.put, List.setIfInBounds_toArray, List.set_cons_zero, List.set_cons_succ]))
      | ((refine idx_yes rfl rfl rfl ?_ ?_ ?_; rotate_left; · (intro W hSw; (try dsimp only at hSw); obtain ⟨hq1, hq2, _⟩ := hSw; go_simp) <;> with_reducible rfl); (try simp only [Act.put, List.setIfInBounds_toArray, List.set_cons_zero, List.set_cons_succ]))
      | (refine idx_call_no rfl rfl rfl ?_; (try simp only [Act.put, List.setIfInBounds_toArray, List.set_cons_zero, List.set_cons_succ]))
      | (refine idx_call rfl (fun K hK => ?_); go_simp; first | (refine hK.out _ _ (by (repeat (first | exact hI.out | apply Held.drewn | apply Held.drew | apply Held.alloc))) ?_; clear hK K; (try simp only [Act.put, List.setIfInBounds_toArray, List.set_cons_zero, List.set_cons_succ])) | (refine (rlows_2 _ rd rn _ (by first | exact cell_at0 _ _ _ _ 0 (by simp) | exact cell_at _ _ _ _ _ 0 (by simp)) (by first | exact cell_at0 _ _ _ _ 1 (by simp) | exact cell_at _ _ _ _ _ 1 (by simp))).mono ?_; rintro e w' ⟨rfl, nl, rfl⟩; go_wp2_with fail; refine hK.out _ _ (by (repeat (first | exact hI.out | apply Held.drewn | apply Held.drew | apply Held.alloc))) ?_; clear hK K; (try simp only [Act.put, List.setIfInBounds_toArray, List.set_cons_zero, List.set_cons_succ])))
      | (refine idx_call_yes rfl rfl rfl (fun K hK => ?_); go_simp; first | (refine hK.out _ _ (by (repeat (first | exact hI.out | apply Held.drewn | apply Held.drew | apply Held.alloc))) ?_; clear hK K; (try simp only [Act.put, List.setIfInBounds_toArray, List.set_cons_zero, List.set_cons_succ])) | (refine (rlows_2 _ rd rn _ (by first | exact cell_at0 _ _ _ _ 0 (by simp) | exact cell_at _ _ _ _ _ 0 (by simp)) (by first | exact cell_at0 _ _ _ _ 1 (by simp) | exact cell_at _ _ _ _ _ 1 (by simp))).mono ?_; rintro e w' ⟨rfl, nl, rfl⟩; go_wp2_with fail; refine hK.out _ _ (by (repeat (first | exact hI.out | apply Held.drewn | apply Held.drew | apply Held.alloc))) ?_; clear hK K; (try simp only [Act.put, List.setIfInBounds_toArray, List.set_cons_zero, List.set_cons_succ]))))
    refine idx_end ?_
    go_wp2
    go_ret2
    refine ⟨?_, Held.bel (b := w.heap.size) (A := #[.int .i64 30, .int .i64 cond, .int .i64 rd, .int .i64 rn, .int .i64 rm, .int .i64 imm, .int .i64 1, .int .i64 list, .bool s]) (by (repeat (first | exact hI.out | apply Held.drewn | apply Held.drew | apply Held.alloc)))⟩
    first
      | (exact okay_none (by unfold Nm.loadI; dsimp only; rw [show Nm.byB 30 = 2 from rfl, show Nm.immB 30 = 32768 from rfl]; simp only [if_neg hn13p, Int.emod_one, Int.ediv_one, ← Bool.and_assoc]; (try simp only [Nm.opt, *]); all_goals rfl))
      | (refine okay_some (B := 32768 + imm / 2 * 64 + rn * 8 + rd) (by unfold Nm.loadI; dsimp only; rw [show Nm.byB 30 = 2 from rfl, show Nm.immB 30 = 32768 from rfl]; simp only [if_neg hn13p, Int.emod_one, Int.ediv_one, ← Bool.and_assoc]; (try simp only [Nm.opt, *]); all_goals rfl) ?_; simp only [Bool.and_eq_true] at h1; have r0 := Nm.low_is h1.1; have r1 := Nm.low_is h1.2; have q3 := of_decide_eq_true h3; (try rw [show IntKind.i64.wrap (imm / 2 * 64) = imm / 2 * 64 from IntWalk.i64_in _ (by omega)]); (try rw [show wrap64 (imm / 2 * 64) = imm / 2 * 64 by unfold wrap64; omega]); (try rw [show IntKind.i64.wrap (rn * 8) = rn * 8 from IntWalk.i64_in _ (by omega)]); (try rw [show wrap64 (rn * 8) = rn * 8 by unfold wrap64; omega]); (try rw [show IntKind.i64.wrap (rd) = rd from IntWalk.i64_in _ (by omega)]); (try rw [show wrap64 (rd) = rd by unfold wrap64; omega]); rw [Cm.or_join (32768) (imm / 2 * 64) 11 (by omega) (by omega) (by omega) (by omega) (by omega) (by omega), Cm.or_join (32768 + imm / 2 * 64) (rn * 8) 6 (by omega) (by omega) (by omega) (by omega) (by omega) (by omega), Cm.or_join (32768 + imm / 2 * 64 + rn * 8) (rd) 3 (by omega) (by omega) (by omega) (by omega) (by omega) (by omega)]; all_goals (try omega))
end Go.Proofs.YtcphhojdfpedkaaDoor
