/- Contract of the document's own rest (text by gen_v.py). Contract of the document's own rest (text by gen_v.py). Contract of the document's own sum (text by gen_v.py). Contract of the document's own branch (text by gen_v.py). -/
import Derived.Test.YtcphhojdfpedkaaDoorGj
import Derived.LoopN
import Derived.StillTail
import Derived.Deep.RegionHeld
import Derived.Test.YtcphhojdfpedkaaDoorGc
import Derived.Test.YtcphhojdfpedkaaDoorGe

namespace Go.Proofs.YtcphhojdfpedkaaDoor
open Go.ChangeShapes Go.WideShapes Go.ChangeAt Go.RowKit
set_option linter.unusedSimpArgs false in
set_option maxRecDepth 100000 in
set_option maxHeartbeats 4000000 in
theorem rest39 (cond rd rn rm imm mode list : Int) (s it : Bool) (w : World) (hm0 : 0 ≤ rm) (hm1 : rm ≤ 15)  : Calls Tryd.prog 27 #[.agg #[.int .i64 39, .int .i64 cond, .int .i64 rd, .int .i64 rn, .int .i64 rm, .int .i64 imm, .int .i64 mode, .int .i64 list, .bool s], .bool it] w fun e w' => Okay e (Nm.restI ⟨39, cond, rd, rn, rm, imm, mode, list, s⟩ it) ∧ Below w.heap.size w w' := by
  have hI := Lib.hid (Held.start w #[.int .i64 39, .int .i64 cond, .int .i64 rd, .int .i64 rn, .int .i64 rm, .int .i64 imm, .int .i64 mode, .int .i64 list, .bool s] 23)
  all_goals
    go_enter Tryd.func27, Tryd.ntmps27
    go_wp2_with fail
    go_ret2
    refine ⟨?_, Held.bel (b := w.heap.size) (A := #[.int .i64 39, .int .i64 cond, .int .i64 rd, .int .i64 rn, .int .i64 rm, .int .i64 imm, .int .i64 mode, .int .i64 list, .bool s]) (by (repeat (first | exact hI.out | apply Held.drewn | apply Held.drew | apply Held.alloc)))⟩
    first
      | (exact okay_none (by unfold Nm.restI; dsimp only; (try simp only [Nm.opt, *]); all_goals rfl))
      | (refine okay_some (B := 18176 + rm * 8) (by unfold Nm.restI; dsimp only; (try simp only [Nm.opt, *]); all_goals rfl) ?_; (try rw [show IntKind.i64.wrap (rm * 8) = rm * 8 from IntWalk.i64_in _ (by omega)]); (try rw [show wrap64 (rm * 8) = rm * 8 by unfold wrap64; omega]); rw [Cm.or_join (18176) (rm * 8) 7 (by omega) (by omega) (by omega) (by omega) (by omega) (by omega)]; all_goals (try omega))
set_option linter.unusedSimpArgs false in
set_option maxRecDepth 100000 in
set_option maxHeartbeats 4000000 in
theorem rest42 (cond rd rn rm imm mode list : Int) (s it : Bool) (w : World) (hc0 : 0 ≤ cond) (hc1 : cond ≤ 14) (hi0 : 0 ≤ imm) (hi1 : imm ≤ 15) : Calls Tryd.prog 27 #[.agg #[.int .i64 42, .int .i64 cond, .int .i64 rd, .int .i64 rn, .int .i64 rm, .int .i64 imm, .int .i64 mode, .int .i64 list, .bool s], .bool it] w fun e w' => Okay e (Nm.restI ⟨42, cond, rd, rn, rm, imm, mode, list, s⟩ it) ∧ Below w.heap.size w w' := by
  have hI := Lib.hid (Held.start w #[.int .i64 42, .int .i64 cond, .int .i64 rd, .int .i64 rn, .int .i64 rm, .int .i64 imm, .int .i64 mode, .int .i64 list, .bool s] 23)
  rcases chain1 (!it) with h1 | h1
  all_goals
    go_enter Tryd.func27, Tryd.ntmps27
    go_wp2_with fail
    go_ret2
    refine ⟨?_, Held.bel (b := w.heap.size) (A := #[.int .i64 42, .int .i64 cond, .int .i64 rd, .int .i64 rn, .int .i64 rm, .int .i64 imm, .int .i64 mode, .int .i64 list, .bool s]) (by (repeat (first | exact hI.out | apply Held.drewn | apply Held.drew | apply Held.alloc)))⟩
    first
      | (exact okay_none (by unfold Nm.restI; dsimp only; (try simp only [Nm.opt, *]); all_goals rfl))
      | (refine okay_some (B := 48896 + cond * 16 + imm) (by unfold Nm.restI; dsimp only; (try simp only [Nm.opt, *]); all_goals rfl) ?_; (try rw [show IntKind.i64.wrap (cond * 16) = cond * 16 from IntWalk.i64_in _ (by omega)]); (try rw [show wrap64 (cond * 16) = cond * 16 by unfold wrap64; omega]); (try rw [show IntKind.i64.wrap (imm) = imm from IntWalk.i64_in _ (by omega)]); (try rw [show wrap64 (imm) = imm by unfold wrap64; omega]); rw [Cm.or_join (48896) (cond * 16) 8 (by omega) (by omega) (by omega) (by omega) (by omega) (by omega), Cm.or_join (48896 + cond * 16) (imm) 4 (by omega) (by omega) (by omega) (by omega) (by omega) (by omega)]; all_goals (try omega))
set_option linter.unusedSimpArgs false in
set_option maxRecDepth 100000 in
set_option maxHeartbeats 4000000 in
theorem rest43 (cond rd rn rm imm mode list : Int) (s it : Bool) (w : World)  : Calls Tryd.prog 27 #[.agg #[.int .i64 43, .int .i64 cond, .int .i64 rd, .int .i64 rn, .int .i64 rm, .int .i64 imm, .int .i64 mode, .int .i64 list, .bool s], .bool it] w fun e w' => Okay e (Nm.restI ⟨43, cond, rd, rn, rm, imm, mode, list, s⟩ it) ∧ Below w.heap.size w w' := by
  have hI := Lib.hid (Held.start w #[.int .i64 43, .int .i64 cond, .int .i64 rd, .int .i64 rn, .int .i64 rm, .int .i64 imm, .int .i64 mode, .int .i64 list, .bool s] 23)
  all_goals
    go_enter Tryd.func27, Tryd.ntmps27
    go_wp2_with fail
    go_ret2
    refine ⟨?_, Held.bel (b := w.heap.size) (A := #[.int .i64 43, .int .i64 cond, .int .i64 rd, .int .i64 rn, .int .i64 rm, .int .i64 imm, .int .i64 mode, .int .i64 list, .bool s]) (by (repeat (first | exact hI.out | apply Held.drewn | apply Held.drew | apply Held.alloc)))⟩
    first
      | (exact okay_none (by unfold Nm.restI; dsimp only; (try simp only [Nm.opt, *]); all_goals rfl))
      | (refine okay_some (B := 48896) (by unfold Nm.restI; dsimp only; (try simp only [Nm.opt, *]); all_goals rfl) ?_; all_goals (try omega))
set_option linter.unusedSimpArgs false in
set_option maxRecDepth 100000 in
set_option maxHeartbeats 4000000 in
theorem rest44 (cond rd rn rm imm mode list : Int) (s it : Bool) (w : World) (hi0 : 0 ≤ imm) (hi1 : imm ≤ 255) : Calls Tryd.prog 27 #[.agg #[.int .i64 44, .int .i64 cond, .int .i64 rd, .int .i64 rn, .int .i64 rm, .int .i64 imm, .int .i64 mode, .int .i64 list, .bool s], .bool it] w fun e w' => Okay e (Nm.restI ⟨44, cond, rd, rn, rm, imm, mode, list, s⟩ it) ∧ Below w.heap.size w w' := by
  have hI := Lib.hid (Held.start w #[.int .i64 44, .int .i64 cond, .int .i64 rd, .int .i64 rn, .int .i64 rm, .int .i64 imm, .int .i64 mode, .int .i64 list, .bool s] 23)
  all_goals
    go_enter Tryd.func27, Tryd.ntmps27
    go_wp2_with fail
    go_ret2
    refine ⟨?_, Held.bel (b := w.heap.size) (A := #[.int .i64 44, .int .i64 cond, .int .i64 rd, .int .i64 rn, .int .i64 rm, .int .i64 imm, .int .i64 mode, .int .i64 list, .bool s]) (by (repeat (first | exact hI.out | apply Held.drewn | apply Held.drew | apply Held.alloc)))⟩
    first
      | (exact okay_none (by unfold Nm.restI; dsimp only; (try simp only [Nm.opt, *]); all_goals rfl))
      | (refine okay_some (B := 48640 + imm) (by unfold Nm.restI; dsimp only; (try simp only [Nm.opt, *]); all_goals rfl) ?_; (try rw [show IntKind.i64.wrap (imm) = imm from IntWalk.i64_in _ (by omega)]); (try rw [show wrap64 (imm) = imm by unfold wrap64; omega]); rw [Cm.or_join (48640) (imm) 8 (by omega) (by omega) (by omega) (by omega) (by omega) (by omega)]; all_goals (try omega))
set_option linter.unusedSimpArgs false in
set_option maxRecDepth 100000 in
set_option maxHeartbeats 4000000 in
theorem rest15 (cond rd rn rm imm mode list : Int) (s it : Bool) (w : World)  : Calls Tryd.prog 27 #[.agg #[.int .i64 15, .int .i64 cond, .int .i64 rd, .int .i64 rn, .int .i64 rm, .int .i64 imm, .int .i64 mode, .int .i64 list, .bool s], .bool it] w fun e w' => Okay e (Nm.restI ⟨15, cond, rd, rn, rm, imm, mode, list, s⟩ it) ∧ Below w.heap.size w w' := by
  have hI := Lib.hid (Held.start w #[.int .i64 15, .int .i64 cond, .int .i64 rd, .int .i64 rn, .int .i64 rm, .int .i64 imm, .int .i64 mode, .int .i64 list, .bool s] 23)
  all_goals
    go_enter Tryd.func27, Tryd.ntmps27
    go_wp2_with fail
    go_ret2
    refine ⟨?_, Held.bel (b := w.heap.size) (A := #[.int .i64 15, .int .i64 cond, .int .i64 rd, .int .i64 rn, .int .i64 rm, .int .i64 imm, .int .i64 mode, .int .i64 list, .bool s]) (by (repeat (first | exact hI.out | apply Held.drewn | apply Held.drew | apply Held.alloc)))⟩
    (exact okay_none (by unfold Nm.restI; dsimp only; (try simp only [Nm.opt, *]); all_goals rfl))
set_option linter.unusedSimpArgs false in
set_option maxRecDepth 100000 in
set_option maxHeartbeats 4000000 in
theorem rest21 (cond rd rn rm imm mode list : Int) (s it : Bool) (w : World)  : Calls Tryd.prog 27 #[.agg #[.int .i64 21, .int .i64 cond, .int .i64 rd, .int .i64 rn, .int .i64 rm, .int .i64 imm, .int .i64 mode, .int .i64 list, .bool s], .bool it] w fun e w' => Okay e (Nm.restI ⟨21, cond, rd, rn, rm, imm, mode, list, s⟩ it) ∧ Below w.heap.size w w' := by
  have hI := Lib.hid (Held.start w #[.int .i64 21, .int .i64 cond, .int .i64 rd, .int .i64 rn, .int .i64 rm, .int .i64 imm, .int .i64 mode, .int .i64 list, .bool s] 23)
  all_goals
    go_enter Tryd.func27, Tryd.ntmps27
    go_wp2_with fail
    go_ret2
    refine ⟨?_, Held.bel (b := w.heap.size) (A := #[.int .i64 21, .int .i64 cond, .int .i64 rd, .int .i64 rn, .int .i64 rm, .int .i64 imm, .int .i64 mode, .int .i64 list, .bool s]) (by (repeat (first | exact hI.out | apply Held.drewn | apply Held.drew | apply Held.alloc)))⟩
    (exact okay_none (by unfold Nm.restI; dsimp only; (try simp only [Nm.opt, *]); all_goals rfl))
set_option linter.unusedSimpArgs false in
set_option maxRecDepth 100000 in
set_option maxHeartbeats 4000000 in
theorem rest22 (cond rd rn rm imm mode list : Int) (s it : Bool) (w : World)  : Calls Tryd.prog 27 #[.agg #[.int .i64 22, .int .i64 cond, .int .i64 rd, .int .i64 rn, .int .i64 rm, .int .i64 imm, .int .i64 mode, .int .i64 list, .bool s], .bool it] w fun e w' => Okay e (Nm.restI ⟨22, cond, rd, rn, rm, imm, mode, list, s⟩ it) ∧ Below w.heap.size w w' := by
  have hI := Lib.hid (Held.start w #[.int .i64 22, .int .i64 cond, .int .i64 rd, .int .i64 rn, .int .i64 rm, .int .i64 imm, .int .i64 mode, .int .i64 list, .bool s] 23)
  all_goals
    go_enter Tryd.func27, Tryd.ntmps27
    go_wp2_with fail
    go_ret2
    refine ⟨?_, Held.bel (b := w.heap.size) (A := #[.int .i64 22, .int .i64 cond, .int .i64 rd, .int .i64 rn, .int .i64 rm, .int .i64 imm, .int .i64 mode, .int .i64 list, .bool s]) (by (repeat (first | exact hI.out | apply Held.drewn | apply Held.drew | apply Held.alloc)))⟩
    (exact okay_none (by unfold Nm.restI; dsimp only; (try simp only [Nm.opt, *]); all_goals rfl))
set_option linter.unusedSimpArgs false in
set_option maxRecDepth 100000 in
set_option maxHeartbeats 4000000 in
theorem rest23 (cond rd rn rm imm mode list : Int) (s it : Bool) (w : World)  : Calls Tryd.prog 27 #[.agg #[.int .i64 23, .int .i64 cond, .int .i64 rd, .int .i64 rn, .int .i64 rm, .int .i64 imm, .int .i64 mode, .int .i64 list, .bool s], .bool it] w fun e w' => Okay e (Nm.restI ⟨23, cond, rd, rn, rm, imm, mode, list, s⟩ it) ∧ Below w.heap.size w w' := by
  have hI := Lib.hid (Held.start w #[.int .i64 23, .int .i64 cond, .int .i64 rd, .int .i64 rn, .int .i64 rm, .int .i64 imm, .int .i64 mode, .int .i64 list, .bool s] 23)
  all_goals
    go_enter Tryd.func27, Tryd.ntmps27
    go_wp2_with fail
    go_ret2
    refine ⟨?_, Held.bel (b := w.heap.size) (A := #[.int .i64 23, .int .i64 cond, .int .i64 rd, .int .i64 rn, .int .i64 rm, .int .i64 imm, .int .i64 mode, .int .i64 list, .bool s]) (by (repeat (first | exact hI.out | apply Held.drewn | apply Held.drew | apply Held.alloc)))⟩
    (exact okay_none (by unfold Nm.restI; dsimp only; (try simp only [Nm.opt, *]); all_goals rfl))
set_option linter.unusedSimpArgs false in
set_option maxRecDepth 100000 in
set_option maxHeartbeats 4000000 in
theorem rest24 (cond rd rn rm imm mode list : Int) (s it : Bool) (w : World)  : Calls Tryd.prog 27 #[.agg #[.int .i64 24, .int .i64 cond, .int .i64 rd, .int .i64 rn, .int .i64 rm, .int .i64 imm, .int .i64 mode, .int .i64 list, .bool s], .bool it] w fun e w' => Okay e (Nm.restI ⟨24, cond, rd, rn, rm, imm, mode, list, s⟩ it) ∧ Below w.heap.size w w' := by
  have hI := Lib.hid (Held.start w #[.int .i64 24, .int .i64 cond, .int .i64 rd, .int .i64 rn, .int .i64 rm, .int .i64 imm, .int .i64 mode, .int .i64 list, .bool s] 23)
  all_goals
    go_enter Tryd.func27, Tryd.ntmps27
    go_wp2_with fail
    go_ret2
    refine ⟨?_, Held.bel (b := w.heap.size) (A := #[.int .i64 24, .int .i64 cond, .int .i64 rd, .int .i64 rn, .int .i64 rm, .int .i64 imm, .int .i64 mode, .int .i64 list, .bool s]) (by (repeat (first | exact hI.out | apply Held.drewn | apply Held.drew | apply Held.alloc)))⟩
    (exact okay_none (by unfold Nm.restI; dsimp only; (try simp only [Nm.opt, *]); all_goals rfl))
set_option linter.unusedSimpArgs false in
set_option maxRecDepth 100000 in
set_option maxHeartbeats 4000000 in
theorem rest36 (cond rd rn rm imm mode list : Int) (s it : Bool) (w : World)  : Calls Tryd.prog 27 #[.agg #[.int .i64 36, .int .i64 cond, .int .i64 rd, .int .i64 rn, .int .i64 rm, .int .i64 imm, .int .i64 mode, .int .i64 list, .bool s], .bool it] w fun e w' => Okay e (Nm.restI ⟨36, cond, rd, rn, rm, imm, mode, list, s⟩ it) ∧ Below w.heap.size w w' := by
  have hI := Lib.hid (Held.start w #[.int .i64 36, .int .i64 cond, .int .i64 rd, .int .i64 rn, .int .i64 rm, .int .i64 imm, .int .i64 mode, .int .i64 list, .bool s] 23)
  all_goals
    go_enter Tryd.func27, Tryd.ntmps27
    go_wp2_with fail
    go_ret2
    refine ⟨?_, Held.bel (b := w.heap.size) (A := #[.int .i64 36, .int .i64 cond, .int .i64 rd, .int .i64 rn, .int .i64 rm, .int .i64 imm, .int .i64 mode, .int .i64 list, .bool s]) (by (repeat (first | exact hI.out | apply Held.drewn | apply Held.drew | apply Held.alloc)))⟩
    (exact okay_none (by unfold Nm.restI; dsimp only; (try simp only [Nm.opt, *]); all_goals rfl))
set_option linter.unusedSimpArgs false in
set_option maxRecDepth 100000 in
set_option maxHeartbeats 4000000 in
theorem rest45 (cond rd rn rm imm mode list : Int) (s it : Bool) (w : World)  : Calls Tryd.prog 27 #[.agg #[.int .i64 45, .int .i64 cond, .int .i64 rd, .int .i64 rn, .int .i64 rm, .int .i64 imm, .int .i64 mode, .int .i64 list, .bool s], .bool it] w fun e w' => Okay e (Nm.restI ⟨45, cond, rd, rn, rm, imm, mode, list, s⟩ it) ∧ Below w.heap.size w w' := by
  have hI := Lib.hid (Held.start w #[.int .i64 45, .int .i64 cond, .int .i64 rd, .int .i64 rn, .int .i64 rm, .int .i64 imm, .int .i64 mode, .int .i64 list, .bool s] 23)
  all_goals
    go_enter Tryd.func27, Tryd.ntmps27
    go_wp2_with fail
    go_ret2
    refine ⟨?_, Held.bel (b := w.heap.size) (A := #[.int .i64 45, .int .i64 cond, .int .i64 rd, .int .i64 rn, .int .i64 rm, .int .i64 imm, .int .i64 mode, .int .i64 list, .bool s]) (by (repeat (first | exact hI.out | apply Held.drewn | apply Held.drew | apply Held.alloc)))⟩
    (exact okay_none (by unfold Nm.restI; dsimp only; (try simp only [Nm.opt, *]); all_goals rfl))
end Go.Proofs.YtcphhojdfpedkaaDoor

namespace Go.Proofs.YtcphhojdfpedkaaDoor
open Go.ChangeShapes Go.WideShapes Go.ChangeAt Go.RowKit
set_option linter.unusedSimpArgs false in
set_option maxRecDepth 100000 in
set_option maxHeartbeats 4000000 in
theorem rest32 (cond rd rn rm imm mode list : Int) (s it : Bool) (w : World) (hl0 : 0 ≤ list) (hl1 : list ≤ 65535) : Calls Tryd.prog 27 #[.agg #[.int .i64 32, .int .i64 cond, .int .i64 rd, .int .i64 rn, .int .i64 rm, .int .i64 imm, .int .i64 mode, .int .i64 list, .bool s], .bool it] w fun e w' => Okay e (Nm.restI ⟨32, cond, rd, rn, rm, imm, mode, list, s⟩ it) ∧ Below w.heap.size w w' := by
  have hI := Lib.hid (Held.start w #[.int .i64 32, .int .i64 cond, .int .i64 rd, .int .i64 rn, .int .i64 rm, .int .i64 imm, .int .i64 mode, .int .i64 list, .bool s] 23)
  have ha := Cm.and255 list
  have hb := Vy.low8 list hl0
  rcases chain2 (Nm.low rn) (decide (list ≤ 255)) with h1 | ⟨h1, h2⟩ | ⟨h1, h2⟩
  all_goals
    go_enter Tryd.func27, Tryd.ntmps27
    go_wp2_with fail
    refine wp_region_idx 17 [true, true, true, true, true, true, true, true, false, false, true, true, true, true, true, true, true, false] (S := (fun W => Held w.heap.size #[.int .i64 32, .int .i64 cond, .int .i64 rd, .int .i64 rn, .int .i64 rm, .int .i64 imm, .int .i64 mode, .int .i64 list, .bool s] w W)) (by kernel_rfl) (by kernel_rfl) (fun _ _ d _ _ h => by cases d <;> exact h) (by (repeat (first | exact hI.out | apply Held.drewn | apply Held.drew | apply Held.alloc))) ?_
    simp only [List.zip_cons_cons, List.zip_nil_left]
    repeat (first
      | ((refine idx_pure rfl ?_ ?_ ?_; rotate_left; · (intro W hSw; (try dsimp only at hSw); obtain ⟨hq1, hq2, _⟩ := hSw; go_simp) <;> with_reducible rfl); (try simp only [Act.put, List.setIfInBounds_toArray, List.set_cons_zero, List.set_cons_succ]))
      | (refine idx_no rfl rfl rfl ?_; (try simp only [Act.put, List.setIfInBounds_toArray, List.set_cons_zero, List.set_cons_succ]))
      | ((refine idx_yes rfl rfl rfl ?_ ?_ ?_; rotate_left; · (intro W hSw; (try dsimp only at hSw); obtain ⟨hq1, hq2, _⟩ := hSw; go_simp) <;> with_reducible rfl); (try simp only [Act.put, List.setIfInBounds_toArray, List.set_cons_zero, List.set_cons_succ]))
      | (refine idx_call_no rfl rfl rfl ?_; (try simp only [Act.put, List.setIfInBounds_toArray, List.set_cons_zero, List.set_cons_succ]))
      | (refine idx_call rfl (fun K hK => ?_); go_simp; first | (refine hK.out _ _ (by (repeat (first | exact hI.out | apply Held.drewn | apply Held.drew | apply Held.alloc))) ?_; clear hK K; (try simp only [Act.put, List.setIfInBounds_toArray, List.set_cons_zero, List.set_cons_succ])) | (refine (rlows_1 _ rn _ (by first | exact cell_at0 _ _ _ _ 0 (by simp) | exact cell_at _ _ _ _ _ 0 (by simp))).mono ?_; rintro e w' ⟨rfl, nl, rfl⟩; go_wp2_with fail; refine hK.out _ _ (by (repeat (first | exact hI.out | apply Held.drewn | apply Held.drew | apply Held.alloc))) ?_; clear hK K; (try simp only [Act.put, List.setIfInBounds_toArray, List.set_cons_zero, List.set_cons_succ])))
      | (refine idx_call_yes rfl rfl rfl (fun K hK => ?_); go_simp; first | (refine hK.out _ _ (by (repeat (first | exact hI.out | apply Held.drewn | apply Held.drew | apply Held.alloc))) ?_; clear hK K; (try simp only [Act.put, List.setIfInBounds_toArray, List.set_cons_zero, List.set_cons_succ])) | (refine (rlows_1 _ rn _ (by first | exact cell_at0 _ _ _ _ 0 (by simp) | exact cell_at _ _ _ _ _ 0 (by simp))).mono ?_; rintro e w' ⟨rfl, nl, rfl⟩; go_wp2_with fail; refine hK.out _ _ (by (repeat (first | exact hI.out | apply Held.drewn | apply Held.drew | apply Held.alloc))) ?_; clear hK K; (try simp only [Act.put, List.setIfInBounds_toArray, List.set_cons_zero, List.set_cons_succ]))))
    refine idx_end ?_
    go_wp2
    go_ret2
    refine ⟨?_, Held.bel (b := w.heap.size) (A := #[.int .i64 32, .int .i64 cond, .int .i64 rd, .int .i64 rn, .int .i64 rm, .int .i64 imm, .int .i64 mode, .int .i64 list, .bool s]) (by (repeat (first | exact hI.out | apply Held.drewn | apply Held.drew | apply Held.alloc)))⟩
    first
      | (exact okay_none (by unfold Nm.restI; dsimp only; (try simp only [Nm.opt, *]); all_goals rfl))
      | (refine okay_some (B := 49152 + rn * 256 + list) (by unfold Nm.restI; dsimp only; (try simp only [Nm.opt, *]); all_goals rfl) ?_; have r0 := Nm.low_is h1; have q3 := of_decide_eq_true h2; (try rw [show IntKind.i64.wrap (rn * 256) = rn * 256 from IntWalk.i64_in _ (by omega)]); (try rw [show wrap64 (rn * 256) = rn * 256 by unfold wrap64; omega]); (try rw [show IntKind.i64.wrap (list % 256) = list % 256 from IntWalk.i64_in _ (by omega)]); (try rw [show wrap64 (list % 256) = list % 256 by unfold wrap64; omega]); rw [Cm.or_join (49152) (rn * 256) 11 (by omega) (by omega) (by omega) (by omega) (by omega) (by omega), Cm.or_join (49152 + rn * 256) (list % 256) 8 (by omega) (by omega) (by omega) (by omega) (by omega) (by omega)]; all_goals (try omega))
set_option linter.unusedSimpArgs false in
set_option maxRecDepth 100000 in
set_option maxHeartbeats 4000000 in
theorem rest31 (cond rd rn rm imm mode list : Int) (s it : Bool) (w : World) (hl0 : 0 ≤ list) (hl1 : list ≤ 65535) : Calls Tryd.prog 27 #[.agg #[.int .i64 31, .int .i64 cond, .int .i64 rd, .int .i64 rn, .int .i64 rm, .int .i64 imm, .int .i64 mode, .int .i64 list, .bool s], .bool it] w fun e w' => Okay e (Nm.restI ⟨31, cond, rd, rn, rm, imm, mode, list, s⟩ it) ∧ Below w.heap.size w w' := by
  have hI := Lib.hid (Held.start w #[.int .i64 31, .int .i64 cond, .int .i64 rd, .int .i64 rn, .int .i64 rm, .int .i64 imm, .int .i64 mode, .int .i64 list, .bool s] 23)
  have ha := Cm.and255 list
  have hb := Vy.low8 list hl0
  rcases chain2 (Nm.low rn) (decide (list ≤ 255)) with h1 | ⟨h1, h2⟩ | ⟨h1, h2⟩
  all_goals
    go_enter Tryd.func27, Tryd.ntmps27
    go_wp2_with fail
    refine wp_region_idx 17 [true, true, true, true, true, true, true, true, false, false, true, true, true, true, true, true, true, false] (S := (fun W => Held w.heap.size #[.int .i64 31, .int .i64 cond, .int .i64 rd, .int .i64 rn, .int .i64 rm, .int .i64 imm, .int .i64 mode, .int .i64 list, .bool s] w W)) (by kernel_rfl) (by kernel_rfl) (fun _ _ d _ _ h => by cases d <;> exact h) (by (repeat (first | exact hI.out | apply Held.drewn | apply Held.drew | apply Held.alloc))) ?_
    simp only [List.zip_cons_cons, List.zip_nil_left]
    repeat (first
      | ((refine idx_pure rfl ?_ ?_ ?_; rotate_left; · (intro W hSw; (try dsimp only at hSw); obtain ⟨hq1, hq2, _⟩ := hSw; go_simp) <;> with_reducible rfl); (try simp only [Act.put, List.setIfInBounds_toArray, List.set_cons_zero, List.set_cons_succ]))
      | (refine idx_no rfl rfl rfl ?_; (try simp only [Act.put, List.setIfInBounds_toArray, List.set_cons_zero, List.set_cons_succ]))
      | ((refine idx_yes rfl rfl rfl ?_ ?_ ?_; rotate_left; · (intro W hSw; (try dsimp only at hSw); obtain ⟨hq1, hq2, _⟩ := hSw; go_simp) <;> with_reducible rfl); (try simp only [Act.put, List.setIfInBounds_toArray, List.set_cons_zero, List.set_cons_succ]))
      | (refine idx_call_no rfl rfl rfl ?_; (try simp only [Act.put, List.setIfInBounds_toArray, List.set_cons_zero, List.set_cons_succ]))
      | (refine idx_call rfl (fun K hK => ?_); go_simp; first | (refine hK.out _ _ (by (repeat (first | exact hI.out | apply Held.drewn | apply Held.drew | apply Held.alloc))) ?_; clear hK K; (try simp only [Act.put, List.setIfInBounds_toArray, List.set_cons_zero, List.set_cons_succ])) | (refine (rlows_1 _ rn _ (by first | exact cell_at0 _ _ _ _ 0 (by simp) | exact cell_at _ _ _ _ _ 0 (by simp))).mono ?_; rintro e w' ⟨rfl, nl, rfl⟩; go_wp2_with fail; refine hK.out _ _ (by (repeat (first | exact hI.out | apply Held.drewn | apply Held.drew | apply Held.alloc))) ?_; clear hK K; (try simp only [Act.put, List.setIfInBounds_toArray, List.set_cons_zero, List.set_cons_succ])))
      | (refine idx_call_yes rfl rfl rfl (fun K hK => ?_); go_simp; first | (refine hK.out _ _ (by (repeat (first | exact hI.out | apply Held.drewn | apply Held.drew | apply Held.alloc))) ?_; clear hK K; (try simp only [Act.put, List.setIfInBounds_toArray, List.set_cons_zero, List.set_cons_succ])) | (refine (rlows_1 _ rn _ (by first | exact cell_at0 _ _ _ _ 0 (by simp) | exact cell_at _ _ _ _ _ 0 (by simp))).mono ?_; rintro e w' ⟨rfl, nl, rfl⟩; go_wp2_with fail; refine hK.out _ _ (by (repeat (first | exact hI.out | apply Held.drewn | apply Held.drew | apply Held.alloc))) ?_; clear hK K; (try simp only [Act.put, List.setIfInBounds_toArray, List.set_cons_zero, List.set_cons_succ]))))
    refine idx_end ?_
    go_wp2
    go_ret2
    refine ⟨?_, Held.bel (b := w.heap.size) (A := #[.int .i64 31, .int .i64 cond, .int .i64 rd, .int .i64 rn, .int .i64 rm, .int .i64 imm, .int .i64 mode, .int .i64 list, .bool s]) (by (repeat (first | exact hI.out | apply Held.drewn | apply Held.drew | apply Held.alloc)))⟩
    first
      | (exact okay_none (by unfold Nm.restI; dsimp only; (try simp only [Nm.opt, *]); all_goals rfl))
      | (refine okay_some (B := 51200 + rn * 256 + list) (by unfold Nm.restI; dsimp only; (try simp only [Nm.opt, *]); all_goals rfl) ?_; have r0 := Nm.low_is h1; have q3 := of_decide_eq_true h2; (try rw [show IntKind.i64.wrap (rn * 256) = rn * 256 from IntWalk.i64_in _ (by omega)]); (try rw [show wrap64 (rn * 256) = rn * 256 by unfold wrap64; omega]); (try rw [show IntKind.i64.wrap (list % 256) = list % 256 from IntWalk.i64_in _ (by omega)]); (try rw [show wrap64 (list % 256) = list % 256 by unfold wrap64; omega]); rw [Cm.or_join (51200) (rn * 256) 11 (by omega) (by omega) (by omega) (by omega) (by omega) (by omega), Cm.or_join (51200 + rn * 256) (list % 256) 8 (by omega) (by omega) (by omega) (by omega) (by omega) (by omega)]; all_goals (try omega))
set_option linter.unusedSimpArgs false in
set_option maxRecDepth 100000 in
set_option maxHeartbeats 4000000 in
theorem rest33 (cond rd rn rm imm mode list : Int) (s it : Bool) (w : World) (hl0 : 0 ≤ list) (hl1 : list ≤ 65535) : Calls Tryd.prog 27 #[.agg #[.int .i64 33, .int .i64 cond, .int .i64 rd, .int .i64 rn, .int .i64 rm, .int .i64 imm, .int .i64 mode, .int .i64 list, .bool s], .bool it] w fun e w' => Okay e (Nm.restI ⟨33, cond, rd, rn, rm, imm, mode, list, s⟩ it) ∧ Below w.heap.size w w' := by
  have hI := Lib.hid (Held.start w #[.int .i64 33, .int .i64 cond, .int .i64 rd, .int .i64 rn, .int .i64 rm, .int .i64 imm, .int .i64 mode, .int .i64 list, .bool s] 23)
  have ha := Cm.and255 list
  have hb := Vy.and16128 list hl0 hl1
  have hc := Cm.and1 (list / 16384)
  rcases chain1 (list / 256 % 64 == 0) with h1 | h1
  all_goals
    go_enter Tryd.func27, Tryd.ntmps27
    go_wp2_with fail
    refine wp_region_idx 13 [true, true, true, true, true, true, true, true, true, true, true, true, true, false] (S := (fun W => Held w.heap.size #[.int .i64 33, .int .i64 cond, .int .i64 rd, .int .i64 rn, .int .i64 rm, .int .i64 imm, .int .i64 mode, .int .i64 list, .bool s] w W)) (by kernel_rfl) (by kernel_rfl) (fun _ _ d _ _ h => by cases d <;> exact h) (by (repeat (first | exact hI.out | apply Held.drewn | apply Held.drew | apply Held.alloc))) ?_
    simp only [List.zip_cons_cons, List.zip_nil_left]
    repeat (first
      | ((refine idx_pure rfl ?_ ?_ ?_; rotate_left; · (intro W hSw; (try dsimp only at hSw); obtain ⟨hq1, hq2, _⟩ := hSw; go_simp) <;> with_reducible rfl); (try simp only [Act.put, List.setIfInBounds_toArray, List.set_cons_zero, List.set_cons_succ]))
      | (refine idx_no rfl rfl rfl ?_; (try simp only [Act.put, List.setIfInBounds_toArray, List.set_cons_zero, List.set_cons_succ]))
      | ((refine idx_yes rfl rfl rfl ?_ ?_ ?_; rotate_left; · (intro W hSw; (try dsimp only at hSw); obtain ⟨hq1, hq2, _⟩ := hSw; go_simp) <;> with_reducible rfl); (try simp only [Act.put, List.setIfInBounds_toArray, List.set_cons_zero, List.set_cons_succ]))
      | (refine idx_call_no rfl rfl rfl ?_; (try simp only [Act.put, List.setIfInBounds_toArray, List.set_cons_zero, List.set_cons_succ]))
      | (refine idx_call rfl (fun K hK => ?_); go_simp; first | (refine hK.out _ _ (by (repeat (first | exact hI.out | apply Held.drewn | apply Held.drew | apply Held.alloc))) ?_; clear hK K; (try simp only [Act.put, List.setIfInBounds_toArray, List.set_cons_zero, List.set_cons_succ])))
      | (refine idx_call_yes rfl rfl rfl (fun K hK => ?_); go_simp; first | (refine hK.out _ _ (by (repeat (first | exact hI.out | apply Held.drewn | apply Held.drew | apply Held.alloc))) ?_; clear hK K; (try simp only [Act.put, List.setIfInBounds_toArray, List.set_cons_zero, List.set_cons_succ]))))
    refine idx_end ?_
    go_wp2
    go_ret2
    refine ⟨?_, Held.bel (b := w.heap.size) (A := #[.int .i64 33, .int .i64 cond, .int .i64 rd, .int .i64 rn, .int .i64 rm, .int .i64 imm, .int .i64 mode, .int .i64 list, .bool s]) (by (repeat (first | exact hI.out | apply Held.drewn | apply Held.drew | apply Held.alloc)))⟩
    first
      | (exact okay_none (by unfold Nm.restI; dsimp only; (try simp only [Nm.opt, *]); all_goals rfl))
      | (refine okay_some (B := 46080 + list / 16384 % 2 * 256 + list % 256) (by unfold Nm.restI; dsimp only; (try simp only [Nm.opt, *]); all_goals rfl) ?_; (try rw [show IntKind.i64.wrap (list / 16384 % 2 * 256) = list / 16384 % 2 * 256 from IntWalk.i64_in _ (by omega)]); (try rw [show wrap64 (list / 16384 % 2 * 256) = list / 16384 % 2 * 256 by unfold wrap64; omega]); (try rw [show IntKind.i64.wrap (list % 256) = list % 256 from IntWalk.i64_in _ (by omega)]); (try rw [show wrap64 (list % 256) = list % 256 by unfold wrap64; omega]); rw [Cm.or_join (46080) (list / 16384 % 2 * 256) 9 (by omega) (by omega) (by omega) (by omega) (by omega) (by omega), Cm.or_join (46080 + list / 16384 % 2 * 256) (list % 256) 8 (by omega) (by omega) (by omega) (by omega) (by omega) (by omega)]; all_goals (try omega))
set_option linter.unusedSimpArgs false in
set_option maxRecDepth 100000 in
set_option maxHeartbeats 4000000 in
theorem rest34 (cond rd rn rm imm mode list : Int) (s it : Bool) (w : World) (hl0 : 0 ≤ list) (hl1 : list ≤ 65535) : Calls Tryd.prog 27 #[.agg #[.int .i64 34, .int .i64 cond, .int .i64 rd, .int .i64 rn, .int .i64 rm, .int .i64 imm, .int .i64 mode, .int .i64 list, .bool s], .bool it] w fun e w' => Okay e (Nm.restI ⟨34, cond, rd, rn, rm, imm, mode, list, s⟩ it) ∧ Below w.heap.size w w' := by
  have hI := Lib.hid (Held.start w #[.int .i64 34, .int .i64 cond, .int .i64 rd, .int .i64 rn, .int .i64 rm, .int .i64 imm, .int .i64 mode, .int .i64 list, .bool s] 23)
  have ha := Cm.and255 list
  have hb := Vy.and32512 list hl0 hl1
  have hc := Cm.and1 (list / 32768)
  rcases chain1 (list / 256 % 128 == 0) with h1 | h1
  all_goals
    go_enter Tryd.func27, Tryd.ntmps27
    go_wp2_with fail
    refine wp_region_idx 13 [true, true, true, true, true, true, true, true, true, true, true, true, true, false] (S := (fun W => Held w.heap.size #[.int .i64 34, .int .i64 cond, .int .i64 rd, .int .i64 rn, .int .i64 rm, .int .i64 imm, .int .i64 mode, .int .i64 list, .bool s] w W)) (by kernel_rfl) (by kernel_rfl) (fun _ _ d _ _ h => by cases d <;> exact h) (by (repeat (first | exact hI.out | apply Held.drewn | apply Held.drew | apply Held.alloc))) ?_
    simp only [List.zip_cons_cons, List.zip_nil_left]
    repeat (first
      | ((refine idx_pure rfl ?_ ?_ ?_; rotate_left; · (intro W hSw; (try dsimp only at hSw); obtain ⟨hq1, hq2, _⟩ := hSw; go_simp) <;> with_reducible rfl); (try simp only [Act.put, List.setIfInBounds_toArray, List.set_cons_zero, List.set_cons_succ]))
      | (refine idx_no rfl rfl rfl ?_; (try simp only [Act.put, List.setIfInBounds_toArray, List.set_cons_zero, List.set_cons_succ]))
      | ((refine idx_yes rfl rfl rfl ?_ ?_ ?_; rotate_left; · (intro W hSw; (try dsimp only at hSw); obtain ⟨hq1, hq2, _⟩ := hSw; go_simp) <;> with_reducible rfl); (try simp only [Act.put, List.setIfInBounds_toArray, List.set_cons_zero, List.set_cons_succ]))
      | (refine idx_call_no rfl rfl rfl ?_; (try simp only [Act.put, List.setIfInBounds_toArray, List.set_cons_zero, List.set_cons_succ]))
      | (refine idx_call rfl (fun K hK => ?_); go_simp; first | (refine hK.out _ _ (by (repeat (first | exact hI.out | apply Held.drewn | apply Held.drew | apply Held.alloc))) ?_; clear hK K; (try simp only [Act.put, List.setIfInBounds_toArray, List.set_cons_zero, List.set_cons_succ])))
      | (refine idx_call_yes rfl rfl rfl (fun K hK => ?_); go_simp; first | (refine hK.out _ _ (by (repeat (first | exact hI.out | apply Held.drewn | apply Held.drew | apply Held.alloc))) ?_; clear hK K; (try simp only [Act.put, List.setIfInBounds_toArray, List.set_cons_zero, List.set_cons_succ]))))
    refine idx_end ?_
    go_wp2
    go_ret2
    refine ⟨?_, Held.bel (b := w.heap.size) (A := #[.int .i64 34, .int .i64 cond, .int .i64 rd, .int .i64 rn, .int .i64 rm, .int .i64 imm, .int .i64 mode, .int .i64 list, .bool s]) (by (repeat (first | exact hI.out | apply Held.drewn | apply Held.drew | apply Held.alloc)))⟩
    first
      | (exact okay_none (by unfold Nm.restI; dsimp only; (try simp only [Nm.opt, *]); all_goals rfl))
      | (refine okay_some (B := 48128 + list / 32768 % 2 * 256 + list % 256) (by unfold Nm.restI; dsimp only; (try simp only [Nm.opt, *]); all_goals rfl) ?_; (try rw [show IntKind.i64.wrap (list / 32768 % 2 * 256) = list / 32768 % 2 * 256 from IntWalk.i64_in _ (by omega)]); (try rw [show wrap64 (list / 32768 % 2 * 256) = list / 32768 % 2 * 256 by unfold wrap64; omega]); (try rw [show IntKind.i64.wrap (list % 256) = list % 256 from IntWalk.i64_in _ (by omega)]); (try rw [show wrap64 (list % 256) = list % 256 by unfold wrap64; omega]); rw [Cm.or_join (48128) (list / 32768 % 2 * 256) 9 (by omega) (by omega) (by omega) (by omega) (by omega) (by omega), Cm.or_join (48128 + list / 32768 % 2 * 256) (list % 256) 8 (by omega) (by omega) (by omega) (by omega) (by omega) (by omega)]; all_goals (try omega))
end Go.Proofs.YtcphhojdfpedkaaDoor

namespace Go.Proofs.YtcphhojdfpedkaaDoor
open Go.ChangeShapes Go.WideShapes Go.ChangeAt Go.RowKit
set_option linter.unusedSimpArgs false in
set_option maxRecDepth 100000 in
set_option maxHeartbeats 4000000 in
theorem sum5_2a (cond rd rn rm imm list : Int) (s : Bool) (w : World) (hl : (Nm.low rd && (Nm.low rn && Nm.low rm)) = true) : Calls Tryd.prog 21 #[.agg #[.int .i64 5, .int .i64 cond, .int .i64 rd, .int .i64 rn, .int .i64 rm, .int .i64 imm, .int .i64 2, .int .i64 list, .bool s], .bool true] w fun e w' => Okay e (Nm.sumI ⟨5, cond, rd, rn, rm, imm, 2, list, s⟩ true) ∧ Below w.heap.size w w' := by
  have hI := Lib.hid (Held.start w #[.int .i64 5, .int .i64 cond, .int .i64 rd, .int .i64 rn, .int .i64 rm, .int .i64 imm, .int .i64 2, .int .i64 list, .bool s] 23)
  all_goals
    go_enter Tryd.func21, Tryd.ntmps21
    go_wp2_with (first | (go_at_call 50; refine (rlows_3 _ rd rn rm _ (by first | exact cell_at0 _ _ _ _ 0 (by simp) | exact cell_at _ _ _ _ _ 0 (by simp)) (by first | exact cell_at0 _ _ _ _ 1 (by simp) | exact cell_at _ _ _ _ _ 1 (by simp)) (by first | exact cell_at0 _ _ _ _ 2 (by simp) | exact cell_at _ _ _ _ _ 2 (by simp))).mono ?_; rintro e w' ⟨rfl, nl, rfl⟩))
    go_ret2
    refine ⟨?_, Held.bel (b := w.heap.size) (A := #[.int .i64 5, .int .i64 cond, .int .i64 rd, .int .i64 rn, .int .i64 rm, .int .i64 imm, .int .i64 2, .int .i64 list, .bool s]) (by (repeat (first | exact hI.out | apply Held.drewn | apply Held.drew | apply Held.alloc)))⟩
    first
      | (exact okay_none (by unfold Nm.sumI Nm.subI; dsimp only; (try simp only [Nm.opt, *]); all_goals rfl))
      | (refine okay_some (B := 6144 + 0 * 512 + rm * 64 + rn * 8 + rd) (by unfold Nm.sumI Nm.subI; dsimp only; (try simp only [Nm.opt, *]); all_goals rfl) ?_; simp only [Bool.and_eq_true] at hl; have r0 := Nm.low_is hl.1; have r1 := Nm.low_is hl.2.1; have r2 := Nm.low_is hl.2.2; (try rw [show IntKind.i64.wrap (0 * 512) = 0 by decide]); (try rw [show wrap64 (0 * 512) = 0 by decide]); (try rw [show IntKind.i64.wrap 0 = 0 by decide]); (try rw [Cm.or_join 6144 0 9 (by omega) (by omega) (by omega) (by omega) (by omega) (by omega), Int.add_zero]); (try rw [show IntKind.i64.wrap (rm * 64) = rm * 64 from IntWalk.i64_in _ (by omega)]); (try rw [show wrap64 (rm * 64) = rm * 64 by unfold wrap64; omega]); (try rw [show IntKind.i64.wrap (rn * 8) = rn * 8 from IntWalk.i64_in _ (by omega)]); (try rw [show wrap64 (rn * 8) = rn * 8 by unfold wrap64; omega]); (try rw [show IntKind.i64.wrap (rd) = rd from IntWalk.i64_in _ (by omega)]); (try rw [show wrap64 (rd) = rd by unfold wrap64; omega]); rw [Cm.or_join (6144) (rm * 64) 9 (by omega) (by omega) (by omega) (by omega) (by omega) (by omega), Cm.or_join (6144 + rm * 64) (rn * 8) 6 (by omega) (by omega) (by omega) (by omega) (by omega) (by omega), Cm.or_join (6144 + rm * 64 + rn * 8) (rd) 3 (by omega) (by omega) (by omega) (by omega) (by omega) (by omega)]; all_goals (try omega))
set_option linter.unusedSimpArgs false in
set_option maxRecDepth 100000 in
set_option maxHeartbeats 4000000 in
theorem sum5_2b (cond rd rn rm imm list : Int) (s : Bool) (w : World) (hl : (Nm.low rd && (Nm.low rn && Nm.low rm)) = false) (hd0 : 0 ≤ rd) (hd1 : rd ≤ 15) (hm0 : 0 ≤ rm) (hm1 : rm ≤ 15)  : Calls Tryd.prog 21 #[.agg #[.int .i64 5, .int .i64 cond, .int .i64 rd, .int .i64 rn, .int .i64 rm, .int .i64 imm, .int .i64 2, .int .i64 list, .bool s], .bool true] w fun e w' => Okay e (Nm.sumI ⟨5, cond, rd, rn, rm, imm, 2, list, s⟩ true) ∧ Below w.heap.size w w' := by
  have hI := Lib.hid (Held.start w #[.int .i64 5, .int .i64 cond, .int .i64 rd, .int .i64 rn, .int .i64 rm, .int .i64 imm, .int .i64 2, .int .i64 list, .bool s] 23)
  rcases chain2 (rd == rn) (!s) with h1 | ⟨h1, h2⟩ | ⟨h1, h2⟩
  all_goals
    go_enter Tryd.func21, Tryd.ntmps21
    go_wp2_with (first | (go_at_call 50; refine (rlows_3 _ rd rn rm _ (by first | exact cell_at0 _ _ _ _ 0 (by simp) | exact cell_at _ _ _ _ _ 0 (by simp)) (by first | exact cell_at0 _ _ _ _ 1 (by simp) | exact cell_at _ _ _ _ _ 1 (by simp)) (by first | exact cell_at0 _ _ _ _ 2 (by simp) | exact cell_at _ _ _ _ _ 2 (by simp))).mono ?_; rintro e w' ⟨rfl, nl, rfl⟩))
    go_quiet ((go_at_call 51; first | exact Calls.quiet_of (rupper_c rd _ (by omega) (by omega)) | exact drawn_on (rupper_c rd _ (by omega) (by omega))))
    go_wp2
    go_ret2
    refine ⟨?_, Held.bel (b := w.heap.size) (A := #[.int .i64 5, .int .i64 cond, .int .i64 rd, .int .i64 rn, .int .i64 rm, .int .i64 imm, .int .i64 2, .int .i64 list, .bool s]) (by (repeat (first | exact hI.out | apply Held.drewn | apply Held.drew | apply Held.alloc)))⟩
    first
      | (exact okay_none (by unfold Nm.sumI Nm.subI; dsimp only; (try simp only [Nm.opt, *]); all_goals rfl))
      | (refine okay_some (B := 17408 + rm * 8 + Nm.up rd) (by unfold Nm.sumI Nm.subI; dsimp only; (try simp only [Nm.opt, *]); all_goals rfl) ?_; (try rw [show IntKind.i64.wrap (rm * 8) = rm * 8 from IntWalk.i64_in _ (by omega)]); (try rw [show wrap64 (rm * 8) = rm * 8 by unfold wrap64; omega]); rw [Cm.or_join (17408) (rm * 8) 7 (by omega) (by omega) (by omega) (by omega) (by omega) (by omega)]; rw [(or_up rm rd hm0 hm1 hd0 hd1).1]; all_goals (try omega))
set_option linter.unusedSimpArgs false in
set_option maxRecDepth 100000 in
set_option maxHeartbeats 4000000 in
theorem sum5_2c (cond rd rn rm imm list : Int) (s : Bool) (w : World) (hd0 : 0 ≤ rd) (hd1 : rd ≤ 15) (hm0 : 0 ≤ rm) (hm1 : rm ≤ 15)  : Calls Tryd.prog 21 #[.agg #[.int .i64 5, .int .i64 cond, .int .i64 rd, .int .i64 rn, .int .i64 rm, .int .i64 imm, .int .i64 2, .int .i64 list, .bool s], .bool false] w fun e w' => Okay e (Nm.sumI ⟨5, cond, rd, rn, rm, imm, 2, list, s⟩ false) ∧ Below w.heap.size w w' := by
  have hI := Lib.hid (Held.start w #[.int .i64 5, .int .i64 cond, .int .i64 rd, .int .i64 rn, .int .i64 rm, .int .i64 imm, .int .i64 2, .int .i64 list, .bool s] 23)
  rcases chain2 (rd == rn) (!s) with h1 | ⟨h1, h2⟩ | ⟨h1, h2⟩
  all_goals
    go_enter Tryd.func21, Tryd.ntmps21
    go_wp2_with fail
    go_quiet ((go_at_call 51; first | exact Calls.quiet_of (rupper_c rd _ (by omega) (by omega)) | exact drawn_on (rupper_c rd _ (by omega) (by omega))))
    go_wp2
    go_ret2
    refine ⟨?_, Held.bel (b := w.heap.size) (A := #[.int .i64 5, .int .i64 cond, .int .i64 rd, .int .i64 rn, .int .i64 rm, .int .i64 imm, .int .i64 2, .int .i64 list, .bool s]) (by (repeat (first | exact hI.out | apply Held.drewn | apply Held.drew | apply Held.alloc)))⟩
    first
      | (exact okay_none (by unfold Nm.sumI Nm.subI; dsimp only; (try simp only [Nm.opt, *]); all_goals rfl))
      | (refine okay_some (B := 17408 + rm * 8 + Nm.up rd) (by unfold Nm.sumI Nm.subI; dsimp only; (try simp only [Nm.opt, *]); all_goals rfl) ?_; (try rw [show IntKind.i64.wrap (rm * 8) = rm * 8 from IntWalk.i64_in _ (by omega)]); (try rw [show wrap64 (rm * 8) = rm * 8 by unfold wrap64; omega]); rw [Cm.or_join (17408) (rm * 8) 7 (by omega) (by omega) (by omega) (by omega) (by omega) (by omega)]; rw [(or_up rm rd hm0 hm1 hd0 hd1).1]; all_goals (try omega))
set_option linter.unusedSimpArgs false in
set_option maxRecDepth 100000 in
set_option maxHeartbeats 4000000 in
theorem sum7_2a (cond rd rn rm imm list : Int) (s : Bool) (w : World) (hl : (Nm.low rd && (Nm.low rn && Nm.low rm)) = true) : Calls Tryd.prog 21 #[.agg #[.int .i64 7, .int .i64 cond, .int .i64 rd, .int .i64 rn, .int .i64 rm, .int .i64 imm, .int .i64 2, .int .i64 list, .bool s], .bool true] w fun e w' => Okay e (Nm.sumI ⟨7, cond, rd, rn, rm, imm, 2, list, s⟩ true) ∧ Below w.heap.size w w' := by
  have hI := Lib.hid (Held.start w #[.int .i64 7, .int .i64 cond, .int .i64 rd, .int .i64 rn, .int .i64 rm, .int .i64 imm, .int .i64 2, .int .i64 list, .bool s] 23)
  all_goals
    go_enter Tryd.func21, Tryd.ntmps21
    go_wp2_with (first | (go_at_call 50; refine (rlows_3 _ rd rn rm _ (by first | exact cell_at0 _ _ _ _ 0 (by simp) | exact cell_at _ _ _ _ _ 0 (by simp)) (by first | exact cell_at0 _ _ _ _ 1 (by simp) | exact cell_at _ _ _ _ _ 1 (by simp)) (by first | exact cell_at0 _ _ _ _ 2 (by simp) | exact cell_at _ _ _ _ _ 2 (by simp))).mono ?_; rintro e w' ⟨rfl, nl, rfl⟩))
    go_ret2
    refine ⟨?_, Held.bel (b := w.heap.size) (A := #[.int .i64 7, .int .i64 cond, .int .i64 rd, .int .i64 rn, .int .i64 rm, .int .i64 imm, .int .i64 2, .int .i64 list, .bool s]) (by (repeat (first | exact hI.out | apply Held.drewn | apply Held.drew | apply Held.alloc)))⟩
    first
      | (exact okay_none (by unfold Nm.sumI Nm.subI; dsimp only; (try simp only [Nm.opt, *]); all_goals rfl))
      | (refine okay_some (B := 6144 + 1 * 512 + rm * 64 + rn * 8 + rd) (by unfold Nm.sumI Nm.subI; dsimp only; (try simp only [Nm.opt, *]); all_goals rfl) ?_; simp only [Bool.and_eq_true] at hl; have r0 := Nm.low_is hl.1; have r1 := Nm.low_is hl.2.1; have r2 := Nm.low_is hl.2.2; (try rw [show IntKind.i64.wrap (0 * 512) = 0 by decide]); (try rw [show wrap64 (0 * 512) = 0 by decide]); (try rw [show IntKind.i64.wrap 0 = 0 by decide]); (try rw [Cm.or_join 6144 0 9 (by omega) (by omega) (by omega) (by omega) (by omega) (by omega), Int.add_zero]); (try rw [show IntKind.i64.wrap (512) = 512 from IntWalk.i64_in _ (by omega)]); (try rw [show wrap64 (512) = 512 by unfold wrap64; omega]); (try rw [show IntKind.i64.wrap (rm * 64) = rm * 64 from IntWalk.i64_in _ (by omega)]); (try rw [show wrap64 (rm * 64) = rm * 64 by unfold wrap64; omega]); (try rw [show IntKind.i64.wrap (rn * 8) = rn * 8 from IntWalk.i64_in _ (by omega)]); (try rw [show wrap64 (rn * 8) = rn * 8 by unfold wrap64; omega]); (try rw [show IntKind.i64.wrap (rd) = rd from IntWalk.i64_in _ (by omega)]); (try rw [show wrap64 (rd) = rd by unfold wrap64; omega]); rw [Cm.or_join (6144) (512) 10 (by omega) (by omega) (by omega) (by omega) (by omega) (by omega), Cm.or_join (6144 + 512) (rm * 64) 9 (by omega) (by omega) (by omega) (by omega) (by omega) (by omega), Cm.or_join (6144 + 512 + rm * 64) (rn * 8) 6 (by omega) (by omega) (by omega) (by omega) (by omega) (by omega), Cm.or_join (6144 + 512 + rm * 64 + rn * 8) (rd) 3 (by omega) (by omega) (by omega) (by omega) (by omega) (by omega)]; all_goals (try omega))
set_option linter.unusedSimpArgs false in
set_option maxRecDepth 100000 in
set_option maxHeartbeats 4000000 in
theorem sum7_2b (cond rd rn rm imm list : Int) (s : Bool) (w : World) (hl : (Nm.low rd && (Nm.low rn && Nm.low rm)) = false) (hd0 : 0 ≤ rd) (hd1 : rd ≤ 15) (hm0 : 0 ≤ rm) (hm1 : rm ≤ 15)  : Calls Tryd.prog 21 #[.agg #[.int .i64 7, .int .i64 cond, .int .i64 rd, .int .i64 rn, .int .i64 rm, .int .i64 imm, .int .i64 2, .int .i64 list, .bool s], .bool true] w fun e w' => Okay e (Nm.sumI ⟨7, cond, rd, rn, rm, imm, 2, list, s⟩ true) ∧ Below w.heap.size w w' := by
  have hI := Lib.hid (Held.start w #[.int .i64 7, .int .i64 cond, .int .i64 rd, .int .i64 rn, .int .i64 rm, .int .i64 imm, .int .i64 2, .int .i64 list, .bool s] 23)
  all_goals
    go_enter Tryd.func21, Tryd.ntmps21
    go_wp2_with (first | (go_at_call 50; refine (rlows_3 _ rd rn rm _ (by first | exact cell_at0 _ _ _ _ 0 (by simp) | exact cell_at _ _ _ _ _ 0 (by simp)) (by first | exact cell_at0 _ _ _ _ 1 (by simp) | exact cell_at _ _ _ _ _ 1 (by simp)) (by first | exact cell_at0 _ _ _ _ 2 (by simp) | exact cell_at _ _ _ _ _ 2 (by simp))).mono ?_; rintro e w' ⟨rfl, nl, rfl⟩))
    go_quiet ((go_at_call 51; first | exact Calls.quiet_of (rupper_c rd _ (by omega) (by omega)) | exact drawn_on (rupper_c rd _ (by omega) (by omega))))
    go_wp2
    go_ret2
    refine ⟨?_, Held.bel (b := w.heap.size) (A := #[.int .i64 7, .int .i64 cond, .int .i64 rd, .int .i64 rn, .int .i64 rm, .int .i64 imm, .int .i64 2, .int .i64 list, .bool s]) (by (repeat (first | exact hI.out | apply Held.drewn | apply Held.drew | apply Held.alloc)))⟩
    (exact okay_none (by unfold Nm.sumI Nm.subI; dsimp only; (try simp only [Nm.opt, *]); all_goals rfl))
set_option linter.unusedSimpArgs false in
set_option maxRecDepth 100000 in
set_option maxHeartbeats 4000000 in
theorem sum7_2c (cond rd rn rm imm list : Int) (s : Bool) (w : World) (hd0 : 0 ≤ rd) (hd1 : rd ≤ 15) (hm0 : 0 ≤ rm) (hm1 : rm ≤ 15)  : Calls Tryd.prog 21 #[.agg #[.int .i64 7, .int .i64 cond, .int .i64 rd, .int .i64 rn, .int .i64 rm, .int .i64 imm, .int .i64 2, .int .i64 list, .bool s], .bool false] w fun e w' => Okay e (Nm.sumI ⟨7, cond, rd, rn, rm, imm, 2, list, s⟩ false) ∧ Below w.heap.size w w' := by
  have hI := Lib.hid (Held.start w #[.int .i64 7, .int .i64 cond, .int .i64 rd, .int .i64 rn, .int .i64 rm, .int .i64 imm, .int .i64 2, .int .i64 list, .bool s] 23)
  all_goals
    go_enter Tryd.func21, Tryd.ntmps21
    go_wp2_with fail
    go_quiet ((go_at_call 51; first | exact Calls.quiet_of (rupper_c rd _ (by omega) (by omega)) | exact drawn_on (rupper_c rd _ (by omega) (by omega))))
    go_wp2
    go_ret2
    refine ⟨?_, Held.bel (b := w.heap.size) (A := #[.int .i64 7, .int .i64 cond, .int .i64 rd, .int .i64 rn, .int .i64 rm, .int .i64 imm, .int .i64 2, .int .i64 list, .bool s]) (by (repeat (first | exact hI.out | apply Held.drewn | apply Held.drew | apply Held.alloc)))⟩
    (exact okay_none (by unfold Nm.sumI Nm.subI; dsimp only; (try simp only [Nm.opt, *]); all_goals rfl))
end Go.Proofs.YtcphhojdfpedkaaDoor

namespace Go.Proofs.YtcphhojdfpedkaaDoor
open Go.ChangeShapes Go.WideShapes Go.ChangeAt Go.RowKit
theorem nfits1 (imm : Int) : fitsB 1 imm = Nm.fits1 imm := by
  unfold Nm.fits1 fitsB
  rw [Bool.eq_iff_iff]
  simp only [decide_eq_true_eq, Bool.and_eq_true, beq_iff_eq, show lowI 1 = -256 from rfl, show highI 1 = 254 from rfl]
  omega
theorem nfits2 (imm : Int) : fitsB 2 imm = Nm.fits2 imm := by
  unfold Nm.fits2 fitsB
  rw [Bool.eq_iff_iff]
  simp only [decide_eq_true_eq, Bool.and_eq_true, beq_iff_eq, show lowI 2 = -2048 from rfl, show highI 2 = 2046 from rfl]
  omega
theorem put5_all : ([(45312 : Int), 47360].all fun c => (List.range 8).all fun r => (List.range 64).all fun m => bits .or .i64 (bits .or .i64 c (((m / 32 : Nat) : Int) % 2 * 512 + ((m % 32 : Nat) : Int) * 8)) (r : Int) == c + ((m / 32 : Nat) : Int) % 2 * 512 + ((m % 32 : Nat) : Int) * 8 + (r : Int)) = true := by decide +kernel
theorem put5_sum (c r imm : Int) (hc : c ∈ [(45312 : Int), 47360]) (h0 : 0 ≤ r) (h1 : r ≤ 7) (hf : fitsB 5 imm = true) : bits .or .i64 (bits .or .i64 c (Om.pA 5 imm)) r = c + imm / 64 % 2 * 512 + imm / 2 % 32 * 8 + r := by
  obtain ⟨_, _, h3, h4, h5⟩ := Om.fits_spec hf
  replace h3 : 0 ≤ imm := h3
  replace h4 : imm ≤ 126 := h4
  have h := put5_all
  rw [List.all_eq_true] at h
  have h2 := h c hc
  rw [List.all_eq_true] at h2
  have h6 := h2 r.toNat (by simp; omega)
  rw [List.all_eq_true] at h6
  have h7 := h6 (imm / 2).toNat (by simp; omega)
  simp only [beq_iff_eq] at h7
  rw [show (((imm / 2).toNat / 32 : Nat) : Int) % 2 = imm / 64 % 2 by omega, show (((imm / 2).toNat % 32 : Nat) : Int) = imm / 2 % 32 by omega, show ((r.toNat : Nat) : Int) = r by omega] at h7
  exact h7
set_option linter.unusedSimpArgs false in
set_option maxRecDepth 100000 in
set_option maxHeartbeats 4000000 in
theorem branchA_y (rd rn rm imm list : Int) (s it : Bool) (w : World) (hf : fitsB 2 imm = true) (hn : imm < 0) : Calls Tryd.prog 26 #[.agg #[.int .i64 35, .int .i64 14, .int .i64 rd, .int .i64 rn, .int .i64 rm, .int .i64 imm, .int .i64 1, .int .i64 list, .bool s], .bool it] w fun e w' => Okay e (Nm.branchI ⟨35, 14, rd, rn, rm, imm, 1, list, s⟩ it) ∧ Below w.heap.size w w' := by
  have hI := Lib.hid (Held.start w #[.int .i64 35, .int .i64 14, .int .i64 rd, .int .i64 rn, .int .i64 rm, .int .i64 imm, .int .i64 1, .int .i64 list, .bool s] 23)
  have hF := Lib.hid (nfits2 imm)
  all_goals
    go_enter Tryd.func26, Tryd.ntmps26
    go_wp2_with (first | (go_at_call 52; refine (rput_2y _ _ hf hn).mono ?_; rintro e w' ⟨rfl, np, rfl⟩) | (go_at_call 53; refine (rfits_c _ _ _).mono ?_; rintro e w' ⟨rfl, nf, rfl⟩))
    go_ret2
    refine ⟨?_, Held.bel (b := w.heap.size) (A := #[.int .i64 35, .int .i64 14, .int .i64 rd, .int .i64 rn, .int .i64 rm, .int .i64 imm, .int .i64 1, .int .i64 list, .bool s]) (by (repeat (first | exact hI.out | apply Held.drewn | apply Held.drew | apply Held.alloc)))⟩
    first
      | (exact okay_none (by unfold Nm.branchI; dsimp only; rw [show Nm.fits2 imm = fitsB 2 imm from hF.out.symm]; (try simp only [Nm.opt, *]); all_goals rfl))
      | (refine okay_some (B := 57344 + imm / 2 % 2048) (by unfold Nm.branchI; dsimp only; rw [show Nm.fits2 imm = fitsB 2 imm from hF.out.symm]; (try simp only [Nm.opt, *]); all_goals rfl) ?_; (try rw [show Om.pA 2 imm = imm / 2 % 2048 from rfl]); (try rw [show IntKind.i64.wrap (imm / 2 % 2048) = imm / 2 % 2048 from IntWalk.i64_in _ (by omega)]); (try rw [show wrap64 (imm / 2 % 2048) = imm / 2 % 2048 by unfold wrap64; omega]); rw [Cm.or_join (57344) (imm / 2 % 2048) 11 (by omega) (by omega) (by omega) (by omega) (by omega) (by omega)]; all_goals (try omega))
set_option linter.unusedSimpArgs false in
set_option maxRecDepth 100000 in
set_option maxHeartbeats 4000000 in
theorem branchA_n (rd rn rm imm list : Int) (s it : Bool) (w : World) (hf : fitsB 2 imm = true) (hn : ¬ imm < 0) : Calls Tryd.prog 26 #[.agg #[.int .i64 35, .int .i64 14, .int .i64 rd, .int .i64 rn, .int .i64 rm, .int .i64 imm, .int .i64 1, .int .i64 list, .bool s], .bool it] w fun e w' => Okay e (Nm.branchI ⟨35, 14, rd, rn, rm, imm, 1, list, s⟩ it) ∧ Below w.heap.size w w' := by
  have hI := Lib.hid (Held.start w #[.int .i64 35, .int .i64 14, .int .i64 rd, .int .i64 rn, .int .i64 rm, .int .i64 imm, .int .i64 1, .int .i64 list, .bool s] 23)
  have hF := Lib.hid (nfits2 imm)
  all_goals
    go_enter Tryd.func26, Tryd.ntmps26
    go_wp2_with (first | (go_at_call 52; refine (rput_2n _ _ hf hn).mono ?_; rintro e w' ⟨rfl, np, rfl⟩) | (go_at_call 53; refine (rfits_c _ _ _).mono ?_; rintro e w' ⟨rfl, nf, rfl⟩))
    go_ret2
    refine ⟨?_, Held.bel (b := w.heap.size) (A := #[.int .i64 35, .int .i64 14, .int .i64 rd, .int .i64 rn, .int .i64 rm, .int .i64 imm, .int .i64 1, .int .i64 list, .bool s]) (by (repeat (first | exact hI.out | apply Held.drewn | apply Held.drew | apply Held.alloc)))⟩
    first
      | (exact okay_none (by unfold Nm.branchI; dsimp only; rw [show Nm.fits2 imm = fitsB 2 imm from hF.out.symm]; (try simp only [Nm.opt, *]); all_goals rfl))
      | (refine okay_some (B := 57344 + imm / 2 % 2048) (by unfold Nm.branchI; dsimp only; rw [show Nm.fits2 imm = fitsB 2 imm from hF.out.symm]; (try simp only [Nm.opt, *]); all_goals rfl) ?_; (try rw [show Om.pA 2 imm = imm / 2 % 2048 from rfl]); (try rw [show IntKind.i64.wrap (imm / 2 % 2048) = imm / 2 % 2048 from IntWalk.i64_in _ (by omega)]); (try rw [show wrap64 (imm / 2 % 2048) = imm / 2 % 2048 by unfold wrap64; omega]); rw [Cm.or_join (57344) (imm / 2 % 2048) 11 (by omega) (by omega) (by omega) (by omega) (by omega) (by omega)]; all_goals (try omega))
set_option linter.unusedSimpArgs false in
set_option maxRecDepth 100000 in
set_option maxHeartbeats 4000000 in
theorem branchA_o (rd rn rm imm list : Int) (s it : Bool) (w : World) (hf : fitsB 2 imm = false) : Calls Tryd.prog 26 #[.agg #[.int .i64 35, .int .i64 14, .int .i64 rd, .int .i64 rn, .int .i64 rm, .int .i64 imm, .int .i64 1, .int .i64 list, .bool s], .bool it] w fun e w' => Okay e (Nm.branchI ⟨35, 14, rd, rn, rm, imm, 1, list, s⟩ it) ∧ Below w.heap.size w w' := by
  have hI := Lib.hid (Held.start w #[.int .i64 35, .int .i64 14, .int .i64 rd, .int .i64 rn, .int .i64 rm, .int .i64 imm, .int .i64 1, .int .i64 list, .bool s] 23)
  have hF := Lib.hid (nfits2 imm)
  all_goals
    go_enter Tryd.func26, Tryd.ntmps26
    go_wp2_with (first | (go_at_call 52; refine (rput_no _ _ _ hf).mono ?_; rintro e w' ⟨rfl, np, rfl⟩) | (go_at_call 53; refine (rfits_c _ _ _).mono ?_; rintro e w' ⟨rfl, nf, rfl⟩))
    go_ret2
    refine ⟨?_, Held.bel (b := w.heap.size) (A := #[.int .i64 35, .int .i64 14, .int .i64 rd, .int .i64 rn, .int .i64 rm, .int .i64 imm, .int .i64 1, .int .i64 list, .bool s]) (by (repeat (first | exact hI.out | apply Held.drewn | apply Held.drew | apply Held.alloc)))⟩
    (exact okay_none (by unfold Nm.branchI; dsimp only; rw [show Nm.fits2 imm = fitsB 2 imm from hF.out.symm]; (try simp only [Nm.opt, *]); all_goals rfl))
set_option linter.unusedSimpArgs false in
set_option maxRecDepth 100000 in
set_option maxHeartbeats 4000000 in
theorem branchB_y (cond rd rn rm imm list : Int) (s : Bool) (it : Bool) (w : World) (hc14 : (cond == 14) = false) (hc0 : 0 ≤ cond) (hc1 : cond ≤ 14) (hf : fitsB 1 imm = true) (hn : imm < 0) : Calls Tryd.prog 26 #[.agg #[.int .i64 35, .int .i64 cond, .int .i64 rd, .int .i64 rn, .int .i64 rm, .int .i64 imm, .int .i64 1, .int .i64 list, .bool s], .bool it] w fun e w' => Okay e (Nm.branchI ⟨35, cond, rd, rn, rm, imm, 1, list, s⟩ it) ∧ Below w.heap.size w w' := by
  have hI := Lib.hid (Held.start w #[.int .i64 35, .int .i64 cond, .int .i64 rd, .int .i64 rn, .int .i64 rm, .int .i64 imm, .int .i64 1, .int .i64 list, .bool s] 23)
  have hF := Lib.hid (nfits1 imm)
  have hc14p : ¬ cond = 14 := by simpa using hc14
  rcases chain1 (!it) with h1 | h1
  all_goals
    go_enter Tryd.func26, Tryd.ntmps26
    go_wp2_with (first | (go_at_call 52; refine (rput_1y _ _ hf hn).mono ?_; rintro e w' ⟨rfl, np, rfl⟩))
    refine wp_region_idx 14 [true, true, true, true, true, true, true, true, true, true, true, false, true, true, false] (S := (fun W => Held w.heap.size #[.int .i64 35, .int .i64 cond, .int .i64 rd, .int .i64 rn, .int .i64 rm, .int .i64 imm, .int .i64 1, .int .i64 list, .bool s] w W)) (by kernel_rfl) (by kernel_rfl) (fun _ _ d _ _ h => by cases d <;> exact h) (by (repeat (first | exact hI.out | apply Held.drewn | apply Held.drew | apply Held.alloc))) ?_
    simp only [List.zip_cons_cons, List.zip_nil_left]
    repeat (first
      | ((refine idx_pure rfl ?_ ?_ ?_; rotate_left; · (intro W hSw; (try dsimp only at hSw); obtain ⟨hq1, hq2, _⟩ := hSw; go_simp) <;> with_reducible rfl); (try simp only [Act.put, List.setIfInBounds_toArray, List.set_cons_zero, List.set_cons_succ]))
      | (refine idx_no rfl rfl rfl ?_; (try simp only [Act.put, List.setIfInBounds_toArray, List.set_cons_zero, List.set_cons_succ]))
      | ((refine idx_yes rfl rfl rfl ?_ ?_ ?_; rotate_left; · (intro W hSw; (try dsimp only at hSw); obtain ⟨hq1, hq2, _⟩ := hSw; go_simp) <;> with_reducible rfl); (try simp only [Act.put, List.setIfInBounds_toArray, List.set_cons_zero, List.set_cons_succ]))
      | (refine idx_call_no rfl rfl rfl ?_; (try simp only [Act.put, List.setIfInBounds_toArray, List.set_cons_zero, List.set_cons_succ]))
      | (refine idx_call rfl (fun K hK => ?_); go_simp; first | (refine hK.out _ _ (by (repeat (first | exact hI.out | apply Held.drewn | apply Held.drew | apply Held.alloc))) ?_; clear hK K; (try simp only [Act.put, List.setIfInBounds_toArray, List.set_cons_zero, List.set_cons_succ])) | (refine (rfits_c _ _ _).mono ?_; rintro e w' ⟨rfl, nf, rfl⟩; go_wp2_with fail; refine hK.out _ _ (by (repeat (first | exact hI.out | apply Held.drewn | apply Held.drew | apply Held.alloc))) ?_; clear hK K; (try simp only [Act.put, List.setIfInBounds_toArray, List.set_cons_zero, List.set_cons_succ])))
      | (refine idx_call_yes rfl rfl rfl (fun K hK => ?_); go_simp; first | (refine hK.out _ _ (by (repeat (first | exact hI.out | apply Held.drewn | apply Held.drew | apply Held.alloc))) ?_; clear hK K; (try simp only [Act.put, List.setIfInBounds_toArray, List.set_cons_zero, List.set_cons_succ])) | (refine (rfits_c _ _ _).mono ?_; rintro e w' ⟨rfl, nf, rfl⟩; go_wp2_with fail; refine hK.out _ _ (by (repeat (first | exact hI.out | apply Held.drewn | apply Held.drew | apply Held.alloc))) ?_; clear hK K; (try simp only [Act.put, List.setIfInBounds_toArray, List.set_cons_zero, List.set_cons_succ]))))
    refine idx_end ?_
    go_wp2
    go_ret2
    refine ⟨?_, Held.bel (b := w.heap.size) (A := #[.int .i64 35, .int .i64 cond, .int .i64 rd, .int .i64 rn, .int .i64 rm, .int .i64 imm, .int .i64 1, .int .i64 list, .bool s]) (by (repeat (first | exact hI.out | apply Held.drewn | apply Held.drew | apply Held.alloc)))⟩
    first
      | (exact okay_none (by unfold Nm.branchI; dsimp only; rw [show Nm.fits1 imm = fitsB 1 imm from hF.out.symm]; simp only [if_neg hc14p]; (try simp only [Nm.opt, *]); all_goals rfl))
      | (refine okay_some (B := 53248 + cond * 256 + imm / 2 % 256) (by unfold Nm.branchI; dsimp only; rw [show Nm.fits1 imm = fitsB 1 imm from hF.out.symm]; simp only [if_neg hc14p]; (try simp only [Nm.opt, *]); all_goals rfl) ?_; (try rw [show Om.pA 1 imm = imm / 2 % 256 from rfl]); (try rw [show IntKind.i64.wrap (cond * 256) = cond * 256 from IntWalk.i64_in _ (by omega)]); (try rw [show wrap64 (cond * 256) = cond * 256 by unfold wrap64; omega]); (try rw [show IntKind.i64.wrap (imm / 2 % 256) = imm / 2 % 256 from IntWalk.i64_in _ (by omega)]); (try rw [show wrap64 (imm / 2 % 256) = imm / 2 % 256 by unfold wrap64; omega]); rw [Cm.or_join (53248) (cond * 256) 12 (by omega) (by omega) (by omega) (by omega) (by omega) (by omega), Cm.or_join (53248 + cond * 256) (imm / 2 % 256) 8 (by omega) (by omega) (by omega) (by omega) (by omega) (by omega)]; all_goals (try omega))
set_option linter.unusedSimpArgs false in
set_option maxRecDepth 100000 in
set_option maxHeartbeats 4000000 in
theorem branchB_n (cond rd rn rm imm list : Int) (s : Bool) (it : Bool) (w : World) (hc14 : (cond == 14) = false) (hc0 : 0 ≤ cond) (hc1 : cond ≤ 14) (hf : fitsB 1 imm = true) (hn : ¬ imm < 0) : Calls Tryd.prog 26 #[.agg #[.int .i64 35, .int .i64 cond, .int .i64 rd, .int .i64 rn, .int .i64 rm, .int .i64 imm, .int .i64 1, .int .i64 list, .bool s], .bool it] w fun e w' => Okay e (Nm.branchI ⟨35, cond, rd, rn, rm, imm, 1, list, s⟩ it) ∧ Below w.heap.size w w' := by
  have hI := Lib.hid (Held.start w #[.int .i64 35, .int .i64 cond, .int .i64 rd, .int .i64 rn, .int .i64 rm, .int .i64 imm, .int .i64 1, .int .i64 list, .bool s] 23)
  have hF := Lib.hid (nfits1 imm)
  have hc14p : ¬ cond = 14 := by simpa using hc14
  rcases chain1 (!it) with h1 | h1
  all_goals
    go_enter Tryd.func26, Tryd.ntmps26
    go_wp2_with (first | (go_at_call 52; refine (rput_1n _ _ hf hn).mono ?_; rintro e w' ⟨rfl, np, rfl⟩))
    refine wp_region_idx 14 [true, true, true, true, true, true, true, true, true, true, true, false, true, true, false] (S := (fun W => Held w.heap.size #[.int .i64 35, .int .i64 cond, .int .i64 rd, .int .i64 rn, .int .i64 rm, .int .i64 imm, .int .i64 1, .int .i64 list, .bool s] w W)) (by kernel_rfl) (by kernel_rfl) (fun _ _ d _ _ h => by cases d <;> exact h) (by (repeat (first | exact hI.out | apply Held.drewn | apply Held.drew | apply Held.alloc))) ?_
    simp only [List.zip_cons_cons, List.zip_nil_left]
    repeat (first
      | ((refine idx_pure rfl ?_ ?_ ?_; rotate_left; · (intro W hSw; (try dsimp only at hSw); obtain ⟨hq1, hq2, _⟩ := hSw; go_simp) <;> with_reducible rfl); (try simp only [Act.put, List.setIfInBounds_toArray, List.set_cons_zero, List.set_cons_succ]))
      | (refine idx_no rfl rfl rfl ?_; (try simp only [Act.put, List.setIfInBounds_toArray, List.set_cons_zero, List.set_cons_succ]))
      | ((refine idx_yes rfl rfl rfl ?_ ?_ ?_; rotate_left; · (intro W hSw; (try dsimp only at hSw); obtain ⟨hq1, hq2, _⟩ := hSw; go_simp) <;> with_reducible rfl); (try simp only [Act.put, List.setIfInBounds_toArray, List.set_cons_zero, List.set_cons_succ]))
      | (refine idx_call_no rfl rfl rfl ?_; (try simp only [Act.put, List.setIfInBounds_toArray, List.set_cons_zero, List.set_cons_succ]))
      | (refine idx_call rfl (fun K hK => ?_); go_simp; first | (refine hK.out _ _ (by (repeat (first | exact hI.out | apply Held.drewn | apply Held.drew | apply Held.alloc))) ?_; clear hK K; (try simp only [Act.put, List.setIfInBounds_toArray, List.set_cons_zero, List.set_cons_succ])) | (refine (rfits_c _ _ _).mono ?_; rintro e w' ⟨rfl, nf, rfl⟩; go_wp2_with fail; refine hK.out _ _ (by (repeat (first | exact hI.out | apply Held.drewn | apply Held.drew | apply Held.alloc))) ?_; clear hK K; (try simp only [Act.put, List.setIfInBounds_toArray, List.set_cons_zero, List.set_cons_succ])))
      | (refine idx_call_yes rfl rfl rfl (fun K hK => ?_); go_simp; first | (refine hK.out _ _ (by (repeat (first | exact hI.out | apply Held.drewn | apply Held.drew | apply Held.alloc))) ?_; clear hK K; (try simp only [Act.put, List.setIfInBounds_toArray, List.set_cons_zero, List.set_cons_succ])) | (refine (rfits_c _ _ _).mono ?_; rintro e w' ⟨rfl, nf, rfl⟩; go_wp2_with fail; refine hK.out _ _ (by (repeat (first | exact hI.out | apply Held.drewn | apply Held.drew | apply Held.alloc))) ?_; clear hK K; (try simp only [Act.put, List.setIfInBounds_toArray, List.set_cons_zero, List.set_cons_succ]))))
    refine idx_end ?_
    go_wp2
    go_ret2
    refine ⟨?_, Held.bel (b := w.heap.size) (A := #[.int .i64 35, .int .i64 cond, .int .i64 rd, .int .i64 rn, .int .i64 rm, .int .i64 imm, .int .i64 1, .int .i64 list, .bool s]) (by (repeat (first | exact hI.out | apply Held.drewn | apply Held.drew | apply Held.alloc)))⟩
    first
      | (exact okay_none (by unfold Nm.branchI; dsimp only; rw [show Nm.fits1 imm = fitsB 1 imm from hF.out.symm]; simp only [if_neg hc14p]; (try simp only [Nm.opt, *]); all_goals rfl))
      | (refine okay_some (B := 53248 + cond * 256 + imm / 2 % 256) (by unfold Nm.branchI; dsimp only; rw [show Nm.fits1 imm = fitsB 1 imm from hF.out.symm]; simp only [if_neg hc14p]; (try simp only [Nm.opt, *]); all_goals rfl) ?_; (try rw [show Om.pA 1 imm = imm / 2 % 256 from rfl]); (try rw [show IntKind.i64.wrap (cond * 256) = cond * 256 from IntWalk.i64_in _ (by omega)]); (try rw [show wrap64 (cond * 256) = cond * 256 by unfold wrap64; omega]); (try rw [show IntKind.i64.wrap (imm / 2 % 256) = imm / 2 % 256 from IntWalk.i64_in _ (by omega)]); (try rw [show wrap64 (imm / 2 % 256) = imm / 2 % 256 by unfold wrap64; omega]); rw [Cm.or_join (53248) (cond * 256) 12 (by omega) (by omega) (by omega) (by omega) (by omega) (by omega), Cm.or_join (53248 + cond * 256) (imm / 2 % 256) 8 (by omega) (by omega) (by omega) (by omega) (by omega) (by omega)]; all_goals (try omega))
set_option linter.unusedSimpArgs false in
set_option maxRecDepth 100000 in
set_option maxHeartbeats 4000000 in
theorem branchB_o (cond rd rn rm imm list : Int) (s : Bool) (it : Bool) (w : World) (hc14 : (cond == 14) = false) (hf : fitsB 1 imm = false) : Calls Tryd.prog 26 #[.agg #[.int .i64 35, .int .i64 cond, .int .i64 rd, .int .i64 rn, .int .i64 rm, .int .i64 imm, .int .i64 1, .int .i64 list, .bool s], .bool it] w fun e w' => Okay e (Nm.branchI ⟨35, cond, rd, rn, rm, imm, 1, list, s⟩ it) ∧ Below w.heap.size w w' := by
  have hI := Lib.hid (Held.start w #[.int .i64 35, .int .i64 cond, .int .i64 rd, .int .i64 rn, .int .i64 rm, .int .i64 imm, .int .i64 1, .int .i64 list, .bool s] 23)
  have hF := Lib.hid (nfits1 imm)
  have hc14p : ¬ cond = 14 := by simpa using hc14
  rcases chain1 (!it) with h1 | h1
  all_goals
    go_enter Tryd.func26, Tryd.ntmps26
    go_wp2_with (first | (go_at_call 52; refine (rput_no _ _ _ hf).mono ?_; rintro e w' ⟨rfl, np, rfl⟩))
    refine wp_region_idx 14 [true, true, true, true, true, true, true, true, true, true, true, false, true, true, false] (S := (fun W => Held w.heap.size #[.int .i64 35, .int .i64 cond, .int .i64 rd, .int .i64 rn, .int .i64 rm, .int .i64 imm, .int .i64 1, .int .i64 list, .bool s] w W)) (by kernel_rfl) (by kernel_rfl) (fun _ _ d _ _ h => by cases d <;> exact h) (by (repeat (first | exact hI.out | apply Held.drewn | apply Held.drew | apply Held.alloc))) ?_
    simp only [List.zip_cons_cons, List.zip_nil_left]
    repeat (first
      | ((refine idx_pure rfl ?_ ?_ ?_; rotate_left; · (intro W hSw; (try dsimp only at hSw); obtain ⟨hq1, hq2, _⟩ := hSw; go_simp) <;> with_reducible rfl); (try simp only [Act.put, List.setIfInBounds_toArray, List.set_cons_zero, List.set_cons_succ]))
      | (refine idx_no rfl rfl rfl ?_; (try simp only [Act.put, List.setIfInBounds_toArray, List.set_cons_zero, List.set_cons_succ]))
      | ((refine idx_yes rfl rfl rfl ?_ ?_ ?_; rotate_left; · (intro W hSw; (try dsimp only at hSw); obtain ⟨hq1, hq2, _⟩ := hSw; go_simp) <;> with_reducible rfl); (try simp only [Act.put, List.setIfInBounds_toArray, List.set_cons_zero, List.set_cons_succ]))
      | (refine idx_call_no rfl rfl rfl ?_; (try simp only [Act.put, List.setIfInBounds_toArray, List.set_cons_zero, List.set_cons_succ]))
      | (refine idx_call rfl (fun K hK => ?_); go_simp; first | (refine hK.out _ _ (by (repeat (first | exact hI.out | apply Held.drewn | apply Held.drew | apply Held.alloc))) ?_; clear hK K; (try simp only [Act.put, List.setIfInBounds_toArray, List.set_cons_zero, List.set_cons_succ])) | (refine (rfits_c _ _ _).mono ?_; rintro e w' ⟨rfl, nf, rfl⟩; go_wp2_with fail; refine hK.out _ _ (by (repeat (first | exact hI.out | apply Held.drewn | apply Held.drew | apply Held.alloc))) ?_; clear hK K; (try simp only [Act.put, List.setIfInBounds_toArray, List.set_cons_zero, List.set_cons_succ])))
      | (refine idx_call_yes rfl rfl rfl (fun K hK => ?_); go_simp; first | (refine hK.out _ _ (by (repeat (first | exact hI.out | apply Held.drewn | apply Held.drew | apply Held.alloc))) ?_; clear hK K; (try simp only [Act.put, List.setIfInBounds_toArray, List.set_cons_zero, List.set_cons_succ])) | (refine (rfits_c _ _ _).mono ?_; rintro e w' ⟨rfl, nf, rfl⟩; go_wp2_with fail; refine hK.out _ _ (by (repeat (first | exact hI.out | apply Held.drewn | apply Held.drew | apply Held.alloc))) ?_; clear hK K; (try simp only [Act.put, List.setIfInBounds_toArray, List.set_cons_zero, List.set_cons_succ]))))
    refine idx_end ?_
    go_wp2
    go_ret2
    refine ⟨?_, Held.bel (b := w.heap.size) (A := #[.int .i64 35, .int .i64 cond, .int .i64 rd, .int .i64 rn, .int .i64 rm, .int .i64 imm, .int .i64 1, .int .i64 list, .bool s]) (by (repeat (first | exact hI.out | apply Held.drewn | apply Held.drew | apply Held.alloc)))⟩
    (exact okay_none (by unfold Nm.branchI; dsimp only; rw [show Nm.fits1 imm = fitsB 1 imm from hF.out.symm]; simp only [if_neg hc14p]; (try simp only [Nm.opt, *]); all_goals rfl))
set_option linter.unusedSimpArgs false in
set_option maxRecDepth 100000 in
set_option maxHeartbeats 4000000 in
theorem branch37 (cond rd rn rm imm list : Int) (s : Bool) (it : Bool) (w : World) (hf : fitsB 5 imm = true) (hn : ¬ imm < 0) (hn0 : 0 ≤ rn) (hn1 : rn ≤ 7) : Calls Tryd.prog 26 #[.agg #[.int .i64 37, .int .i64 cond, .int .i64 rd, .int .i64 rn, .int .i64 rm, .int .i64 imm, .int .i64 1, .int .i64 list, .bool s], .bool it] w fun e w' => Okay e (Nm.branchI ⟨37, cond, rd, rn, rm, imm, 1, list, s⟩ it) ∧ Below w.heap.size w w' := by
  have hI := Lib.hid (Held.start w #[.int .i64 37, .int .i64 cond, .int .i64 rd, .int .i64 rn, .int .i64 rm, .int .i64 imm, .int .i64 1, .int .i64 list, .bool s] 23)
  rcases chain1 (!it) with h1 | h1
  all_goals
    go_enter Tryd.func26, Tryd.ntmps26
    go_wp2_with (first | (go_at_call 52; refine (rput_5n _ _ hf hn).mono ?_; rintro e w' ⟨rfl, np, rfl⟩))
    go_ret2
    refine ⟨?_, Held.bel (b := w.heap.size) (A := #[.int .i64 37, .int .i64 cond, .int .i64 rd, .int .i64 rn, .int .i64 rm, .int .i64 imm, .int .i64 1, .int .i64 list, .bool s]) (by (repeat (first | exact hI.out | apply Held.drewn | apply Held.drew | apply Held.alloc)))⟩
    first
      | (exact okay_none (by unfold Nm.branchI; dsimp only; (try simp only [Nm.opt, *]); all_goals rfl))
      | (refine okay_some (B := 45312 + imm / 64 % 2 * 512 + imm / 2 % 32 * 8 + rn) (by unfold Nm.branchI; dsimp only; (try simp only [Nm.opt, *]); all_goals rfl) ?_; exact put5_sum 45312 rn imm (by decide) hn0 hn1 hf; all_goals (try omega))
set_option linter.unusedSimpArgs false in
set_option maxRecDepth 100000 in
set_option maxHeartbeats 4000000 in
theorem branch38 (cond rd rn rm imm list : Int) (s : Bool) (it : Bool) (w : World) (hf : fitsB 5 imm = true) (hn : ¬ imm < 0) (hn0 : 0 ≤ rn) (hn1 : rn ≤ 7) : Calls Tryd.prog 26 #[.agg #[.int .i64 38, .int .i64 cond, .int .i64 rd, .int .i64 rn, .int .i64 rm, .int .i64 imm, .int .i64 1, .int .i64 list, .bool s], .bool it] w fun e w' => Okay e (Nm.branchI ⟨38, cond, rd, rn, rm, imm, 1, list, s⟩ it) ∧ Below w.heap.size w w' := by
  have hI := Lib.hid (Held.start w #[.int .i64 38, .int .i64 cond, .int .i64 rd, .int .i64 rn, .int .i64 rm, .int .i64 imm, .int .i64 1, .int .i64 list, .bool s] 23)
  rcases chain1 (!it) with h1 | h1
  all_goals
    go_enter Tryd.func26, Tryd.ntmps26
    go_wp2_with (first | (go_at_call 52; refine (rput_5n _ _ hf hn).mono ?_; rintro e w' ⟨rfl, np, rfl⟩))
    go_ret2
    refine ⟨?_, Held.bel (b := w.heap.size) (A := #[.int .i64 38, .int .i64 cond, .int .i64 rd, .int .i64 rn, .int .i64 rm, .int .i64 imm, .int .i64 1, .int .i64 list, .bool s]) (by (repeat (first | exact hI.out | apply Held.drewn | apply Held.drew | apply Held.alloc)))⟩
    first
      | (exact okay_none (by unfold Nm.branchI; dsimp only; (try simp only [Nm.opt, *]); all_goals rfl))
      | (refine okay_some (B := 47360 + imm / 64 % 2 * 512 + imm / 2 % 32 * 8 + rn) (by unfold Nm.branchI; dsimp only; (try simp only [Nm.opt, *]); all_goals rfl) ?_; exact put5_sum 47360 rn imm (by decide) hn0 hn1 hf; all_goals (try omega))
end Go.Proofs.YtcphhojdfpedkaaDoor
