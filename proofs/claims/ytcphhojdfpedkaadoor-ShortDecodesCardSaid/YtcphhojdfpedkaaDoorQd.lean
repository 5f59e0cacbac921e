/- Contract of the document's own data (text by gen_qd.py). -/
import Derived.Test.YtcphhojdfpedkaaDoorGj
import Derived.LoopTactic
import Derived.OwnWalk
namespace Go.Proofs.YtcphhojdfpedkaaDoor
open Go.ChangeShapes Go.WideShapes Go.ChangeAt Go.RowKit
set_option linter.unusedSimpArgs false in
set_option maxRecDepth 100000 in
set_option maxHeartbeats 1000000 in
theorem rdata_1 (cond rd rn rm imm mode list : Int) (s : Bool) (w : World) : Calls Tryd.prog 30 #[.agg #[.int .i64 1, .int .i64 cond, .int .i64 rd, .int .i64 rn, .int .i64 rm, .int .i64 imm, .int .i64 mode, .int .i64 list, .bool s]] w fun e w' => e = .returned (.bool (Rb.plainB rd && (Rb.plainB rn && Rb.lastR ⟨1, cond, rd, rn, rm, imm, mode, list, s⟩ 0 4294967295))) ∧ Below w.heap.size w w' := by
  go_enter Tryd.func30, Tryd.ntmps30
  go_wp2_with fail
  refine (rplain_c rd _).mono ?_
  rintro e w' ⟨rfl, n0, rfl⟩
  cases h0 : Rb.plainB rd with
  | false =>
    go_wp2
    go_ret
    exact ⟨ret_bool (by simp [h0]), below_drewN (one_b _ _) _⟩
  | true =>
    go_wp2_with fail
    refine (rplain_c rn _).mono ?_
    rintro e w' ⟨rfl, n1, rfl⟩
    cases h1 : Rb.plainB rn with
    | false =>
      go_wp2
      go_ret
      exact ⟨ret_bool (by simp [h1]), below_drewN (one_b _ _) _⟩
    | true =>
      go_wp2_with fail
      refine (rlast_c 1 cond rd rn rm imm mode list 0 4294967295 s _).mono ?_
      rintro e w' ⟨rfl, hb⟩
      go_wp2
      go_ret
      exact ⟨ret_bool (by simp [h0, h1]), (below_drewN (one_b _ _) _).trans (hb.mono (by simp))⟩
set_option linter.unusedSimpArgs false in
set_option maxRecDepth 100000 in
set_option maxHeartbeats 1000000 in
theorem rdata_2 (cond rd rn rm imm mode list : Int) (s : Bool) (w : World) : Calls Tryd.prog 30 #[.agg #[.int .i64 2, .int .i64 cond, .int .i64 rd, .int .i64 rn, .int .i64 rm, .int .i64 imm, .int .i64 mode, .int .i64 list, .bool s]] w fun e w' => e = .returned (.bool (Rb.plainB rd && (Rb.plainB rn && Rb.lastR ⟨2, cond, rd, rn, rm, imm, mode, list, s⟩ 0 4294967295))) ∧ Below w.heap.size w w' := by
  go_enter Tryd.func30, Tryd.ntmps30
  go_wp2_with fail
  refine (rplain_c rd _).mono ?_
  rintro e w' ⟨rfl, n0, rfl⟩
  cases h0 : Rb.plainB rd with
  | false =>
    go_wp2
    go_ret
    exact ⟨ret_bool (by simp [h0]), below_drewN (one_b _ _) _⟩
  | true =>
    go_wp2_with fail
    refine (rplain_c rn _).mono ?_
    rintro e w' ⟨rfl, n1, rfl⟩
    cases h1 : Rb.plainB rn with
    | false =>
      go_wp2
      go_ret
      exact ⟨ret_bool (by simp [h1]), below_drewN (one_b _ _) _⟩
    | true =>
      go_wp2_with fail
      refine (rlast_c 2 cond rd rn rm imm mode list 0 4294967295 s _).mono ?_
      rintro e w' ⟨rfl, hb⟩
      go_wp2
      go_ret
      exact ⟨ret_bool (by simp [h0, h1]), (below_drewN (one_b _ _) _).trans (hb.mono (by simp))⟩
set_option linter.unusedSimpArgs false in
set_option maxRecDepth 100000 in
set_option maxHeartbeats 1000000 in
theorem rdata_3 (cond rd rn rm imm mode list : Int) (s : Bool) (w : World) : Calls Tryd.prog 30 #[.agg #[.int .i64 3, .int .i64 cond, .int .i64 rd, .int .i64 rn, .int .i64 rm, .int .i64 imm, .int .i64 mode, .int .i64 list, .bool s]] w fun e w' => e = .returned (.bool (Rb.plainB rd && (Rb.plainB rn && Rb.lastR ⟨3, cond, rd, rn, rm, imm, mode, list, s⟩ 0 4294967295))) ∧ Below w.heap.size w w' := by
  go_enter Tryd.func30, Tryd.ntmps30
  go_wp2_with fail
  refine (rplain_c rd _).mono ?_
  rintro e w' ⟨rfl, n0, rfl⟩
  cases h0 : Rb.plainB rd with
  | false =>
    go_wp2
    go_ret
    exact ⟨ret_bool (by simp [h0]), below_drewN (one_b _ _) _⟩
  | true =>
    go_wp2_with fail
    refine (rplain_c rn _).mono ?_
    rintro e w' ⟨rfl, n1, rfl⟩
    cases h1 : Rb.plainB rn with
    | false =>
      go_wp2
      go_ret
      exact ⟨ret_bool (by simp [h1]), below_drewN (one_b _ _) _⟩
    | true =>
      go_wp2_with fail
      refine (rlast_c 3 cond rd rn rm imm mode list 0 4294967295 s _).mono ?_
      rintro e w' ⟨rfl, hb⟩
      go_wp2
      go_ret
      exact ⟨ret_bool (by simp [h0, h1]), (below_drewN (one_b _ _) _).trans (hb.mono (by simp))⟩
set_option linter.unusedSimpArgs false in
set_option maxRecDepth 100000 in
set_option maxHeartbeats 1000000 in
theorem rdata_4 (cond rd rn rm imm mode list : Int) (s : Bool) (w : World) : Calls Tryd.prog 30 #[.agg #[.int .i64 4, .int .i64 cond, .int .i64 rd, .int .i64 rn, .int .i64 rm, .int .i64 imm, .int .i64 mode, .int .i64 list, .bool s]] w fun e w' => e = .returned (.bool (Rb.plainB rd && (Rb.plainB rn && Rb.lastR ⟨4, cond, rd, rn, rm, imm, mode, list, s⟩ 0 4294967295))) ∧ Below w.heap.size w w' := by
  go_enter Tryd.func30, Tryd.ntmps30
  go_wp2_with fail
  refine (rplain_c rd _).mono ?_
  rintro e w' ⟨rfl, n0, rfl⟩
  cases h0 : Rb.plainB rd with
  | false =>
    go_wp2
    go_ret
    exact ⟨ret_bool (by simp [h0]), below_drewN (one_b _ _) _⟩
  | true =>
    go_wp2_with fail
    refine (rplain_c rn _).mono ?_
    rintro e w' ⟨rfl, n1, rfl⟩
    cases h1 : Rb.plainB rn with
    | false =>
      go_wp2
      go_ret
      exact ⟨ret_bool (by simp [h1]), below_drewN (one_b _ _) _⟩
    | true =>
      go_wp2_with fail
      refine (rlast_c 4 cond rd rn rm imm mode list 0 4294967295 s _).mono ?_
      rintro e w' ⟨rfl, hb⟩
      go_wp2
      go_ret
      exact ⟨ret_bool (by simp [h0, h1]), (below_drewN (one_b _ _) _).trans (hb.mono (by simp))⟩
set_option linter.unusedSimpArgs false in
set_option maxRecDepth 100000 in
set_option maxHeartbeats 1000000 in
theorem rdata_5 (cond rd rn rm imm mode list : Int) (s : Bool) (w : World) : Calls Tryd.prog 30 #[.agg #[.int .i64 5, .int .i64 cond, .int .i64 rd, .int .i64 rn, .int .i64 rm, .int .i64 imm, .int .i64 mode, .int .i64 list, .bool s]] w fun e w' => e = .returned (.bool (Rb.plainB rd && (Rb.plainB rn && Rb.lastR ⟨5, cond, rd, rn, rm, imm, mode, list, s⟩ 0 4294967295))) ∧ Below w.heap.size w w' := by
  go_enter Tryd.func30, Tryd.ntmps30
  go_wp2_with fail
  refine (rplain_c rd _).mono ?_
  rintro e w' ⟨rfl, n0, rfl⟩
  cases h0 : Rb.plainB rd with
  | false =>
    go_wp2
    go_ret
    exact ⟨ret_bool (by simp [h0]), below_drewN (one_b _ _) _⟩
  | true =>
    go_wp2_with fail
    refine (rplain_c rn _).mono ?_
    rintro e w' ⟨rfl, n1, rfl⟩
    cases h1 : Rb.plainB rn with
    | false =>
      go_wp2
      go_ret
      exact ⟨ret_bool (by simp [h1]), below_drewN (one_b _ _) _⟩
    | true =>
      go_wp2_with fail
      refine (rlast_c 5 cond rd rn rm imm mode list 0 4294967295 s _).mono ?_
      rintro e w' ⟨rfl, hb⟩
      go_wp2
      go_ret
      exact ⟨ret_bool (by simp [h0, h1]), (below_drewN (one_b _ _) _).trans (hb.mono (by simp))⟩
set_option linter.unusedSimpArgs false in
set_option maxRecDepth 100000 in
set_option maxHeartbeats 1000000 in
theorem rdata_6 (cond rd rn rm imm mode list : Int) (s : Bool) (w : World) : Calls Tryd.prog 30 #[.agg #[.int .i64 6, .int .i64 cond, .int .i64 rd, .int .i64 rn, .int .i64 rm, .int .i64 imm, .int .i64 mode, .int .i64 list, .bool s]] w fun e w' => e = .returned (.bool (Rb.plainB rd && (Rb.plainB rn && Rb.lastR ⟨6, cond, rd, rn, rm, imm, mode, list, s⟩ 0 4294967295))) ∧ Below w.heap.size w w' := by
  go_enter Tryd.func30, Tryd.ntmps30
  go_wp2_with fail
  refine (rplain_c rd _).mono ?_
  rintro e w' ⟨rfl, n0, rfl⟩
  cases h0 : Rb.plainB rd with
  | false =>
    go_wp2
    go_ret
    exact ⟨ret_bool (by simp [h0]), below_drewN (one_b _ _) _⟩
  | true =>
    go_wp2_with fail
    refine (rplain_c rn _).mono ?_
    rintro e w' ⟨rfl, n1, rfl⟩
    cases h1 : Rb.plainB rn with
    | false =>
      go_wp2
      go_ret
      exact ⟨ret_bool (by simp [h1]), below_drewN (one_b _ _) _⟩
    | true =>
      go_wp2_with fail
      refine (rlast_c 6 cond rd rn rm imm mode list 0 4294967295 s _).mono ?_
      rintro e w' ⟨rfl, hb⟩
      go_wp2
      go_ret
      exact ⟨ret_bool (by simp [h0, h1]), (below_drewN (one_b _ _) _).trans (hb.mono (by simp))⟩
set_option linter.unusedSimpArgs false in
set_option maxRecDepth 100000 in
set_option maxHeartbeats 1000000 in
theorem rdata_7 (cond rd rn rm imm mode list : Int) (s : Bool) (w : World) : Calls Tryd.prog 30 #[.agg #[.int .i64 7, .int .i64 cond, .int .i64 rd, .int .i64 rn, .int .i64 rm, .int .i64 imm, .int .i64 mode, .int .i64 list, .bool s]] w fun e w' => e = .returned (.bool (Rb.plainB rd && (Rb.plainB rn && Rb.lastR ⟨7, cond, rd, rn, rm, imm, mode, list, s⟩ 0 4294967295))) ∧ Below w.heap.size w w' := by
  go_enter Tryd.func30, Tryd.ntmps30
  go_wp2_with fail
  refine (rplain_c rd _).mono ?_
  rintro e w' ⟨rfl, n0, rfl⟩
  cases h0 : Rb.plainB rd with
  | false =>
    go_wp2
    go_ret
    exact ⟨ret_bool (by simp [h0]), below_drewN (one_b _ _) _⟩
  | true =>
    go_wp2_with fail
    refine (rplain_c rn _).mono ?_
    rintro e w' ⟨rfl, n1, rfl⟩
    cases h1 : Rb.plainB rn with
    | false =>
      go_wp2
      go_ret
      exact ⟨ret_bool (by simp [h1]), below_drewN (one_b _ _) _⟩
    | true =>
      go_wp2_with fail
      refine (rlast_c 7 cond rd rn rm imm mode list 0 4294967295 s _).mono ?_
      rintro e w' ⟨rfl, hb⟩
      go_wp2
      go_ret
      exact ⟨ret_bool (by simp [h0, h1]), (below_drewN (one_b _ _) _).trans (hb.mono (by simp))⟩
set_option linter.unusedSimpArgs false in
set_option maxRecDepth 100000 in
set_option maxHeartbeats 1000000 in
theorem rdata_8 (cond rd rn rm imm mode list : Int) (s : Bool) (w : World) : Calls Tryd.prog 30 #[.agg #[.int .i64 8, .int .i64 cond, .int .i64 rd, .int .i64 rn, .int .i64 rm, .int .i64 imm, .int .i64 mode, .int .i64 list, .bool s]] w fun e w' => e = .returned (.bool (Rb.plainB rd && (Rb.plainB rn && Rb.lastR ⟨8, cond, rd, rn, rm, imm, mode, list, s⟩ 0 4294967295))) ∧ Below w.heap.size w w' := by
  go_enter Tryd.func30, Tryd.ntmps30
  go_wp2_with fail
  refine (rplain_c rd _).mono ?_
  rintro e w' ⟨rfl, n0, rfl⟩
  cases h0 : Rb.plainB rd with
  | false =>
    go_wp2
    go_ret
    exact ⟨ret_bool (by simp [h0]), below_drewN (one_b _ _) _⟩
  | true =>
    go_wp2_with fail
    refine (rplain_c rn _).mono ?_
    rintro e w' ⟨rfl, n1, rfl⟩
    cases h1 : Rb.plainB rn with
    | false =>
      go_wp2
      go_ret
      exact ⟨ret_bool (by simp [h1]), below_drewN (one_b _ _) _⟩
    | true =>
      go_wp2_with fail
      refine (rlast_c 8 cond rd rn rm imm mode list 0 4294967295 s _).mono ?_
      rintro e w' ⟨rfl, hb⟩
      go_wp2
      go_ret
      exact ⟨ret_bool (by simp [h0, h1]), (below_drewN (one_b _ _) _).trans (hb.mono (by simp))⟩
set_option linter.unusedSimpArgs false in
set_option maxRecDepth 100000 in
set_option maxHeartbeats 1000000 in
theorem rdata_9 (cond rd rn rm imm mode list : Int) (s : Bool) (w : World) : Calls Tryd.prog 30 #[.agg #[.int .i64 9, .int .i64 cond, .int .i64 rd, .int .i64 rn, .int .i64 rm, .int .i64 imm, .int .i64 mode, .int .i64 list, .bool s]] w fun e w' => e = .returned (.bool (Rb.plainB rd && (Rb.plainB rn && Rb.lastR ⟨9, cond, rd, rn, rm, imm, mode, list, s⟩ 0 4294967295))) ∧ Below w.heap.size w w' := by
  go_enter Tryd.func30, Tryd.ntmps30
  go_wp2_with fail
  refine (rplain_c rd _).mono ?_
  rintro e w' ⟨rfl, n0, rfl⟩
  cases h0 : Rb.plainB rd with
  | false =>
    go_wp2
    go_ret
    exact ⟨ret_bool (by simp [h0]), below_drewN (one_b _ _) _⟩
  | true =>
    go_wp2_with fail
    refine (rplain_c rn _).mono ?_
    rintro e w' ⟨rfl, n1, rfl⟩
    cases h1 : Rb.plainB rn with
    | false =>
      go_wp2
      go_ret
      exact ⟨ret_bool (by simp [h1]), below_drewN (one_b _ _) _⟩
    | true =>
      go_wp2_with fail
      refine (rlast_c 9 cond rd rn rm imm mode list 0 4294967295 s _).mono ?_
      rintro e w' ⟨rfl, hb⟩
      go_wp2
      go_ret
      exact ⟨ret_bool (by simp [h0, h1]), (below_drewN (one_b _ _) _).trans (hb.mono (by simp))⟩
set_option linter.unusedSimpArgs false in
set_option maxRecDepth 100000 in
set_option maxHeartbeats 1000000 in
theorem rdata_10s (cond rd rn rm imm list : Int) (w : World) : Calls Tryd.prog 30 #[.agg #[.int .i64 10, .int .i64 cond, .int .i64 rd, .int .i64 rn, .int .i64 rm, .int .i64 imm, .int .i64 2, .int .i64 list, .bool false]] w fun e w' => e = .returned (.bool (Rb.inB rd 0 14 && Rb.inB rm 0 14)) ∧ Below w.heap.size w w' := by
  go_enter Tryd.func30, Tryd.ntmps30
  go_wp2_with fail
  refine (rin_c rd 0 14 _).mono ?_
  rintro e w' ⟨rfl, n0, rfl⟩
  cases h0 : Rb.inB rd 0 14 with
  | false =>
    go_wp2
    go_ret
    exact ⟨ret_bool (by simp [h0]), below_drewN (one_b _ _) _⟩
  | true =>
    go_wp2_with fail
    refine (rin_c rm 0 14 _).mono ?_
    rintro e w' ⟨rfl, n1, rfl⟩
    go_wp2
    go_ret
    exact ⟨ret_bool (by simp [h0]), below_drewN (one_b _ _) _⟩
set_option linter.unusedSimpArgs false in
set_option maxRecDepth 100000 in
set_option maxHeartbeats 1000000 in
theorem rdata_10m (cond rd rn rm imm mode list : Int) (s : Bool) (w : World) (hm : (mode == 2) = false) : Calls Tryd.prog 30 #[.agg #[.int .i64 10, .int .i64 cond, .int .i64 rd, .int .i64 rn, .int .i64 rm, .int .i64 imm, .int .i64 mode, .int .i64 list, .bool s]] w fun e w' => e = .returned (.bool (Rb.plainB rd && Rb.lastR ⟨10, cond, rd, rn, rm, imm, mode, list, s⟩ 0 4294967295)) ∧ Below w.heap.size w w' := by
  go_enter Tryd.func30, Tryd.ntmps30
  go_wp2_with fail
  refine (rplain_c rd _).mono ?_
  rintro e w' ⟨rfl, n0, rfl⟩
  cases h0 : Rb.plainB rd with
  | false =>
    go_wp2
    go_ret
    exact ⟨ret_bool (by simp [h0]), below_drewN (one_b _ _) _⟩
  | true =>
    go_wp2_with fail
    refine (rlast_c 10 cond rd rn rm imm mode list 0 4294967295 s _).mono ?_
    rintro e w' ⟨rfl, hb⟩
    go_wp2
    go_ret
    exact ⟨ret_bool (by simp [h0]), (below_drewN (one_b _ _) _).trans (hb.mono (by simp))⟩
set_option linter.unusedSimpArgs false in
set_option maxRecDepth 100000 in
set_option maxHeartbeats 1000000 in
theorem rdata_10t (cond rd rn rm imm list : Int) (w : World) : Calls Tryd.prog 30 #[.agg #[.int .i64 10, .int .i64 cond, .int .i64 rd, .int .i64 rn, .int .i64 rm, .int .i64 imm, .int .i64 2, .int .i64 list, .bool true]] w fun e w' => e = .returned (.bool (Rb.plainB rd && Rb.lastR ⟨10, cond, rd, rn, rm, imm, 2, list, true⟩ 0 4294967295)) ∧ Below w.heap.size w w' := by
  go_enter Tryd.func30, Tryd.ntmps30
  go_wp2_with fail
  refine (rplain_c rd _).mono ?_
  rintro e w' ⟨rfl, n0, rfl⟩
  cases h0 : Rb.plainB rd with
  | false =>
    go_wp2
    go_ret
    exact ⟨ret_bool (by simp [h0]), below_drewN (one_b _ _) _⟩
  | true =>
    go_wp2_with fail
    refine (rlast_c 10 cond rd rn rm imm 2 list 0 4294967295 true _).mono ?_
    rintro e w' ⟨rfl, hb⟩
    go_wp2
    go_ret
    exact ⟨ret_bool (by simp [h0]), (below_drewN (one_b _ _) _).trans (hb.mono (by simp))⟩
set_option linter.unusedSimpArgs false in
set_option maxRecDepth 100000 in
set_option maxHeartbeats 1000000 in
theorem rdata_11 (cond rd rn rm imm mode list : Int) (s : Bool) (w : World) : Calls Tryd.prog 30 #[.agg #[.int .i64 11, .int .i64 cond, .int .i64 rd, .int .i64 rn, .int .i64 rm, .int .i64 imm, .int .i64 mode, .int .i64 list, .bool s]] w fun e w' => e = .returned (.bool (Rb.plainB rd && Rb.lastR ⟨11, cond, rd, rn, rm, imm, mode, list, s⟩ 0 4294967295)) ∧ Below w.heap.size w w' := by
  go_enter Tryd.func30, Tryd.ntmps30
  go_wp2_with fail
  refine (rplain_c rd _).mono ?_
  rintro e w' ⟨rfl, n0, rfl⟩
  cases h0 : Rb.plainB rd with
  | false =>
    go_wp2
    go_ret
    exact ⟨ret_bool (by simp [h0]), below_drewN (one_b _ _) _⟩
  | true =>
    go_wp2_with fail
    refine (rlast_c 11 cond rd rn rm imm mode list 0 4294967295 s _).mono ?_
    rintro e w' ⟨rfl, hb⟩
    go_wp2
    go_ret
    exact ⟨ret_bool (by simp [h0]), (below_drewN (one_b _ _) _).trans (hb.mono (by simp))⟩
set_option linter.unusedSimpArgs false in
set_option maxRecDepth 100000 in
set_option maxHeartbeats 1000000 in
theorem rdata_12 (cond rd rn rm imm mode list : Int) (s : Bool) (w : World) : Calls Tryd.prog 30 #[.agg #[.int .i64 12, .int .i64 cond, .int .i64 rd, .int .i64 rn, .int .i64 rm, .int .i64 imm, .int .i64 mode, .int .i64 list, .bool s]] w fun e w' => e = .returned (.bool (Rb.plainB rn && Rb.lastR ⟨12, cond, rd, rn, rm, imm, mode, list, s⟩ 0 4294967295)) ∧ Below w.heap.size w w' := by
  go_enter Tryd.func30, Tryd.ntmps30
  go_wp2_with fail
  refine (rplain_c rn _).mono ?_
  rintro e w' ⟨rfl, n0, rfl⟩
  cases h0 : Rb.plainB rn with
  | false =>
    go_wp2
    go_ret
    exact ⟨ret_bool (by simp [h0]), below_drewN (one_b _ _) _⟩
  | true =>
    go_wp2_with fail
    refine (rlast_c 12 cond rd rn rm imm mode list 0 4294967295 s _).mono ?_
    rintro e w' ⟨rfl, hb⟩
    go_wp2
    go_ret
    exact ⟨ret_bool (by simp [h0]), (below_drewN (one_b _ _) _).trans (hb.mono (by simp))⟩
set_option linter.unusedSimpArgs false in
set_option maxRecDepth 100000 in
set_option maxHeartbeats 1000000 in
theorem rdata_13 (cond rd rn rm imm mode list : Int) (s : Bool) (w : World) : Calls Tryd.prog 30 #[.agg #[.int .i64 13, .int .i64 cond, .int .i64 rd, .int .i64 rn, .int .i64 rm, .int .i64 imm, .int .i64 mode, .int .i64 list, .bool s]] w fun e w' => e = .returned (.bool (Rb.plainB rn && Rb.lastR ⟨13, cond, rd, rn, rm, imm, mode, list, s⟩ 0 4294967295)) ∧ Below w.heap.size w w' := by
  go_enter Tryd.func30, Tryd.ntmps30
  go_wp2_with fail
  refine (rplain_c rn _).mono ?_
  rintro e w' ⟨rfl, n0, rfl⟩
  cases h0 : Rb.plainB rn with
  | false =>
    go_wp2
    go_ret
    exact ⟨ret_bool (by simp [h0]), below_drewN (one_b _ _) _⟩
  | true =>
    go_wp2_with fail
    refine (rlast_c 13 cond rd rn rm imm mode list 0 4294967295 s _).mono ?_
    rintro e w' ⟨rfl, hb⟩
    go_wp2
    go_ret
    exact ⟨ret_bool (by simp [h0]), (below_drewN (one_b _ _) _).trans (hb.mono (by simp))⟩
set_option linter.unusedSimpArgs false in
set_option maxRecDepth 100000 in
set_option maxHeartbeats 1000000 in
theorem rdata_14 (cond rd rn rm imm mode list : Int) (s : Bool) (w : World) : Calls Tryd.prog 30 #[.agg #[.int .i64 14, .int .i64 cond, .int .i64 rd, .int .i64 rn, .int .i64 rm, .int .i64 imm, .int .i64 mode, .int .i64 list, .bool s]] w fun e w' => e = .returned (.bool (Rb.plainB rn && Rb.lastR ⟨14, cond, rd, rn, rm, imm, mode, list, s⟩ 0 4294967295)) ∧ Below w.heap.size w w' := by
  go_enter Tryd.func30, Tryd.ntmps30
  go_wp2_with fail
  refine (rplain_c rn _).mono ?_
  rintro e w' ⟨rfl, n0, rfl⟩
  cases h0 : Rb.plainB rn with
  | false =>
    go_wp2
    go_ret
    exact ⟨ret_bool (by simp [h0]), below_drewN (one_b _ _) _⟩
  | true =>
    go_wp2_with fail
    refine (rlast_c 14 cond rd rn rm imm mode list 0 4294967295 s _).mono ?_
    rintro e w' ⟨rfl, hb⟩
    go_wp2
    go_ret
    exact ⟨ret_bool (by simp [h0]), (below_drewN (one_b _ _) _).trans (hb.mono (by simp))⟩
set_option linter.unusedSimpArgs false in
set_option maxRecDepth 100000 in
set_option maxHeartbeats 1000000 in
theorem rdata_15 (cond rd rn rm imm mode list : Int) (s : Bool) (w : World) : Calls Tryd.prog 30 #[.agg #[.int .i64 15, .int .i64 cond, .int .i64 rd, .int .i64 rn, .int .i64 rm, .int .i64 imm, .int .i64 mode, .int .i64 list, .bool s]] w fun e w' => e = .returned (.bool (Rb.plainB rn && Rb.lastR ⟨15, cond, rd, rn, rm, imm, mode, list, s⟩ 0 4294967295)) ∧ Below w.heap.size w w' := by
  go_enter Tryd.func30, Tryd.ntmps30
  go_wp2_with fail
  refine (rplain_c rn _).mono ?_
  rintro e w' ⟨rfl, n0, rfl⟩
  cases h0 : Rb.plainB rn with
  | false =>
    go_wp2
    go_ret
    exact ⟨ret_bool (by simp [h0]), below_drewN (one_b _ _) _⟩
  | true =>
    go_wp2_with fail
    refine (rlast_c 15 cond rd rn rm imm mode list 0 4294967295 s _).mono ?_
    rintro e w' ⟨rfl, hb⟩
    go_wp2
    go_ret
    exact ⟨ret_bool (by simp [h0]), (below_drewN (one_b _ _) _).trans (hb.mono (by simp))⟩
set_option linter.unusedSimpArgs false in
set_option maxRecDepth 100000 in
set_option maxHeartbeats 1000000 in
theorem rdata_16 (cond rd rn rm imm mode list : Int) (s : Bool) (w : World) : Calls Tryd.prog 30 #[.agg #[.int .i64 16, .int .i64 cond, .int .i64 rd, .int .i64 rn, .int .i64 rm, .int .i64 imm, .int .i64 mode, .int .i64 list, .bool s]] w fun e w' => e = .returned (.bool (Rb.plainB rd && (Rb.plainB rn && Rb.lastR ⟨16, cond, rd, rn, rm, imm, mode, list, s⟩ 1 31))) ∧ Below w.heap.size w w' := by
  go_enter Tryd.func30, Tryd.ntmps30
  go_wp2_with fail
  refine (rplain_c rd _).mono ?_
  rintro e w' ⟨rfl, n0, rfl⟩
  cases h0 : Rb.plainB rd with
  | false =>
    go_wp2
    go_ret
    exact ⟨ret_bool (by simp [h0]), below_drewN (one_b _ _) _⟩
  | true =>
    go_wp2_with fail
    refine (rplain_c rn _).mono ?_
    rintro e w' ⟨rfl, n1, rfl⟩
    cases h1 : Rb.plainB rn with
    | false =>
      go_wp2
      go_ret
      exact ⟨ret_bool (by simp [h1]), below_drewN (one_b _ _) _⟩
    | true =>
      go_wp2_with fail
      refine (rlast_c 16 cond rd rn rm imm mode list 1 31 s _).mono ?_
      rintro e w' ⟨rfl, hb⟩
      go_wp2
      go_ret
      exact ⟨ret_bool (by simp [h0, h1]), (below_drewN (one_b _ _) _).trans (hb.mono (by simp))⟩
set_option linter.unusedSimpArgs false in
set_option maxRecDepth 100000 in
set_option maxHeartbeats 1000000 in
theorem rdata_17 (cond rd rn rm imm mode list : Int) (s : Bool) (w : World) : Calls Tryd.prog 30 #[.agg #[.int .i64 17, .int .i64 cond, .int .i64 rd, .int .i64 rn, .int .i64 rm, .int .i64 imm, .int .i64 mode, .int .i64 list, .bool s]] w fun e w' => e = .returned (.bool (Rb.plainB rd && (Rb.plainB rn && Rb.lastR ⟨17, cond, rd, rn, rm, imm, mode, list, s⟩ 1 32))) ∧ Below w.heap.size w w' := by
  go_enter Tryd.func30, Tryd.ntmps30
  go_wp2_with fail
  refine (rplain_c rd _).mono ?_
  rintro e w' ⟨rfl, n0, rfl⟩
  cases h0 : Rb.plainB rd with
  | false =>
    go_wp2
    go_ret
    exact ⟨ret_bool (by simp [h0]), below_drewN (one_b _ _) _⟩
  | true =>
    go_wp2_with fail
    refine (rplain_c rn _).mono ?_
    rintro e w' ⟨rfl, n1, rfl⟩
    cases h1 : Rb.plainB rn with
    | false =>
      go_wp2
      go_ret
      exact ⟨ret_bool (by simp [h1]), below_drewN (one_b _ _) _⟩
    | true =>
      go_wp2_with fail
      refine (rlast_c 17 cond rd rn rm imm mode list 1 32 s _).mono ?_
      rintro e w' ⟨rfl, hb⟩
      go_wp2
      go_ret
      exact ⟨ret_bool (by simp [h0, h1]), (below_drewN (one_b _ _) _).trans (hb.mono (by simp))⟩
set_option linter.unusedSimpArgs false in
set_option maxRecDepth 100000 in
set_option maxHeartbeats 1000000 in
theorem rdata_18 (cond rd rn rm imm mode list : Int) (s : Bool) (w : World) : Calls Tryd.prog 30 #[.agg #[.int .i64 18, .int .i64 cond, .int .i64 rd, .int .i64 rn, .int .i64 rm, .int .i64 imm, .int .i64 mode, .int .i64 list, .bool s]] w fun e w' => e = .returned (.bool (Rb.plainB rd && (Rb.plainB rn && Rb.lastR ⟨18, cond, rd, rn, rm, imm, mode, list, s⟩ 1 32))) ∧ Below w.heap.size w w' := by
  go_enter Tryd.func30, Tryd.ntmps30
  go_wp2_with fail
  refine (rplain_c rd _).mono ?_
  rintro e w' ⟨rfl, n0, rfl⟩
  cases h0 : Rb.plainB rd with
  | false =>
    go_wp2
    go_ret
    exact ⟨ret_bool (by simp [h0]), below_drewN (one_b _ _) _⟩
  | true =>
    go_wp2_with fail
    refine (rplain_c rn _).mono ?_
    rintro e w' ⟨rfl, n1, rfl⟩
    cases h1 : Rb.plainB rn with
    | false =>
      go_wp2
      go_ret
      exact ⟨ret_bool (by simp [h1]), below_drewN (one_b _ _) _⟩
    | true =>
      go_wp2_with fail
      refine (rlast_c 18 cond rd rn rm imm mode list 1 32 s _).mono ?_
      rintro e w' ⟨rfl, hb⟩
      go_wp2
      go_ret
      exact ⟨ret_bool (by simp [h0, h1]), (below_drewN (one_b _ _) _).trans (hb.mono (by simp))⟩
set_option linter.unusedSimpArgs false in
set_option maxRecDepth 100000 in
set_option maxHeartbeats 1000000 in
theorem rdata_19 (cond rd rn rm imm mode list : Int) (s : Bool) (w : World) : Calls Tryd.prog 30 #[.agg #[.int .i64 19, .int .i64 cond, .int .i64 rd, .int .i64 rn, .int .i64 rm, .int .i64 imm, .int .i64 mode, .int .i64 list, .bool s]] w fun e w' => e = .returned (.bool (Rb.plainB rd && (Rb.plainB rn && Rb.lastR ⟨19, cond, rd, rn, rm, imm, mode, list, s⟩ 1 31))) ∧ Below w.heap.size w w' := by
  go_enter Tryd.func30, Tryd.ntmps30
  go_wp2_with fail
  refine (rplain_c rd _).mono ?_
  rintro e w' ⟨rfl, n0, rfl⟩
  cases h0 : Rb.plainB rd with
  | false =>
    go_wp2
    go_ret
    exact ⟨ret_bool (by simp [h0]), below_drewN (one_b _ _) _⟩
  | true =>
    go_wp2_with fail
    refine (rplain_c rn _).mono ?_
    rintro e w' ⟨rfl, n1, rfl⟩
    cases h1 : Rb.plainB rn with
    | false =>
      go_wp2
      go_ret
      exact ⟨ret_bool (by simp [h1]), below_drewN (one_b _ _) _⟩
    | true =>
      go_wp2_with fail
      refine (rlast_c 19 cond rd rn rm imm mode list 1 31 s _).mono ?_
      rintro e w' ⟨rfl, hb⟩
      go_wp2
      go_ret
      exact ⟨ret_bool (by simp [h0, h1]), (below_drewN (one_b _ _) _).trans (hb.mono (by simp))⟩
set_option linter.unusedSimpArgs false in
set_option maxRecDepth 100000 in
set_option maxHeartbeats 1000000 in
theorem rdata_20 (cond rd rn rm imm mode list : Int) (s : Bool) (w : World) : Calls Tryd.prog 30 #[.agg #[.int .i64 20, .int .i64 cond, .int .i64 rd, .int .i64 rn, .int .i64 rm, .int .i64 imm, .int .i64 mode, .int .i64 list, .bool s]] w fun e w' => e = .returned (.bool (Rb.plainB rd && (Rb.plainB rn && ((mode == 2) && Rb.plainB rm)))) ∧ Below w.heap.size w w' := by
  cases m2 : (mode == 2) with
  | false =>
    go_enter Tryd.func30, Tryd.ntmps30
    go_wp2_with fail
    refine (rplain_c rd _).mono ?_
    rintro e w' ⟨rfl, n0, rfl⟩
    cases h0 : Rb.plainB rd with
    | false =>
      go_wp2
      go_ret
      exact ⟨ret_bool (by simp [h0]), below_drewN (one_b _ _) _⟩
    | true =>
      go_wp2_with fail
      refine (rplain_c rn _).mono ?_
      rintro e w' ⟨rfl, n1, rfl⟩
      cases h1 : Rb.plainB rn with
      | false =>
        go_wp2
        go_ret
        exact ⟨ret_bool (by simp [h1]), below_drewN (one_b _ _) _⟩
      | true =>
        go_wp2
        go_ret
        exact ⟨ret_bool (by simp [m2, h0, h1]), below_drewN (one_b _ _) _⟩
  | true =>
    go_enter Tryd.func30, Tryd.ntmps30
    go_wp2_with fail
    refine (rplain_c rd _).mono ?_
    rintro e w' ⟨rfl, n0, rfl⟩
    cases h0 : Rb.plainB rd with
    | false =>
      go_wp2
      go_ret
      exact ⟨ret_bool (by simp [h0]), below_drewN (one_b _ _) _⟩
    | true =>
      go_wp2_with fail
      refine (rplain_c rn _).mono ?_
      rintro e w' ⟨rfl, n1, rfl⟩
      cases h1 : Rb.plainB rn with
      | false =>
        go_wp2
        go_ret
        exact ⟨ret_bool (by simp [h1]), below_drewN (one_b _ _) _⟩
      | true =>
        go_wp2_with fail
        refine (rplain_c rm _).mono ?_
        rintro e w' ⟨rfl, n3, rfl⟩
        go_wp2
        go_ret
        exact ⟨ret_bool (by simp [m2, h0, h1]), below_drewN (one_b _ _) _⟩
set_option linter.unusedSimpArgs false in
set_option maxRecDepth 100000 in
set_option maxHeartbeats 1000000 in
theorem rdata_21 (cond rd rn rm imm mode list : Int) (s : Bool) (w : World) : Calls Tryd.prog 30 #[.agg #[.int .i64 21, .int .i64 cond, .int .i64 rd, .int .i64 rn, .int .i64 rm, .int .i64 imm, .int .i64 mode, .int .i64 list, .bool s]] w fun e w' => e = .returned (.bool (Rb.plainB rd && (Rb.plainB rn && ((mode == 2) && Rb.plainB rm)))) ∧ Below w.heap.size w w' := by
  cases m2 : (mode == 2) with
  | false =>
    go_enter Tryd.func30, Tryd.ntmps30
    go_wp2_with fail
    refine (rplain_c rd _).mono ?_
    rintro e w' ⟨rfl, n0, rfl⟩
    cases h0 : Rb.plainB rd with
    | false =>
      go_wp2
      go_ret
      exact ⟨ret_bool (by simp [h0]), below_drewN (one_b _ _) _⟩
    | true =>
      go_wp2_with fail
      refine (rplain_c rn _).mono ?_
      rintro e w' ⟨rfl, n1, rfl⟩
      cases h1 : Rb.plainB rn with
      | false =>
        go_wp2
        go_ret
        exact ⟨ret_bool (by simp [h1]), below_drewN (one_b _ _) _⟩
      | true =>
        go_wp2
        go_ret
        exact ⟨ret_bool (by simp [m2, h0, h1]), below_drewN (one_b _ _) _⟩
  | true =>
    go_enter Tryd.func30, Tryd.ntmps30
    go_wp2_with fail
    refine (rplain_c rd _).mono ?_
    rintro e w' ⟨rfl, n0, rfl⟩
    cases h0 : Rb.plainB rd with
    | false =>
      go_wp2
      go_ret
      exact ⟨ret_bool (by simp [h0]), below_drewN (one_b _ _) _⟩
    | true =>
      go_wp2_with fail
      refine (rplain_c rn _).mono ?_
      rintro e w' ⟨rfl, n1, rfl⟩
      cases h1 : Rb.plainB rn with
      | false =>
        go_wp2
        go_ret
        exact ⟨ret_bool (by simp [h1]), below_drewN (one_b _ _) _⟩
      | true =>
        go_wp2_with fail
        refine (rplain_c rm _).mono ?_
        rintro e w' ⟨rfl, n3, rfl⟩
        go_wp2
        go_ret
        exact ⟨ret_bool (by simp [m2, h0, h1]), below_drewN (one_b _ _) _⟩
set_option linter.unusedSimpArgs false in
set_option maxRecDepth 100000 in
set_option maxHeartbeats 1000000 in
theorem rdata_22 (cond rd rn rm imm mode list : Int) (s : Bool) (w : World) : Calls Tryd.prog 30 #[.agg #[.int .i64 22, .int .i64 cond, .int .i64 rd, .int .i64 rn, .int .i64 rm, .int .i64 imm, .int .i64 mode, .int .i64 list, .bool s]] w fun e w' => e = .returned (.bool (Rb.plainB rd && (Rb.plainB rn && ((mode == 2) && Rb.plainB rm)))) ∧ Below w.heap.size w w' := by
  cases m2 : (mode == 2) with
  | false =>
    go_enter Tryd.func30, Tryd.ntmps30
    go_wp2_with fail
    refine (rplain_c rd _).mono ?_
    rintro e w' ⟨rfl, n0, rfl⟩
    cases h0 : Rb.plainB rd with
    | false =>
      go_wp2
      go_ret
      exact ⟨ret_bool (by simp [h0]), below_drewN (one_b _ _) _⟩
    | true =>
      go_wp2_with fail
      refine (rplain_c rn _).mono ?_
      rintro e w' ⟨rfl, n1, rfl⟩
      cases h1 : Rb.plainB rn with
      | false =>
        go_wp2
        go_ret
        exact ⟨ret_bool (by simp [h1]), below_drewN (one_b _ _) _⟩
      | true =>
        go_wp2
        go_ret
        exact ⟨ret_bool (by simp [m2, h0, h1]), below_drewN (one_b _ _) _⟩
  | true =>
    go_enter Tryd.func30, Tryd.ntmps30
    go_wp2_with fail
    refine (rplain_c rd _).mono ?_
    rintro e w' ⟨rfl, n0, rfl⟩
    cases h0 : Rb.plainB rd with
    | false =>
      go_wp2
      go_ret
      exact ⟨ret_bool (by simp [h0]), below_drewN (one_b _ _) _⟩
    | true =>
      go_wp2_with fail
      refine (rplain_c rn _).mono ?_
      rintro e w' ⟨rfl, n1, rfl⟩
      cases h1 : Rb.plainB rn with
      | false =>
        go_wp2
        go_ret
        exact ⟨ret_bool (by simp [h1]), below_drewN (one_b _ _) _⟩
      | true =>
        go_wp2_with fail
        refine (rplain_c rm _).mono ?_
        rintro e w' ⟨rfl, n3, rfl⟩
        go_wp2
        go_ret
        exact ⟨ret_bool (by simp [m2, h0, h1]), below_drewN (one_b _ _) _⟩
set_option linter.unusedSimpArgs false in
set_option maxRecDepth 100000 in
set_option maxHeartbeats 1000000 in
theorem rdata_23 (cond rd rn rm imm mode list : Int) (s : Bool) (w : World) : Calls Tryd.prog 30 #[.agg #[.int .i64 23, .int .i64 cond, .int .i64 rd, .int .i64 rn, .int .i64 rm, .int .i64 imm, .int .i64 mode, .int .i64 list, .bool s]] w fun e w' => e = .returned (.bool (Rb.plainB rd && ((mode == 1) && Rb.inB imm 0 65535))) ∧ Below w.heap.size w w' := by
  cases m1 : (mode == 1) with
  | false =>
    go_enter Tryd.func30, Tryd.ntmps30
    go_wp2_with fail
    refine (rplain_c rd _).mono ?_
    rintro e w' ⟨rfl, n0, rfl⟩
    cases h0 : Rb.plainB rd with
    | false =>
      go_wp2
      go_ret
      exact ⟨ret_bool (by simp [h0]), below_drewN (one_b _ _) _⟩
    | true =>
      go_wp2
      go_ret
      exact ⟨ret_bool (by simp [m1, h0]), below_drewN (one_b _ _) _⟩
  | true =>
    go_enter Tryd.func30, Tryd.ntmps30
    go_wp2_with fail
    refine (rplain_c rd _).mono ?_
    rintro e w' ⟨rfl, n0, rfl⟩
    cases h0 : Rb.plainB rd with
    | false =>
      go_wp2
      go_ret
      exact ⟨ret_bool (by simp [h0]), below_drewN (one_b _ _) _⟩
    | true =>
      go_wp2_with fail
      refine (rin_c imm 0 65535 _).mono ?_
      rintro e w' ⟨rfl, n2, rfl⟩
      go_wp2
      go_ret
      exact ⟨ret_bool (by simp [m1, h0]), below_drewN (one_b _ _) _⟩
set_option linter.unusedSimpArgs false in
set_option maxRecDepth 100000 in
set_option maxHeartbeats 1000000 in
theorem rdata_24 (cond rd rn rm imm mode list : Int) (s : Bool) (w : World) : Calls Tryd.prog 30 #[.agg #[.int .i64 24, .int .i64 cond, .int .i64 rd, .int .i64 rn, .int .i64 rm, .int .i64 imm, .int .i64 mode, .int .i64 list, .bool s]] w fun e w' => e = .returned (.bool (Rb.plainB rd && ((mode == 1) && Rb.inB imm 0 65535))) ∧ Below w.heap.size w w' := by
  cases m1 : (mode == 1) with
  | false =>
    go_enter Tryd.func30, Tryd.ntmps30
    go_wp2_with fail
    refine (rplain_c rd _).mono ?_
    rintro e w' ⟨rfl, n0, rfl⟩
    cases h0 : Rb.plainB rd with
    | false =>
      go_wp2
      go_ret
      exact ⟨ret_bool (by simp [h0]), below_drewN (one_b _ _) _⟩
    | true =>
      go_wp2
      go_ret
      exact ⟨ret_bool (by simp [m1, h0]), below_drewN (one_b _ _) _⟩
  | true =>
    go_enter Tryd.func30, Tryd.ntmps30
    go_wp2_with fail
    refine (rplain_c rd _).mono ?_
    rintro e w' ⟨rfl, n0, rfl⟩
    cases h0 : Rb.plainB rd with
    | false =>
      go_wp2
      go_ret
      exact ⟨ret_bool (by simp [h0]), below_drewN (one_b _ _) _⟩
    | true =>
      go_wp2_with fail
      refine (rin_c imm 0 65535 _).mono ?_
      rintro e w' ⟨rfl, n2, rfl⟩
      go_wp2
      go_ret
      exact ⟨ret_bool (by simp [m1, h0]), below_drewN (one_b _ _) _⟩
theorem rdata_10 (cond rd rn rm imm mode list : Int) (s : Bool) (w : World) : Calls Tryd.prog 30 #[.agg #[.int .i64 10, .int .i64 cond, .int .i64 rd, .int .i64 rn, .int .i64 rm, .int .i64 imm, .int .i64 mode, .int .i64 list, .bool s]] w fun e w' => e = .returned (.bool (Rb.dataR ⟨10, cond, rd, rn, rm, imm, mode, list, s⟩)) ∧ Below w.heap.size w w' := by
  by_cases hm : mode = 2
  · subst hm
    cases s with
    | false => exact rdata_10s cond rd rn rm imm list w
    | true => exact rdata_10t cond rd rn rm imm list w
  · have h := rdata_10m cond rd rn rm imm mode list s w (by simp [hm])
    rw [show Rb.dataR ⟨10, cond, rd, rn, rm, imm, mode, list, s⟩ = (Rb.plainB rd && Rb.lastR ⟨10, cond, rd, rn, rm, imm, mode, list, s⟩ 0 4294967295) by unfold Rb.dataR; rw [if_neg (by dsimp only; omega), if_neg (fun x => hm x.2.1), if_pos (by dsimp only; omega)]]
    exact h
theorem rdata_c (op cond rd rn rm imm mode list : Int) (s : Bool) (w : World) (h : 1 ≤ op ∧ op ≤ 24) : Calls Tryd.prog 30 #[.agg #[.int .i64 op, .int .i64 cond, .int .i64 rd, .int .i64 rn, .int .i64 rm, .int .i64 imm, .int .i64 mode, .int .i64 list, .bool s]] w fun e w' => e = .returned (.bool (Rb.dataR ⟨op, cond, rd, rn, rm, imm, mode, list, s⟩)) ∧ Below w.heap.size w w' := by
  rcases (by omega : op = 1 ∨ op = 2 ∨ op = 3 ∨ op = 4 ∨ op = 5 ∨ op = 6 ∨ op = 7 ∨ op = 8 ∨ op = 9 ∨ op = 10 ∨ op = 11 ∨ op = 12 ∨ op = 13 ∨ op = 14 ∨ op = 15 ∨ op = 16 ∨ op = 17 ∨ op = 18 ∨ op = 19 ∨ op = 20 ∨ op = 21 ∨ op = 22 ∨ op = 23 ∨ op = 24) with rfl | rfl | rfl | rfl | rfl | rfl | rfl | rfl | rfl | rfl | rfl | rfl | rfl | rfl | rfl | rfl | rfl | rfl | rfl | rfl | rfl | rfl | rfl | rfl
  · exact rdata_1 cond rd rn rm imm mode list s w
  · exact rdata_2 cond rd rn rm imm mode list s w
  · exact rdata_3 cond rd rn rm imm mode list s w
  · exact rdata_4 cond rd rn rm imm mode list s w
  · exact rdata_5 cond rd rn rm imm mode list s w
  · exact rdata_6 cond rd rn rm imm mode list s w
  · exact rdata_7 cond rd rn rm imm mode list s w
  · exact rdata_8 cond rd rn rm imm mode list s w
  · exact rdata_9 cond rd rn rm imm mode list s w
  · exact rdata_10 cond rd rn rm imm mode list s w
  · exact rdata_11 cond rd rn rm imm mode list s w
  · exact rdata_12 cond rd rn rm imm mode list s w
  · exact rdata_13 cond rd rn rm imm mode list s w
  · exact rdata_14 cond rd rn rm imm mode list s w
  · exact rdata_15 cond rd rn rm imm mode list s w
  · exact rdata_16 cond rd rn rm imm mode list s w
  · exact rdata_17 cond rd rn rm imm mode list s w
  · exact rdata_18 cond rd rn rm imm mode list s w
  · exact rdata_19 cond rd rn rm imm mode list s w
  · exact rdata_20 cond rd rn rm imm mode list s w
  · exact rdata_21 cond rd rn rm imm mode list s w
  · exact rdata_22 cond rd rn rm imm mode list s w
  · exact rdata_23 cond rd rn rm imm mode list s w
  · exact rdata_24 cond rd rn rm imm mode list s w
end Go.Proofs.YtcphhojdfpedkaaDoor
