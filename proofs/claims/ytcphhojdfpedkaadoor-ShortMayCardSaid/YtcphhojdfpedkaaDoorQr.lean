/- Contract of the document's own rest (text by gen_qd.py). -/
import Derived.Test.YtcphhojdfpedkaaDoorGj
namespace Go.Proofs.YtcphhojdfpedkaaDoor
open Go.ChangeShapes Go.WideShapes Go.ChangeAt Go.RowKit
theorem bit_zero (l : Int) (k : Nat) : (l / 2 ^ k % 2 == 0) = !Im.bit l k := by
  unfold Im.bit
  generalize l / 2 ^ k = q
  rw [Bool.eq_iff_iff, beq_iff_eq, Bool.not_eq_true', beq_eq_false_iff_ne]
  omega
set_option linter.unusedSimpArgs false in
set_option maxRecDepth 100000 in
set_option maxHeartbeats 1000000 in
theorem rrest_25 (cond rd rn rm imm mode list : Int) (s : Bool) (w : World) (hx : (rn == 13) = false) : Calls Tryd.prog 31 #[.agg #[.int .i64 25, .int .i64 cond, .int .i64 rd, .int .i64 rn, .int .i64 rm, .int .i64 imm, .int .i64 mode, .int .i64 list, .bool s]] w fun e w' => e = .returned (.bool (Rb.plainB rd && ((Rb.plainB rn || rn == 13) && Rb.lastR ⟨25, cond, rd, rn, rm, imm, mode, list, s⟩ 0 4095))) ∧ Below w.heap.size w w' := by
  go_enter Tryd.func31, Tryd.ntmps31
  go_wp2_with fail
  refine (rplain_c rd _).mono ?_
  rintro e w' ⟨rfl, n0, rfl⟩
  cases h0 : Rb.plainB rd with
  | false =>
    go_wp2
    go_ret
    exact ⟨ret_bool (by simp [h0]), below_drewN (one_b _ _) _⟩
  | true =>
    go_wp2_with fail
    refine (rplain_c rn _).mono ?_
    rintro e w' ⟨rfl, n1, rfl⟩
    cases h1 : Rb.plainB rn with
    | false =>
      go_wp2
      go_ret
      exact ⟨ret_bool (by simp [h0, h1, hx]), below_drewN (one_b _ _) _⟩
    | true =>
      go_wp2_with fail
      refine (rlast_c 25 cond rd rn rm imm mode list 0 4095 s _).mono ?_
      rintro e w' ⟨rfl, hb⟩
      go_wp2
      go_ret
      exact ⟨ret_bool (by simp [h0, h1]), (below_drewN (one_b _ _) _).trans (hb.mono (by simp))⟩
set_option linter.unusedSimpArgs false in
set_option maxRecDepth 100000 in
set_option maxHeartbeats 1000000 in
theorem rrest_25s (cond rd rm imm mode list : Int) (s : Bool) (w : World) : Calls Tryd.prog 31 #[.agg #[.int .i64 25, .int .i64 cond, .int .i64 rd, .int .i64 13, .int .i64 rm, .int .i64 imm, .int .i64 mode, .int .i64 list, .bool s]] w fun e w' => e = .returned (.bool (Rb.plainB rd && ((Rb.plainB 13 || 13 == 13) && Rb.lastR ⟨25, cond, rd, 13, rm, imm, mode, list, s⟩ 0 4095))) ∧ Below w.heap.size w w' := by
  go_enter Tryd.func31, Tryd.ntmps31
  go_wp2_with fail
  refine (rplain_c rd _).mono ?_
  rintro e w' ⟨rfl, n0, rfl⟩
  cases h0 : Rb.plainB rd with
  | false =>
    go_wp2
    go_ret
    exact ⟨ret_bool (by simp [h0]), below_drewN (one_b _ _) _⟩
  | true =>
    go_wp2_with fail
    refine (rplain_c 13 _).mono ?_
    rintro e w' ⟨rfl, n1, rfl⟩
    rw [show Rb.plainB 13 = false from rfl]
    go_wp2_with fail
    refine (rlast_c 25 cond rd 13 rm imm mode list 0 4095 s _).mono ?_
    rintro e w' ⟨rfl, hb⟩
    go_wp2
    go_ret
    exact ⟨ret_bool (by simp [h0]), (below_drewN (one_b _ _) _).trans (hb.mono (by simp))⟩
set_option linter.unusedSimpArgs false in
set_option maxRecDepth 100000 in
set_option maxHeartbeats 1000000 in
theorem rrest_26 (cond rd rn rm imm mode list : Int) (s : Bool) (w : World) (hx : (rn == 13) = false) : Calls Tryd.prog 31 #[.agg #[.int .i64 26, .int .i64 cond, .int .i64 rd, .int .i64 rn, .int .i64 rm, .int .i64 imm, .int .i64 mode, .int .i64 list, .bool s]] w fun e w' => e = .returned (.bool (Rb.plainB rd && ((Rb.plainB rn || rn == 13) && Rb.lastR ⟨26, cond, rd, rn, rm, imm, mode, list, s⟩ 0 4095))) ∧ Below w.heap.size w w' := by
  go_enter Tryd.func31, Tryd.ntmps31
  go_wp2_with fail
  refine (rplain_c rd _).mono ?_
  rintro e w' ⟨rfl, n0, rfl⟩
  cases h0 : Rb.plainB rd with
  | false =>
    go_wp2
    go_ret
    exact ⟨ret_bool (by simp [h0]), below_drewN (one_b _ _) _⟩
  | true =>
    go_wp2_with fail
    refine (rplain_c rn _).mono ?_
    rintro e w' ⟨rfl, n1, rfl⟩
    cases h1 : Rb.plainB rn with
    | false =>
      go_wp2
      go_ret
      exact ⟨ret_bool (by simp [h0, h1, hx]), below_drewN (one_b _ _) _⟩
    | true =>
      go_wp2_with fail
      refine (rlast_c 26 cond rd rn rm imm mode list 0 4095 s _).mono ?_
      rintro e w' ⟨rfl, hb⟩
      go_wp2
      go_ret
      exact ⟨ret_bool (by simp [h0, h1]), (below_drewN (one_b _ _) _).trans (hb.mono (by simp))⟩
set_option linter.unusedSimpArgs false in
set_option maxRecDepth 100000 in
set_option maxHeartbeats 1000000 in
theorem rrest_26s (cond rd rm imm mode list : Int) (s : Bool) (w : World) : Calls Tryd.prog 31 #[.agg #[.int .i64 26, .int .i64 cond, .int .i64 rd, .int .i64 13, .int .i64 rm, .int .i64 imm, .int .i64 mode, .int .i64 list, .bool s]] w fun e w' => e = .returned (.bool (Rb.plainB rd && ((Rb.plainB 13 || 13 == 13) && Rb.lastR ⟨26, cond, rd, 13, rm, imm, mode, list, s⟩ 0 4095))) ∧ Below w.heap.size w w' := by
  go_enter Tryd.func31, Tryd.ntmps31
  go_wp2_with fail
  refine (rplain_c rd _).mono ?_
  rintro e w' ⟨rfl, n0, rfl⟩
  cases h0 : Rb.plainB rd with
  | false =>
    go_wp2
    go_ret
    exact ⟨ret_bool (by simp [h0]), below_drewN (one_b _ _) _⟩
  | true =>
    go_wp2_with fail
    refine (rplain_c 13 _).mono ?_
    rintro e w' ⟨rfl, n1, rfl⟩
    rw [show Rb.plainB 13 = false from rfl]
    go_wp2_with fail
    refine (rlast_c 26 cond rd 13 rm imm mode list 0 4095 s _).mono ?_
    rintro e w' ⟨rfl, hb⟩
    go_wp2
    go_ret
    exact ⟨ret_bool (by simp [h0]), (below_drewN (one_b _ _) _).trans (hb.mono (by simp))⟩
set_option linter.unusedSimpArgs false in
set_option maxRecDepth 100000 in
set_option maxHeartbeats 1000000 in
theorem rrest_27 (cond rd rn rm imm mode list : Int) (s : Bool) (w : World) (hx : (rn == 13) = false) : Calls Tryd.prog 31 #[.agg #[.int .i64 27, .int .i64 cond, .int .i64 rd, .int .i64 rn, .int .i64 rm, .int .i64 imm, .int .i64 mode, .int .i64 list, .bool s]] w fun e w' => e = .returned (.bool (Rb.plainB rd && ((Rb.plainB rn || rn == 13) && Rb.lastR ⟨27, cond, rd, rn, rm, imm, mode, list, s⟩ 0 4095))) ∧ Below w.heap.size w w' := by
  go_enter Tryd.func31, Tryd.ntmps31
  go_wp2_with fail
  refine (rplain_c rd _).mono ?_
  rintro e w' ⟨rfl, n0, rfl⟩
  cases h0 : Rb.plainB rd with
  | false =>
    go_wp2
    go_ret
    exact ⟨ret_bool (by simp [h0]), below_drewN (one_b _ _) _⟩
  | true =>
    go_wp2_with fail
    refine (rplain_c rn _).mono ?_
    rintro e w' ⟨rfl, n1, rfl⟩
    cases h1 : Rb.plainB rn with
    | false =>
      go_wp2
      go_ret
      exact ⟨ret_bool (by simp [h0, h1, hx]), below_drewN (one_b _ _) _⟩
    | true =>
      go_wp2_with fail
      refine (rlast_c 27 cond rd rn rm imm mode list 0 4095 s _).mono ?_
      rintro e w' ⟨rfl, hb⟩
      go_wp2
      go_ret
      exact ⟨ret_bool (by simp [h0, h1]), (below_drewN (one_b _ _) _).trans (hb.mono (by simp))⟩
set_option linter.unusedSimpArgs false in
set_option maxRecDepth 100000 in
set_option maxHeartbeats 1000000 in
theorem rrest_27s (cond rd rm imm mode list : Int) (s : Bool) (w : World) : Calls Tryd.prog 31 #[.agg #[.int .i64 27, .int .i64 cond, .int .i64 rd, .int .i64 13, .int .i64 rm, .int .i64 imm, .int .i64 mode, .int .i64 list, .bool s]] w fun e w' => e = .returned (.bool (Rb.plainB rd && ((Rb.plainB 13 || 13 == 13) && Rb.lastR ⟨27, cond, rd, 13, rm, imm, mode, list, s⟩ 0 4095))) ∧ Below w.heap.size w w' := by
  go_enter Tryd.func31, Tryd.ntmps31
  go_wp2_with fail
  refine (rplain_c rd _).mono ?_
  rintro e w' ⟨rfl, n0, rfl⟩
  cases h0 : Rb.plainB rd with
  | false =>
    go_wp2
    go_ret
    exact ⟨ret_bool (by simp [h0]), below_drewN (one_b _ _) _⟩
  | true =>
    go_wp2_with fail
    refine (rplain_c 13 _).mono ?_
    rintro e w' ⟨rfl, n1, rfl⟩
    rw [show Rb.plainB 13 = false from rfl]
    go_wp2_with fail
    refine (rlast_c 27 cond rd 13 rm imm mode list 0 4095 s _).mono ?_
    rintro e w' ⟨rfl, hb⟩
    go_wp2
    go_ret
    exact ⟨ret_bool (by simp [h0]), (below_drewN (one_b _ _) _).trans (hb.mono (by simp))⟩
set_option linter.unusedSimpArgs false in
set_option maxRecDepth 100000 in
set_option maxHeartbeats 1000000 in
theorem rrest_28 (cond rd rn rm imm mode list : Int) (s : Bool) (w : World) (hx : (rn == 13) = false) : Calls Tryd.prog 31 #[.agg #[.int .i64 28, .int .i64 cond, .int .i64 rd, .int .i64 rn, .int .i64 rm, .int .i64 imm, .int .i64 mode, .int .i64 list, .bool s]] w fun e w' => e = .returned (.bool (Rb.plainB rd && ((Rb.plainB rn || rn == 13) && Rb.lastR ⟨28, cond, rd, rn, rm, imm, mode, list, s⟩ 0 4095))) ∧ Below w.heap.size w w' := by
  go_enter Tryd.func31, Tryd.ntmps31
  go_wp2_with fail
  refine (rplain_c rd _).mono ?_
  rintro e w' ⟨rfl, n0, rfl⟩
  cases h0 : Rb.plainB rd with
  | false =>
    go_wp2
    go_ret
    exact ⟨ret_bool (by simp [h0]), below_drewN (one_b _ _) _⟩
  | true =>
    go_wp2_with fail
    refine (rplain_c rn _).mono ?_
    rintro e w' ⟨rfl, n1, rfl⟩
    cases h1 : Rb.plainB rn with
    | false =>
      go_wp2
      go_ret
      exact ⟨ret_bool (by simp [h0, h1, hx]), below_drewN (one_b _ _) _⟩
    | true =>
      go_wp2_with fail
      refine (rlast_c 28 cond rd rn rm imm mode list 0 4095 s _).mono ?_
      rintro e w' ⟨rfl, hb⟩
      go_wp2
      go_ret
      exact ⟨ret_bool (by simp [h0, h1]), (below_drewN (one_b _ _) _).trans (hb.mono (by simp))⟩
set_option linter.unusedSimpArgs false in
set_option maxRecDepth 100000 in
set_option maxHeartbeats 1000000 in
theorem rrest_28s (cond rd rm imm mode list : Int) (s : Bool) (w : World) : Calls Tryd.prog 31 #[.agg #[.int .i64 28, .int .i64 cond, .int .i64 rd, .int .i64 13, .int .i64 rm, .int .i64 imm, .int .i64 mode, .int .i64 list, .bool s]] w fun e w' => e = .returned (.bool (Rb.plainB rd && ((Rb.plainB 13 || 13 == 13) && Rb.lastR ⟨28, cond, rd, 13, rm, imm, mode, list, s⟩ 0 4095))) ∧ Below w.heap.size w w' := by
  go_enter Tryd.func31, Tryd.ntmps31
  go_wp2_with fail
  refine (rplain_c rd _).mono ?_
  rintro e w' ⟨rfl, n0, rfl⟩
  cases h0 : Rb.plainB rd with
  | false =>
    go_wp2
    go_ret
    exact ⟨ret_bool (by simp [h0]), below_drewN (one_b _ _) _⟩
  | true =>
    go_wp2_with fail
    refine (rplain_c 13 _).mono ?_
    rintro e w' ⟨rfl, n1, rfl⟩
    rw [show Rb.plainB 13 = false from rfl]
    go_wp2_with fail
    refine (rlast_c 28 cond rd 13 rm imm mode list 0 4095 s _).mono ?_
    rintro e w' ⟨rfl, hb⟩
    go_wp2
    go_ret
    exact ⟨ret_bool (by simp [h0]), (below_drewN (one_b _ _) _).trans (hb.mono (by simp))⟩
set_option linter.unusedSimpArgs false in
set_option maxRecDepth 100000 in
set_option maxHeartbeats 1000000 in
theorem rrest_29 (cond rd rn rm imm mode list : Int) (s : Bool) (w : World) (hx : (rn == 13) = false) : Calls Tryd.prog 31 #[.agg #[.int .i64 29, .int .i64 cond, .int .i64 rd, .int .i64 rn, .int .i64 rm, .int .i64 imm, .int .i64 mode, .int .i64 list, .bool s]] w fun e w' => e = .returned (.bool (Rb.plainB rd && ((Rb.plainB rn || rn == 13) && Rb.lastR ⟨29, cond, rd, rn, rm, imm, mode, list, s⟩ 0 4095))) ∧ Below w.heap.size w w' := by
  go_enter Tryd.func31, Tryd.ntmps31
  go_wp2_with fail
  refine (rplain_c rd _).mono ?_
  rintro e w' ⟨rfl, n0, rfl⟩
  cases h0 : Rb.plainB rd with
  | false =>
    go_wp2
    go_ret
    exact ⟨ret_bool (by simp [h0]), below_drewN (one_b _ _) _⟩
  | true =>
    go_wp2_with fail
    refine (rplain_c rn _).mono ?_
    rintro e w' ⟨rfl, n1, rfl⟩
    cases h1 : Rb.plainB rn with
    | false =>
      go_wp2
      go_ret
      exact ⟨ret_bool (by simp [h0, h1, hx]), below_drewN (one_b _ _) _⟩
    | true =>
      go_wp2_with fail
      refine (rlast_c 29 cond rd rn rm imm mode list 0 4095 s _).mono ?_
      rintro e w' ⟨rfl, hb⟩
      go_wp2
      go_ret
      exact ⟨ret_bool (by simp [h0, h1]), (below_drewN (one_b _ _) _).trans (hb.mono (by simp))⟩
set_option linter.unusedSimpArgs false in
set_option maxRecDepth 100000 in
set_option maxHeartbeats 1000000 in
theorem rrest_29s (cond rd rm imm mode list : Int) (s : Bool) (w : World) : Calls Tryd.prog 31 #[.agg #[.int .i64 29, .int .i64 cond, .int .i64 rd, .int .i64 13, .int .i64 rm, .int .i64 imm, .int .i64 mode, .int .i64 list, .bool s]] w fun e w' => e = .returned (.bool (Rb.plainB rd && ((Rb.plainB 13 || 13 == 13) && Rb.lastR ⟨29, cond, rd, 13, rm, imm, mode, list, s⟩ 0 4095))) ∧ Below w.heap.size w w' := by
  go_enter Tryd.func31, Tryd.ntmps31
  go_wp2_with fail
  refine (rplain_c rd _).mono ?_
  rintro e w' ⟨rfl, n0, rfl⟩
  cases h0 : Rb.plainB rd with
  | false =>
    go_wp2
    go_ret
    exact ⟨ret_bool (by simp [h0]), below_drewN (one_b _ _) _⟩
  | true =>
    go_wp2_with fail
    refine (rplain_c 13 _).mono ?_
    rintro e w' ⟨rfl, n1, rfl⟩
    rw [show Rb.plainB 13 = false from rfl]
    go_wp2_with fail
    refine (rlast_c 29 cond rd 13 rm imm mode list 0 4095 s _).mono ?_
    rintro e w' ⟨rfl, hb⟩
    go_wp2
    go_ret
    exact ⟨ret_bool (by simp [h0]), (below_drewN (one_b _ _) _).trans (hb.mono (by simp))⟩
set_option linter.unusedSimpArgs false in
set_option maxRecDepth 100000 in
set_option maxHeartbeats 1000000 in
theorem rrest_30 (cond rd rn rm imm mode list : Int) (s : Bool) (w : World) (hx : (rn == 13) = false) : Calls Tryd.prog 31 #[.agg #[.int .i64 30, .int .i64 cond, .int .i64 rd, .int .i64 rn, .int .i64 rm, .int .i64 imm, .int .i64 mode, .int .i64 list, .bool s]] w fun e w' => e = .returned (.bool (Rb.plainB rd && ((Rb.plainB rn || rn == 13) && Rb.lastR ⟨30, cond, rd, rn, rm, imm, mode, list, s⟩ 0 4095))) ∧ Below w.heap.size w w' := by
  go_enter Tryd.func31, Tryd.ntmps31
  go_wp2_with fail
  refine (rplain_c rd _).mono ?_
  rintro e w' ⟨rfl, n0, rfl⟩
  cases h0 : Rb.plainB rd with
  | false =>
    go_wp2
    go_ret
    exact ⟨ret_bool (by simp [h0]), below_drewN (one_b _ _) _⟩
  | true =>
    go_wp2_with fail
    refine (rplain_c rn _).mono ?_
    rintro e w' ⟨rfl, n1, rfl⟩
    cases h1 : Rb.plainB rn with
    | false =>
      go_wp2
      go_ret
      exact ⟨ret_bool (by simp [h0, h1, hx]), below_drewN (one_b _ _) _⟩
    | true =>
      go_wp2_with fail
      refine (rlast_c 30 cond rd rn rm imm mode list 0 4095 s _).mono ?_
      rintro e w' ⟨rfl, hb⟩
      go_wp2
      go_ret
      exact ⟨ret_bool (by simp [h0, h1]), (below_drewN (one_b _ _) _).trans (hb.mono (by simp))⟩
set_option linter.unusedSimpArgs false in
set_option maxRecDepth 100000 in
set_option maxHeartbeats 1000000 in
theorem rrest_30s (cond rd rm imm mode list : Int) (s : Bool) (w : World) : Calls Tryd.prog 31 #[.agg #[.int .i64 30, .int .i64 cond, .int .i64 rd, .int .i64 13, .int .i64 rm, .int .i64 imm, .int .i64 mode, .int .i64 list, .bool s]] w fun e w' => e = .returned (.bool (Rb.plainB rd && ((Rb.plainB 13 || 13 == 13) && Rb.lastR ⟨30, cond, rd, 13, rm, imm, mode, list, s⟩ 0 4095))) ∧ Below w.heap.size w w' := by
  go_enter Tryd.func31, Tryd.ntmps31
  go_wp2_with fail
  refine (rplain_c rd _).mono ?_
  rintro e w' ⟨rfl, n0, rfl⟩
  cases h0 : Rb.plainB rd with
  | false =>
    go_wp2
    go_ret
    exact ⟨ret_bool (by simp [h0]), below_drewN (one_b _ _) _⟩
  | true =>
    go_wp2_with fail
    refine (rplain_c 13 _).mono ?_
    rintro e w' ⟨rfl, n1, rfl⟩
    rw [show Rb.plainB 13 = false from rfl]
    go_wp2_with fail
    refine (rlast_c 30 cond rd 13 rm imm mode list 0 4095 s _).mono ?_
    rintro e w' ⟨rfl, hb⟩
    go_wp2
    go_ret
    exact ⟨ret_bool (by simp [h0]), (below_drewN (one_b _ _) _).trans (hb.mono (by simp))⟩
set_option linter.unusedSimpArgs false in
set_option maxRecDepth 100000 in
set_option maxHeartbeats 1000000 in
theorem rrest_31n (cond rd rn rm imm mode list : Int) (s : Bool) (w : World) (hx : Rb.plainB rn = false) : Calls Tryd.prog 31 #[.agg #[.int .i64 31, .int .i64 cond, .int .i64 rd, .int .i64 rn, .int .i64 rm, .int .i64 imm, .int .i64 mode, .int .i64 list, .bool s]] w fun e w' => e = .returned (.bool false) ∧ Below w.heap.size w w' := by
  go_enter Tryd.func31, Tryd.ntmps31
  go_wp2_with fail
  refine (rplain_c rn _).mono ?_
  rintro e w' ⟨rfl, n0, rfl⟩
  rw [hx]
  go_wp2
  go_ret
  exact ⟨rfl, below_drewN (one_b _ _) _⟩
set_option linter.unusedSimpArgs false in
set_option maxRecDepth 100000 in
set_option maxHeartbeats 1000000 in
theorem rrest_31y (cond rd rm imm mode list : Int) (k : Nat) (s : Bool) (w : World) (hk : k < 16) (hx : Rb.plainB (k : Int) = true) : Calls Tryd.prog 31 #[.agg #[.int .i64 31, .int .i64 cond, .int .i64 rd, .int .i64 (k : Int), .int .i64 rm, .int .i64 imm, .int .i64 mode, .int .i64 list, .bool s]] w fun e w' => e = .returned (.bool (Rb.listR list (-1) && (decide ((2 : Int) ≤ (Rb.popF 16 list.toNat : Int)) && !Im.bit list k))) ∧ Below w.heap.size w w' := by
  have hP := fun W => rplain_c (k : Int) W
  rw [hx] at hP
  clear hx
  have hC : Rb.listR list (-1) = true → ∀ W, Calls Tryd.prog 58 #[.int .i64 list] W fun e w' => e = .returned (.int .i64 (Rb.popF 16 list.toNat : Int)) ∧ ∃ n, w' = W.drewN n := fun h W => by
    unfold Rb.listR at h
    simp only [Bool.and_eq_true, decide_eq_true_eq] at h
    obtain ⟨X, rfl⟩ := Int.eq_ofNat_of_zero_le (show 0 ≤ list by omega)
    exact rcount_c X (by omega) W
  generalize Rb.popF 16 list.toNat = p at hC ⊢
  obtain ⟨b, eb⟩ : ∃ b, Im.bit list k = b := ⟨_, rfl⟩
  have hB : (bits .and .i64 (list / 2 ^ k) 1 == 0) = !b := by rw [Cm.and1, ← eb]; exact bit_zero list k
  rw [eb]
  clear eb
  have HC := Lib.hid hC
  clear hC
  go_enter Tryd.func31, Tryd.ntmps31
  go_wp2_with fail
  refine (hP _).mono ?_
  rintro e w' ⟨rfl, n0, rfl⟩
  go_wp2_with fail
  refine (rlist_c list (-1) _).mono ?_
  rintro e w' ⟨rfl, n1, rfl⟩
  cases h1 : Rb.listR list (-1) with
  | false =>
    go_wp2
    go_ret
    exact ⟨ret_bool (by simp [h1]), below_drewN (one_b _ _) _⟩
  | true =>
    go_wp2_with fail
    refine (HC.out h1 _).mono ?_
    rintro e w' ⟨rfl, n2, rfl⟩
    cases h2 : decide ((2 : Int) ≤ (p : Int)) with
    | false =>
      go_wp2
      go_ret
      exact ⟨ret_bool (by simp [h1, h2]), below_drewN (one_b _ _) _⟩
    | true =>
      go_wp2
      go_ret
      exact ⟨ret_bool (by simp [h1, h2]), below_drewN (one_b _ _) _⟩
set_option linter.unusedSimpArgs false in
set_option maxRecDepth 100000 in
set_option maxHeartbeats 1000000 in
theorem rrest_32n (cond rd rn rm imm mode list : Int) (s : Bool) (w : World) (hx : Rb.plainB rn = false) : Calls Tryd.prog 31 #[.agg #[.int .i64 32, .int .i64 cond, .int .i64 rd, .int .i64 rn, .int .i64 rm, .int .i64 imm, .int .i64 mode, .int .i64 list, .bool s]] w fun e w' => e = .returned (.bool false) ∧ Below w.heap.size w w' := by
  go_enter Tryd.func31, Tryd.ntmps31
  go_wp2_with fail
  refine (rplain_c rn _).mono ?_
  rintro e w' ⟨rfl, n0, rfl⟩
  rw [hx]
  go_wp2
  go_ret
  exact ⟨rfl, below_drewN (one_b _ _) _⟩
set_option linter.unusedSimpArgs false in
set_option maxRecDepth 100000 in
set_option maxHeartbeats 1000000 in
theorem rrest_32y (cond rd rm imm mode list : Int) (k : Nat) (s : Bool) (w : World) (hk : k < 16) (hx : Rb.plainB (k : Int) = true) : Calls Tryd.prog 31 #[.agg #[.int .i64 32, .int .i64 cond, .int .i64 rd, .int .i64 (k : Int), .int .i64 rm, .int .i64 imm, .int .i64 mode, .int .i64 list, .bool s]] w fun e w' => e = .returned (.bool (Rb.listR list (-1) && (decide ((2 : Int) ≤ (Rb.popF 16 list.toNat : Int)) && !Im.bit list k))) ∧ Below w.heap.size w w' := by
  have hP := fun W => rplain_c (k : Int) W
  rw [hx] at hP
  clear hx
  have hC : Rb.listR list (-1) = true → ∀ W, Calls Tryd.prog 58 #[.int .i64 list] W fun e w' => e = .returned (.int .i64 (Rb.popF 16 list.toNat : Int)) ∧ ∃ n, w' = W.drewN n := fun h W => by
    unfold Rb.listR at h
    simp only [Bool.and_eq_true, decide_eq_true_eq] at h
    obtain ⟨X, rfl⟩ := Int.eq_ofNat_of_zero_le (show 0 ≤ list by omega)
    exact rcount_c X (by omega) W
  generalize Rb.popF 16 list.toNat = p at hC ⊢
  obtain ⟨b, eb⟩ : ∃ b, Im.bit list k = b := ⟨_, rfl⟩
  have hB : (bits .and .i64 (list / 2 ^ k) 1 == 0) = !b := by rw [Cm.and1, ← eb]; exact bit_zero list k
  rw [eb]
  clear eb
  have HC := Lib.hid hC
  clear hC
  go_enter Tryd.func31, Tryd.ntmps31
  go_wp2_with fail
  refine (hP _).mono ?_
  rintro e w' ⟨rfl, n0, rfl⟩
  go_wp2_with fail
  refine (rlist_c list (-1) _).mono ?_
  rintro e w' ⟨rfl, n1, rfl⟩
  cases h1 : Rb.listR list (-1) with
  | false =>
    go_wp2
    go_ret
    exact ⟨ret_bool (by simp [h1]), below_drewN (one_b _ _) _⟩
  | true =>
    go_wp2_with fail
    refine (HC.out h1 _).mono ?_
    rintro e w' ⟨rfl, n2, rfl⟩
    cases h2 : decide ((2 : Int) ≤ (p : Int)) with
    | false =>
      go_wp2
      go_ret
      exact ⟨ret_bool (by simp [h1, h2]), below_drewN (one_b _ _) _⟩
    | true =>
      go_wp2
      go_ret
      exact ⟨ret_bool (by simp [h1, h2]), below_drewN (one_b _ _) _⟩
set_option maxRecDepth 100000 in
set_option maxHeartbeats 1000000 in
theorem rrest_42 (cond rd rn rm imm mode list : Int) (s : Bool) (w : World) : Calls Tryd.prog 31 #[.agg #[.int .i64 42, .int .i64 cond, .int .i64 rd, .int .i64 rn, .int .i64 rm, .int .i64 imm, .int .i64 mode, .int .i64 list, .bool s]] w fun e w' => e = .returned (.bool (mode == 1 && !(Cm.condsI cond imm).isEmpty)) ∧ Below w.heap.size w w' := by
  cases hm : (mode == 1) with
  | false =>
    go_enter Tryd.func31, Tryd.ntmps31
    go_wp2
    go_ret
    exact ⟨rfl, one_b _ _⟩
  | true =>
    go_enter Tryd.func31, Tryd.ntmps31
    go_wp2_with fail
    refine (rconds_c cond imm _).mono ?_
    rintro e w' ⟨A, c, rfl, _, hb⟩
    have hbel := (one_b w _).trans (hb.mono (by simp))
    clear hb
    cases hl : Cm.condsI cond imm with
    | nil =>
      go_wp2
      go_ret
      exact ⟨ret_bool (by rw [hl]; rfl), hbel⟩
    | cons x r =>
      have h0 : (0 : Int) < ((x :: r).length : Nat) := by simp
      go_wp2
      go_ret
      exact ⟨ret_bool (by rw [hl]; rfl), hbel⟩
set_option maxRecDepth 100000 in
theorem rrest_43 (cond rd rn rm imm mode list : Int) (s : Bool) (w : World) : Calls Tryd.prog 31 #[.agg #[.int .i64 43, .int .i64 cond, .int .i64 rd, .int .i64 rn, .int .i64 rm, .int .i64 imm, .int .i64 mode, .int .i64 list, .bool s]] w fun e w' => e = .returned (.bool true) ∧ Below w.heap.size w w' := by
  go_enter Tryd.func31, Tryd.ntmps31
  go_wp2
  go_ret
  exact ⟨rfl, one_b _ _⟩
set_option linter.unusedSimpArgs false in
set_option maxRecDepth 100000 in
set_option maxHeartbeats 1000000 in
theorem rrest_33 (cond rd rn rm imm mode list : Int) (s : Bool) (w : World) : Calls Tryd.prog 31 #[.agg #[.int .i64 33, .int .i64 cond, .int .i64 rd, .int .i64 rn, .int .i64 rm, .int .i64 imm, .int .i64 mode, .int .i64 list, .bool s]] w fun e w' => e = .returned (.bool (Rb.listR list (-1))) ∧ Below w.heap.size w w' := by
  go_enter Tryd.func31, Tryd.ntmps31
  go_wp2_with fail
  refine (rlist_c list (-1) _).mono ?_
  rintro e w' ⟨rfl, n0, rfl⟩
  go_wp2
  go_ret
  exact ⟨rfl, below_drewN (one_b _ _) _⟩
set_option linter.unusedSimpArgs false in
set_option maxRecDepth 100000 in
set_option maxHeartbeats 1000000 in
theorem rrest_34 (cond rd rn rm imm mode list : Int) (s : Bool) (w : World) : Calls Tryd.prog 31 #[.agg #[.int .i64 34, .int .i64 cond, .int .i64 rd, .int .i64 rn, .int .i64 rm, .int .i64 imm, .int .i64 mode, .int .i64 list, .bool s]] w fun e w' => e = .returned (.bool (Rb.listR list 15 && !(list / 16384 == 3))) ∧ Below w.heap.size w w' := by
  cases m1 : (list / 16384 == 3) with
  | false =>
    have m1' : (list / 16384 != 3) = true := by simp [bne, m1]
    go_enter Tryd.func31, Tryd.ntmps31
    go_wp2_with fail
    refine (rlist_c list 15 _).mono ?_
    rintro e w' ⟨rfl, n0, rfl⟩
    cases h0 : Rb.listR list 15 with
    | false =>
      go_wp2
      go_ret
      exact ⟨ret_bool (by simp [h0]), below_drewN (one_b _ _) _⟩
    | true =>
      go_wp2
      go_ret
      exact ⟨ret_bool (by simp [m1, h0]), below_drewN (one_b _ _) _⟩
  | true =>
    have m1' : (list / 16384 != 3) = false := by simp [bne, m1]
    go_enter Tryd.func31, Tryd.ntmps31
    go_wp2_with fail
    refine (rlist_c list 15 _).mono ?_
    rintro e w' ⟨rfl, n0, rfl⟩
    cases h0 : Rb.listR list 15 with
    | false =>
      go_wp2
      go_ret
      exact ⟨ret_bool (by simp [h0]), below_drewN (one_b _ _) _⟩
    | true =>
      go_wp2
      go_ret
      exact ⟨ret_bool (by simp [m1, h0]), below_drewN (one_b _ _) _⟩
set_option linter.unusedSimpArgs false in
set_option maxRecDepth 100000 in
set_option maxHeartbeats 1000000 in
theorem rrest_35 (cond rd rn rm imm mode list : Int) (s : Bool) (w : World) : Calls Tryd.prog 31 #[.agg #[.int .i64 35, .int .i64 cond, .int .i64 rd, .int .i64 rn, .int .i64 rm, .int .i64 imm, .int .i64 mode, .int .i64 list, .bool s]] w fun e w' => e = .returned (.bool (Rb.inB cond 0 14 && ((mode == 1) && Rb.branchR imm))) ∧ Below w.heap.size w w' := by
  cases m1 : (mode == 1) with
  | false =>
    go_enter Tryd.func31, Tryd.ntmps31
    go_wp2_with fail
    refine (rin_c cond 0 14 _).mono ?_
    rintro e w' ⟨rfl, n0, rfl⟩
    cases h0 : Rb.inB cond 0 14 with
    | false =>
      go_wp2
      go_ret
      exact ⟨ret_bool (by simp [h0]), below_drewN (one_b _ _) _⟩
    | true =>
      go_wp2
      go_ret
      exact ⟨ret_bool (by simp [m1, h0]), below_drewN (one_b _ _) _⟩
  | true =>
    go_enter Tryd.func31, Tryd.ntmps31
    go_wp2_with fail
    refine (rin_c cond 0 14 _).mono ?_
    rintro e w' ⟨rfl, n0, rfl⟩
    cases h0 : Rb.inB cond 0 14 with
    | false =>
      go_wp2
      go_ret
      exact ⟨ret_bool (by simp [h0]), below_drewN (one_b _ _) _⟩
    | true =>
      go_wp2_with fail
      refine (rbranch_c imm _).mono ?_
      rintro e w' ⟨rfl, n2, rfl⟩
      go_wp2
      go_ret
      exact ⟨ret_bool (by simp [m1, h0]), below_drewN (one_b _ _) _⟩
set_option linter.unusedSimpArgs false in
set_option maxRecDepth 100000 in
set_option maxHeartbeats 1000000 in
theorem rrest_36 (cond rd rn rm imm mode list : Int) (s : Bool) (w : World) : Calls Tryd.prog 31 #[.agg #[.int .i64 36, .int .i64 cond, .int .i64 rd, .int .i64 rn, .int .i64 rm, .int .i64 imm, .int .i64 mode, .int .i64 list, .bool s]] w fun e w' => e = .returned (.bool ((mode == 1) && Rb.branchR imm)) ∧ Below w.heap.size w w' := by
  cases m0 : (mode == 1) with
  | false =>
    go_enter Tryd.func31, Tryd.ntmps31
    go_wp2
    go_ret
    exact ⟨ret_bool (by simp [m0]), one_b _ _⟩
  | true =>
    go_enter Tryd.func31, Tryd.ntmps31
    go_wp2_with fail
    refine (rbranch_c imm _).mono ?_
    rintro e w' ⟨rfl, n1, rfl⟩
    go_wp2
    go_ret
    exact ⟨ret_bool (by simp [m0]), below_drewN (one_b _ _) _⟩
set_option linter.unusedSimpArgs false in
set_option maxRecDepth 100000 in
set_option maxHeartbeats 1000000 in
theorem rrest_37 (cond rd rn rm imm mode list : Int) (s : Bool) (w : World) : Calls Tryd.prog 31 #[.agg #[.int .i64 37, .int .i64 cond, .int .i64 rd, .int .i64 rn, .int .i64 rm, .int .i64 imm, .int .i64 mode, .int .i64 list, .bool s]] w fun e w' => e = .returned (.bool (Rb.inB rn 0 7 && ((mode == 1) && ((Int.tmod imm 2 == 0) && Rb.inB imm 0 126)))) ∧ Below w.heap.size w w' := by
  cases m1 : (mode == 1) with
  | false =>
    cases m2 : (Int.tmod imm 2 == 0) with
    | false =>
      go_enter Tryd.func31, Tryd.ntmps31
      go_wp2_with fail
      refine (rlow_c rn _).mono ?_
      rintro e w' ⟨rfl, n0, rfl⟩
      cases h0 : Rb.inB rn 0 7 with
      | false =>
        go_wp2
        go_ret
        exact ⟨ret_bool (by simp [h0]), below_drewN (one_b _ _) _⟩
      | true =>
        go_wp2
        go_ret
        exact ⟨ret_bool (by simp [m1, m2, h0]), below_drewN (one_b _ _) _⟩
    | true =>
      go_enter Tryd.func31, Tryd.ntmps31
      go_wp2_with fail
      refine (rlow_c rn _).mono ?_
      rintro e w' ⟨rfl, n0, rfl⟩
      cases h0 : Rb.inB rn 0 7 with
      | false =>
        go_wp2
        go_ret
        exact ⟨ret_bool (by simp [h0]), below_drewN (one_b _ _) _⟩
      | true =>
        go_wp2
        go_ret
        exact ⟨ret_bool (by simp [m1, m2, h0]), below_drewN (one_b _ _) _⟩
  | true =>
    cases m2 : (Int.tmod imm 2 == 0) with
    | false =>
      go_enter Tryd.func31, Tryd.ntmps31
      go_wp2_with fail
      refine (rlow_c rn _).mono ?_
      rintro e w' ⟨rfl, n0, rfl⟩
      cases h0 : Rb.inB rn 0 7 with
      | false =>
        go_wp2
        go_ret
        exact ⟨ret_bool (by simp [h0]), below_drewN (one_b _ _) _⟩
      | true =>
        go_wp2
        go_ret
        exact ⟨ret_bool (by simp [m1, m2, h0]), below_drewN (one_b _ _) _⟩
    | true =>
      go_enter Tryd.func31, Tryd.ntmps31
      go_wp2_with fail
      refine (rlow_c rn _).mono ?_
      rintro e w' ⟨rfl, n0, rfl⟩
      cases h0 : Rb.inB rn 0 7 with
      | false =>
        go_wp2
        go_ret
        exact ⟨ret_bool (by simp [h0]), below_drewN (one_b _ _) _⟩
      | true =>
        go_wp2_with fail
        refine (rin_c imm 0 126 _).mono ?_
        rintro e w' ⟨rfl, n3, rfl⟩
        go_wp2
        go_ret
        exact ⟨ret_bool (by simp [m1, m2, h0]), below_drewN (one_b _ _) _⟩
set_option linter.unusedSimpArgs false in
set_option maxRecDepth 100000 in
set_option maxHeartbeats 1000000 in
theorem rrest_38 (cond rd rn rm imm mode list : Int) (s : Bool) (w : World) : Calls Tryd.prog 31 #[.agg #[.int .i64 38, .int .i64 cond, .int .i64 rd, .int .i64 rn, .int .i64 rm, .int .i64 imm, .int .i64 mode, .int .i64 list, .bool s]] w fun e w' => e = .returned (.bool (Rb.inB rn 0 7 && ((mode == 1) && ((Int.tmod imm 2 == 0) && Rb.inB imm 0 126)))) ∧ Below w.heap.size w w' := by
  cases m1 : (mode == 1) with
  | false =>
    cases m2 : (Int.tmod imm 2 == 0) with
    | false =>
      go_enter Tryd.func31, Tryd.ntmps31
      go_wp2_with fail
      refine (rlow_c rn _).mono ?_
      rintro e w' ⟨rfl, n0, rfl⟩
      cases h0 : Rb.inB rn 0 7 with
      | false =>
        go_wp2
        go_ret
        exact ⟨ret_bool (by simp [h0]), below_drewN (one_b _ _) _⟩
      | true =>
        go_wp2
        go_ret
        exact ⟨ret_bool (by simp [m1, m2, h0]), below_drewN (one_b _ _) _⟩
    | true =>
      go_enter Tryd.func31, Tryd.ntmps31
      go_wp2_with fail
      refine (rlow_c rn _).mono ?_
      rintro e w' ⟨rfl, n0, rfl⟩
      cases h0 : Rb.inB rn 0 7 with
      | false =>
        go_wp2
        go_ret
        exact ⟨ret_bool (by simp [h0]), below_drewN (one_b _ _) _⟩
      | true =>
        go_wp2
        go_ret
        exact ⟨ret_bool (by simp [m1, m2, h0]), below_drewN (one_b _ _) _⟩
  | true =>
    cases m2 : (Int.tmod imm 2 == 0) with
    | false =>
      go_enter Tryd.func31, Tryd.ntmps31
      go_wp2_with fail
      refine (rlow_c rn _).mono ?_
      rintro e w' ⟨rfl, n0, rfl⟩
      cases h0 : Rb.inB rn 0 7 with
      | false =>
        go_wp2
        go_ret
        exact ⟨ret_bool (by simp [h0]), below_drewN (one_b _ _) _⟩
      | true =>
        go_wp2
        go_ret
        exact ⟨ret_bool (by simp [m1, m2, h0]), below_drewN (one_b _ _) _⟩
    | true =>
      go_enter Tryd.func31, Tryd.ntmps31
      go_wp2_with fail
      refine (rlow_c rn _).mono ?_
      rintro e w' ⟨rfl, n0, rfl⟩
      cases h0 : Rb.inB rn 0 7 with
      | false =>
        go_wp2
        go_ret
        exact ⟨ret_bool (by simp [h0]), below_drewN (one_b _ _) _⟩
      | true =>
        go_wp2_with fail
        refine (rin_c imm 0 126 _).mono ?_
        rintro e w' ⟨rfl, n3, rfl⟩
        go_wp2
        go_ret
        exact ⟨ret_bool (by simp [m1, m2, h0]), below_drewN (one_b _ _) _⟩
set_option linter.unusedSimpArgs false in
set_option maxRecDepth 100000 in
set_option maxHeartbeats 1000000 in
theorem rrest_39 (cond rd rn rm imm mode list : Int) (s : Bool) (w : World) : Calls Tryd.prog 31 #[.agg #[.int .i64 39, .int .i64 cond, .int .i64 rd, .int .i64 rn, .int .i64 rm, .int .i64 imm, .int .i64 mode, .int .i64 list, .bool s]] w fun e w' => e = .returned (.bool ((mode == 2) && Rb.inB rm 0 14)) ∧ Below w.heap.size w w' := by
  cases m0 : (mode == 2) with
  | false =>
    go_enter Tryd.func31, Tryd.ntmps31
    go_wp2
    go_ret
    exact ⟨ret_bool (by simp [m0]), one_b _ _⟩
  | true =>
    go_enter Tryd.func31, Tryd.ntmps31
    go_wp2_with fail
    refine (rin_c rm 0 14 _).mono ?_
    rintro e w' ⟨rfl, n1, rfl⟩
    go_wp2
    go_ret
    exact ⟨ret_bool (by simp [m0]), below_drewN (one_b _ _) _⟩
set_option linter.unusedSimpArgs false in
set_option maxRecDepth 100000 in
set_option maxHeartbeats 1000000 in
theorem rrest_40 (cond rd rn rm imm mode list : Int) (s : Bool) (w : World) : Calls Tryd.prog 31 #[.agg #[.int .i64 40, .int .i64 cond, .int .i64 rd, .int .i64 rn, .int .i64 rm, .int .i64 imm, .int .i64 mode, .int .i64 list, .bool s]] w fun e w' => e = .returned (.bool (Rb.plainB rd && ((mode == 1) && Rb.inB imm (-4095) 4095))) ∧ Below w.heap.size w w' := by
  cases m1 : (mode == 1) with
  | false =>
    go_enter Tryd.func31, Tryd.ntmps31
    go_wp2_with fail
    refine (rplain_c rd _).mono ?_
    rintro e w' ⟨rfl, n0, rfl⟩
    cases h0 : Rb.plainB rd with
    | false =>
      go_wp2
      go_ret
      exact ⟨ret_bool (by simp [h0]), below_drewN (one_b _ _) _⟩
    | true =>
      go_wp2
      go_ret
      exact ⟨ret_bool (by simp [m1, h0]), below_drewN (one_b _ _) _⟩
  | true =>
    go_enter Tryd.func31, Tryd.ntmps31
    go_wp2_with fail
    refine (rplain_c rd _).mono ?_
    rintro e w' ⟨rfl, n0, rfl⟩
    cases h0 : Rb.plainB rd with
    | false =>
      go_wp2
      go_ret
      exact ⟨ret_bool (by simp [h0]), below_drewN (one_b _ _) _⟩
    | true =>
      go_wp2_with fail
      refine (rin_c imm (-4095) 4095 _).mono ?_
      rintro e w' ⟨rfl, n2, rfl⟩
      go_wp2
      go_ret
      exact ⟨ret_bool (by simp [m1, h0]), below_drewN (one_b _ _) _⟩
set_option linter.unusedSimpArgs false in
set_option maxRecDepth 100000 in
set_option maxHeartbeats 1000000 in
theorem rrest_41 (cond rd rn rm imm mode list : Int) (s : Bool) (w : World) : Calls Tryd.prog 31 #[.agg #[.int .i64 41, .int .i64 cond, .int .i64 rd, .int .i64 rn, .int .i64 rm, .int .i64 imm, .int .i64 mode, .int .i64 list, .bool s]] w fun e w' => e = .returned (.bool (Rb.plainB rd && ((mode == 1) && Rb.inB imm (-4095) 4095))) ∧ Below w.heap.size w w' := by
  cases m1 : (mode == 1) with
  | false =>
    go_enter Tryd.func31, Tryd.ntmps31
    go_wp2_with fail
    refine (rplain_c rd _).mono ?_
    rintro e w' ⟨rfl, n0, rfl⟩
    cases h0 : Rb.plainB rd with
    | false =>
      go_wp2
      go_ret
      exact ⟨ret_bool (by simp [h0]), below_drewN (one_b _ _) _⟩
    | true =>
      go_wp2
      go_ret
      exact ⟨ret_bool (by simp [m1, h0]), below_drewN (one_b _ _) _⟩
  | true =>
    go_enter Tryd.func31, Tryd.ntmps31
    go_wp2_with fail
    refine (rplain_c rd _).mono ?_
    rintro e w' ⟨rfl, n0, rfl⟩
    cases h0 : Rb.plainB rd with
    | false =>
      go_wp2
      go_ret
      exact ⟨ret_bool (by simp [h0]), below_drewN (one_b _ _) _⟩
    | true =>
      go_wp2_with fail
      refine (rin_c imm (-4095) 4095 _).mono ?_
      rintro e w' ⟨rfl, n2, rfl⟩
      go_wp2
      go_ret
      exact ⟨ret_bool (by simp [m1, h0]), below_drewN (one_b _ _) _⟩
set_option linter.unusedSimpArgs false in
set_option maxRecDepth 100000 in
set_option maxHeartbeats 1000000 in
theorem rrest_44 (cond rd rn rm imm mode list : Int) (s : Bool) (w : World) : Calls Tryd.prog 31 #[.agg #[.int .i64 44, .int .i64 cond, .int .i64 rd, .int .i64 rn, .int .i64 rm, .int .i64 imm, .int .i64 mode, .int .i64 list, .bool s]] w fun e w' => e = .returned (.bool ((mode == 1) && Rb.inB imm 0 255)) ∧ Below w.heap.size w w' := by
  cases m0 : (mode == 1) with
  | false =>
    go_enter Tryd.func31, Tryd.ntmps31
    go_wp2
    go_ret
    exact ⟨ret_bool (by simp [m0]), one_b _ _⟩
  | true =>
    go_enter Tryd.func31, Tryd.ntmps31
    go_wp2_with fail
    refine (rin_c imm 0 255 _).mono ?_
    rintro e w' ⟨rfl, n1, rfl⟩
    go_wp2
    go_ret
    exact ⟨ret_bool (by simp [m0]), below_drewN (one_b _ _) _⟩
set_option linter.unusedSimpArgs false in
set_option maxRecDepth 100000 in
set_option maxHeartbeats 1000000 in
theorem rrest_45 (cond rd rn rm imm mode list : Int) (s : Bool) (w : World) : Calls Tryd.prog 31 #[.agg #[.int .i64 45, .int .i64 cond, .int .i64 rd, .int .i64 rn, .int .i64 rm, .int .i64 imm, .int .i64 mode, .int .i64 list, .bool s]] w fun e w' => e = .returned (.bool (Rb.plainB rn && ((mode == 2) && Rb.plainB rm))) ∧ Below w.heap.size w w' := by
  cases m1 : (mode == 2) with
  | false =>
    go_enter Tryd.func31, Tryd.ntmps31
    go_wp2_with fail
    refine (rplain_c rn _).mono ?_
    rintro e w' ⟨rfl, n0, rfl⟩
    cases h0 : Rb.plainB rn with
    | false =>
      go_wp2
      go_ret
      exact ⟨ret_bool (by simp [h0]), below_drewN (one_b _ _) _⟩
    | true =>
      go_wp2
      go_ret
      exact ⟨ret_bool (by simp [m1, h0]), below_drewN (one_b _ _) _⟩
  | true =>
    go_enter Tryd.func31, Tryd.ntmps31
    go_wp2_with fail
    refine (rplain_c rn _).mono ?_
    rintro e w' ⟨rfl, n0, rfl⟩
    cases h0 : Rb.plainB rn with
    | false =>
      go_wp2
      go_ret
      exact ⟨ret_bool (by simp [h0]), below_drewN (one_b _ _) _⟩
    | true =>
      go_wp2_with fail
      refine (rplain_c rm _).mono ?_
      rintro e w' ⟨rfl, n2, rfl⟩
      go_wp2
      go_ret
      exact ⟨ret_bool (by simp [m1, h0]), below_drewN (one_b _ _) _⟩
theorem rrest_c (op cond rd rn rm imm mode list : Int) (s : Bool) (w : World) (h : 25 ≤ op ∧ op ≤ 45) : Calls Tryd.prog 31 #[.agg #[.int .i64 op, .int .i64 cond, .int .i64 rd, .int .i64 rn, .int .i64 rm, .int .i64 imm, .int .i64 mode, .int .i64 list, .bool s]] w fun e w' => e = .returned (.bool (Rb.restR ⟨op, cond, rd, rn, rm, imm, mode, list, s⟩)) ∧ Below w.heap.size w w' := by
  rcases (by omega : op = 25 ∨ op = 26 ∨ op = 27 ∨ op = 28 ∨ op = 29 ∨ op = 30 ∨ op = 31 ∨ op = 32 ∨ op = 33 ∨ op = 34 ∨ op = 35 ∨ op = 36 ∨ op = 37 ∨ op = 38 ∨ op = 39 ∨ op = 40 ∨ op = 41 ∨ op = 42 ∨ op = 43 ∨ op = 44 ∨ op = 45) with rfl | rfl | rfl | rfl | rfl | rfl | rfl | rfl | rfl | rfl | rfl | rfl | rfl | rfl | rfl | rfl | rfl | rfl | rfl | rfl | rfl
  · by_cases h13 : rn = 13
    · subst h13; exact rrest_25s cond rd rm imm mode list s w
    · exact rrest_25 cond rd rn rm imm mode list s w (by simp [h13])
  · by_cases h13 : rn = 13
    · subst h13; exact rrest_26s cond rd rm imm mode list s w
    · exact rrest_26 cond rd rn rm imm mode list s w (by simp [h13])
  · by_cases h13 : rn = 13
    · subst h13; exact rrest_27s cond rd rm imm mode list s w
    · exact rrest_27 cond rd rn rm imm mode list s w (by simp [h13])
  · by_cases h13 : rn = 13
    · subst h13; exact rrest_28s cond rd rm imm mode list s w
    · exact rrest_28 cond rd rn rm imm mode list s w (by simp [h13])
  · by_cases h13 : rn = 13
    · subst h13; exact rrest_29s cond rd rm imm mode list s w
    · exact rrest_29 cond rd rn rm imm mode list s w (by simp [h13])
  · by_cases h13 : rn = 13
    · subst h13; exact rrest_30s cond rd rm imm mode list s w
    · exact rrest_30 cond rd rn rm imm mode list s w (by simp [h13])
  · cases hx : Rb.plainB rn with
    | false =>
      rw [show Rb.restR ⟨31, cond, rd, rn, rm, imm, mode, list, s⟩ = false by unfold Rb.restR; rw [if_pos (by dsimp only; omega), hx]; rfl]
      exact rrest_31n cond rd rn rm imm mode list s w hx
    | true =>
      have hb := Nm.one_in (set := 24575) ((Rb.one_plain rn).trans hx) (by decide)
      obtain ⟨k, rfl⟩ := Int.eq_ofNat_of_zero_le hb.1
      rw [show Rb.restR ⟨31, cond, rd, (k : Int), rm, imm, mode, list, s⟩ = (Rb.listR list (-1) && (decide ((2 : Int) ≤ (Rb.popF 16 list.toNat : Int)) && !Im.bit list k)) by unfold Rb.restR; rw [if_pos (by dsimp only; omega), hx]; rfl]
      exact rrest_31y cond rd rm imm mode list k s w (by omega) hx
  · cases hx : Rb.plainB rn with
    | false =>
      rw [show Rb.restR ⟨32, cond, rd, rn, rm, imm, mode, list, s⟩ = false by unfold Rb.restR; rw [if_pos (by dsimp only; omega), hx]; rfl]
      exact rrest_32n cond rd rn rm imm mode list s w hx
    | true =>
      have hb := Nm.one_in (set := 24575) ((Rb.one_plain rn).trans hx) (by decide)
      obtain ⟨k, rfl⟩ := Int.eq_ofNat_of_zero_le hb.1
      rw [show Rb.restR ⟨32, cond, rd, (k : Int), rm, imm, mode, list, s⟩ = (Rb.listR list (-1) && (decide ((2 : Int) ≤ (Rb.popF 16 list.toNat : Int)) && !Im.bit list k)) by unfold Rb.restR; rw [if_pos (by dsimp only; omega), hx]; rfl]
      exact rrest_32y cond rd rm imm mode list k s w (by omega) hx
  · exact rrest_33 cond rd rn rm imm mode list s w
  · exact rrest_34 cond rd rn rm imm mode list s w
  · exact rrest_35 cond rd rn rm imm mode list s w
  · exact rrest_36 cond rd rn rm imm mode list s w
  · exact rrest_37 cond rd rn rm imm mode list s w
  · exact rrest_38 cond rd rn rm imm mode list s w
  · exact rrest_39 cond rd rn rm imm mode list s w
  · exact rrest_40 cond rd rn rm imm mode list s w
  · exact rrest_41 cond rd rn rm imm mode list s w
  · exact rrest_42 cond rd rn rm imm mode list s w
  · exact rrest_43 cond rd rn rm imm mode list s w
  · exact rrest_44 cond rd rn rm imm mode list s w
  · exact rrest_45 cond rd rn rm imm mode list s w
end Go.Proofs.YtcphhojdfpedkaaDoor
