/- The document reads a halfword from 20480 to 40959. No conditions but those that each fact names (text by gen_d.py). -/
import Derived.Test.YtcphhojdfpedkaaDoorGm
namespace Go.Proofs.YtcphhojdfpedkaaDoor
open Go.ChangeShapes Go.WideShapes Go.ChangeAt Go.RowKit
namespace Rd
theorem load_20480 (h : Int) (h0 : 20480 ≤ h) (h1 : h < 20992) (w : World) : Calls Tryd.prog 47 #[.int .i64 h] w fun e w' => e = .returned (.agg #[.int .i64 28, .int .i64 0, .int .i64 (h % 8), .int .i64 (h / 8 % 8), .int .i64 (h / 64 % 8), .int .i64 0, .int .i64 2, .int .i64 0, .bool false]) ∧ Below w.heap.size w w' := by
  have A1 : ∀ x : Int, bits .and .i64 x 1 = x % 2 := Cm.and1
  have A7 : ∀ x : Int, bits .and .i64 x 7 = x % 8 := Cm.and7
  have A31 : ∀ x : Int, bits .and .i64 x 31 = x % 32 := Cm.and31
  have A255 : ∀ x : Int, bits .and .i64 x 255 = x % 256 := Cm.and255
  have e4096 : h / 4096 = 5 := by omega
  have e512m : h / 512 % 8 = 0 := by omega
  have e2048m : h / 2048 % 2 = 0 := by omega
  have e2048 : h / 2048 = 10 := by omega
  go_enter Tryd.func47, Tryd.ntmps47
  go_wp2_with (first
    | (go_at_call 46; refine (imm_c _ _ _ _ _).mono ?_; rintro e w' ⟨rfl, rfl⟩)
    | (go_at_call 72; refine (reg_c _ _ _ _ _).mono ?_; rintro e w' ⟨rfl, rfl⟩)
    | (go_at_call 71; refine (with_c _ _ _ _ _ _ _ _ _ _ _).mono ?_; rintro e w' ⟨rfl, rfl⟩))
  refine bodyPost_ret (v := .agg #[.int .i64 28, .int .i64 0, .int .i64 (h % 8), .int .i64 (h / 8 % 8), .int .i64 (h / 64 % 8), .int .i64 0, .int .i64 2, .int .i64 0, .bool false]) (by simp [results, Tryd.f47, go_sem]) rfl ⟨rfl, ?_⟩
  first | exact below_1 _ _ | exact below_2 _ _ _ | exact below_3 _ _ _ _ | exact below_4 _ _ _ _ _ | exact below_5 _ _ _ _ _ _ | exact below_d (below_1 _ _) | exact below_d (below_2 _ _ _) | exact below_d (below_3 _ _ _ _)
theorem load_20992 (h : Int) (h0 : 20992 ≤ h) (h1 : h < 21504) (w : World) : Calls Tryd.prog 47 #[.int .i64 h] w fun e w' => e = .returned (.agg #[.int .i64 30, .int .i64 0, .int .i64 (h % 8), .int .i64 (h / 8 % 8), .int .i64 (h / 64 % 8), .int .i64 0, .int .i64 2, .int .i64 0, .bool false]) ∧ Below w.heap.size w w' := by
  have A1 : ∀ x : Int, bits .and .i64 x 1 = x % 2 := Cm.and1
  have A7 : ∀ x : Int, bits .and .i64 x 7 = x % 8 := Cm.and7
  have A31 : ∀ x : Int, bits .and .i64 x 31 = x % 32 := Cm.and31
  have A255 : ∀ x : Int, bits .and .i64 x 255 = x % 256 := Cm.and255
  have e4096 : h / 4096 = 5 := by omega
  have e512m : h / 512 % 8 = 1 := by omega
  have e2048m : h / 2048 % 2 = 0 := by omega
  have e2048 : h / 2048 = 10 := by omega
  go_enter Tryd.func47, Tryd.ntmps47
  go_wp2_with (first
    | (go_at_call 46; refine (imm_c _ _ _ _ _).mono ?_; rintro e w' ⟨rfl, rfl⟩)
    | (go_at_call 72; refine (reg_c _ _ _ _ _).mono ?_; rintro e w' ⟨rfl, rfl⟩)
    | (go_at_call 71; refine (with_c _ _ _ _ _ _ _ _ _ _ _).mono ?_; rintro e w' ⟨rfl, rfl⟩))
  refine bodyPost_ret (v := .agg #[.int .i64 30, .int .i64 0, .int .i64 (h % 8), .int .i64 (h / 8 % 8), .int .i64 (h / 64 % 8), .int .i64 0, .int .i64 2, .int .i64 0, .bool false]) (by simp [results, Tryd.f47, go_sem]) rfl ⟨rfl, ?_⟩
  first | exact below_1 _ _ | exact below_2 _ _ _ | exact below_3 _ _ _ _ | exact below_4 _ _ _ _ _ | exact below_5 _ _ _ _ _ _ | exact below_d (below_1 _ _) | exact below_d (below_2 _ _ _) | exact below_d (below_3 _ _ _ _)
theorem load_21504 (h : Int) (h0 : 21504 ≤ h) (h1 : h < 22016) (w : World) : Calls Tryd.prog 47 #[.int .i64 h] w fun e w' => e = .returned (.agg #[.int .i64 29, .int .i64 0, .int .i64 (h % 8), .int .i64 (h / 8 % 8), .int .i64 (h / 64 % 8), .int .i64 0, .int .i64 2, .int .i64 0, .bool false]) ∧ Below w.heap.size w w' := by
  have A1 : ∀ x : Int, bits .and .i64 x 1 = x % 2 := Cm.and1
  have A7 : ∀ x : Int, bits .and .i64 x 7 = x % 8 := Cm.and7
  have A31 : ∀ x : Int, bits .and .i64 x 31 = x % 32 := Cm.and31
  have A255 : ∀ x : Int, bits .and .i64 x 255 = x % 256 := Cm.and255
  have e4096 : h / 4096 = 5 := by omega
  have e512m : h / 512 % 8 = 2 := by omega
  have e2048m : h / 2048 % 2 = 0 := by omega
  have e2048 : h / 2048 = 10 := by omega
  go_enter Tryd.func47, Tryd.ntmps47
  go_wp2_with (first
    | (go_at_call 46; refine (imm_c _ _ _ _ _).mono ?_; rintro e w' ⟨rfl, rfl⟩)
    | (go_at_call 72; refine (reg_c _ _ _ _ _).mono ?_; rintro e w' ⟨rfl, rfl⟩)
    | (go_at_call 71; refine (with_c _ _ _ _ _ _ _ _ _ _ _).mono ?_; rintro e w' ⟨rfl, rfl⟩))
  refine bodyPost_ret (v := .agg #[.int .i64 29, .int .i64 0, .int .i64 (h % 8), .int .i64 (h / 8 % 8), .int .i64 (h / 64 % 8), .int .i64 0, .int .i64 2, .int .i64 0, .bool false]) (by simp [results, Tryd.f47, go_sem]) rfl ⟨rfl, ?_⟩
  first | exact below_1 _ _ | exact below_2 _ _ _ | exact below_3 _ _ _ _ | exact below_4 _ _ _ _ _ | exact below_5 _ _ _ _ _ _ | exact below_d (below_1 _ _) | exact below_d (below_2 _ _ _) | exact below_d (below_3 _ _ _ _)
theorem load_22016 (h : Int) (h0 : 22016 ≤ h) (h1 : h < 22528) (w : World) : Calls Tryd.prog 47 #[.int .i64 h] w fun e w' => e = .returned (.agg #[.int .i64 0, .int .i64 0, .int .i64 (h % 8), .int .i64 (h / 8 % 8), .int .i64 (h / 64 % 8), .int .i64 0, .int .i64 2, .int .i64 0, .bool false]) ∧ Below w.heap.size w w' := by
  have A1 : ∀ x : Int, bits .and .i64 x 1 = x % 2 := Cm.and1
  have A7 : ∀ x : Int, bits .and .i64 x 7 = x % 8 := Cm.and7
  have A31 : ∀ x : Int, bits .and .i64 x 31 = x % 32 := Cm.and31
  have A255 : ∀ x : Int, bits .and .i64 x 255 = x % 256 := Cm.and255
  have e4096 : h / 4096 = 5 := by omega
  have e512m : h / 512 % 8 = 3 := by omega
  have e2048m : h / 2048 % 2 = 0 := by omega
  have e2048 : h / 2048 = 10 := by omega
  go_enter Tryd.func47, Tryd.ntmps47
  go_wp2_with (first
    | (go_at_call 46; refine (imm_c _ _ _ _ _).mono ?_; rintro e w' ⟨rfl, rfl⟩)
    | (go_at_call 72; refine (reg_c _ _ _ _ _).mono ?_; rintro e w' ⟨rfl, rfl⟩)
    | (go_at_call 71; refine (with_c _ _ _ _ _ _ _ _ _ _ _).mono ?_; rintro e w' ⟨rfl, rfl⟩))
  refine bodyPost_ret (v := .agg #[.int .i64 0, .int .i64 0, .int .i64 (h % 8), .int .i64 (h / 8 % 8), .int .i64 (h / 64 % 8), .int .i64 0, .int .i64 2, .int .i64 0, .bool false]) (by simp [results, Tryd.f47, go_sem]) rfl ⟨rfl, ?_⟩
  first | exact below_1 _ _ | exact below_2 _ _ _ | exact below_3 _ _ _ _ | exact below_4 _ _ _ _ _ | exact below_5 _ _ _ _ _ _ | exact below_d (below_1 _ _) | exact below_d (below_2 _ _ _) | exact below_d (below_3 _ _ _ _)
theorem load_22528 (h : Int) (h0 : 22528 ≤ h) (h1 : h < 23040) (w : World) : Calls Tryd.prog 47 #[.int .i64 h] w fun e w' => e = .returned (.agg #[.int .i64 25, .int .i64 0, .int .i64 (h % 8), .int .i64 (h / 8 % 8), .int .i64 (h / 64 % 8), .int .i64 0, .int .i64 2, .int .i64 0, .bool false]) ∧ Below w.heap.size w w' := by
  have A1 : ∀ x : Int, bits .and .i64 x 1 = x % 2 := Cm.and1
  have A7 : ∀ x : Int, bits .and .i64 x 7 = x % 8 := Cm.and7
  have A31 : ∀ x : Int, bits .and .i64 x 31 = x % 32 := Cm.and31
  have A255 : ∀ x : Int, bits .and .i64 x 255 = x % 256 := Cm.and255
  have e4096 : h / 4096 = 5 := by omega
  have e512m : h / 512 % 8 = 4 := by omega
  have e2048m : h / 2048 % 2 = 1 := by omega
  have e2048 : h / 2048 = 11 := by omega
  go_enter Tryd.func47, Tryd.ntmps47
  go_wp2_with (first
    | (go_at_call 46; refine (imm_c _ _ _ _ _).mono ?_; rintro e w' ⟨rfl, rfl⟩)
    | (go_at_call 72; refine (reg_c _ _ _ _ _).mono ?_; rintro e w' ⟨rfl, rfl⟩)
    | (go_at_call 71; refine (with_c _ _ _ _ _ _ _ _ _ _ _).mono ?_; rintro e w' ⟨rfl, rfl⟩))
  refine bodyPost_ret (v := .agg #[.int .i64 25, .int .i64 0, .int .i64 (h % 8), .int .i64 (h / 8 % 8), .int .i64 (h / 64 % 8), .int .i64 0, .int .i64 2, .int .i64 0, .bool false]) (by simp [results, Tryd.f47, go_sem]) rfl ⟨rfl, ?_⟩
  first | exact below_1 _ _ | exact below_2 _ _ _ | exact below_3 _ _ _ _ | exact below_4 _ _ _ _ _ | exact below_5 _ _ _ _ _ _ | exact below_d (below_1 _ _) | exact below_d (below_2 _ _ _) | exact below_d (below_3 _ _ _ _)
theorem load_23040 (h : Int) (h0 : 23040 ≤ h) (h1 : h < 23552) (w : World) : Calls Tryd.prog 47 #[.int .i64 h] w fun e w' => e = .returned (.agg #[.int .i64 27, .int .i64 0, .int .i64 (h % 8), .int .i64 (h / 8 % 8), .int .i64 (h / 64 % 8), .int .i64 0, .int .i64 2, .int .i64 0, .bool false]) ∧ Below w.heap.size w w' := by
  have A1 : ∀ x : Int, bits .and .i64 x 1 = x % 2 := Cm.and1
  have A7 : ∀ x : Int, bits .and .i64 x 7 = x % 8 := Cm.and7
  have A31 : ∀ x : Int, bits .and .i64 x 31 = x % 32 := Cm.and31
  have A255 : ∀ x : Int, bits .and .i64 x 255 = x % 256 := Cm.and255
  have e4096 : h / 4096 = 5 := by omega
  have e512m : h / 512 % 8 = 5 := by omega
  have e2048m : h / 2048 % 2 = 1 := by omega
  have e2048 : h / 2048 = 11 := by omega
  go_enter Tryd.func47, Tryd.ntmps47
  go_wp2_with (first
    | (go_at_call 46; refine (imm_c _ _ _ _ _).mono ?_; rintro e w' ⟨rfl, rfl⟩)
    | (go_at_call 72; refine (reg_c _ _ _ _ _).mono ?_; rintro e w' ⟨rfl, rfl⟩)
    | (go_at_call 71; refine (with_c _ _ _ _ _ _ _ _ _ _ _).mono ?_; rintro e w' ⟨rfl, rfl⟩))
  refine bodyPost_ret (v := .agg #[.int .i64 27, .int .i64 0, .int .i64 (h % 8), .int .i64 (h / 8 % 8), .int .i64 (h / 64 % 8), .int .i64 0, .int .i64 2, .int .i64 0, .bool false]) (by simp [results, Tryd.f47, go_sem]) rfl ⟨rfl, ?_⟩
  first | exact below_1 _ _ | exact below_2 _ _ _ | exact below_3 _ _ _ _ | exact below_4 _ _ _ _ _ | exact below_5 _ _ _ _ _ _ | exact below_d (below_1 _ _) | exact below_d (below_2 _ _ _) | exact below_d (below_3 _ _ _ _)
theorem load_23552 (h : Int) (h0 : 23552 ≤ h) (h1 : h < 24064) (w : World) : Calls Tryd.prog 47 #[.int .i64 h] w fun e w' => e = .returned (.agg #[.int .i64 26, .int .i64 0, .int .i64 (h % 8), .int .i64 (h / 8 % 8), .int .i64 (h / 64 % 8), .int .i64 0, .int .i64 2, .int .i64 0, .bool false]) ∧ Below w.heap.size w w' := by
  have A1 : ∀ x : Int, bits .and .i64 x 1 = x % 2 := Cm.and1
  have A7 : ∀ x : Int, bits .and .i64 x 7 = x % 8 := Cm.and7
  have A31 : ∀ x : Int, bits .and .i64 x 31 = x % 32 := Cm.and31
  have A255 : ∀ x : Int, bits .and .i64 x 255 = x % 256 := Cm.and255
  have e4096 : h / 4096 = 5 := by omega
  have e512m : h / 512 % 8 = 6 := by omega
  have e2048m : h / 2048 % 2 = 1 := by omega
  have e2048 : h / 2048 = 11 := by omega
  go_enter Tryd.func47, Tryd.ntmps47
  go_wp2_with (first
    | (go_at_call 46; refine (imm_c _ _ _ _ _).mono ?_; rintro e w' ⟨rfl, rfl⟩)
    | (go_at_call 72; refine (reg_c _ _ _ _ _).mono ?_; rintro e w' ⟨rfl, rfl⟩)
    | (go_at_call 71; refine (with_c _ _ _ _ _ _ _ _ _ _ _).mono ?_; rintro e w' ⟨rfl, rfl⟩))
  refine bodyPost_ret (v := .agg #[.int .i64 26, .int .i64 0, .int .i64 (h % 8), .int .i64 (h / 8 % 8), .int .i64 (h / 64 % 8), .int .i64 0, .int .i64 2, .int .i64 0, .bool false]) (by simp [results, Tryd.f47, go_sem]) rfl ⟨rfl, ?_⟩
  first | exact below_1 _ _ | exact below_2 _ _ _ | exact below_3 _ _ _ _ | exact below_4 _ _ _ _ _ | exact below_5 _ _ _ _ _ _ | exact below_d (below_1 _ _) | exact below_d (below_2 _ _ _) | exact below_d (below_3 _ _ _ _)
theorem load_24064 (h : Int) (h0 : 24064 ≤ h) (h1 : h < 24576) (w : World) : Calls Tryd.prog 47 #[.int .i64 h] w fun e w' => e = .returned (.agg #[.int .i64 0, .int .i64 0, .int .i64 (h % 8), .int .i64 (h / 8 % 8), .int .i64 (h / 64 % 8), .int .i64 0, .int .i64 2, .int .i64 0, .bool false]) ∧ Below w.heap.size w w' := by
  have A1 : ∀ x : Int, bits .and .i64 x 1 = x % 2 := Cm.and1
  have A7 : ∀ x : Int, bits .and .i64 x 7 = x % 8 := Cm.and7
  have A31 : ∀ x : Int, bits .and .i64 x 31 = x % 32 := Cm.and31
  have A255 : ∀ x : Int, bits .and .i64 x 255 = x % 256 := Cm.and255
  have e4096 : h / 4096 = 5 := by omega
  have e512m : h / 512 % 8 = 7 := by omega
  have e2048m : h / 2048 % 2 = 1 := by omega
  have e2048 : h / 2048 = 11 := by omega
  go_enter Tryd.func47, Tryd.ntmps47
  go_wp2_with (first
    | (go_at_call 46; refine (imm_c _ _ _ _ _).mono ?_; rintro e w' ⟨rfl, rfl⟩)
    | (go_at_call 72; refine (reg_c _ _ _ _ _).mono ?_; rintro e w' ⟨rfl, rfl⟩)
    | (go_at_call 71; refine (with_c _ _ _ _ _ _ _ _ _ _ _).mono ?_; rintro e w' ⟨rfl, rfl⟩))
  refine bodyPost_ret (v := .agg #[.int .i64 0, .int .i64 0, .int .i64 (h % 8), .int .i64 (h / 8 % 8), .int .i64 (h / 64 % 8), .int .i64 0, .int .i64 2, .int .i64 0, .bool false]) (by simp [results, Tryd.f47, go_sem]) rfl ⟨rfl, ?_⟩
  first | exact below_1 _ _ | exact below_2 _ _ _ | exact below_3 _ _ _ _ | exact below_4 _ _ _ _ _ | exact below_5 _ _ _ _ _ _ | exact below_d (below_1 _ _) | exact below_d (below_2 _ _ _) | exact below_d (below_3 _ _ _ _)
theorem load_24576 (h : Int) (h0 : 24576 ≤ h) (h1 : h < 26624) (w : World) : Calls Tryd.prog 47 #[.int .i64 h] w fun e w' => e = .returned (.agg #[.int .i64 28, .int .i64 0, .int .i64 (h % 8), .int .i64 (h / 8 % 8), .int .i64 0, .int .i64 (h / 64 % 32 * 4), .int .i64 1, .int .i64 0, .bool false]) ∧ Below w.heap.size w w' := by
  have A1 : ∀ x : Int, bits .and .i64 x 1 = x % 2 := Cm.and1
  have A7 : ∀ x : Int, bits .and .i64 x 7 = x % 8 := Cm.and7
  have A31 : ∀ x : Int, bits .and .i64 x 31 = x % 32 := Cm.and31
  have A255 : ∀ x : Int, bits .and .i64 x 255 = x % 256 := Cm.and255
  have e4096 : h / 4096 = 6 := by omega
  have e2048m : h / 2048 % 2 = 0 := by omega
  have e2048 : h / 2048 = 12 := by omega
  go_enter Tryd.func47, Tryd.ntmps47
  go_wp2_with (first
    | (go_at_call 46; refine (imm_c _ _ _ _ _).mono ?_; rintro e w' ⟨rfl, rfl⟩)
    | (go_at_call 72; refine (reg_c _ _ _ _ _).mono ?_; rintro e w' ⟨rfl, rfl⟩)
    | (go_at_call 71; refine (with_c _ _ _ _ _ _ _ _ _ _ _).mono ?_; rintro e w' ⟨rfl, rfl⟩))
  refine bodyPost_ret (v := .agg #[.int .i64 28, .int .i64 0, .int .i64 (h % 8), .int .i64 (h / 8 % 8), .int .i64 0, .int .i64 (h / 64 % 32 * 4), .int .i64 1, .int .i64 0, .bool false]) (by simp [results, Tryd.f47, go_sem]) rfl ⟨rfl, ?_⟩
  first | exact below_1 _ _ | exact below_2 _ _ _ | exact below_3 _ _ _ _ | exact below_4 _ _ _ _ _ | exact below_5 _ _ _ _ _ _ | exact below_d (below_1 _ _) | exact below_d (below_2 _ _ _) | exact below_d (below_3 _ _ _ _)
theorem load_26624 (h : Int) (h0 : 26624 ≤ h) (h1 : h < 28672) (w : World) : Calls Tryd.prog 47 #[.int .i64 h] w fun e w' => e = .returned (.agg #[.int .i64 25, .int .i64 0, .int .i64 (h % 8), .int .i64 (h / 8 % 8), .int .i64 0, .int .i64 (h / 64 % 32 * 4), .int .i64 1, .int .i64 0, .bool false]) ∧ Below w.heap.size w w' := by
  have A1 : ∀ x : Int, bits .and .i64 x 1 = x % 2 := Cm.and1
  have A7 : ∀ x : Int, bits .and .i64 x 7 = x % 8 := Cm.and7
  have A31 : ∀ x : Int, bits .and .i64 x 31 = x % 32 := Cm.and31
  have A255 : ∀ x : Int, bits .and .i64 x 255 = x % 256 := Cm.and255
  have e4096 : h / 4096 = 6 := by omega
  have e2048m : h / 2048 % 2 = 1 := by omega
  have e2048 : h / 2048 = 13 := by omega
  go_enter Tryd.func47, Tryd.ntmps47
  go_wp2_with (first
    | (go_at_call 46; refine (imm_c _ _ _ _ _).mono ?_; rintro e w' ⟨rfl, rfl⟩)
    | (go_at_call 72; refine (reg_c _ _ _ _ _).mono ?_; rintro e w' ⟨rfl, rfl⟩)
    | (go_at_call 71; refine (with_c _ _ _ _ _ _ _ _ _ _ _).mono ?_; rintro e w' ⟨rfl, rfl⟩))
  refine bodyPost_ret (v := .agg #[.int .i64 25, .int .i64 0, .int .i64 (h % 8), .int .i64 (h / 8 % 8), .int .i64 0, .int .i64 (h / 64 % 32 * 4), .int .i64 1, .int .i64 0, .bool false]) (by simp [results, Tryd.f47, go_sem]) rfl ⟨rfl, ?_⟩
  first | exact below_1 _ _ | exact below_2 _ _ _ | exact below_3 _ _ _ _ | exact below_4 _ _ _ _ _ | exact below_5 _ _ _ _ _ _ | exact below_d (below_1 _ _) | exact below_d (below_2 _ _ _) | exact below_d (below_3 _ _ _ _)
theorem load_28672 (h : Int) (h0 : 28672 ≤ h) (h1 : h < 30720) (w : World) : Calls Tryd.prog 47 #[.int .i64 h] w fun e w' => e = .returned (.agg #[.int .i64 29, .int .i64 0, .int .i64 (h % 8), .int .i64 (h / 8 % 8), .int .i64 0, .int .i64 (h / 64 % 32), .int .i64 1, .int .i64 0, .bool false]) ∧ Below w.heap.size w w' := by
  have A1 : ∀ x : Int, bits .and .i64 x 1 = x % 2 := Cm.and1
  have A7 : ∀ x : Int, bits .and .i64 x 7 = x % 8 := Cm.and7
  have A31 : ∀ x : Int, bits .and .i64 x 31 = x % 32 := Cm.and31
  have A255 : ∀ x : Int, bits .and .i64 x 255 = x % 256 := Cm.and255
  have e4096 : h / 4096 = 7 := by omega
  have e2048m : h / 2048 % 2 = 0 := by omega
  have e2048 : h / 2048 = 14 := by omega
  go_enter Tryd.func47, Tryd.ntmps47
  go_wp2_with (first
    | (go_at_call 46; refine (imm_c _ _ _ _ _).mono ?_; rintro e w' ⟨rfl, rfl⟩)
    | (go_at_call 72; refine (reg_c _ _ _ _ _).mono ?_; rintro e w' ⟨rfl, rfl⟩)
    | (go_at_call 71; refine (with_c _ _ _ _ _ _ _ _ _ _ _).mono ?_; rintro e w' ⟨rfl, rfl⟩))
  refine bodyPost_ret (v := .agg #[.int .i64 29, .int .i64 0, .int .i64 (h % 8), .int .i64 (h / 8 % 8), .int .i64 0, .int .i64 (h / 64 % 32), .int .i64 1, .int .i64 0, .bool false]) (by simp [results, Tryd.f47, go_sem]) rfl ⟨rfl, ?_⟩
  first | exact below_1 _ _ | exact below_2 _ _ _ | exact below_3 _ _ _ _ | exact below_4 _ _ _ _ _ | exact below_5 _ _ _ _ _ _ | exact below_d (below_1 _ _) | exact below_d (below_2 _ _ _) | exact below_d (below_3 _ _ _ _)
theorem load_30720 (h : Int) (h0 : 30720 ≤ h) (h1 : h < 32768) (w : World) : Calls Tryd.prog 47 #[.int .i64 h] w fun e w' => e = .returned (.agg #[.int .i64 26, .int .i64 0, .int .i64 (h % 8), .int .i64 (h / 8 % 8), .int .i64 0, .int .i64 (h / 64 % 32), .int .i64 1, .int .i64 0, .bool false]) ∧ Below w.heap.size w w' := by
  have A1 : ∀ x : Int, bits .and .i64 x 1 = x % 2 := Cm.and1
  have A7 : ∀ x : Int, bits .and .i64 x 7 = x % 8 := Cm.and7
  have A31 : ∀ x : Int, bits .and .i64 x 31 = x % 32 := Cm.and31
  have A255 : ∀ x : Int, bits .and .i64 x 255 = x % 256 := Cm.and255
  have e4096 : h / 4096 = 7 := by omega
  have e2048m : h / 2048 % 2 = 1 := by omega
  have e2048 : h / 2048 = 15 := by omega
  go_enter Tryd.func47, Tryd.ntmps47
  go_wp2_with (first
    | (go_at_call 46; refine (imm_c _ _ _ _ _).mono ?_; rintro e w' ⟨rfl, rfl⟩)
    | (go_at_call 72; refine (reg_c _ _ _ _ _).mono ?_; rintro e w' ⟨rfl, rfl⟩)
    | (go_at_call 71; refine (with_c _ _ _ _ _ _ _ _ _ _ _).mono ?_; rintro e w' ⟨rfl, rfl⟩))
  refine bodyPost_ret (v := .agg #[.int .i64 26, .int .i64 0, .int .i64 (h % 8), .int .i64 (h / 8 % 8), .int .i64 0, .int .i64 (h / 64 % 32), .int .i64 1, .int .i64 0, .bool false]) (by simp [results, Tryd.f47, go_sem]) rfl ⟨rfl, ?_⟩
  first | exact below_1 _ _ | exact below_2 _ _ _ | exact below_3 _ _ _ _ | exact below_4 _ _ _ _ _ | exact below_5 _ _ _ _ _ _ | exact below_d (below_1 _ _) | exact below_d (below_2 _ _ _) | exact below_d (below_3 _ _ _ _)
theorem load_32768 (h : Int) (h0 : 32768 ≤ h) (h1 : h < 34816) (w : World) : Calls Tryd.prog 47 #[.int .i64 h] w fun e w' => e = .returned (.agg #[.int .i64 30, .int .i64 0, .int .i64 (h % 8), .int .i64 (h / 8 % 8), .int .i64 0, .int .i64 (h / 64 % 32 * 2), .int .i64 1, .int .i64 0, .bool false]) ∧ Below w.heap.size w w' := by
  have A1 : ∀ x : Int, bits .and .i64 x 1 = x % 2 := Cm.and1
  have A7 : ∀ x : Int, bits .and .i64 x 7 = x % 8 := Cm.and7
  have A31 : ∀ x : Int, bits .and .i64 x 31 = x % 32 := Cm.and31
  have A255 : ∀ x : Int, bits .and .i64 x 255 = x % 256 := Cm.and255
  have e4096 : h / 4096 = 8 := by omega
  have e2048m : h / 2048 % 2 = 0 := by omega
  have e2048 : h / 2048 = 16 := by omega
  go_enter Tryd.func47, Tryd.ntmps47
  go_wp2_with (first
    | (go_at_call 46; refine (imm_c _ _ _ _ _).mono ?_; rintro e w' ⟨rfl, rfl⟩)
    | (go_at_call 72; refine (reg_c _ _ _ _ _).mono ?_; rintro e w' ⟨rfl, rfl⟩)
    | (go_at_call 71; refine (with_c _ _ _ _ _ _ _ _ _ _ _).mono ?_; rintro e w' ⟨rfl, rfl⟩))
  refine bodyPost_ret (v := .agg #[.int .i64 30, .int .i64 0, .int .i64 (h % 8), .int .i64 (h / 8 % 8), .int .i64 0, .int .i64 (h / 64 % 32 * 2), .int .i64 1, .int .i64 0, .bool false]) (by simp [results, Tryd.f47, go_sem]) rfl ⟨rfl, ?_⟩
  first | exact below_1 _ _ | exact below_2 _ _ _ | exact below_3 _ _ _ _ | exact below_4 _ _ _ _ _ | exact below_5 _ _ _ _ _ _ | exact below_d (below_1 _ _) | exact below_d (below_2 _ _ _) | exact below_d (below_3 _ _ _ _)
theorem load_34816 (h : Int) (h0 : 34816 ≤ h) (h1 : h < 36864) (w : World) : Calls Tryd.prog 47 #[.int .i64 h] w fun e w' => e = .returned (.agg #[.int .i64 27, .int .i64 0, .int .i64 (h % 8), .int .i64 (h / 8 % 8), .int .i64 0, .int .i64 (h / 64 % 32 * 2), .int .i64 1, .int .i64 0, .bool false]) ∧ Below w.heap.size w w' := by
  have A1 : ∀ x : Int, bits .and .i64 x 1 = x % 2 := Cm.and1
  have A7 : ∀ x : Int, bits .and .i64 x 7 = x % 8 := Cm.and7
  have A31 : ∀ x : Int, bits .and .i64 x 31 = x % 32 := Cm.and31
  have A255 : ∀ x : Int, bits .and .i64 x 255 = x % 256 := Cm.and255
  have e4096 : h / 4096 = 8 := by omega
  have e2048m : h / 2048 % 2 = 1 := by omega
  have e2048 : h / 2048 = 17 := by omega
  go_enter Tryd.func47, Tryd.ntmps47
  go_wp2_with (first
    | (go_at_call 46; refine (imm_c _ _ _ _ _).mono ?_; rintro e w' ⟨rfl, rfl⟩)
    | (go_at_call 72; refine (reg_c _ _ _ _ _).mono ?_; rintro e w' ⟨rfl, rfl⟩)
    | (go_at_call 71; refine (with_c _ _ _ _ _ _ _ _ _ _ _).mono ?_; rintro e w' ⟨rfl, rfl⟩))
  refine bodyPost_ret (v := .agg #[.int .i64 27, .int .i64 0, .int .i64 (h % 8), .int .i64 (h / 8 % 8), .int .i64 0, .int .i64 (h / 64 % 32 * 2), .int .i64 1, .int .i64 0, .bool false]) (by simp [results, Tryd.f47, go_sem]) rfl ⟨rfl, ?_⟩
  first | exact below_1 _ _ | exact below_2 _ _ _ | exact below_3 _ _ _ _ | exact below_4 _ _ _ _ _ | exact below_5 _ _ _ _ _ _ | exact below_d (below_1 _ _) | exact below_d (below_2 _ _ _) | exact below_d (below_3 _ _ _ _)
theorem load_36864 (h : Int) (h0 : 36864 ≤ h) (h1 : h < 38912) (w : World) : Calls Tryd.prog 47 #[.int .i64 h] w fun e w' => e = .returned (.agg #[.int .i64 28, .int .i64 0, .int .i64 (h / 256 % 8), .int .i64 13, .int .i64 0, .int .i64 (h % 256 * 4), .int .i64 1, .int .i64 0, .bool false]) ∧ Below w.heap.size w w' := by
  have A1 : ∀ x : Int, bits .and .i64 x 1 = x % 2 := Cm.and1
  have A7 : ∀ x : Int, bits .and .i64 x 7 = x % 8 := Cm.and7
  have A31 : ∀ x : Int, bits .and .i64 x 31 = x % 32 := Cm.and31
  have A255 : ∀ x : Int, bits .and .i64 x 255 = x % 256 := Cm.and255
  have e4096 : h / 4096 = 9 := by omega
  have e2048m : h / 2048 % 2 = 0 := by omega
  have e2048 : h / 2048 = 18 := by omega
  go_enter Tryd.func47, Tryd.ntmps47
  go_wp2_with (first
    | (go_at_call 46; refine (imm_c _ _ _ _ _).mono ?_; rintro e w' ⟨rfl, rfl⟩)
    | (go_at_call 72; refine (reg_c _ _ _ _ _).mono ?_; rintro e w' ⟨rfl, rfl⟩)
    | (go_at_call 71; refine (with_c _ _ _ _ _ _ _ _ _ _ _).mono ?_; rintro e w' ⟨rfl, rfl⟩))
  refine bodyPost_ret (v := .agg #[.int .i64 28, .int .i64 0, .int .i64 (h / 256 % 8), .int .i64 13, .int .i64 0, .int .i64 (h % 256 * 4), .int .i64 1, .int .i64 0, .bool false]) (by simp [results, Tryd.f47, go_sem]) rfl ⟨rfl, ?_⟩
  first | exact below_1 _ _ | exact below_2 _ _ _ | exact below_3 _ _ _ _ | exact below_4 _ _ _ _ _ | exact below_5 _ _ _ _ _ _ | exact below_d (below_1 _ _) | exact below_d (below_2 _ _ _) | exact below_d (below_3 _ _ _ _)
theorem load_38912 (h : Int) (h0 : 38912 ≤ h) (h1 : h < 40960) (w : World) : Calls Tryd.prog 47 #[.int .i64 h] w fun e w' => e = .returned (.agg #[.int .i64 25, .int .i64 0, .int .i64 (h / 256 % 8), .int .i64 13, .int .i64 0, .int .i64 (h % 256 * 4), .int .i64 1, .int .i64 0, .bool false]) ∧ Below w.heap.size w w' := by
  have A1 : ∀ x : Int, bits .and .i64 x 1 = x % 2 := Cm.and1
  have A7 : ∀ x : Int, bits .and .i64 x 7 = x % 8 := Cm.and7
  have A31 : ∀ x : Int, bits .and .i64 x 31 = x % 32 := Cm.and31
  have A255 : ∀ x : Int, bits .and .i64 x 255 = x % 256 := Cm.and255
  have e4096 : h / 4096 = 9 := by omega
  have e2048m : h / 2048 % 2 = 1 := by omega
  have e2048 : h / 2048 = 19 := by omega
  go_enter Tryd.func47, Tryd.ntmps47
  go_wp2_with (first
    | (go_at_call 46; refine (imm_c _ _ _ _ _).mono ?_; rintro e w' ⟨rfl, rfl⟩)
    | (go_at_call 72; refine (reg_c _ _ _ _ _).mono ?_; rintro e w' ⟨rfl, rfl⟩)
    | (go_at_call 71; refine (with_c _ _ _ _ _ _ _ _ _ _ _).mono ?_; rintro e w' ⟨rfl, rfl⟩))
  refine bodyPost_ret (v := .agg #[.int .i64 25, .int .i64 0, .int .i64 (h / 256 % 8), .int .i64 13, .int .i64 0, .int .i64 (h % 256 * 4), .int .i64 1, .int .i64 0, .bool false]) (by simp [results, Tryd.f47, go_sem]) rfl ⟨rfl, ?_⟩
  first | exact below_1 _ _ | exact below_2 _ _ _ | exact below_3 _ _ _ _ | exact below_4 _ _ _ _ _ | exact below_5 _ _ _ _ _ _ | exact below_d (below_1 _ _) | exact below_d (below_2 _ _ _) | exact below_d (below_3 _ _ _ _)
end Rd
end Go.Proofs.YtcphhojdfpedkaaDoor
