/- The document reads a halfword below 16384. No conditions but those that each fact names (text by gen_d.py). The document reads a halfword from 16384 to 17407. No conditions but those that each fact names (text by gen_d.py). -/
import Derived.Test.YtcphhojdfpedkaaDoorGm

namespace Go.Proofs.YtcphhojdfpedkaaDoor
open Go.ChangeShapes Go.WideShapes Go.ChangeAt Go.RowKit
namespace Rd
theorem low_0_f (h : Int) (s : Bool) (h0 : 0 ≤ h) (h1 : h < 64) (w : World) : Calls Tryd.prog 43 #[.int .i64 h, .bool s, .bool false] w fun e w' => e = .returned (.agg #[.int .i64 10, .int .i64 0, .int .i64 (h % 8), .int .i64 0, .int .i64 (h / 8 % 8), .int .i64 0, .int .i64 2, .int .i64 0, .bool true]) ∧ Below w.heap.size w w' := by
  have A1 : ∀ x : Int, bits .and .i64 x 1 = x % 2 := Cm.and1
  have A7 : ∀ x : Int, bits .and .i64 x 7 = x % 8 := Cm.and7
  have A31 : ∀ x : Int, bits .and .i64 x 31 = x % 32 := Cm.and31
  have A255 : ∀ x : Int, bits .and .i64 x 255 = x % 256 := Cm.and255
  have e2048 : h / 2048 = 0 := by omega
  have e512m : h / 512 % 2 = 0 := by omega
  have e1024m : h / 1024 % 2 = 0 := by omega
  have e64 : h / 64 % 32 = 0 := by omega
  go_enter Tryd.func43, Tryd.ntmps43
  go_wp2_with (first
    | (go_at_call 46; refine (imm_c _ _ _ _ _).mono ?_; rintro e w' ⟨rfl, rfl⟩)
    | (go_at_call 72; refine (reg_c _ _ _ _ _).mono ?_; rintro e w' ⟨rfl, rfl⟩)
    | (go_at_call 71; refine (with_c _ _ _ _ _ _ _ _ _ _ _).mono ?_; rintro e w' ⟨rfl, rfl⟩))
  refine bodyPost_ret (v := .agg #[.int .i64 10, .int .i64 0, .int .i64 (h % 8), .int .i64 0, .int .i64 (h / 8 % 8), .int .i64 0, .int .i64 2, .int .i64 0, .bool true]) (by simp [results, Tryd.f43, go_sem]) rfl ⟨rfl, ?_⟩
  first | exact below_1 _ _ | exact below_2 _ _ _ | exact below_3 _ _ _ _ | exact below_4 _ _ _ _ _ | exact below_5 _ _ _ _ _ _ | exact below_d (below_1 _ _) | exact below_d (below_2 _ _ _) | exact below_d (below_3 _ _ _ _)
theorem low_0_t (h : Int) (s : Bool) (h0 : 0 ≤ h) (h1 : h < 64) (w : World) : Calls Tryd.prog 43 #[.int .i64 h, .bool s, .bool true] w fun e w' => e = .returned (.agg #[.int .i64 0, .int .i64 0, .int .i64 0, .int .i64 0, .int .i64 0, .int .i64 0, .int .i64 0, .int .i64 0, .bool false]) ∧ Below w.heap.size w w' := by
  have A1 : ∀ x : Int, bits .and .i64 x 1 = x % 2 := Cm.and1
  have A7 : ∀ x : Int, bits .and .i64 x 7 = x % 8 := Cm.and7
  have A31 : ∀ x : Int, bits .and .i64 x 31 = x % 32 := Cm.and31
  have A255 : ∀ x : Int, bits .and .i64 x 255 = x % 256 := Cm.and255
  have e2048 : h / 2048 = 0 := by omega
  have e512m : h / 512 % 2 = 0 := by omega
  have e1024m : h / 1024 % 2 = 0 := by omega
  have e64 : h / 64 % 32 = 0 := by omega
  go_enter Tryd.func43, Tryd.ntmps43
  go_wp2_with (first
    | (go_at_call 46; refine (imm_c _ _ _ _ _).mono ?_; rintro e w' ⟨rfl, rfl⟩)
    | (go_at_call 72; refine (reg_c _ _ _ _ _).mono ?_; rintro e w' ⟨rfl, rfl⟩)
    | (go_at_call 71; refine (with_c _ _ _ _ _ _ _ _ _ _ _).mono ?_; rintro e w' ⟨rfl, rfl⟩))
  refine bodyPost_ret (v := .agg #[.int .i64 0, .int .i64 0, .int .i64 0, .int .i64 0, .int .i64 0, .int .i64 0, .int .i64 0, .int .i64 0, .bool false]) (by simp [results, Tryd.f43, go_sem]) rfl ⟨rfl, ?_⟩
  first | exact below_1 _ _ | exact below_2 _ _ _ | exact below_3 _ _ _ _ | exact below_4 _ _ _ _ _ | exact below_5 _ _ _ _ _ _ | exact below_d (below_1 _ _) | exact below_d (below_2 _ _ _) | exact below_d (below_3 _ _ _ _)
theorem low_64 (h : Int) (s it : Bool) (h0 : 64 ≤ h) (h1 : h < 2048) (w : World) : Calls Tryd.prog 43 #[.int .i64 h, .bool s, .bool it] w fun e w' => e = .returned (.agg #[.int .i64 16, .int .i64 0, .int .i64 (h % 8), .int .i64 (h / 8 % 8), .int .i64 0, .int .i64 (h / 64 % 32), .int .i64 1, .int .i64 0, .bool s]) ∧ Below w.heap.size w w' := by
  have A1 : ∀ x : Int, bits .and .i64 x 1 = x % 2 := Cm.and1
  have A7 : ∀ x : Int, bits .and .i64 x 7 = x % 8 := Cm.and7
  have A31 : ∀ x : Int, bits .and .i64 x 31 = x % 32 := Cm.and31
  have A255 : ∀ x : Int, bits .and .i64 x 255 = x % 256 := Cm.and255
  have e2048 : h / 2048 = 0 := by omega
  have hn : (h / 64 % 32 == 0) = false := by simp; omega
  go_enter Tryd.func43, Tryd.ntmps43
  go_wp2_with (first
    | (go_at_call 46; refine (imm_c _ _ _ _ _).mono ?_; rintro e w' ⟨rfl, rfl⟩)
    | (go_at_call 72; refine (reg_c _ _ _ _ _).mono ?_; rintro e w' ⟨rfl, rfl⟩)
    | (go_at_call 71; refine (with_c _ _ _ _ _ _ _ _ _ _ _).mono ?_; rintro e w' ⟨rfl, rfl⟩))
  refine bodyPost_ret (v := .agg #[.int .i64 16, .int .i64 0, .int .i64 (h % 8), .int .i64 (h / 8 % 8), .int .i64 0, .int .i64 (h / 64 % 32), .int .i64 1, .int .i64 0, .bool s]) (by simp [results, Tryd.f43, go_sem]) rfl ⟨rfl, ?_⟩
  first | exact below_1 _ _ | exact below_2 _ _ _ | exact below_3 _ _ _ _ | exact below_4 _ _ _ _ _ | exact below_5 _ _ _ _ _ _ | exact below_d (below_1 _ _) | exact below_d (below_2 _ _ _) | exact below_d (below_3 _ _ _ _)
theorem low_2048_z (h : Int) (s it : Bool) (h0 : 2048 ≤ h) (h1 : h < 4096) (e64 : h / 64 % 32 = 0) (w : World) : Calls Tryd.prog 43 #[.int .i64 h, .bool s, .bool it] w fun e w' => e = .returned (.agg #[.int .i64 17, .int .i64 0, .int .i64 (h % 8), .int .i64 (h / 8 % 8), .int .i64 0, .int .i64 32, .int .i64 1, .int .i64 0, .bool s]) ∧ Below w.heap.size w w' := by
  have A1 : ∀ x : Int, bits .and .i64 x 1 = x % 2 := Cm.and1
  have A7 : ∀ x : Int, bits .and .i64 x 7 = x % 8 := Cm.and7
  have A31 : ∀ x : Int, bits .and .i64 x 31 = x % 32 := Cm.and31
  have A255 : ∀ x : Int, bits .and .i64 x 255 = x % 256 := Cm.and255
  have e2048 : h / 2048 = 1 := by omega
  go_enter Tryd.func43, Tryd.ntmps43
  go_wp2_with (first
    | (go_at_call 46; refine (imm_c _ _ _ _ _).mono ?_; rintro e w' ⟨rfl, rfl⟩)
    | (go_at_call 72; refine (reg_c _ _ _ _ _).mono ?_; rintro e w' ⟨rfl, rfl⟩)
    | (go_at_call 71; refine (with_c _ _ _ _ _ _ _ _ _ _ _).mono ?_; rintro e w' ⟨rfl, rfl⟩))
  refine bodyPost_ret (v := .agg #[.int .i64 17, .int .i64 0, .int .i64 (h % 8), .int .i64 (h / 8 % 8), .int .i64 0, .int .i64 32, .int .i64 1, .int .i64 0, .bool s]) (by simp [results, Tryd.f43, go_sem]) rfl ⟨rfl, ?_⟩
  first | exact below_1 _ _ | exact below_2 _ _ _ | exact below_3 _ _ _ _ | exact below_4 _ _ _ _ _ | exact below_5 _ _ _ _ _ _ | exact below_d (below_1 _ _) | exact below_d (below_2 _ _ _) | exact below_d (below_3 _ _ _ _)
theorem low_2048_n (h : Int) (s it : Bool) (h0 : 2048 ≤ h) (h1 : h < 4096) (hn : (h / 64 % 32 == 0) = false) (w : World) : Calls Tryd.prog 43 #[.int .i64 h, .bool s, .bool it] w fun e w' => e = .returned (.agg #[.int .i64 17, .int .i64 0, .int .i64 (h % 8), .int .i64 (h / 8 % 8), .int .i64 0, .int .i64 (h / 64 % 32), .int .i64 1, .int .i64 0, .bool s]) ∧ Below w.heap.size w w' := by
  have A1 : ∀ x : Int, bits .and .i64 x 1 = x % 2 := Cm.and1
  have A7 : ∀ x : Int, bits .and .i64 x 7 = x % 8 := Cm.and7
  have A31 : ∀ x : Int, bits .and .i64 x 31 = x % 32 := Cm.and31
  have A255 : ∀ x : Int, bits .and .i64 x 255 = x % 256 := Cm.and255
  have e2048 : h / 2048 = 1 := by omega
  go_enter Tryd.func43, Tryd.ntmps43
  go_wp2_with (first
    | (go_at_call 46; refine (imm_c _ _ _ _ _).mono ?_; rintro e w' ⟨rfl, rfl⟩)
    | (go_at_call 72; refine (reg_c _ _ _ _ _).mono ?_; rintro e w' ⟨rfl, rfl⟩)
    | (go_at_call 71; refine (with_c _ _ _ _ _ _ _ _ _ _ _).mono ?_; rintro e w' ⟨rfl, rfl⟩))
  refine bodyPost_ret (v := .agg #[.int .i64 17, .int .i64 0, .int .i64 (h % 8), .int .i64 (h / 8 % 8), .int .i64 0, .int .i64 (h / 64 % 32), .int .i64 1, .int .i64 0, .bool s]) (by simp [results, Tryd.f43, go_sem]) rfl ⟨rfl, ?_⟩
  first | exact below_1 _ _ | exact below_2 _ _ _ | exact below_3 _ _ _ _ | exact below_4 _ _ _ _ _ | exact below_5 _ _ _ _ _ _ | exact below_d (below_1 _ _) | exact below_d (below_2 _ _ _) | exact below_d (below_3 _ _ _ _)
theorem low_4096_z (h : Int) (s it : Bool) (h0 : 4096 ≤ h) (h1 : h < 6144) (e64 : h / 64 % 32 = 0) (w : World) : Calls Tryd.prog 43 #[.int .i64 h, .bool s, .bool it] w fun e w' => e = .returned (.agg #[.int .i64 18, .int .i64 0, .int .i64 (h % 8), .int .i64 (h / 8 % 8), .int .i64 0, .int .i64 32, .int .i64 1, .int .i64 0, .bool s]) ∧ Below w.heap.size w w' := by
  have A1 : ∀ x : Int, bits .and .i64 x 1 = x % 2 := Cm.and1
  have A7 : ∀ x : Int, bits .and .i64 x 7 = x % 8 := Cm.and7
  have A31 : ∀ x : Int, bits .and .i64 x 31 = x % 32 := Cm.and31
  have A255 : ∀ x : Int, bits .and .i64 x 255 = x % 256 := Cm.and255
  have e2048 : h / 2048 = 2 := by omega
  go_enter Tryd.func43, Tryd.ntmps43
  go_wp2_with (first
    | (go_at_call 46; refine (imm_c _ _ _ _ _).mono ?_; rintro e w' ⟨rfl, rfl⟩)
    | (go_at_call 72; refine (reg_c _ _ _ _ _).mono ?_; rintro e w' ⟨rfl, rfl⟩)
    | (go_at_call 71; refine (with_c _ _ _ _ _ _ _ _ _ _ _).mono ?_; rintro e w' ⟨rfl, rfl⟩))
  refine bodyPost_ret (v := .agg #[.int .i64 18, .int .i64 0, .int .i64 (h % 8), .int .i64 (h / 8 % 8), .int .i64 0, .int .i64 32, .int .i64 1, .int .i64 0, .bool s]) (by simp [results, Tryd.f43, go_sem]) rfl ⟨rfl, ?_⟩
  first | exact below_1 _ _ | exact below_2 _ _ _ | exact below_3 _ _ _ _ | exact below_4 _ _ _ _ _ | exact below_5 _ _ _ _ _ _ | exact below_d (below_1 _ _) | exact below_d (below_2 _ _ _) | exact below_d (below_3 _ _ _ _)
theorem low_4096_n (h : Int) (s it : Bool) (h0 : 4096 ≤ h) (h1 : h < 6144) (hn : (h / 64 % 32 == 0) = false) (w : World) : Calls Tryd.prog 43 #[.int .i64 h, .bool s, .bool it] w fun e w' => e = .returned (.agg #[.int .i64 18, .int .i64 0, .int .i64 (h % 8), .int .i64 (h / 8 % 8), .int .i64 0, .int .i64 (h / 64 % 32), .int .i64 1, .int .i64 0, .bool s]) ∧ Below w.heap.size w w' := by
  have A1 : ∀ x : Int, bits .and .i64 x 1 = x % 2 := Cm.and1
  have A7 : ∀ x : Int, bits .and .i64 x 7 = x % 8 := Cm.and7
  have A31 : ∀ x : Int, bits .and .i64 x 31 = x % 32 := Cm.and31
  have A255 : ∀ x : Int, bits .and .i64 x 255 = x % 256 := Cm.and255
  have e2048 : h / 2048 = 2 := by omega
  go_enter Tryd.func43, Tryd.ntmps43
  go_wp2_with (first
    | (go_at_call 46; refine (imm_c _ _ _ _ _).mono ?_; rintro e w' ⟨rfl, rfl⟩)
    | (go_at_call 72; refine (reg_c _ _ _ _ _).mono ?_; rintro e w' ⟨rfl, rfl⟩)
    | (go_at_call 71; refine (with_c _ _ _ _ _ _ _ _ _ _ _).mono ?_; rintro e w' ⟨rfl, rfl⟩))
  refine bodyPost_ret (v := .agg #[.int .i64 18, .int .i64 0, .int .i64 (h % 8), .int .i64 (h / 8 % 8), .int .i64 0, .int .i64 (h / 64 % 32), .int .i64 1, .int .i64 0, .bool s]) (by simp [results, Tryd.f43, go_sem]) rfl ⟨rfl, ?_⟩
  first | exact below_1 _ _ | exact below_2 _ _ _ | exact below_3 _ _ _ _ | exact below_4 _ _ _ _ _ | exact below_5 _ _ _ _ _ _ | exact below_d (below_1 _ _) | exact below_d (below_2 _ _ _) | exact below_d (below_3 _ _ _ _)
theorem low_6144 (h : Int) (s it : Bool) (h0 : 6144 ≤ h) (h1 : h < 6656) (w : World) : Calls Tryd.prog 43 #[.int .i64 h, .bool s, .bool it] w fun e w' => e = .returned (.agg #[.int .i64 5, .int .i64 0, .int .i64 (h % 8), .int .i64 (h / 8 % 8), .int .i64 (h / 64 % 8), .int .i64 0, .int .i64 2, .int .i64 0, .bool s]) ∧ Below w.heap.size w w' := by
  have A1 : ∀ x : Int, bits .and .i64 x 1 = x % 2 := Cm.and1
  have A7 : ∀ x : Int, bits .and .i64 x 7 = x % 8 := Cm.and7
  have A31 : ∀ x : Int, bits .and .i64 x 31 = x % 32 := Cm.and31
  have A255 : ∀ x : Int, bits .and .i64 x 255 = x % 256 := Cm.and255
  have e2048 : h / 2048 = 3 := by omega
  have e512m : h / 512 % 2 = 0 := by omega
  have e1024m : h / 1024 % 2 = 0 := by omega
  go_enter Tryd.func43, Tryd.ntmps43
  go_wp2_with (first
    | (go_at_call 46; refine (imm_c _ _ _ _ _).mono ?_; rintro e w' ⟨rfl, rfl⟩)
    | (go_at_call 72; refine (reg_c _ _ _ _ _).mono ?_; rintro e w' ⟨rfl, rfl⟩)
    | (go_at_call 71; refine (with_c _ _ _ _ _ _ _ _ _ _ _).mono ?_; rintro e w' ⟨rfl, rfl⟩))
  refine bodyPost_ret (v := .agg #[.int .i64 5, .int .i64 0, .int .i64 (h % 8), .int .i64 (h / 8 % 8), .int .i64 (h / 64 % 8), .int .i64 0, .int .i64 2, .int .i64 0, .bool s]) (by simp [results, Tryd.f43, go_sem]) rfl ⟨rfl, ?_⟩
  first | exact below_1 _ _ | exact below_2 _ _ _ | exact below_3 _ _ _ _ | exact below_4 _ _ _ _ _ | exact below_5 _ _ _ _ _ _ | exact below_d (below_1 _ _) | exact below_d (below_2 _ _ _) | exact below_d (below_3 _ _ _ _)
theorem low_6656 (h : Int) (s it : Bool) (h0 : 6656 ≤ h) (h1 : h < 7168) (w : World) : Calls Tryd.prog 43 #[.int .i64 h, .bool s, .bool it] w fun e w' => e = .returned (.agg #[.int .i64 7, .int .i64 0, .int .i64 (h % 8), .int .i64 (h / 8 % 8), .int .i64 (h / 64 % 8), .int .i64 0, .int .i64 2, .int .i64 0, .bool s]) ∧ Below w.heap.size w w' := by
  have A1 : ∀ x : Int, bits .and .i64 x 1 = x % 2 := Cm.and1
  have A7 : ∀ x : Int, bits .and .i64 x 7 = x % 8 := Cm.and7
  have A31 : ∀ x : Int, bits .and .i64 x 31 = x % 32 := Cm.and31
  have A255 : ∀ x : Int, bits .and .i64 x 255 = x % 256 := Cm.and255
  have e2048 : h / 2048 = 3 := by omega
  have e512m : h / 512 % 2 = 1 := by omega
  have e1024m : h / 1024 % 2 = 0 := by omega
  go_enter Tryd.func43, Tryd.ntmps43
  go_wp2_with (first
    | (go_at_call 46; refine (imm_c _ _ _ _ _).mono ?_; rintro e w' ⟨rfl, rfl⟩)
    | (go_at_call 72; refine (reg_c _ _ _ _ _).mono ?_; rintro e w' ⟨rfl, rfl⟩)
    | (go_at_call 71; refine (with_c _ _ _ _ _ _ _ _ _ _ _).mono ?_; rintro e w' ⟨rfl, rfl⟩))
  refine bodyPost_ret (v := .agg #[.int .i64 7, .int .i64 0, .int .i64 (h % 8), .int .i64 (h / 8 % 8), .int .i64 (h / 64 % 8), .int .i64 0, .int .i64 2, .int .i64 0, .bool s]) (by simp [results, Tryd.f43, go_sem]) rfl ⟨rfl, ?_⟩
  first | exact below_1 _ _ | exact below_2 _ _ _ | exact below_3 _ _ _ _ | exact below_4 _ _ _ _ _ | exact below_5 _ _ _ _ _ _ | exact below_d (below_1 _ _) | exact below_d (below_2 _ _ _) | exact below_d (below_3 _ _ _ _)
theorem low_7168 (h : Int) (s it : Bool) (h0 : 7168 ≤ h) (h1 : h < 7680) (w : World) : Calls Tryd.prog 43 #[.int .i64 h, .bool s, .bool it] w fun e w' => e = .returned (.agg #[.int .i64 5, .int .i64 0, .int .i64 (h % 8), .int .i64 (h / 8 % 8), .int .i64 0, .int .i64 (h / 64 % 8), .int .i64 1, .int .i64 0, .bool s]) ∧ Below w.heap.size w w' := by
  have A1 : ∀ x : Int, bits .and .i64 x 1 = x % 2 := Cm.and1
  have A7 : ∀ x : Int, bits .and .i64 x 7 = x % 8 := Cm.and7
  have A31 : ∀ x : Int, bits .and .i64 x 31 = x % 32 := Cm.and31
  have A255 : ∀ x : Int, bits .and .i64 x 255 = x % 256 := Cm.and255
  have e2048 : h / 2048 = 3 := by omega
  have e512m : h / 512 % 2 = 0 := by omega
  have e1024m : h / 1024 % 2 = 1 := by omega
  go_enter Tryd.func43, Tryd.ntmps43
  go_wp2_with (first
    | (go_at_call 46; refine (imm_c _ _ _ _ _).mono ?_; rintro e w' ⟨rfl, rfl⟩)
    | (go_at_call 72; refine (reg_c _ _ _ _ _).mono ?_; rintro e w' ⟨rfl, rfl⟩)
    | (go_at_call 71; refine (with_c _ _ _ _ _ _ _ _ _ _ _).mono ?_; rintro e w' ⟨rfl, rfl⟩))
  refine bodyPost_ret (v := .agg #[.int .i64 5, .int .i64 0, .int .i64 (h % 8), .int .i64 (h / 8 % 8), .int .i64 0, .int .i64 (h / 64 % 8), .int .i64 1, .int .i64 0, .bool s]) (by simp [results, Tryd.f43, go_sem]) rfl ⟨rfl, ?_⟩
  first | exact below_1 _ _ | exact below_2 _ _ _ | exact below_3 _ _ _ _ | exact below_4 _ _ _ _ _ | exact below_5 _ _ _ _ _ _ | exact below_d (below_1 _ _) | exact below_d (below_2 _ _ _) | exact below_d (below_3 _ _ _ _)
theorem low_7680 (h : Int) (s it : Bool) (h0 : 7680 ≤ h) (h1 : h < 8192) (w : World) : Calls Tryd.prog 43 #[.int .i64 h, .bool s, .bool it] w fun e w' => e = .returned (.agg #[.int .i64 7, .int .i64 0, .int .i64 (h % 8), .int .i64 (h / 8 % 8), .int .i64 0, .int .i64 (h / 64 % 8), .int .i64 1, .int .i64 0, .bool s]) ∧ Below w.heap.size w w' := by
  have A1 : ∀ x : Int, bits .and .i64 x 1 = x % 2 := Cm.and1
  have A7 : ∀ x : Int, bits .and .i64 x 7 = x % 8 := Cm.and7
  have A31 : ∀ x : Int, bits .and .i64 x 31 = x % 32 := Cm.and31
  have A255 : ∀ x : Int, bits .and .i64 x 255 = x % 256 := Cm.and255
  have e2048 : h / 2048 = 3 := by omega
  have e512m : h / 512 % 2 = 1 := by omega
  have e1024m : h / 1024 % 2 = 1 := by omega
  go_enter Tryd.func43, Tryd.ntmps43
  go_wp2_with (first
    | (go_at_call 46; refine (imm_c _ _ _ _ _).mono ?_; rintro e w' ⟨rfl, rfl⟩)
    | (go_at_call 72; refine (reg_c _ _ _ _ _).mono ?_; rintro e w' ⟨rfl, rfl⟩)
    | (go_at_call 71; refine (with_c _ _ _ _ _ _ _ _ _ _ _).mono ?_; rintro e w' ⟨rfl, rfl⟩))
  refine bodyPost_ret (v := .agg #[.int .i64 7, .int .i64 0, .int .i64 (h % 8), .int .i64 (h / 8 % 8), .int .i64 0, .int .i64 (h / 64 % 8), .int .i64 1, .int .i64 0, .bool s]) (by simp [results, Tryd.f43, go_sem]) rfl ⟨rfl, ?_⟩
  first | exact below_1 _ _ | exact below_2 _ _ _ | exact below_3 _ _ _ _ | exact below_4 _ _ _ _ _ | exact below_5 _ _ _ _ _ _ | exact below_d (below_1 _ _) | exact below_d (below_2 _ _ _) | exact below_d (below_3 _ _ _ _)
theorem low_8192 (h : Int) (s it : Bool) (h0 : 8192 ≤ h) (h1 : h < 10240) (w : World) : Calls Tryd.prog 43 #[.int .i64 h, .bool s, .bool it] w fun e w' => e = .returned (.agg #[.int .i64 10, .int .i64 0, .int .i64 (h / 256 % 8), .int .i64 0, .int .i64 0, .int .i64 (h % 256), .int .i64 1, .int .i64 0, .bool s]) ∧ Below w.heap.size w w' := by
  have A1 : ∀ x : Int, bits .and .i64 x 1 = x % 2 := Cm.and1
  have A7 : ∀ x : Int, bits .and .i64 x 7 = x % 8 := Cm.and7
  have A31 : ∀ x : Int, bits .and .i64 x 31 = x % 32 := Cm.and31
  have A255 : ∀ x : Int, bits .and .i64 x 255 = x % 256 := Cm.and255
  have e2048 : h / 2048 = 4 := by omega
  go_enter Tryd.func43, Tryd.ntmps43
  go_wp2_with (first
    | (go_at_call 46; refine (imm_c _ _ _ _ _).mono ?_; rintro e w' ⟨rfl, rfl⟩)
    | (go_at_call 72; refine (reg_c _ _ _ _ _).mono ?_; rintro e w' ⟨rfl, rfl⟩)
    | (go_at_call 71; refine (with_c _ _ _ _ _ _ _ _ _ _ _).mono ?_; rintro e w' ⟨rfl, rfl⟩))
  refine bodyPost_ret (v := .agg #[.int .i64 10, .int .i64 0, .int .i64 (h / 256 % 8), .int .i64 0, .int .i64 0, .int .i64 (h % 256), .int .i64 1, .int .i64 0, .bool s]) (by simp [results, Tryd.f43, go_sem]) rfl ⟨rfl, ?_⟩
  first | exact below_1 _ _ | exact below_2 _ _ _ | exact below_3 _ _ _ _ | exact below_4 _ _ _ _ _ | exact below_5 _ _ _ _ _ _ | exact below_d (below_1 _ _) | exact below_d (below_2 _ _ _) | exact below_d (below_3 _ _ _ _)
theorem low_10240 (h : Int) (s it : Bool) (h0 : 10240 ≤ h) (h1 : h < 12288) (w : World) : Calls Tryd.prog 43 #[.int .i64 h, .bool s, .bool it] w fun e w' => e = .returned (.agg #[.int .i64 12, .int .i64 0, .int .i64 0, .int .i64 (h / 256 % 8), .int .i64 0, .int .i64 (h % 256), .int .i64 1, .int .i64 0, .bool false]) ∧ Below w.heap.size w w' := by
  have A1 : ∀ x : Int, bits .and .i64 x 1 = x % 2 := Cm.and1
  have A7 : ∀ x : Int, bits .and .i64 x 7 = x % 8 := Cm.and7
  have A31 : ∀ x : Int, bits .and .i64 x 31 = x % 32 := Cm.and31
  have A255 : ∀ x : Int, bits .and .i64 x 255 = x % 256 := Cm.and255
  have e2048 : h / 2048 = 5 := by omega
  go_enter Tryd.func43, Tryd.ntmps43
  go_wp2_with (first
    | (go_at_call 46; refine (imm_c _ _ _ _ _).mono ?_; rintro e w' ⟨rfl, rfl⟩)
    | (go_at_call 72; refine (reg_c _ _ _ _ _).mono ?_; rintro e w' ⟨rfl, rfl⟩)
    | (go_at_call 71; refine (with_c _ _ _ _ _ _ _ _ _ _ _).mono ?_; rintro e w' ⟨rfl, rfl⟩))
  refine bodyPost_ret (v := .agg #[.int .i64 12, .int .i64 0, .int .i64 0, .int .i64 (h / 256 % 8), .int .i64 0, .int .i64 (h % 256), .int .i64 1, .int .i64 0, .bool false]) (by simp [results, Tryd.f43, go_sem]) rfl ⟨rfl, ?_⟩
  first | exact below_1 _ _ | exact below_2 _ _ _ | exact below_3 _ _ _ _ | exact below_4 _ _ _ _ _ | exact below_5 _ _ _ _ _ _ | exact below_d (below_1 _ _) | exact below_d (below_2 _ _ _) | exact below_d (below_3 _ _ _ _)
theorem low_12288 (h : Int) (s it : Bool) (h0 : 12288 ≤ h) (h1 : h < 14336) (w : World) : Calls Tryd.prog 43 #[.int .i64 h, .bool s, .bool it] w fun e w' => e = .returned (.agg #[.int .i64 5, .int .i64 0, .int .i64 (h / 256 % 8), .int .i64 (h / 256 % 8), .int .i64 0, .int .i64 (h % 256), .int .i64 1, .int .i64 0, .bool s]) ∧ Below w.heap.size w w' := by
  have A1 : ∀ x : Int, bits .and .i64 x 1 = x % 2 := Cm.and1
  have A7 : ∀ x : Int, bits .and .i64 x 7 = x % 8 := Cm.and7
  have A31 : ∀ x : Int, bits .and .i64 x 31 = x % 32 := Cm.and31
  have A255 : ∀ x : Int, bits .and .i64 x 255 = x % 256 := Cm.and255
  have e2048 : h / 2048 = 6 := by omega
  go_enter Tryd.func43, Tryd.ntmps43
  go_wp2_with (first
    | (go_at_call 46; refine (imm_c _ _ _ _ _).mono ?_; rintro e w' ⟨rfl, rfl⟩)
    | (go_at_call 72; refine (reg_c _ _ _ _ _).mono ?_; rintro e w' ⟨rfl, rfl⟩)
    | (go_at_call 71; refine (with_c _ _ _ _ _ _ _ _ _ _ _).mono ?_; rintro e w' ⟨rfl, rfl⟩))
  refine bodyPost_ret (v := .agg #[.int .i64 5, .int .i64 0, .int .i64 (h / 256 % 8), .int .i64 (h / 256 % 8), .int .i64 0, .int .i64 (h % 256), .int .i64 1, .int .i64 0, .bool s]) (by simp [results, Tryd.f43, go_sem]) rfl ⟨rfl, ?_⟩
  first | exact below_1 _ _ | exact below_2 _ _ _ | exact below_3 _ _ _ _ | exact below_4 _ _ _ _ _ | exact below_5 _ _ _ _ _ _ | exact below_d (below_1 _ _) | exact below_d (below_2 _ _ _) | exact below_d (below_3 _ _ _ _)
theorem low_14336 (h : Int) (s it : Bool) (h0 : 14336 ≤ h) (h1 : h < 16384) (w : World) : Calls Tryd.prog 43 #[.int .i64 h, .bool s, .bool it] w fun e w' => e = .returned (.agg #[.int .i64 7, .int .i64 0, .int .i64 (h / 256 % 8), .int .i64 (h / 256 % 8), .int .i64 0, .int .i64 (h % 256), .int .i64 1, .int .i64 0, .bool s]) ∧ Below w.heap.size w w' := by
  have A1 : ∀ x : Int, bits .and .i64 x 1 = x % 2 := Cm.and1
  have A7 : ∀ x : Int, bits .and .i64 x 7 = x % 8 := Cm.and7
  have A31 : ∀ x : Int, bits .and .i64 x 31 = x % 32 := Cm.and31
  have A255 : ∀ x : Int, bits .and .i64 x 255 = x % 256 := Cm.and255
  have e2048 : h / 2048 = 7 := by omega
  go_enter Tryd.func43, Tryd.ntmps43
  go_wp2_with (first
    | (go_at_call 46; refine (imm_c _ _ _ _ _).mono ?_; rintro e w' ⟨rfl, rfl⟩)
    | (go_at_call 72; refine (reg_c _ _ _ _ _).mono ?_; rintro e w' ⟨rfl, rfl⟩)
    | (go_at_call 71; refine (with_c _ _ _ _ _ _ _ _ _ _ _).mono ?_; rintro e w' ⟨rfl, rfl⟩))
  refine bodyPost_ret (v := .agg #[.int .i64 7, .int .i64 0, .int .i64 (h / 256 % 8), .int .i64 (h / 256 % 8), .int .i64 0, .int .i64 (h % 256), .int .i64 1, .int .i64 0, .bool s]) (by simp [results, Tryd.f43, go_sem]) rfl ⟨rfl, ?_⟩
  first | exact below_1 _ _ | exact below_2 _ _ _ | exact below_3 _ _ _ _ | exact below_4 _ _ _ _ _ | exact below_5 _ _ _ _ _ _ | exact below_d (below_1 _ _) | exact below_d (below_2 _ _ _) | exact below_d (below_3 _ _ _ _)
end Rd
end Go.Proofs.YtcphhojdfpedkaaDoor

namespace Go.Proofs.YtcphhojdfpedkaaDoor
open Go.ChangeShapes Go.WideShapes Go.ChangeAt Go.RowKit
namespace Rd
theorem two_16384 (h : Int) (s it : Bool) (h0 : 16384 ≤ h) (h1 : h < 16448) (w : World) : Calls Tryd.prog 44 #[.int .i64 h, .bool s, .bool it] w fun e w' => e = .returned (.agg #[.int .i64 1, .int .i64 0, .int .i64 (h % 8), .int .i64 (h % 8), .int .i64 (h / 8 % 8), .int .i64 0, .int .i64 2, .int .i64 0, .bool s]) ∧ Below w.heap.size w w' := by
  have A7 : ∀ x : Int, bits .and .i64 x 7 = x % 8 := Cm.and7
  have A15 : ∀ x : Int, bits .and .i64 x 15 = x % 16 := Cm.and15
  have e64m : h / 64 % 16 = 0 := by omega
  go_enter Tryd.func44, Tryd.ntmps44
  go_wp2_with (first
    | (go_at_call 46; refine (imm_c _ _ _ _ _).mono ?_; rintro e w' ⟨rfl, rfl⟩)
    | (go_at_call 72; refine (reg_c _ _ _ _ _).mono ?_; rintro e w' ⟨rfl, rfl⟩)
    | (go_at_call 71; refine (with_c _ _ _ _ _ _ _ _ _ _ _).mono ?_; rintro e w' ⟨rfl, rfl⟩))
  refine bodyPost_ret (v := .agg #[.int .i64 1, .int .i64 0, .int .i64 (h % 8), .int .i64 (h % 8), .int .i64 (h / 8 % 8), .int .i64 0, .int .i64 2, .int .i64 0, .bool s]) (by simp [results, Tryd.f44, go_sem]) rfl ⟨rfl, ?_⟩
  first | exact below_1 _ _ | exact below_2 _ _ _ | exact below_3 _ _ _ _ | exact below_4 _ _ _ _ _ | exact below_5 _ _ _ _ _ _ | exact below_d (below_1 _ _) | exact below_d (below_2 _ _ _) | exact below_d (below_3 _ _ _ _)
theorem two_16448 (h : Int) (s it : Bool) (h0 : 16448 ≤ h) (h1 : h < 16512) (w : World) : Calls Tryd.prog 44 #[.int .i64 h, .bool s, .bool it] w fun e w' => e = .returned (.agg #[.int .i64 2, .int .i64 0, .int .i64 (h % 8), .int .i64 (h % 8), .int .i64 (h / 8 % 8), .int .i64 0, .int .i64 2, .int .i64 0, .bool s]) ∧ Below w.heap.size w w' := by
  have A7 : ∀ x : Int, bits .and .i64 x 7 = x % 8 := Cm.and7
  have A15 : ∀ x : Int, bits .and .i64 x 15 = x % 16 := Cm.and15
  have e64m : h / 64 % 16 = 1 := by omega
  go_enter Tryd.func44, Tryd.ntmps44
  go_wp2_with (first
    | (go_at_call 46; refine (imm_c _ _ _ _ _).mono ?_; rintro e w' ⟨rfl, rfl⟩)
    | (go_at_call 72; refine (reg_c _ _ _ _ _).mono ?_; rintro e w' ⟨rfl, rfl⟩)
    | (go_at_call 71; refine (with_c _ _ _ _ _ _ _ _ _ _ _).mono ?_; rintro e w' ⟨rfl, rfl⟩))
  refine bodyPost_ret (v := .agg #[.int .i64 2, .int .i64 0, .int .i64 (h % 8), .int .i64 (h % 8), .int .i64 (h / 8 % 8), .int .i64 0, .int .i64 2, .int .i64 0, .bool s]) (by simp [results, Tryd.f44, go_sem]) rfl ⟨rfl, ?_⟩
  first | exact below_1 _ _ | exact below_2 _ _ _ | exact below_3 _ _ _ _ | exact below_4 _ _ _ _ _ | exact below_5 _ _ _ _ _ _ | exact below_d (below_1 _ _) | exact below_d (below_2 _ _ _) | exact below_d (below_3 _ _ _ _)
theorem two_16512 (h : Int) (s it : Bool) (h0 : 16512 ≤ h) (h1 : h < 16576) (w : World) : Calls Tryd.prog 44 #[.int .i64 h, .bool s, .bool it] w fun e w' => e = .returned (.agg #[.int .i64 16, .int .i64 0, .int .i64 (h % 8), .int .i64 (h % 8), .int .i64 (h / 8 % 8), .int .i64 0, .int .i64 2, .int .i64 0, .bool s]) ∧ Below w.heap.size w w' := by
  have A7 : ∀ x : Int, bits .and .i64 x 7 = x % 8 := Cm.and7
  have A15 : ∀ x : Int, bits .and .i64 x 15 = x % 16 := Cm.and15
  have e64m : h / 64 % 16 = 2 := by omega
  go_enter Tryd.func44, Tryd.ntmps44
  go_wp2_with (first
    | (go_at_call 46; refine (imm_c _ _ _ _ _).mono ?_; rintro e w' ⟨rfl, rfl⟩)
    | (go_at_call 72; refine (reg_c _ _ _ _ _).mono ?_; rintro e w' ⟨rfl, rfl⟩)
    | (go_at_call 71; refine (with_c _ _ _ _ _ _ _ _ _ _ _).mono ?_; rintro e w' ⟨rfl, rfl⟩))
  refine bodyPost_ret (v := .agg #[.int .i64 16, .int .i64 0, .int .i64 (h % 8), .int .i64 (h % 8), .int .i64 (h / 8 % 8), .int .i64 0, .int .i64 2, .int .i64 0, .bool s]) (by simp [results, Tryd.f44, go_sem]) rfl ⟨rfl, ?_⟩
  first | exact below_1 _ _ | exact below_2 _ _ _ | exact below_3 _ _ _ _ | exact below_4 _ _ _ _ _ | exact below_5 _ _ _ _ _ _ | exact below_d (below_1 _ _) | exact below_d (below_2 _ _ _) | exact below_d (below_3 _ _ _ _)
theorem two_16576 (h : Int) (s it : Bool) (h0 : 16576 ≤ h) (h1 : h < 16640) (w : World) : Calls Tryd.prog 44 #[.int .i64 h, .bool s, .bool it] w fun e w' => e = .returned (.agg #[.int .i64 17, .int .i64 0, .int .i64 (h % 8), .int .i64 (h % 8), .int .i64 (h / 8 % 8), .int .i64 0, .int .i64 2, .int .i64 0, .bool s]) ∧ Below w.heap.size w w' := by
  have A7 : ∀ x : Int, bits .and .i64 x 7 = x % 8 := Cm.and7
  have A15 : ∀ x : Int, bits .and .i64 x 15 = x % 16 := Cm.and15
  have e64m : h / 64 % 16 = 3 := by omega
  go_enter Tryd.func44, Tryd.ntmps44
  go_wp2_with (first
    | (go_at_call 46; refine (imm_c _ _ _ _ _).mono ?_; rintro e w' ⟨rfl, rfl⟩)
    | (go_at_call 72; refine (reg_c _ _ _ _ _).mono ?_; rintro e w' ⟨rfl, rfl⟩)
    | (go_at_call 71; refine (with_c _ _ _ _ _ _ _ _ _ _ _).mono ?_; rintro e w' ⟨rfl, rfl⟩))
  refine bodyPost_ret (v := .agg #[.int .i64 17, .int .i64 0, .int .i64 (h % 8), .int .i64 (h % 8), .int .i64 (h / 8 % 8), .int .i64 0, .int .i64 2, .int .i64 0, .bool s]) (by simp [results, Tryd.f44, go_sem]) rfl ⟨rfl, ?_⟩
  first | exact below_1 _ _ | exact below_2 _ _ _ | exact below_3 _ _ _ _ | exact below_4 _ _ _ _ _ | exact below_5 _ _ _ _ _ _ | exact below_d (below_1 _ _) | exact below_d (below_2 _ _ _) | exact below_d (below_3 _ _ _ _)
theorem two_16640 (h : Int) (s it : Bool) (h0 : 16640 ≤ h) (h1 : h < 16704) (w : World) : Calls Tryd.prog 44 #[.int .i64 h, .bool s, .bool it] w fun e w' => e = .returned (.agg #[.int .i64 18, .int .i64 0, .int .i64 (h % 8), .int .i64 (h % 8), .int .i64 (h / 8 % 8), .int .i64 0, .int .i64 2, .int .i64 0, .bool s]) ∧ Below w.heap.size w w' := by
  have A7 : ∀ x : Int, bits .and .i64 x 7 = x % 8 := Cm.and7
  have A15 : ∀ x : Int, bits .and .i64 x 15 = x % 16 := Cm.and15
  have e64m : h / 64 % 16 = 4 := by omega
  go_enter Tryd.func44, Tryd.ntmps44
  go_wp2_with (first
    | (go_at_call 46; refine (imm_c _ _ _ _ _).mono ?_; rintro e w' ⟨rfl, rfl⟩)
    | (go_at_call 72; refine (reg_c _ _ _ _ _).mono ?_; rintro e w' ⟨rfl, rfl⟩)
    | (go_at_call 71; refine (with_c _ _ _ _ _ _ _ _ _ _ _).mono ?_; rintro e w' ⟨rfl, rfl⟩))
  refine bodyPost_ret (v := .agg #[.int .i64 18, .int .i64 0, .int .i64 (h % 8), .int .i64 (h % 8), .int .i64 (h / 8 % 8), .int .i64 0, .int .i64 2, .int .i64 0, .bool s]) (by simp [results, Tryd.f44, go_sem]) rfl ⟨rfl, ?_⟩
  first | exact below_1 _ _ | exact below_2 _ _ _ | exact below_3 _ _ _ _ | exact below_4 _ _ _ _ _ | exact below_5 _ _ _ _ _ _ | exact below_d (below_1 _ _) | exact below_d (below_2 _ _ _) | exact below_d (below_3 _ _ _ _)
theorem two_16704 (h : Int) (s it : Bool) (h0 : 16704 ≤ h) (h1 : h < 16768) (w : World) : Calls Tryd.prog 44 #[.int .i64 h, .bool s, .bool it] w fun e w' => e = .returned (.agg #[.int .i64 6, .int .i64 0, .int .i64 (h % 8), .int .i64 (h % 8), .int .i64 (h / 8 % 8), .int .i64 0, .int .i64 2, .int .i64 0, .bool s]) ∧ Below w.heap.size w w' := by
  have A7 : ∀ x : Int, bits .and .i64 x 7 = x % 8 := Cm.and7
  have A15 : ∀ x : Int, bits .and .i64 x 15 = x % 16 := Cm.and15
  have e64m : h / 64 % 16 = 5 := by omega
  go_enter Tryd.func44, Tryd.ntmps44
  go_wp2_with (first
    | (go_at_call 46; refine (imm_c _ _ _ _ _).mono ?_; rintro e w' ⟨rfl, rfl⟩)
    | (go_at_call 72; refine (reg_c _ _ _ _ _).mono ?_; rintro e w' ⟨rfl, rfl⟩)
    | (go_at_call 71; refine (with_c _ _ _ _ _ _ _ _ _ _ _).mono ?_; rintro e w' ⟨rfl, rfl⟩))
  refine bodyPost_ret (v := .agg #[.int .i64 6, .int .i64 0, .int .i64 (h % 8), .int .i64 (h % 8), .int .i64 (h / 8 % 8), .int .i64 0, .int .i64 2, .int .i64 0, .bool s]) (by simp [results, Tryd.f44, go_sem]) rfl ⟨rfl, ?_⟩
  first | exact below_1 _ _ | exact below_2 _ _ _ | exact below_3 _ _ _ _ | exact below_4 _ _ _ _ _ | exact below_5 _ _ _ _ _ _ | exact below_d (below_1 _ _) | exact below_d (below_2 _ _ _) | exact below_d (below_3 _ _ _ _)
theorem two_16768 (h : Int) (s it : Bool) (h0 : 16768 ≤ h) (h1 : h < 16832) (w : World) : Calls Tryd.prog 44 #[.int .i64 h, .bool s, .bool it] w fun e w' => e = .returned (.agg #[.int .i64 8, .int .i64 0, .int .i64 (h % 8), .int .i64 (h % 8), .int .i64 (h / 8 % 8), .int .i64 0, .int .i64 2, .int .i64 0, .bool s]) ∧ Below w.heap.size w w' := by
  have A7 : ∀ x : Int, bits .and .i64 x 7 = x % 8 := Cm.and7
  have A15 : ∀ x : Int, bits .and .i64 x 15 = x % 16 := Cm.and15
  have e64m : h / 64 % 16 = 6 := by omega
  go_enter Tryd.func44, Tryd.ntmps44
  go_wp2_with (first
    | (go_at_call 46; refine (imm_c _ _ _ _ _).mono ?_; rintro e w' ⟨rfl, rfl⟩)
    | (go_at_call 72; refine (reg_c _ _ _ _ _).mono ?_; rintro e w' ⟨rfl, rfl⟩)
    | (go_at_call 71; refine (with_c _ _ _ _ _ _ _ _ _ _ _).mono ?_; rintro e w' ⟨rfl, rfl⟩))
  refine bodyPost_ret (v := .agg #[.int .i64 8, .int .i64 0, .int .i64 (h % 8), .int .i64 (h % 8), .int .i64 (h / 8 % 8), .int .i64 0, .int .i64 2, .int .i64 0, .bool s]) (by simp [results, Tryd.f44, go_sem]) rfl ⟨rfl, ?_⟩
  first | exact below_1 _ _ | exact below_2 _ _ _ | exact below_3 _ _ _ _ | exact below_4 _ _ _ _ _ | exact below_5 _ _ _ _ _ _ | exact below_d (below_1 _ _) | exact below_d (below_2 _ _ _) | exact below_d (below_3 _ _ _ _)
theorem two_16832 (h : Int) (s it : Bool) (h0 : 16832 ≤ h) (h1 : h < 16896) (w : World) : Calls Tryd.prog 44 #[.int .i64 h, .bool s, .bool it] w fun e w' => e = .returned (.agg #[.int .i64 19, .int .i64 0, .int .i64 (h % 8), .int .i64 (h % 8), .int .i64 (h / 8 % 8), .int .i64 0, .int .i64 2, .int .i64 0, .bool s]) ∧ Below w.heap.size w w' := by
  have A7 : ∀ x : Int, bits .and .i64 x 7 = x % 8 := Cm.and7
  have A15 : ∀ x : Int, bits .and .i64 x 15 = x % 16 := Cm.and15
  have e64m : h / 64 % 16 = 7 := by omega
  go_enter Tryd.func44, Tryd.ntmps44
  go_wp2_with (first
    | (go_at_call 46; refine (imm_c _ _ _ _ _).mono ?_; rintro e w' ⟨rfl, rfl⟩)
    | (go_at_call 72; refine (reg_c _ _ _ _ _).mono ?_; rintro e w' ⟨rfl, rfl⟩)
    | (go_at_call 71; refine (with_c _ _ _ _ _ _ _ _ _ _ _).mono ?_; rintro e w' ⟨rfl, rfl⟩))
  refine bodyPost_ret (v := .agg #[.int .i64 19, .int .i64 0, .int .i64 (h % 8), .int .i64 (h % 8), .int .i64 (h / 8 % 8), .int .i64 0, .int .i64 2, .int .i64 0, .bool s]) (by simp [results, Tryd.f44, go_sem]) rfl ⟨rfl, ?_⟩
  first | exact below_1 _ _ | exact below_2 _ _ _ | exact below_3 _ _ _ _ | exact below_4 _ _ _ _ _ | exact below_5 _ _ _ _ _ _ | exact below_d (below_1 _ _) | exact below_d (below_2 _ _ _) | exact below_d (below_3 _ _ _ _)
theorem two_16896 (h : Int) (s it : Bool) (h0 : 16896 ≤ h) (h1 : h < 16960) (w : World) : Calls Tryd.prog 44 #[.int .i64 h, .bool s, .bool it] w fun e w' => e = .returned (.agg #[.int .i64 14, .int .i64 0, .int .i64 0, .int .i64 (h % 8), .int .i64 (h / 8 % 8), .int .i64 0, .int .i64 2, .int .i64 0, .bool false]) ∧ Below w.heap.size w w' := by
  have A7 : ∀ x : Int, bits .and .i64 x 7 = x % 8 := Cm.and7
  have A15 : ∀ x : Int, bits .and .i64 x 15 = x % 16 := Cm.and15
  have e64m : h / 64 % 16 = 8 := by omega
  go_enter Tryd.func44, Tryd.ntmps44
  go_wp2_with (first
    | (go_at_call 46; refine (imm_c _ _ _ _ _).mono ?_; rintro e w' ⟨rfl, rfl⟩)
    | (go_at_call 72; refine (reg_c _ _ _ _ _).mono ?_; rintro e w' ⟨rfl, rfl⟩)
    | (go_at_call 71; refine (with_c _ _ _ _ _ _ _ _ _ _ _).mono ?_; rintro e w' ⟨rfl, rfl⟩))
  refine bodyPost_ret (v := .agg #[.int .i64 14, .int .i64 0, .int .i64 0, .int .i64 (h % 8), .int .i64 (h / 8 % 8), .int .i64 0, .int .i64 2, .int .i64 0, .bool false]) (by simp [results, Tryd.f44, go_sem]) rfl ⟨rfl, ?_⟩
  first | exact below_1 _ _ | exact below_2 _ _ _ | exact below_3 _ _ _ _ | exact below_4 _ _ _ _ _ | exact below_5 _ _ _ _ _ _ | exact below_d (below_1 _ _) | exact below_d (below_2 _ _ _) | exact below_d (below_3 _ _ _ _)
theorem two_16960 (h : Int) (s it : Bool) (h0 : 16960 ≤ h) (h1 : h < 17024) (w : World) : Calls Tryd.prog 44 #[.int .i64 h, .bool s, .bool it] w fun e w' => e = .returned (.agg #[.int .i64 9, .int .i64 0, .int .i64 (h % 8), .int .i64 (h / 8 % 8), .int .i64 0, .int .i64 0, .int .i64 1, .int .i64 0, .bool s]) ∧ Below w.heap.size w w' := by
  have A7 : ∀ x : Int, bits .and .i64 x 7 = x % 8 := Cm.and7
  have A15 : ∀ x : Int, bits .and .i64 x 15 = x % 16 := Cm.and15
  have e64m : h / 64 % 16 = 9 := by omega
  go_enter Tryd.func44, Tryd.ntmps44
  go_wp2_with (first
    | (go_at_call 46; refine (imm_c _ _ _ _ _).mono ?_; rintro e w' ⟨rfl, rfl⟩)
    | (go_at_call 72; refine (reg_c _ _ _ _ _).mono ?_; rintro e w' ⟨rfl, rfl⟩)
    | (go_at_call 71; refine (with_c _ _ _ _ _ _ _ _ _ _ _).mono ?_; rintro e w' ⟨rfl, rfl⟩))
  refine bodyPost_ret (v := .agg #[.int .i64 9, .int .i64 0, .int .i64 (h % 8), .int .i64 (h / 8 % 8), .int .i64 0, .int .i64 0, .int .i64 1, .int .i64 0, .bool s]) (by simp [results, Tryd.f44, go_sem]) rfl ⟨rfl, ?_⟩
  first | exact below_1 _ _ | exact below_2 _ _ _ | exact below_3 _ _ _ _ | exact below_4 _ _ _ _ _ | exact below_5 _ _ _ _ _ _ | exact below_d (below_1 _ _) | exact below_d (below_2 _ _ _) | exact below_d (below_3 _ _ _ _)
theorem two_17024 (h : Int) (s it : Bool) (h0 : 17024 ≤ h) (h1 : h < 17088) (w : World) : Calls Tryd.prog 44 #[.int .i64 h, .bool s, .bool it] w fun e w' => e = .returned (.agg #[.int .i64 12, .int .i64 0, .int .i64 0, .int .i64 (h % 8), .int .i64 (h / 8 % 8), .int .i64 0, .int .i64 2, .int .i64 0, .bool false]) ∧ Below w.heap.size w w' := by
  have A7 : ∀ x : Int, bits .and .i64 x 7 = x % 8 := Cm.and7
  have A15 : ∀ x : Int, bits .and .i64 x 15 = x % 16 := Cm.and15
  have e64m : h / 64 % 16 = 10 := by omega
  go_enter Tryd.func44, Tryd.ntmps44
  go_wp2_with (first
    | (go_at_call 46; refine (imm_c _ _ _ _ _).mono ?_; rintro e w' ⟨rfl, rfl⟩)
    | (go_at_call 72; refine (reg_c _ _ _ _ _).mono ?_; rintro e w' ⟨rfl, rfl⟩)
    | (go_at_call 71; refine (with_c _ _ _ _ _ _ _ _ _ _ _).mono ?_; rintro e w' ⟨rfl, rfl⟩))
  refine bodyPost_ret (v := .agg #[.int .i64 12, .int .i64 0, .int .i64 0, .int .i64 (h % 8), .int .i64 (h / 8 % 8), .int .i64 0, .int .i64 2, .int .i64 0, .bool false]) (by simp [results, Tryd.f44, go_sem]) rfl ⟨rfl, ?_⟩
  first | exact below_1 _ _ | exact below_2 _ _ _ | exact below_3 _ _ _ _ | exact below_4 _ _ _ _ _ | exact below_5 _ _ _ _ _ _ | exact below_d (below_1 _ _) | exact below_d (below_2 _ _ _) | exact below_d (below_3 _ _ _ _)
theorem two_17088 (h : Int) (s it : Bool) (h0 : 17088 ≤ h) (h1 : h < 17152) (w : World) : Calls Tryd.prog 44 #[.int .i64 h, .bool s, .bool it] w fun e w' => e = .returned (.agg #[.int .i64 13, .int .i64 0, .int .i64 0, .int .i64 (h % 8), .int .i64 (h / 8 % 8), .int .i64 0, .int .i64 2, .int .i64 0, .bool false]) ∧ Below w.heap.size w w' := by
  have A7 : ∀ x : Int, bits .and .i64 x 7 = x % 8 := Cm.and7
  have A15 : ∀ x : Int, bits .and .i64 x 15 = x % 16 := Cm.and15
  have e64m : h / 64 % 16 = 11 := by omega
  go_enter Tryd.func44, Tryd.ntmps44
  go_wp2_with (first
    | (go_at_call 46; refine (imm_c _ _ _ _ _).mono ?_; rintro e w' ⟨rfl, rfl⟩)
    | (go_at_call 72; refine (reg_c _ _ _ _ _).mono ?_; rintro e w' ⟨rfl, rfl⟩)
    | (go_at_call 71; refine (with_c _ _ _ _ _ _ _ _ _ _ _).mono ?_; rintro e w' ⟨rfl, rfl⟩))
  refine bodyPost_ret (v := .agg #[.int .i64 13, .int .i64 0, .int .i64 0, .int .i64 (h % 8), .int .i64 (h / 8 % 8), .int .i64 0, .int .i64 2, .int .i64 0, .bool false]) (by simp [results, Tryd.f44, go_sem]) rfl ⟨rfl, ?_⟩
  first | exact below_1 _ _ | exact below_2 _ _ _ | exact below_3 _ _ _ _ | exact below_4 _ _ _ _ _ | exact below_5 _ _ _ _ _ _ | exact below_d (below_1 _ _) | exact below_d (below_2 _ _ _) | exact below_d (below_3 _ _ _ _)
theorem two_17152 (h : Int) (s it : Bool) (h0 : 17152 ≤ h) (h1 : h < 17216) (w : World) : Calls Tryd.prog 44 #[.int .i64 h, .bool s, .bool it] w fun e w' => e = .returned (.agg #[.int .i64 3, .int .i64 0, .int .i64 (h % 8), .int .i64 (h % 8), .int .i64 (h / 8 % 8), .int .i64 0, .int .i64 2, .int .i64 0, .bool s]) ∧ Below w.heap.size w w' := by
  have A7 : ∀ x : Int, bits .and .i64 x 7 = x % 8 := Cm.and7
  have A15 : ∀ x : Int, bits .and .i64 x 15 = x % 16 := Cm.and15
  have e64m : h / 64 % 16 = 12 := by omega
  go_enter Tryd.func44, Tryd.ntmps44
  go_wp2_with (first
    | (go_at_call 46; refine (imm_c _ _ _ _ _).mono ?_; rintro e w' ⟨rfl, rfl⟩)
    | (go_at_call 72; refine (reg_c _ _ _ _ _).mono ?_; rintro e w' ⟨rfl, rfl⟩)
    | (go_at_call 71; refine (with_c _ _ _ _ _ _ _ _ _ _ _).mono ?_; rintro e w' ⟨rfl, rfl⟩))
  refine bodyPost_ret (v := .agg #[.int .i64 3, .int .i64 0, .int .i64 (h % 8), .int .i64 (h % 8), .int .i64 (h / 8 % 8), .int .i64 0, .int .i64 2, .int .i64 0, .bool s]) (by simp [results, Tryd.f44, go_sem]) rfl ⟨rfl, ?_⟩
  first | exact below_1 _ _ | exact below_2 _ _ _ | exact below_3 _ _ _ _ | exact below_4 _ _ _ _ _ | exact below_5 _ _ _ _ _ _ | exact below_d (below_1 _ _) | exact below_d (below_2 _ _ _) | exact below_d (below_3 _ _ _ _)
theorem two_17216_t (h : Int) (s : Bool) (h0 : 17216 ≤ h) (h1 : h < 17280) (w : World) : Calls Tryd.prog 44 #[.int .i64 h, .bool s, .bool true] w fun e w' => e = .returned (.agg #[.int .i64 20, .int .i64 0, .int .i64 (h % 8), .int .i64 (h / 8 % 8), .int .i64 (h % 8), .int .i64 0, .int .i64 2, .int .i64 0, .bool false]) ∧ Below w.heap.size w w' := by
  have A7 : ∀ x : Int, bits .and .i64 x 7 = x % 8 := Cm.and7
  have A15 : ∀ x : Int, bits .and .i64 x 15 = x % 16 := Cm.and15
  have e64m : h / 64 % 16 = 13 := by omega
  go_enter Tryd.func44, Tryd.ntmps44
  go_wp2_with (first
    | (go_at_call 46; refine (imm_c _ _ _ _ _).mono ?_; rintro e w' ⟨rfl, rfl⟩)
    | (go_at_call 72; refine (reg_c _ _ _ _ _).mono ?_; rintro e w' ⟨rfl, rfl⟩)
    | (go_at_call 71; refine (with_c _ _ _ _ _ _ _ _ _ _ _).mono ?_; rintro e w' ⟨rfl, rfl⟩))
  refine bodyPost_ret (v := .agg #[.int .i64 20, .int .i64 0, .int .i64 (h % 8), .int .i64 (h / 8 % 8), .int .i64 (h % 8), .int .i64 0, .int .i64 2, .int .i64 0, .bool false]) (by simp [results, Tryd.f44, go_sem]) rfl ⟨rfl, ?_⟩
  first | exact below_1 _ _ | exact below_2 _ _ _ | exact below_3 _ _ _ _ | exact below_4 _ _ _ _ _ | exact below_5 _ _ _ _ _ _ | exact below_d (below_1 _ _) | exact below_d (below_2 _ _ _) | exact below_d (below_3 _ _ _ _)
theorem two_17216_f (h : Int) (s : Bool) (h0 : 17216 ≤ h) (h1 : h < 17280) (w : World) : Calls Tryd.prog 44 #[.int .i64 h, .bool s, .bool false] w fun e w' => e = .returned (.agg #[.int .i64 0, .int .i64 0, .int .i64 0, .int .i64 0, .int .i64 0, .int .i64 0, .int .i64 0, .int .i64 0, .bool false]) ∧ Below w.heap.size w w' := by
  have A7 : ∀ x : Int, bits .and .i64 x 7 = x % 8 := Cm.and7
  have A15 : ∀ x : Int, bits .and .i64 x 15 = x % 16 := Cm.and15
  have e64m : h / 64 % 16 = 13 := by omega
  go_enter Tryd.func44, Tryd.ntmps44
  go_wp2_with (first
    | (go_at_call 46; refine (imm_c _ _ _ _ _).mono ?_; rintro e w' ⟨rfl, rfl⟩)
    | (go_at_call 72; refine (reg_c _ _ _ _ _).mono ?_; rintro e w' ⟨rfl, rfl⟩)
    | (go_at_call 71; refine (with_c _ _ _ _ _ _ _ _ _ _ _).mono ?_; rintro e w' ⟨rfl, rfl⟩))
  refine bodyPost_ret (v := .agg #[.int .i64 0, .int .i64 0, .int .i64 0, .int .i64 0, .int .i64 0, .int .i64 0, .int .i64 0, .int .i64 0, .bool false]) (by simp [results, Tryd.f44, go_sem]) rfl ⟨rfl, ?_⟩
  first | exact below_1 _ _ | exact below_2 _ _ _ | exact below_3 _ _ _ _ | exact below_4 _ _ _ _ _ | exact below_5 _ _ _ _ _ _ | exact below_d (below_1 _ _) | exact below_d (below_2 _ _ _) | exact below_d (below_3 _ _ _ _)
theorem two_17280 (h : Int) (s it : Bool) (h0 : 17280 ≤ h) (h1 : h < 17344) (w : World) : Calls Tryd.prog 44 #[.int .i64 h, .bool s, .bool it] w fun e w' => e = .returned (.agg #[.int .i64 4, .int .i64 0, .int .i64 (h % 8), .int .i64 (h % 8), .int .i64 (h / 8 % 8), .int .i64 0, .int .i64 2, .int .i64 0, .bool s]) ∧ Below w.heap.size w w' := by
  have A7 : ∀ x : Int, bits .and .i64 x 7 = x % 8 := Cm.and7
  have A15 : ∀ x : Int, bits .and .i64 x 15 = x % 16 := Cm.and15
  have e64m : h / 64 % 16 = 14 := by omega
  go_enter Tryd.func44, Tryd.ntmps44
  go_wp2_with (first
    | (go_at_call 46; refine (imm_c _ _ _ _ _).mono ?_; rintro e w' ⟨rfl, rfl⟩)
    | (go_at_call 72; refine (reg_c _ _ _ _ _).mono ?_; rintro e w' ⟨rfl, rfl⟩)
    | (go_at_call 71; refine (with_c _ _ _ _ _ _ _ _ _ _ _).mono ?_; rintro e w' ⟨rfl, rfl⟩))
  refine bodyPost_ret (v := .agg #[.int .i64 4, .int .i64 0, .int .i64 (h % 8), .int .i64 (h % 8), .int .i64 (h / 8 % 8), .int .i64 0, .int .i64 2, .int .i64 0, .bool s]) (by simp [results, Tryd.f44, go_sem]) rfl ⟨rfl, ?_⟩
  first | exact below_1 _ _ | exact below_2 _ _ _ | exact below_3 _ _ _ _ | exact below_4 _ _ _ _ _ | exact below_5 _ _ _ _ _ _ | exact below_d (below_1 _ _) | exact below_d (below_2 _ _ _) | exact below_d (below_3 _ _ _ _)
theorem two_17344 (h : Int) (s it : Bool) (h0 : 17344 ≤ h) (h1 : h < 17408) (w : World) : Calls Tryd.prog 44 #[.int .i64 h, .bool s, .bool it] w fun e w' => e = .returned (.agg #[.int .i64 11, .int .i64 0, .int .i64 (h % 8), .int .i64 0, .int .i64 (h / 8 % 8), .int .i64 0, .int .i64 2, .int .i64 0, .bool s]) ∧ Below w.heap.size w w' := by
  have A7 : ∀ x : Int, bits .and .i64 x 7 = x % 8 := Cm.and7
  have A15 : ∀ x : Int, bits .and .i64 x 15 = x % 16 := Cm.and15
  have e64m : h / 64 % 16 = 15 := by omega
  go_enter Tryd.func44, Tryd.ntmps44
  go_wp2_with (first
    | (go_at_call 46; refine (imm_c _ _ _ _ _).mono ?_; rintro e w' ⟨rfl, rfl⟩)
    | (go_at_call 72; refine (reg_c _ _ _ _ _).mono ?_; rintro e w' ⟨rfl, rfl⟩)
    | (go_at_call 71; refine (with_c _ _ _ _ _ _ _ _ _ _ _).mono ?_; rintro e w' ⟨rfl, rfl⟩))
  refine bodyPost_ret (v := .agg #[.int .i64 11, .int .i64 0, .int .i64 (h % 8), .int .i64 0, .int .i64 (h / 8 % 8), .int .i64 0, .int .i64 2, .int .i64 0, .bool s]) (by simp [results, Tryd.f44, go_sem]) rfl ⟨rfl, ?_⟩
  first | exact below_1 _ _ | exact below_2 _ _ _ | exact below_3 _ _ _ _ | exact below_4 _ _ _ _ _ | exact below_5 _ _ _ _ _ _ | exact below_d (below_1 _ _) | exact below_d (below_2 _ _ _) | exact below_d (below_3 _ _ _ _)
end Rd
end Go.Proofs.YtcphhojdfpedkaaDoor
