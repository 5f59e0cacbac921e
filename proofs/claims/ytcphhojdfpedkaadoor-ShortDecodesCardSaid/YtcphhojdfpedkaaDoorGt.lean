/- The document reads a halfword from 45056 to 49151. No conditions but those that each fact names (text by gen_d.py). The document reads a halfword, whatever it begins with. No conditions but those that each fact names (text by gen_d.py). -/
import Derived.Test.YtcphhojdfpedkaaDoorGm

namespace Go.Proofs.YtcphhojdfpedkaaDoor
open Go.ChangeShapes Go.WideShapes Go.ChangeAt Go.RowKit
namespace Rd
theorem nat62720 (n : Nat) : n &&& 62720 = (n / 256 &&& 245) * 256 := by
  apply Nat.eq_of_testBit_eq
  intro i
  rw [show (62720 : Nat) = 245 * 2 ^ 8 by rfl, show (256 : Nat) = 2 ^ 8 by rfl]
  simp only [Nat.testBit_and, Nat.testBit_mul_two_pow, Nat.testBit_div_two_pow]
  by_cases h : 8 ≤ i
  · simp [h, show i - 8 + 8 = i by omega]
  · simp [h]
theorem all62720 : ((List.range 256).all fun n => ((n &&& 245) * 256 == 45312) == (n == 177 || n == 179 || n == 185 || n == 187)) = true := by decide +kernel
theorem and62720 (h : Int) (h0 : 0 ≤ h) (h1 : h < 65536) : (bits .and .i64 h 62720 == 45312) = (h / 256 == 177 || h / 256 == 179 || h / 256 == 185 || h / 256 == 187) := by
  obtain ⟨n, rfl⟩ : ∃ n : Nat, h = (n : Int) := ⟨h.toNat, by omega⟩
  have e := List.all_eq_true.1 all62720 (n / 256) (List.mem_range.2 (by omega))
  rw [show (62720 : Int) = ((62720 : Nat) : Int) by rfl, Cm.i64_and _ 62720 (by decide), show ((n : Int) % 18446744073709551616).toNat = n by omega, nat62720]
  generalize (n / 256 &&& 245) * 256 = z at *
  have cz : ((z : Int) == 45312) = (z == 45312) := by rw [Bool.eq_iff_iff]; simp; omega
  rw [cz, eq_of_beq e, Bool.eq_iff_iff]
  simp
  omega
theorem or_14 (h : Int) : bits .or .i64 (h % 256) (h / 256 % 2 * 16384) = h % 256 + h / 256 % 2 * 16384 := by
  obtain ⟨a, ea⟩ : ∃ n : Nat, h % 256 = (n : Int) := ⟨(h % 256).toNat, by omega⟩
  obtain ⟨b, eb⟩ : ∃ n : Nat, h / 256 % 2 * 16384 = (n : Int) := ⟨(h / 256 % 2 * 16384).toNat, by omega⟩
  have h1 := Cm.or_join (h / 256 % 2 * 16384) (h % 256) 14 (by decide) (by omega) (by omega) (by omega) (by omega) (by omega)
  rw [ea, eb] at h1 ⊢
  rw [Cm.i64_or_nat _ _ (by omega) (by omega)] at h1 ⊢
  rw [Nat.or_comm, h1]
  omega
theorem or_15 (h : Int) : bits .or .i64 (h % 256) (h / 256 % 2 * 32768) = h % 256 + h / 256 % 2 * 32768 := by
  obtain ⟨a, ea⟩ : ∃ n : Nat, h % 256 = (n : Int) := ⟨(h % 256).toNat, by omega⟩
  obtain ⟨b, eb⟩ : ∃ n : Nat, h / 256 % 2 * 32768 = (n : Int) := ⟨(h / 256 % 2 * 32768).toNat, by omega⟩
  have h1 := Cm.or_join (h / 256 % 2 * 32768) (h % 256) 15 (by decide) (by omega) (by omega) (by omega) (by omega) (by omega)
  rw [ea, eb] at h1 ⊢
  rw [Cm.i64_or_nat _ _ (by omega) (by omega)] at h1 ⊢
  rw [Nat.or_comm, h1]
  omega
theorem misc_45056 (h : Int) (it : Bool) (h0 : 45056 ≤ h) (h1 : h < 45312) (w : World) : Calls Tryd.prog 48 #[.int .i64 h, .bool it] w fun e w' => e = .returned (.agg #[.int .i64 0, .int .i64 0, .int .i64 0, .int .i64 0, .int .i64 0, .int .i64 0, .int .i64 0, .int .i64 0, .bool false]) ∧ Below w.heap.size w w' := by
  have A1 : ∀ x : Int, bits .and .i64 x 1 = x % 2 := Cm.and1
  have A7 : ∀ x : Int, bits .and .i64 x 7 = x % 8 := Cm.and7
  have A15 : ∀ x : Int, bits .and .i64 x 15 = x % 16 := Cm.and15
  have A255 : ∀ x : Int, bits .and .i64 x 255 = x % 256 := Cm.and255
  have e2048m : h / 2048 % 2 = 0 := by omega
  have gM : (bits .and .i64 h 62720 == 45312) = false := by
    rw [and62720 h (by omega) (by omega)]
    simp
    omega
  have ga : (h / 512 == 90) = false := by simp; omega
  have gb : (h / 512 == 94) = false := by simp; omega
  have gc : (h / 256 == 190) = false := by simp; omega
  have ge : (h / 256 == 191) = false := by simp; omega
  have gN : (h == 48896) = false := by simp; omega
  go_enter Tryd.func48, Tryd.ntmps48
  go_wp2
  refine bodyPost_ret (v := .agg #[.int .i64 0, .int .i64 0, .int .i64 0, .int .i64 0, .int .i64 0, .int .i64 0, .int .i64 0, .int .i64 0, .bool false]) (by simp [results, Tryd.f48, go_sem]) rfl ⟨rfl, ?_⟩
  first | exact below_1 _ _ | exact below_2 _ _ _ | exact below_3 _ _ _ _ | exact below_4 _ _ _ _ _ | exact below_5 _ _ _ _ _ _ | exact below_d (below_1 _ _) | exact below_d (below_2 _ _ _) | exact below_d (below_3 _ _ _ _)
theorem misc_45312_f (h : Int) (h0 : 45312 ≤ h) (h1 : h < 45568) (hG : ∀ W, Calls Tryd.prog 49 #[.int .i64 5, .int .i64 h, .int .i64 0] W fun e w' => e = .returned (.int .i64 (h / 512 % 2 * 64 + h / 8 % 32 * 2)) ∧ ∃ n, w' = W.drewN n) (w : World) : Calls Tryd.prog 48 #[.int .i64 h, .bool false] w fun e w' => e = .returned (.agg #[.int .i64 37, .int .i64 0, .int .i64 0, .int .i64 (h % 8), .int .i64 0, .int .i64 (h / 512 % 2 * 64 + h / 8 % 32 * 2), .int .i64 1, .int .i64 0, .bool false]) ∧ Below w.heap.size w w' := by
  have A1 : ∀ x : Int, bits .and .i64 x 1 = x % 2 := Cm.and1
  have A7 : ∀ x : Int, bits .and .i64 x 7 = x % 8 := Cm.and7
  have A15 : ∀ x : Int, bits .and .i64 x 15 = x % 16 := Cm.and15
  have A255 : ∀ x : Int, bits .and .i64 x 255 = x % 256 := Cm.and255
  have e2048m : h / 2048 % 2 = 0 := by omega
  have gM : (bits .and .i64 h 62720 == 45312) = true := by
    rw [and62720 h (by omega) (by omega)]
    simp
    omega
  have ga : (h / 512 == 90) = false := by simp; omega
  have gb : (h / 512 == 94) = false := by simp; omega
  have gc : (h / 256 == 190) = false := by simp; omega
  have ge : (h / 256 == 191) = false := by simp; omega
  have gN : (h == 48896) = false := by simp; omega
  obtain ⟨gg, eg⟩ : ∃ q, h / 512 % 2 * 64 + h / 8 % 32 * 2 = q := ⟨_, rfl⟩
  rw [eg] at hG ⊢
  have HG := Lib.hid hG
  clear hG eg
  go_enter Tryd.func48, Tryd.ntmps48
  go_wp2_with fail
  refine (HG.out _).mono ?_
  rintro e w' ⟨rfl, n1, rfl⟩
  go_wp2_with (first
    | (go_at_call 46; refine (imm_c _ _ _ _ _).mono ?_; rintro e w' ⟨rfl, rfl⟩)
    | (go_at_call 72; refine (reg_c _ _ _ _ _).mono ?_; rintro e w' ⟨rfl, rfl⟩)
    | (go_at_call 71; refine (with_c _ _ _ _ _ _ _ _ _ _ _).mono ?_; rintro e w' ⟨rfl, rfl⟩))
  refine bodyPost_ret (v := .agg #[.int .i64 37, .int .i64 0, .int .i64 0, .int .i64 (h % 8), .int .i64 0, .int .i64 gg, .int .i64 1, .int .i64 0, .bool false]) (by simp [results, Tryd.f48, go_sem]) rfl ⟨rfl, ?_⟩
  first | exact below_1 _ _ | exact below_2 _ _ _ | exact below_3 _ _ _ _ | exact below_4 _ _ _ _ _ | exact below_5 _ _ _ _ _ _ | exact below_d (below_1 _ _) | exact below_d (below_2 _ _ _) | exact below_d (below_3 _ _ _ _)
theorem misc_45312_t (h : Int) (h0 : 45312 ≤ h) (h1 : h < 45568) (w : World) : Calls Tryd.prog 48 #[.int .i64 h, .bool true] w fun e w' => e = .returned (.agg #[.int .i64 0, .int .i64 0, .int .i64 0, .int .i64 0, .int .i64 0, .int .i64 0, .int .i64 0, .int .i64 0, .bool false]) ∧ Below w.heap.size w w' := by
  have A1 : ∀ x : Int, bits .and .i64 x 1 = x % 2 := Cm.and1
  have A7 : ∀ x : Int, bits .and .i64 x 7 = x % 8 := Cm.and7
  have A15 : ∀ x : Int, bits .and .i64 x 15 = x % 16 := Cm.and15
  have A255 : ∀ x : Int, bits .and .i64 x 255 = x % 256 := Cm.and255
  have e2048m : h / 2048 % 2 = 0 := by omega
  have gM : (bits .and .i64 h 62720 == 45312) = true := by
    rw [and62720 h (by omega) (by omega)]
    simp
    omega
  have ga : (h / 512 == 90) = false := by simp; omega
  have gb : (h / 512 == 94) = false := by simp; omega
  have gc : (h / 256 == 190) = false := by simp; omega
  have ge : (h / 256 == 191) = false := by simp; omega
  have gN : (h == 48896) = false := by simp; omega
  go_enter Tryd.func48, Tryd.ntmps48
  go_wp2
  refine bodyPost_ret (v := .agg #[.int .i64 0, .int .i64 0, .int .i64 0, .int .i64 0, .int .i64 0, .int .i64 0, .int .i64 0, .int .i64 0, .bool false]) (by simp [results, Tryd.f48, go_sem]) rfl ⟨rfl, ?_⟩
  first | exact below_1 _ _ | exact below_2 _ _ _ | exact below_3 _ _ _ _ | exact below_4 _ _ _ _ _ | exact below_5 _ _ _ _ _ _ | exact below_d (below_1 _ _) | exact below_d (below_2 _ _ _) | exact below_d (below_3 _ _ _ _)
theorem misc_45568 (h : Int) (it : Bool) (h0 : 45568 ≤ h) (h1 : h < 45824) (w : World) : Calls Tryd.prog 48 #[.int .i64 h, .bool it] w fun e w' => e = .returned (.agg #[.int .i64 0, .int .i64 0, .int .i64 0, .int .i64 0, .int .i64 0, .int .i64 0, .int .i64 0, .int .i64 0, .bool false]) ∧ Below w.heap.size w w' := by
  have A1 : ∀ x : Int, bits .and .i64 x 1 = x % 2 := Cm.and1
  have A7 : ∀ x : Int, bits .and .i64 x 7 = x % 8 := Cm.and7
  have A15 : ∀ x : Int, bits .and .i64 x 15 = x % 16 := Cm.and15
  have A255 : ∀ x : Int, bits .and .i64 x 255 = x % 256 := Cm.and255
  have e2048m : h / 2048 % 2 = 0 := by omega
  have gM : (bits .and .i64 h 62720 == 45312) = false := by
    rw [and62720 h (by omega) (by omega)]
    simp
    omega
  have ga : (h / 512 == 90) = false := by simp; omega
  have gb : (h / 512 == 94) = false := by simp; omega
  have gc : (h / 256 == 190) = false := by simp; omega
  have ge : (h / 256 == 191) = false := by simp; omega
  have gN : (h == 48896) = false := by simp; omega
  go_enter Tryd.func48, Tryd.ntmps48
  go_wp2
  refine bodyPost_ret (v := .agg #[.int .i64 0, .int .i64 0, .int .i64 0, .int .i64 0, .int .i64 0, .int .i64 0, .int .i64 0, .int .i64 0, .bool false]) (by simp [results, Tryd.f48, go_sem]) rfl ⟨rfl, ?_⟩
  first | exact below_1 _ _ | exact below_2 _ _ _ | exact below_3 _ _ _ _ | exact below_4 _ _ _ _ _ | exact below_5 _ _ _ _ _ _ | exact below_d (below_1 _ _) | exact below_d (below_2 _ _ _) | exact below_d (below_3 _ _ _ _)
theorem misc_45824_f (h : Int) (h0 : 45824 ≤ h) (h1 : h < 46080) (hG : ∀ W, Calls Tryd.prog 49 #[.int .i64 5, .int .i64 h, .int .i64 0] W fun e w' => e = .returned (.int .i64 (h / 512 % 2 * 64 + h / 8 % 32 * 2)) ∧ ∃ n, w' = W.drewN n) (w : World) : Calls Tryd.prog 48 #[.int .i64 h, .bool false] w fun e w' => e = .returned (.agg #[.int .i64 37, .int .i64 0, .int .i64 0, .int .i64 (h % 8), .int .i64 0, .int .i64 (h / 512 % 2 * 64 + h / 8 % 32 * 2), .int .i64 1, .int .i64 0, .bool false]) ∧ Below w.heap.size w w' := by
  have A1 : ∀ x : Int, bits .and .i64 x 1 = x % 2 := Cm.and1
  have A7 : ∀ x : Int, bits .and .i64 x 7 = x % 8 := Cm.and7
  have A15 : ∀ x : Int, bits .and .i64 x 15 = x % 16 := Cm.and15
  have A255 : ∀ x : Int, bits .and .i64 x 255 = x % 256 := Cm.and255
  have e2048m : h / 2048 % 2 = 0 := by omega
  have gM : (bits .and .i64 h 62720 == 45312) = true := by
    rw [and62720 h (by omega) (by omega)]
    simp
    omega
  have ga : (h / 512 == 90) = false := by simp; omega
  have gb : (h / 512 == 94) = false := by simp; omega
  have gc : (h / 256 == 190) = false := by simp; omega
  have ge : (h / 256 == 191) = false := by simp; omega
  have gN : (h == 48896) = false := by simp; omega
  obtain ⟨gg, eg⟩ : ∃ q, h / 512 % 2 * 64 + h / 8 % 32 * 2 = q := ⟨_, rfl⟩
  rw [eg] at hG ⊢
  have HG := Lib.hid hG
  clear hG eg
  go_enter Tryd.func48, Tryd.ntmps48
  go_wp2_with fail
  refine (HG.out _).mono ?_
  rintro e w' ⟨rfl, n1, rfl⟩
  go_wp2_with (first
    | (go_at_call 46; refine (imm_c _ _ _ _ _).mono ?_; rintro e w' ⟨rfl, rfl⟩)
    | (go_at_call 72; refine (reg_c _ _ _ _ _).mono ?_; rintro e w' ⟨rfl, rfl⟩)
    | (go_at_call 71; refine (with_c _ _ _ _ _ _ _ _ _ _ _).mono ?_; rintro e w' ⟨rfl, rfl⟩))
  refine bodyPost_ret (v := .agg #[.int .i64 37, .int .i64 0, .int .i64 0, .int .i64 (h % 8), .int .i64 0, .int .i64 gg, .int .i64 1, .int .i64 0, .bool false]) (by simp [results, Tryd.f48, go_sem]) rfl ⟨rfl, ?_⟩
  first | exact below_1 _ _ | exact below_2 _ _ _ | exact below_3 _ _ _ _ | exact below_4 _ _ _ _ _ | exact below_5 _ _ _ _ _ _ | exact below_d (below_1 _ _) | exact below_d (below_2 _ _ _) | exact below_d (below_3 _ _ _ _)
theorem misc_45824_t (h : Int) (h0 : 45824 ≤ h) (h1 : h < 46080) (w : World) : Calls Tryd.prog 48 #[.int .i64 h, .bool true] w fun e w' => e = .returned (.agg #[.int .i64 0, .int .i64 0, .int .i64 0, .int .i64 0, .int .i64 0, .int .i64 0, .int .i64 0, .int .i64 0, .bool false]) ∧ Below w.heap.size w w' := by
  have A1 : ∀ x : Int, bits .and .i64 x 1 = x % 2 := Cm.and1
  have A7 : ∀ x : Int, bits .and .i64 x 7 = x % 8 := Cm.and7
  have A15 : ∀ x : Int, bits .and .i64 x 15 = x % 16 := Cm.and15
  have A255 : ∀ x : Int, bits .and .i64 x 255 = x % 256 := Cm.and255
  have e2048m : h / 2048 % 2 = 0 := by omega
  have gM : (bits .and .i64 h 62720 == 45312) = true := by
    rw [and62720 h (by omega) (by omega)]
    simp
    omega
  have ga : (h / 512 == 90) = false := by simp; omega
  have gb : (h / 512 == 94) = false := by simp; omega
  have gc : (h / 256 == 190) = false := by simp; omega
  have ge : (h / 256 == 191) = false := by simp; omega
  have gN : (h == 48896) = false := by simp; omega
  go_enter Tryd.func48, Tryd.ntmps48
  go_wp2
  refine bodyPost_ret (v := .agg #[.int .i64 0, .int .i64 0, .int .i64 0, .int .i64 0, .int .i64 0, .int .i64 0, .int .i64 0, .int .i64 0, .bool false]) (by simp [results, Tryd.f48, go_sem]) rfl ⟨rfl, ?_⟩
  first | exact below_1 _ _ | exact below_2 _ _ _ | exact below_3 _ _ _ _ | exact below_4 _ _ _ _ _ | exact below_5 _ _ _ _ _ _ | exact below_d (below_1 _ _) | exact below_d (below_2 _ _ _) | exact below_d (below_3 _ _ _ _)
theorem misc_46080 (h : Int) (it : Bool) (h0 : 46080 ≤ h) (h1 : h < 46592) (w : World) : Calls Tryd.prog 48 #[.int .i64 h, .bool it] w fun e w' => e = .returned (.agg #[.int .i64 33, .int .i64 0, .int .i64 0, .int .i64 0, .int .i64 0, .int .i64 0, .int .i64 0, .int .i64 (h % 256 + h / 256 % 2 * 16384), .bool false]) ∧ Below w.heap.size w w' := by
  have A1 : ∀ x : Int, bits .and .i64 x 1 = x % 2 := Cm.and1
  have A7 : ∀ x : Int, bits .and .i64 x 7 = x % 8 := Cm.and7
  have A15 : ∀ x : Int, bits .and .i64 x 15 = x % 16 := Cm.and15
  have A255 : ∀ x : Int, bits .and .i64 x 255 = x % 256 := Cm.and255
  have e2048m : h / 2048 % 2 = 0 := by omega
  have gM : (bits .and .i64 h 62720 == 45312) = false := by
    rw [and62720 h (by omega) (by omega)]
    simp
    omega
  have ga : (h / 512 == 90) = true := by simp; omega
  have gb : (h / 512 == 94) = false := by simp; omega
  have gc : (h / 256 == 190) = false := by simp; omega
  have ge : (h / 256 == 191) = false := by simp; omega
  have gN : (h == 48896) = false := by simp; omega
  have hO := or_14 h
  go_enter Tryd.func48, Tryd.ntmps48
  go_wp2
  refine bodyPost_ret (v := .agg #[.int .i64 33, .int .i64 0, .int .i64 0, .int .i64 0, .int .i64 0, .int .i64 0, .int .i64 0, .int .i64 (h % 256 + h / 256 % 2 * 16384), .bool false]) (by simp [results, Tryd.f48, go_sem]) rfl ⟨rfl, ?_⟩
  first | exact below_1 _ _ | exact below_2 _ _ _ | exact below_3 _ _ _ _ | exact below_4 _ _ _ _ _ | exact below_5 _ _ _ _ _ _ | exact below_d (below_1 _ _) | exact below_d (below_2 _ _ _) | exact below_d (below_3 _ _ _ _)
theorem misc_46592 (h : Int) (it : Bool) (h0 : 46592 ≤ h) (h1 : h < 47360) (w : World) : Calls Tryd.prog 48 #[.int .i64 h, .bool it] w fun e w' => e = .returned (.agg #[.int .i64 0, .int .i64 0, .int .i64 0, .int .i64 0, .int .i64 0, .int .i64 0, .int .i64 0, .int .i64 0, .bool false]) ∧ Below w.heap.size w w' := by
  have A1 : ∀ x : Int, bits .and .i64 x 1 = x % 2 := Cm.and1
  have A7 : ∀ x : Int, bits .and .i64 x 7 = x % 8 := Cm.and7
  have A15 : ∀ x : Int, bits .and .i64 x 15 = x % 16 := Cm.and15
  have A255 : ∀ x : Int, bits .and .i64 x 255 = x % 256 := Cm.and255
  have gM : (bits .and .i64 h 62720 == 45312) = false := by
    rw [and62720 h (by omega) (by omega)]
    simp
    omega
  have ga : (h / 512 == 90) = false := by simp; omega
  have gb : (h / 512 == 94) = false := by simp; omega
  have gc : (h / 256 == 190) = false := by simp; omega
  have ge : (h / 256 == 191) = false := by simp; omega
  have gN : (h == 48896) = false := by simp; omega
  go_enter Tryd.func48, Tryd.ntmps48
  go_wp2
  refine bodyPost_ret (v := .agg #[.int .i64 0, .int .i64 0, .int .i64 0, .int .i64 0, .int .i64 0, .int .i64 0, .int .i64 0, .int .i64 0, .bool false]) (by simp [results, Tryd.f48, go_sem]) rfl ⟨rfl, ?_⟩
  first | exact below_1 _ _ | exact below_2 _ _ _ | exact below_3 _ _ _ _ | exact below_4 _ _ _ _ _ | exact below_5 _ _ _ _ _ _ | exact below_d (below_1 _ _) | exact below_d (below_2 _ _ _) | exact below_d (below_3 _ _ _ _)
theorem misc_47360_f (h : Int) (h0 : 47360 ≤ h) (h1 : h < 47616) (hG : ∀ W, Calls Tryd.prog 49 #[.int .i64 5, .int .i64 h, .int .i64 0] W fun e w' => e = .returned (.int .i64 (h / 512 % 2 * 64 + h / 8 % 32 * 2)) ∧ ∃ n, w' = W.drewN n) (w : World) : Calls Tryd.prog 48 #[.int .i64 h, .bool false] w fun e w' => e = .returned (.agg #[.int .i64 38, .int .i64 0, .int .i64 0, .int .i64 (h % 8), .int .i64 0, .int .i64 (h / 512 % 2 * 64 + h / 8 % 32 * 2), .int .i64 1, .int .i64 0, .bool false]) ∧ Below w.heap.size w w' := by
  have A1 : ∀ x : Int, bits .and .i64 x 1 = x % 2 := Cm.and1
  have A7 : ∀ x : Int, bits .and .i64 x 7 = x % 8 := Cm.and7
  have A15 : ∀ x : Int, bits .and .i64 x 15 = x % 16 := Cm.and15
  have A255 : ∀ x : Int, bits .and .i64 x 255 = x % 256 := Cm.and255
  have e2048m : h / 2048 % 2 = 1 := by omega
  have gM : (bits .and .i64 h 62720 == 45312) = true := by
    rw [and62720 h (by omega) (by omega)]
    simp
    omega
  have ga : (h / 512 == 90) = false := by simp; omega
  have gb : (h / 512 == 94) = false := by simp; omega
  have gc : (h / 256 == 190) = false := by simp; omega
  have ge : (h / 256 == 191) = false := by simp; omega
  have gN : (h == 48896) = false := by simp; omega
  obtain ⟨gg, eg⟩ : ∃ q, h / 512 % 2 * 64 + h / 8 % 32 * 2 = q := ⟨_, rfl⟩
  rw [eg] at hG ⊢
  have HG := Lib.hid hG
  clear hG eg
  go_enter Tryd.func48, Tryd.ntmps48
  go_wp2_with fail
  refine (HG.out _).mono ?_
  rintro e w' ⟨rfl, n1, rfl⟩
  go_wp2_with (first
    | (go_at_call 46; refine (imm_c _ _ _ _ _).mono ?_; rintro e w' ⟨rfl, rfl⟩)
    | (go_at_call 72; refine (reg_c _ _ _ _ _).mono ?_; rintro e w' ⟨rfl, rfl⟩)
    | (go_at_call 71; refine (with_c _ _ _ _ _ _ _ _ _ _ _).mono ?_; rintro e w' ⟨rfl, rfl⟩))
  refine bodyPost_ret (v := .agg #[.int .i64 38, .int .i64 0, .int .i64 0, .int .i64 (h % 8), .int .i64 0, .int .i64 gg, .int .i64 1, .int .i64 0, .bool false]) (by simp [results, Tryd.f48, go_sem]) rfl ⟨rfl, ?_⟩
  first | exact below_1 _ _ | exact below_2 _ _ _ | exact below_3 _ _ _ _ | exact below_4 _ _ _ _ _ | exact below_5 _ _ _ _ _ _ | exact below_d (below_1 _ _) | exact below_d (below_2 _ _ _) | exact below_d (below_3 _ _ _ _)
theorem misc_47360_t (h : Int) (h0 : 47360 ≤ h) (h1 : h < 47616) (w : World) : Calls Tryd.prog 48 #[.int .i64 h, .bool true] w fun e w' => e = .returned (.agg #[.int .i64 0, .int .i64 0, .int .i64 0, .int .i64 0, .int .i64 0, .int .i64 0, .int .i64 0, .int .i64 0, .bool false]) ∧ Below w.heap.size w w' := by
  have A1 : ∀ x : Int, bits .and .i64 x 1 = x % 2 := Cm.and1
  have A7 : ∀ x : Int, bits .and .i64 x 7 = x % 8 := Cm.and7
  have A15 : ∀ x : Int, bits .and .i64 x 15 = x % 16 := Cm.and15
  have A255 : ∀ x : Int, bits .and .i64 x 255 = x % 256 := Cm.and255
  have e2048m : h / 2048 % 2 = 1 := by omega
  have gM : (bits .and .i64 h 62720 == 45312) = true := by
    rw [and62720 h (by omega) (by omega)]
    simp
    omega
  have ga : (h / 512 == 90) = false := by simp; omega
  have gb : (h / 512 == 94) = false := by simp; omega
  have gc : (h / 256 == 190) = false := by simp; omega
  have ge : (h / 256 == 191) = false := by simp; omega
  have gN : (h == 48896) = false := by simp; omega
  go_enter Tryd.func48, Tryd.ntmps48
  go_wp2
  refine bodyPost_ret (v := .agg #[.int .i64 0, .int .i64 0, .int .i64 0, .int .i64 0, .int .i64 0, .int .i64 0, .int .i64 0, .int .i64 0, .bool false]) (by simp [results, Tryd.f48, go_sem]) rfl ⟨rfl, ?_⟩
  first | exact below_1 _ _ | exact below_2 _ _ _ | exact below_3 _ _ _ _ | exact below_4 _ _ _ _ _ | exact below_5 _ _ _ _ _ _ | exact below_d (below_1 _ _) | exact below_d (below_2 _ _ _) | exact below_d (below_3 _ _ _ _)
theorem misc_47616 (h : Int) (it : Bool) (h0 : 47616 ≤ h) (h1 : h < 47872) (w : World) : Calls Tryd.prog 48 #[.int .i64 h, .bool it] w fun e w' => e = .returned (.agg #[.int .i64 0, .int .i64 0, .int .i64 0, .int .i64 0, .int .i64 0, .int .i64 0, .int .i64 0, .int .i64 0, .bool false]) ∧ Below w.heap.size w w' := by
  have A1 : ∀ x : Int, bits .and .i64 x 1 = x % 2 := Cm.and1
  have A7 : ∀ x : Int, bits .and .i64 x 7 = x % 8 := Cm.and7
  have A15 : ∀ x : Int, bits .and .i64 x 15 = x % 16 := Cm.and15
  have A255 : ∀ x : Int, bits .and .i64 x 255 = x % 256 := Cm.and255
  have e2048m : h / 2048 % 2 = 1 := by omega
  have gM : (bits .and .i64 h 62720 == 45312) = false := by
    rw [and62720 h (by omega) (by omega)]
    simp
    omega
  have ga : (h / 512 == 90) = false := by simp; omega
  have gb : (h / 512 == 94) = false := by simp; omega
  have gc : (h / 256 == 190) = false := by simp; omega
  have ge : (h / 256 == 191) = false := by simp; omega
  have gN : (h == 48896) = false := by simp; omega
  go_enter Tryd.func48, Tryd.ntmps48
  go_wp2
  refine bodyPost_ret (v := .agg #[.int .i64 0, .int .i64 0, .int .i64 0, .int .i64 0, .int .i64 0, .int .i64 0, .int .i64 0, .int .i64 0, .bool false]) (by simp [results, Tryd.f48, go_sem]) rfl ⟨rfl, ?_⟩
  first | exact below_1 _ _ | exact below_2 _ _ _ | exact below_3 _ _ _ _ | exact below_4 _ _ _ _ _ | exact below_5 _ _ _ _ _ _ | exact below_d (below_1 _ _) | exact below_d (below_2 _ _ _) | exact below_d (below_3 _ _ _ _)
theorem misc_47872_f (h : Int) (h0 : 47872 ≤ h) (h1 : h < 48128) (hG : ∀ W, Calls Tryd.prog 49 #[.int .i64 5, .int .i64 h, .int .i64 0] W fun e w' => e = .returned (.int .i64 (h / 512 % 2 * 64 + h / 8 % 32 * 2)) ∧ ∃ n, w' = W.drewN n) (w : World) : Calls Tryd.prog 48 #[.int .i64 h, .bool false] w fun e w' => e = .returned (.agg #[.int .i64 38, .int .i64 0, .int .i64 0, .int .i64 (h % 8), .int .i64 0, .int .i64 (h / 512 % 2 * 64 + h / 8 % 32 * 2), .int .i64 1, .int .i64 0, .bool false]) ∧ Below w.heap.size w w' := by
  have A1 : ∀ x : Int, bits .and .i64 x 1 = x % 2 := Cm.and1
  have A7 : ∀ x : Int, bits .and .i64 x 7 = x % 8 := Cm.and7
  have A15 : ∀ x : Int, bits .and .i64 x 15 = x % 16 := Cm.and15
  have A255 : ∀ x : Int, bits .and .i64 x 255 = x % 256 := Cm.and255
  have e2048m : h / 2048 % 2 = 1 := by omega
  have gM : (bits .and .i64 h 62720 == 45312) = true := by
    rw [and62720 h (by omega) (by omega)]
    simp
    omega
  have ga : (h / 512 == 90) = false := by simp; omega
  have gb : (h / 512 == 94) = false := by simp; omega
  have gc : (h / 256 == 190) = false := by simp; omega
  have ge : (h / 256 == 191) = false := by simp; omega
  have gN : (h == 48896) = false := by simp; omega
  obtain ⟨gg, eg⟩ : ∃ q, h / 512 % 2 * 64 + h / 8 % 32 * 2 = q := ⟨_, rfl⟩
  rw [eg] at hG ⊢
  have HG := Lib.hid hG
  clear hG eg
  go_enter Tryd.func48, Tryd.ntmps48
  go_wp2_with fail
  refine (HG.out _).mono ?_
  rintro e w' ⟨rfl, n1, rfl⟩
  go_wp2_with (first
    | (go_at_call 46; refine (imm_c _ _ _ _ _).mono ?_; rintro e w' ⟨rfl, rfl⟩)
    | (go_at_call 72; refine (reg_c _ _ _ _ _).mono ?_; rintro e w' ⟨rfl, rfl⟩)
    | (go_at_call 71; refine (with_c _ _ _ _ _ _ _ _ _ _ _).mono ?_; rintro e w' ⟨rfl, rfl⟩))
  refine bodyPost_ret (v := .agg #[.int .i64 38, .int .i64 0, .int .i64 0, .int .i64 (h % 8), .int .i64 0, .int .i64 gg, .int .i64 1, .int .i64 0, .bool false]) (by simp [results, Tryd.f48, go_sem]) rfl ⟨rfl, ?_⟩
  first | exact below_1 _ _ | exact below_2 _ _ _ | exact below_3 _ _ _ _ | exact below_4 _ _ _ _ _ | exact below_5 _ _ _ _ _ _ | exact below_d (below_1 _ _) | exact below_d (below_2 _ _ _) | exact below_d (below_3 _ _ _ _)
theorem misc_47872_t (h : Int) (h0 : 47872 ≤ h) (h1 : h < 48128) (w : World) : Calls Tryd.prog 48 #[.int .i64 h, .bool true] w fun e w' => e = .returned (.agg #[.int .i64 0, .int .i64 0, .int .i64 0, .int .i64 0, .int .i64 0, .int .i64 0, .int .i64 0, .int .i64 0, .bool false]) ∧ Below w.heap.size w w' := by
  have A1 : ∀ x : Int, bits .and .i64 x 1 = x % 2 := Cm.and1
  have A7 : ∀ x : Int, bits .and .i64 x 7 = x % 8 := Cm.and7
  have A15 : ∀ x : Int, bits .and .i64 x 15 = x % 16 := Cm.and15
  have A255 : ∀ x : Int, bits .and .i64 x 255 = x % 256 := Cm.and255
  have e2048m : h / 2048 % 2 = 1 := by omega
  have gM : (bits .and .i64 h 62720 == 45312) = true := by
    rw [and62720 h (by omega) (by omega)]
    simp
    omega
  have ga : (h / 512 == 90) = false := by simp; omega
  have gb : (h / 512 == 94) = false := by simp; omega
  have gc : (h / 256 == 190) = false := by simp; omega
  have ge : (h / 256 == 191) = false := by simp; omega
  have gN : (h == 48896) = false := by simp; omega
  go_enter Tryd.func48, Tryd.ntmps48
  go_wp2
  refine bodyPost_ret (v := .agg #[.int .i64 0, .int .i64 0, .int .i64 0, .int .i64 0, .int .i64 0, .int .i64 0, .int .i64 0, .int .i64 0, .bool false]) (by simp [results, Tryd.f48, go_sem]) rfl ⟨rfl, ?_⟩
  first | exact below_1 _ _ | exact below_2 _ _ _ | exact below_3 _ _ _ _ | exact below_4 _ _ _ _ _ | exact below_5 _ _ _ _ _ _ | exact below_d (below_1 _ _) | exact below_d (below_2 _ _ _) | exact below_d (below_3 _ _ _ _)
theorem misc_48128 (h : Int) (it : Bool) (h0 : 48128 ≤ h) (h1 : h < 48640) (w : World) : Calls Tryd.prog 48 #[.int .i64 h, .bool it] w fun e w' => e = .returned (.agg #[.int .i64 34, .int .i64 0, .int .i64 0, .int .i64 0, .int .i64 0, .int .i64 0, .int .i64 0, .int .i64 (h % 256 + h / 256 % 2 * 32768), .bool false]) ∧ Below w.heap.size w w' := by
  have A1 : ∀ x : Int, bits .and .i64 x 1 = x % 2 := Cm.and1
  have A7 : ∀ x : Int, bits .and .i64 x 7 = x % 8 := Cm.and7
  have A15 : ∀ x : Int, bits .and .i64 x 15 = x % 16 := Cm.and15
  have A255 : ∀ x : Int, bits .and .i64 x 255 = x % 256 := Cm.and255
  have e2048m : h / 2048 % 2 = 1 := by omega
  have gM : (bits .and .i64 h 62720 == 45312) = false := by
    rw [and62720 h (by omega) (by omega)]
    simp
    omega
  have ga : (h / 512 == 90) = false := by simp; omega
  have gb : (h / 512 == 94) = true := by simp; omega
  have gc : (h / 256 == 190) = false := by simp; omega
  have ge : (h / 256 == 191) = false := by simp; omega
  have gN : (h == 48896) = false := by simp; omega
  have hO := or_15 h
  go_enter Tryd.func48, Tryd.ntmps48
  go_wp2
  refine bodyPost_ret (v := .agg #[.int .i64 34, .int .i64 0, .int .i64 0, .int .i64 0, .int .i64 0, .int .i64 0, .int .i64 0, .int .i64 (h % 256 + h / 256 % 2 * 32768), .bool false]) (by simp [results, Tryd.f48, go_sem]) rfl ⟨rfl, ?_⟩
  first | exact below_1 _ _ | exact below_2 _ _ _ | exact below_3 _ _ _ _ | exact below_4 _ _ _ _ _ | exact below_5 _ _ _ _ _ _ | exact below_d (below_1 _ _) | exact below_d (below_2 _ _ _) | exact below_d (below_3 _ _ _ _)
theorem misc_48640 (h : Int) (it : Bool) (h0 : 48640 ≤ h) (h1 : h < 48896) (w : World) : Calls Tryd.prog 48 #[.int .i64 h, .bool it] w fun e w' => e = .returned (.agg #[.int .i64 44, .int .i64 0, .int .i64 0, .int .i64 0, .int .i64 0, .int .i64 (h % 256), .int .i64 1, .int .i64 0, .bool false]) ∧ Below w.heap.size w w' := by
  have A1 : ∀ x : Int, bits .and .i64 x 1 = x % 2 := Cm.and1
  have A7 : ∀ x : Int, bits .and .i64 x 7 = x % 8 := Cm.and7
  have A15 : ∀ x : Int, bits .and .i64 x 15 = x % 16 := Cm.and15
  have A255 : ∀ x : Int, bits .and .i64 x 255 = x % 256 := Cm.and255
  have e2048m : h / 2048 % 2 = 1 := by omega
  have gM : (bits .and .i64 h 62720 == 45312) = false := by
    rw [and62720 h (by omega) (by omega)]
    simp
    omega
  have ga : (h / 512 == 90) = false := by simp; omega
  have gb : (h / 512 == 94) = false := by simp; omega
  have gc : (h / 256 == 190) = true := by simp; omega
  have ge : (h / 256 == 191) = false := by simp; omega
  have gN : (h == 48896) = false := by simp; omega
  go_enter Tryd.func48, Tryd.ntmps48
  go_wp2_with (first
    | (go_at_call 46; refine (imm_c _ _ _ _ _).mono ?_; rintro e w' ⟨rfl, rfl⟩)
    | (go_at_call 72; refine (reg_c _ _ _ _ _).mono ?_; rintro e w' ⟨rfl, rfl⟩)
    | (go_at_call 71; refine (with_c _ _ _ _ _ _ _ _ _ _ _).mono ?_; rintro e w' ⟨rfl, rfl⟩))
  refine bodyPost_ret (v := .agg #[.int .i64 44, .int .i64 0, .int .i64 0, .int .i64 0, .int .i64 0, .int .i64 (h % 256), .int .i64 1, .int .i64 0, .bool false]) (by simp [results, Tryd.f48, go_sem]) rfl ⟨rfl, ?_⟩
  first | exact below_1 _ _ | exact below_2 _ _ _ | exact below_3 _ _ _ _ | exact below_4 _ _ _ _ _ | exact below_5 _ _ _ _ _ _ | exact below_d (below_1 _ _) | exact below_d (below_2 _ _ _) | exact below_d (below_3 _ _ _ _)
theorem misc_48896 (h : Int) (it : Bool) (h0 : 48896 ≤ h) (h1 : h < 48897) (w : World) : Calls Tryd.prog 48 #[.int .i64 h, .bool it] w fun e w' => e = .returned (.agg #[.int .i64 43, .int .i64 0, .int .i64 0, .int .i64 0, .int .i64 0, .int .i64 0, .int .i64 0, .int .i64 0, .bool false]) ∧ Below w.heap.size w w' := by
  have A1 : ∀ x : Int, bits .and .i64 x 1 = x % 2 := Cm.and1
  have A7 : ∀ x : Int, bits .and .i64 x 7 = x % 8 := Cm.and7
  have A15 : ∀ x : Int, bits .and .i64 x 15 = x % 16 := Cm.and15
  have A255 : ∀ x : Int, bits .and .i64 x 255 = x % 256 := Cm.and255
  have e2048m : h / 2048 % 2 = 1 := by omega
  have gM : (bits .and .i64 h 62720 == 45312) = false := by
    rw [and62720 h (by omega) (by omega)]
    simp
    omega
  have ga : (h / 512 == 90) = false := by simp; omega
  have gb : (h / 512 == 94) = false := by simp; omega
  have gc : (h / 256 == 190) = false := by simp; omega
  have ge : (h / 256 == 191) = true := by simp; omega
  have gN : (h == 48896) = true := by simp; omega
  go_enter Tryd.func48, Tryd.ntmps48
  go_wp2
  refine bodyPost_ret (v := .agg #[.int .i64 43, .int .i64 0, .int .i64 0, .int .i64 0, .int .i64 0, .int .i64 0, .int .i64 0, .int .i64 0, .bool false]) (by simp [results, Tryd.f48, go_sem]) rfl ⟨rfl, ?_⟩
  first | exact below_1 _ _ | exact below_2 _ _ _ | exact below_3 _ _ _ _ | exact below_4 _ _ _ _ _ | exact below_5 _ _ _ _ _ _ | exact below_d (below_1 _ _) | exact below_d (below_2 _ _ _) | exact below_d (below_3 _ _ _ _)
theorem misc_48897_f (h : Int) (h0 : 48897 ≤ h) (h1 : h < 49152) (hz : (h % 16 != 0) = true) (w : World) : Calls Tryd.prog 48 #[.int .i64 h, .bool false] w fun e w' => e = .returned (.agg #[.int .i64 42, .int .i64 (h / 16 % 16), .int .i64 0, .int .i64 0, .int .i64 0, .int .i64 (h % 16), .int .i64 1, .int .i64 0, .bool false]) ∧ Below w.heap.size w w' := by
  have A1 : ∀ x : Int, bits .and .i64 x 1 = x % 2 := Cm.and1
  have A7 : ∀ x : Int, bits .and .i64 x 7 = x % 8 := Cm.and7
  have A15 : ∀ x : Int, bits .and .i64 x 15 = x % 16 := Cm.and15
  have A255 : ∀ x : Int, bits .and .i64 x 255 = x % 256 := Cm.and255
  have e2048m : h / 2048 % 2 = 1 := by omega
  have gM : (bits .and .i64 h 62720 == 45312) = false := by
    rw [and62720 h (by omega) (by omega)]
    simp
    omega
  have ga : (h / 512 == 90) = false := by simp; omega
  have gb : (h / 512 == 94) = false := by simp; omega
  have gc : (h / 256 == 190) = false := by simp; omega
  have ge : (h / 256 == 191) = true := by simp; omega
  have gN : (h == 48896) = false := by simp; omega
  go_enter Tryd.func48, Tryd.ntmps48
  go_wp2_with (first
    | (go_at_call 46; refine (imm_c _ _ _ _ _).mono ?_; rintro e w' ⟨rfl, rfl⟩)
    | (go_at_call 72; refine (reg_c _ _ _ _ _).mono ?_; rintro e w' ⟨rfl, rfl⟩)
    | (go_at_call 71; refine (with_c _ _ _ _ _ _ _ _ _ _ _).mono ?_; rintro e w' ⟨rfl, rfl⟩))
  refine bodyPost_ret (v := .agg #[.int .i64 42, .int .i64 (h / 16 % 16), .int .i64 0, .int .i64 0, .int .i64 0, .int .i64 (h % 16), .int .i64 1, .int .i64 0, .bool false]) (by simp [results, Tryd.f48, go_sem]) rfl ⟨rfl, ?_⟩
  first | exact below_1 _ _ | exact below_2 _ _ _ | exact below_3 _ _ _ _ | exact below_4 _ _ _ _ _ | exact below_5 _ _ _ _ _ _ | exact below_d (below_1 _ _) | exact below_d (below_2 _ _ _) | exact below_d (below_3 _ _ _ _)
theorem misc_48897_t (h : Int) (h0 : 48897 ≤ h) (h1 : h < 49152) (w : World) : Calls Tryd.prog 48 #[.int .i64 h, .bool true] w fun e w' => e = .returned (.agg #[.int .i64 0, .int .i64 0, .int .i64 0, .int .i64 0, .int .i64 0, .int .i64 0, .int .i64 0, .int .i64 0, .bool false]) ∧ Below w.heap.size w w' := by
  have A1 : ∀ x : Int, bits .and .i64 x 1 = x % 2 := Cm.and1
  have A7 : ∀ x : Int, bits .and .i64 x 7 = x % 8 := Cm.and7
  have A15 : ∀ x : Int, bits .and .i64 x 15 = x % 16 := Cm.and15
  have A255 : ∀ x : Int, bits .and .i64 x 255 = x % 256 := Cm.and255
  have e2048m : h / 2048 % 2 = 1 := by omega
  have gM : (bits .and .i64 h 62720 == 45312) = false := by
    rw [and62720 h (by omega) (by omega)]
    simp
    omega
  have ga : (h / 512 == 90) = false := by simp; omega
  have gb : (h / 512 == 94) = false := by simp; omega
  have gc : (h / 256 == 190) = false := by simp; omega
  have ge : (h / 256 == 191) = true := by simp; omega
  have gN : (h == 48896) = false := by simp; omega
  cases hz : (h % 16 != 0)
  · go_enter Tryd.func48, Tryd.ntmps48
    go_wp2
    refine bodyPost_ret (v := .agg #[.int .i64 0, .int .i64 0, .int .i64 0, .int .i64 0, .int .i64 0, .int .i64 0, .int .i64 0, .int .i64 0, .bool false]) (by simp [results, Tryd.f48, go_sem]) rfl ⟨rfl, ?_⟩
    first | exact below_1 _ _ | exact below_2 _ _ _ | exact below_3 _ _ _ _ | exact below_4 _ _ _ _ _ | exact below_5 _ _ _ _ _ _ | exact below_d (below_1 _ _) | exact below_d (below_2 _ _ _) | exact below_d (below_3 _ _ _ _)
  · go_enter Tryd.func48, Tryd.ntmps48
    go_wp2
    refine bodyPost_ret (v := .agg #[.int .i64 0, .int .i64 0, .int .i64 0, .int .i64 0, .int .i64 0, .int .i64 0, .int .i64 0, .int .i64 0, .bool false]) (by simp [results, Tryd.f48, go_sem]) rfl ⟨rfl, ?_⟩
    first | exact below_1 _ _ | exact below_2 _ _ _ | exact below_3 _ _ _ _ | exact below_4 _ _ _ _ _ | exact below_5 _ _ _ _ _ _ | exact below_d (below_1 _ _) | exact below_d (below_2 _ _ _) | exact below_d (below_3 _ _ _ _)
theorem misc_48897_z (h : Int) (it : Bool) (h0 : 48897 ≤ h) (h1 : h < 49152) (hz : (h % 16 != 0) = false) (w : World) : Calls Tryd.prog 48 #[.int .i64 h, .bool it] w fun e w' => e = .returned (.agg #[.int .i64 0, .int .i64 0, .int .i64 0, .int .i64 0, .int .i64 0, .int .i64 0, .int .i64 0, .int .i64 0, .bool false]) ∧ Below w.heap.size w w' := by
  have A1 : ∀ x : Int, bits .and .i64 x 1 = x % 2 := Cm.and1
  have A7 : ∀ x : Int, bits .and .i64 x 7 = x % 8 := Cm.and7
  have A15 : ∀ x : Int, bits .and .i64 x 15 = x % 16 := Cm.and15
  have A255 : ∀ x : Int, bits .and .i64 x 255 = x % 256 := Cm.and255
  have e2048m : h / 2048 % 2 = 1 := by omega
  have gM : (bits .and .i64 h 62720 == 45312) = false := by
    rw [and62720 h (by omega) (by omega)]
    simp
    omega
  have ga : (h / 512 == 90) = false := by simp; omega
  have gb : (h / 512 == 94) = false := by simp; omega
  have gc : (h / 256 == 190) = false := by simp; omega
  have ge : (h / 256 == 191) = true := by simp; omega
  have gN : (h == 48896) = false := by simp; omega
  go_enter Tryd.func48, Tryd.ntmps48
  go_wp2
  refine bodyPost_ret (v := .agg #[.int .i64 0, .int .i64 0, .int .i64 0, .int .i64 0, .int .i64 0, .int .i64 0, .int .i64 0, .int .i64 0, .bool false]) (by simp [results, Tryd.f48, go_sem]) rfl ⟨rfl, ?_⟩
  first | exact below_1 _ _ | exact below_2 _ _ _ | exact below_3 _ _ _ _ | exact below_4 _ _ _ _ _ | exact below_5 _ _ _ _ _ _ | exact below_d (below_1 _ _) | exact below_d (below_2 _ _ _) | exact below_d (below_3 _ _ _ _)
end Rd
end Go.Proofs.YtcphhojdfpedkaaDoor

namespace Go.Proofs.YtcphhojdfpedkaaDoor
open Go.ChangeShapes Go.WideShapes Go.ChangeAt Go.RowKit
namespace Rd
theorem first_cell {w w' : World} {cs : Array Value} {t : TypeId} (hb : Below (w.alloc (.cells cs t)).heap.size (w.alloc (.cells cs t)) w') (j : Nat) : w'.cell? ⟨w.heap.size, j, none⟩ = cs[j]? :=
  (hb.cell (p := ⟨w.heap.size, j, none⟩) (by simp)).trans (World.cell?_alloc_new w cs t j)
theorem first_frozen {w w' : World} {cs : Array Value} {t : TypeId} (hb : Below (w.alloc (.cells cs t)).heap.size (w.alloc (.cells cs t)) w') (j : Nat) : w'.frozen? ⟨w.heap.size, j, none⟩ = false :=
  (hb.frozen (p := ⟨w.heap.size, j, none⟩) (by simp)).trans (World.frozen?_alloc_new (w := w) cs t j)
theorem nine_b {w w' : World} {b : Nat} (h : Below b w w') (a0 a1 a2 a3 a4 a5 a6 a7 a8 : Value) : Below b w (((((((((w'.setCell ⟨b, 0, none⟩ a0).setCell ⟨b, 1, none⟩ a1).setCell ⟨b, 2, none⟩ a2).setCell ⟨b, 3, none⟩ a3).setCell ⟨b, 4, none⟩ a4).setCell ⟨b, 5, none⟩ a5).setCell ⟨b, 6, none⟩ a6).setCell ⟨b, 7, none⟩ a7).setCell ⟨b, 8, none⟩ a8) :=
  ((((((((h.setCell (p := ⟨b, 0, none⟩) (Nat.le_refl _) a0).setCell (p := ⟨b, 1, none⟩) (Nat.le_refl _) a1).setCell (p := ⟨b, 2, none⟩) (Nat.le_refl _) a2).setCell (p := ⟨b, 3, none⟩) (Nat.le_refl _) a3).setCell (p := ⟨b, 4, none⟩) (Nat.le_refl _) a4).setCell (p := ⟨b, 5, none⟩) (Nat.le_refl _) a5).setCell (p := ⟨b, 6, none⟩) (Nat.le_refl _) a6).setCell (p := ⟨b, 7, none⟩) (Nat.le_refl _) a7).setCell (p := ⟨b, 8, none⟩) (Nat.le_refl _) a8
theorem one_low (h : Int) (it : Bool) (_h0 : 0 ≤ h) (h1 : h < 16384) (x0 x1 x2 x3 x4 x5 x6 x7 : Int) (sv : Bool) (hc : ∀ W, Calls Tryd.prog 43 #[.int .i64 h, .bool (!it), .bool it] W fun e w' => e = .returned (.agg #[.int .i64 x0, .int .i64 x1, .int .i64 x2, .int .i64 x3, .int .i64 x4, .int .i64 x5, .int .i64 x6, .int .i64 x7, .bool sv]) ∧ Below W.heap.size W w') (w : World) : Calls Tryd.prog 20 #[.int .i64 h, .bool it] w fun e w' => e = .returned (.agg #[.int .i64 x0, .int .i64 x1, .int .i64 x2, .int .i64 x3, .int .i64 x4, .int .i64 x5, .int .i64 x6, .int .i64 x7, .bool sv]) ∧ Below w.heap.size w w' := by
  replace hc := Lib.hid hc
  go_enter Tryd.func20, Tryd.ntmps20
  go_wp2_with fail
  refine (hc.out _).mono ?_
  rintro e w' ⟨rfl, hb⟩
  have c0 : w'.cell? ⟨w.heap.size, 0, none⟩ = some (.int .i64 0) := first_cell hb 0
  have c1 : w'.cell? ⟨w.heap.size, 1, none⟩ = some (.int .i64 0) := first_cell hb 1
  have c2 : w'.cell? ⟨w.heap.size, 2, none⟩ = some (.int .i64 0) := first_cell hb 2
  have c3 : w'.cell? ⟨w.heap.size, 3, none⟩ = some (.int .i64 0) := first_cell hb 3
  have c4 : w'.cell? ⟨w.heap.size, 4, none⟩ = some (.int .i64 0) := first_cell hb 4
  have c5 : w'.cell? ⟨w.heap.size, 5, none⟩ = some (.int .i64 0) := first_cell hb 5
  have c6 : w'.cell? ⟨w.heap.size, 6, none⟩ = some (.int .i64 0) := first_cell hb 6
  have c7 : w'.cell? ⟨w.heap.size, 7, none⟩ = some (.int .i64 0) := first_cell hb 7
  have c8 : w'.cell? ⟨w.heap.size, 8, none⟩ = some (.bool false) := first_cell hb 8
  have hfr := first_frozen hb
  have hbel := (below_1 w (.cells #[.int .i64 0, .int .i64 0, .int .i64 0, .int .i64 0, .int .i64 0, .int .i64 0, .int .i64 0, .int .i64 0, .bool false] 23)).trans (hb.mono (by simp))
  clear hb
  go_wp2
  refine bodyPost_ret (v := .agg #[.int .i64 x0, .int .i64 x1, .int .i64 x2, .int .i64 x3, .int .i64 x4, .int .i64 x5, .int .i64 x6, .int .i64 x7, .bool sv]) (by simp [results, Tryd.f20, go_sem, c0, c1, c2, c3, c4, c5, c6, c7, c8]) rfl ⟨rfl, ?_⟩
  exact nine_b hbel _ _ _ _ _ _ _ _ _
theorem one_two (h : Int) (it : Bool) (h0 : 16384 ≤ h) (h1 : h < 17408) (x0 x1 x2 x3 x4 x5 x6 x7 : Int) (sv : Bool) (hc : ∀ W, Calls Tryd.prog 44 #[.int .i64 h, .bool (!it), .bool it] W fun e w' => e = .returned (.agg #[.int .i64 x0, .int .i64 x1, .int .i64 x2, .int .i64 x3, .int .i64 x4, .int .i64 x5, .int .i64 x6, .int .i64 x7, .bool sv]) ∧ Below W.heap.size W w') (w : World) : Calls Tryd.prog 20 #[.int .i64 h, .bool it] w fun e w' => e = .returned (.agg #[.int .i64 x0, .int .i64 x1, .int .i64 x2, .int .i64 x3, .int .i64 x4, .int .i64 x5, .int .i64 x6, .int .i64 x7, .bool sv]) ∧ Below w.heap.size w w' := by
  replace hc := Lib.hid hc
  go_enter Tryd.func20, Tryd.ntmps20
  go_wp2_with fail
  refine (hc.out _).mono ?_
  rintro e w' ⟨rfl, hb⟩
  have c0 : w'.cell? ⟨w.heap.size, 0, none⟩ = some (.int .i64 0) := first_cell hb 0
  have c1 : w'.cell? ⟨w.heap.size, 1, none⟩ = some (.int .i64 0) := first_cell hb 1
  have c2 : w'.cell? ⟨w.heap.size, 2, none⟩ = some (.int .i64 0) := first_cell hb 2
  have c3 : w'.cell? ⟨w.heap.size, 3, none⟩ = some (.int .i64 0) := first_cell hb 3
  have c4 : w'.cell? ⟨w.heap.size, 4, none⟩ = some (.int .i64 0) := first_cell hb 4
  have c5 : w'.cell? ⟨w.heap.size, 5, none⟩ = some (.int .i64 0) := first_cell hb 5
  have c6 : w'.cell? ⟨w.heap.size, 6, none⟩ = some (.int .i64 0) := first_cell hb 6
  have c7 : w'.cell? ⟨w.heap.size, 7, none⟩ = some (.int .i64 0) := first_cell hb 7
  have c8 : w'.cell? ⟨w.heap.size, 8, none⟩ = some (.bool false) := first_cell hb 8
  have hfr := first_frozen hb
  have hbel := (below_1 w (.cells #[.int .i64 0, .int .i64 0, .int .i64 0, .int .i64 0, .int .i64 0, .int .i64 0, .int .i64 0, .int .i64 0, .bool false] 23)).trans (hb.mono (by simp))
  clear hb
  go_wp2
  refine bodyPost_ret (v := .agg #[.int .i64 x0, .int .i64 x1, .int .i64 x2, .int .i64 x3, .int .i64 x4, .int .i64 x5, .int .i64 x6, .int .i64 x7, .bool sv]) (by simp [results, Tryd.f20, go_sem, c0, c1, c2, c3, c4, c5, c6, c7, c8]) rfl ⟨rfl, ?_⟩
  exact nine_b hbel _ _ _ _ _ _ _ _ _
theorem one_high (h : Int) (it : Bool) (h0 : 17408 ≤ h) (h1 : h < 18432) (x0 x1 x2 x3 x4 x5 x6 x7 : Int) (sv : Bool) (hc : ∀ W, Calls Tryd.prog 45 #[.int .i64 h] W fun e w' => e = .returned (.agg #[.int .i64 x0, .int .i64 x1, .int .i64 x2, .int .i64 x3, .int .i64 x4, .int .i64 x5, .int .i64 x6, .int .i64 x7, .bool sv]) ∧ Below W.heap.size W w') (w : World) : Calls Tryd.prog 20 #[.int .i64 h, .bool it] w fun e w' => e = .returned (.agg #[.int .i64 x0, .int .i64 x1, .int .i64 x2, .int .i64 x3, .int .i64 x4, .int .i64 x5, .int .i64 x6, .int .i64 x7, .bool sv]) ∧ Below w.heap.size w w' := by
  replace hc := Lib.hid hc
  go_enter Tryd.func20, Tryd.ntmps20
  go_wp2_with fail
  refine (hc.out _).mono ?_
  rintro e w' ⟨rfl, hb⟩
  have c0 : w'.cell? ⟨w.heap.size, 0, none⟩ = some (.int .i64 0) := first_cell hb 0
  have c1 : w'.cell? ⟨w.heap.size, 1, none⟩ = some (.int .i64 0) := first_cell hb 1
  have c2 : w'.cell? ⟨w.heap.size, 2, none⟩ = some (.int .i64 0) := first_cell hb 2
  have c3 : w'.cell? ⟨w.heap.size, 3, none⟩ = some (.int .i64 0) := first_cell hb 3
  have c4 : w'.cell? ⟨w.heap.size, 4, none⟩ = some (.int .i64 0) := first_cell hb 4
  have c5 : w'.cell? ⟨w.heap.size, 5, none⟩ = some (.int .i64 0) := first_cell hb 5
  have c6 : w'.cell? ⟨w.heap.size, 6, none⟩ = some (.int .i64 0) := first_cell hb 6
  have c7 : w'.cell? ⟨w.heap.size, 7, none⟩ = some (.int .i64 0) := first_cell hb 7
  have c8 : w'.cell? ⟨w.heap.size, 8, none⟩ = some (.bool false) := first_cell hb 8
  have hfr := first_frozen hb
  have hbel := (below_1 w (.cells #[.int .i64 0, .int .i64 0, .int .i64 0, .int .i64 0, .int .i64 0, .int .i64 0, .int .i64 0, .int .i64 0, .bool false] 23)).trans (hb.mono (by simp))
  clear hb
  go_wp2
  refine bodyPost_ret (v := .agg #[.int .i64 x0, .int .i64 x1, .int .i64 x2, .int .i64 x3, .int .i64 x4, .int .i64 x5, .int .i64 x6, .int .i64 x7, .bool sv]) (by simp [results, Tryd.f20, go_sem, c0, c1, c2, c3, c4, c5, c6, c7, c8]) rfl ⟨rfl, ?_⟩
  exact nine_b hbel _ _ _ _ _ _ _ _ _
theorem one_load (h : Int) (it : Bool) (h0 : 20480 ≤ h) (h1 : h < 40960) (x0 x1 x2 x3 x4 x5 x6 x7 : Int) (sv : Bool) (hc : ∀ W, Calls Tryd.prog 47 #[.int .i64 h] W fun e w' => e = .returned (.agg #[.int .i64 x0, .int .i64 x1, .int .i64 x2, .int .i64 x3, .int .i64 x4, .int .i64 x5, .int .i64 x6, .int .i64 x7, .bool sv]) ∧ Below W.heap.size W w') (w : World) : Calls Tryd.prog 20 #[.int .i64 h, .bool it] w fun e w' => e = .returned (.agg #[.int .i64 x0, .int .i64 x1, .int .i64 x2, .int .i64 x3, .int .i64 x4, .int .i64 x5, .int .i64 x6, .int .i64 x7, .bool sv]) ∧ Below w.heap.size w w' := by
  replace hc := Lib.hid hc
  go_enter Tryd.func20, Tryd.ntmps20
  go_wp2_with fail
  refine (hc.out _).mono ?_
  rintro e w' ⟨rfl, hb⟩
  have c0 : w'.cell? ⟨w.heap.size, 0, none⟩ = some (.int .i64 0) := first_cell hb 0
  have c1 : w'.cell? ⟨w.heap.size, 1, none⟩ = some (.int .i64 0) := first_cell hb 1
  have c2 : w'.cell? ⟨w.heap.size, 2, none⟩ = some (.int .i64 0) := first_cell hb 2
  have c3 : w'.cell? ⟨w.heap.size, 3, none⟩ = some (.int .i64 0) := first_cell hb 3
  have c4 : w'.cell? ⟨w.heap.size, 4, none⟩ = some (.int .i64 0) := first_cell hb 4
  have c5 : w'.cell? ⟨w.heap.size, 5, none⟩ = some (.int .i64 0) := first_cell hb 5
  have c6 : w'.cell? ⟨w.heap.size, 6, none⟩ = some (.int .i64 0) := first_cell hb 6
  have c7 : w'.cell? ⟨w.heap.size, 7, none⟩ = some (.int .i64 0) := first_cell hb 7
  have c8 : w'.cell? ⟨w.heap.size, 8, none⟩ = some (.bool false) := first_cell hb 8
  have hfr := first_frozen hb
  have hbel := (below_1 w (.cells #[.int .i64 0, .int .i64 0, .int .i64 0, .int .i64 0, .int .i64 0, .int .i64 0, .int .i64 0, .int .i64 0, .bool false] 23)).trans (hb.mono (by simp))
  clear hb
  go_wp2
  refine bodyPost_ret (v := .agg #[.int .i64 x0, .int .i64 x1, .int .i64 x2, .int .i64 x3, .int .i64 x4, .int .i64 x5, .int .i64 x6, .int .i64 x7, .bool sv]) (by simp [results, Tryd.f20, go_sem, c0, c1, c2, c3, c4, c5, c6, c7, c8]) rfl ⟨rfl, ?_⟩
  exact nine_b hbel _ _ _ _ _ _ _ _ _
theorem one_misc (h : Int) (it : Bool) (h0 : 45056 ≤ h) (h1 : h < 49152) (x0 x1 x2 x3 x4 x5 x6 x7 : Int) (sv : Bool) (hc : ∀ W, Calls Tryd.prog 48 #[.int .i64 h, .bool it] W fun e w' => e = .returned (.agg #[.int .i64 x0, .int .i64 x1, .int .i64 x2, .int .i64 x3, .int .i64 x4, .int .i64 x5, .int .i64 x6, .int .i64 x7, .bool sv]) ∧ Below W.heap.size W w') (w : World) : Calls Tryd.prog 20 #[.int .i64 h, .bool it] w fun e w' => e = .returned (.agg #[.int .i64 x0, .int .i64 x1, .int .i64 x2, .int .i64 x3, .int .i64 x4, .int .i64 x5, .int .i64 x6, .int .i64 x7, .bool sv]) ∧ Below w.heap.size w w' := by
  replace hc := Lib.hid hc
  go_enter Tryd.func20, Tryd.ntmps20
  go_wp2_with fail
  refine (hc.out _).mono ?_
  rintro e w' ⟨rfl, hb⟩
  have c0 : w'.cell? ⟨w.heap.size, 0, none⟩ = some (.int .i64 0) := first_cell hb 0
  have c1 : w'.cell? ⟨w.heap.size, 1, none⟩ = some (.int .i64 0) := first_cell hb 1
  have c2 : w'.cell? ⟨w.heap.size, 2, none⟩ = some (.int .i64 0) := first_cell hb 2
  have c3 : w'.cell? ⟨w.heap.size, 3, none⟩ = some (.int .i64 0) := first_cell hb 3
  have c4 : w'.cell? ⟨w.heap.size, 4, none⟩ = some (.int .i64 0) := first_cell hb 4
  have c5 : w'.cell? ⟨w.heap.size, 5, none⟩ = some (.int .i64 0) := first_cell hb 5
  have c6 : w'.cell? ⟨w.heap.size, 6, none⟩ = some (.int .i64 0) := first_cell hb 6
  have c7 : w'.cell? ⟨w.heap.size, 7, none⟩ = some (.int .i64 0) := first_cell hb 7
  have c8 : w'.cell? ⟨w.heap.size, 8, none⟩ = some (.bool false) := first_cell hb 8
  have hfr := first_frozen hb
  have hbel := (below_1 w (.cells #[.int .i64 0, .int .i64 0, .int .i64 0, .int .i64 0, .int .i64 0, .int .i64 0, .int .i64 0, .int .i64 0, .bool false] 23)).trans (hb.mono (by simp))
  clear hb
  go_wp2
  refine bodyPost_ret (v := .agg #[.int .i64 x0, .int .i64 x1, .int .i64 x2, .int .i64 x3, .int .i64 x4, .int .i64 x5, .int .i64 x6, .int .i64 x7, .bool sv]) (by simp [results, Tryd.f20, go_sem, c0, c1, c2, c3, c4, c5, c6, c7, c8]) rfl ⟨rfl, ?_⟩
  exact nine_b hbel _ _ _ _ _ _ _ _ _
theorem one_18432 (h : Int) (it : Bool) (h0 : 18432 ≤ h) (h1 : h < 20480) (w : World) : Calls Tryd.prog 20 #[.int .i64 h, .bool it] w fun e w' => e = .returned (.agg #[.int .i64 40, .int .i64 0, .int .i64 (h / 256 % 8), .int .i64 0, .int .i64 0, .int .i64 (h % 256 * 4), .int .i64 1, .int .i64 0, .bool false]) ∧ Below w.heap.size w w' := by
  have A7 : ∀ x : Int, bits .and .i64 x 7 = x % 8 := Cm.and7
  have A15 : ∀ x : Int, bits .and .i64 x 15 = x % 16 := Cm.and15
  have A255 : ∀ x : Int, bits .and .i64 x 255 = x % 256 := Cm.and255
  go_enter Tryd.func20, Tryd.ntmps20
  go_wp2_with (first
    | (go_at_call 46; refine (imm_c _ _ _ _ _).mono ?_; rintro e w' ⟨rfl, rfl⟩)
    | (go_at_call 72; refine (reg_c _ _ _ _ _).mono ?_; rintro e w' ⟨rfl, rfl⟩)
    | (go_at_call 71; refine (with_c _ _ _ _ _ _ _ _ _ _ _).mono ?_; rintro e w' ⟨rfl, rfl⟩))
  refine bodyPost_ret (v := .agg #[.int .i64 40, .int .i64 0, .int .i64 (h / 256 % 8), .int .i64 0, .int .i64 0, .int .i64 (h % 256 * 4), .int .i64 1, .int .i64 0, .bool false]) (by simp [results, Tryd.f20, go_sem]) rfl ⟨rfl, ?_⟩
  first | exact below_1 _ _ | exact below_2 _ _ _ | exact below_3 _ _ _ _ | exact below_4 _ _ _ _ _ | exact below_5 _ _ _ _ _ _ | exact below_d (below_1 _ _) | exact below_d (below_2 _ _ _) | exact below_d (below_3 _ _ _ _)
theorem one_40960 (h : Int) (it : Bool) (h0 : 40960 ≤ h) (h1 : h < 43008) (w : World) : Calls Tryd.prog 20 #[.int .i64 h, .bool it] w fun e w' => e = .returned (.agg #[.int .i64 41, .int .i64 0, .int .i64 (h / 256 % 8), .int .i64 0, .int .i64 0, .int .i64 (h % 256 * 4), .int .i64 1, .int .i64 0, .bool false]) ∧ Below w.heap.size w w' := by
  have A7 : ∀ x : Int, bits .and .i64 x 7 = x % 8 := Cm.and7
  have A15 : ∀ x : Int, bits .and .i64 x 15 = x % 16 := Cm.and15
  have A255 : ∀ x : Int, bits .and .i64 x 255 = x % 256 := Cm.and255
  go_enter Tryd.func20, Tryd.ntmps20
  go_wp2_with (first
    | (go_at_call 46; refine (imm_c _ _ _ _ _).mono ?_; rintro e w' ⟨rfl, rfl⟩)
    | (go_at_call 72; refine (reg_c _ _ _ _ _).mono ?_; rintro e w' ⟨rfl, rfl⟩)
    | (go_at_call 71; refine (with_c _ _ _ _ _ _ _ _ _ _ _).mono ?_; rintro e w' ⟨rfl, rfl⟩))
  refine bodyPost_ret (v := .agg #[.int .i64 41, .int .i64 0, .int .i64 (h / 256 % 8), .int .i64 0, .int .i64 0, .int .i64 (h % 256 * 4), .int .i64 1, .int .i64 0, .bool false]) (by simp [results, Tryd.f20, go_sem]) rfl ⟨rfl, ?_⟩
  first | exact below_1 _ _ | exact below_2 _ _ _ | exact below_3 _ _ _ _ | exact below_4 _ _ _ _ _ | exact below_5 _ _ _ _ _ _ | exact below_d (below_1 _ _) | exact below_d (below_2 _ _ _) | exact below_d (below_3 _ _ _ _)
theorem one_43008 (h : Int) (it : Bool) (h0 : 43008 ≤ h) (h1 : h < 45056) (w : World) : Calls Tryd.prog 20 #[.int .i64 h, .bool it] w fun e w' => e = .returned (.agg #[.int .i64 0, .int .i64 0, .int .i64 0, .int .i64 0, .int .i64 0, .int .i64 0, .int .i64 0, .int .i64 0, .bool false]) ∧ Below w.heap.size w w' := by
  have A7 : ∀ x : Int, bits .and .i64 x 7 = x % 8 := Cm.and7
  have A15 : ∀ x : Int, bits .and .i64 x 15 = x % 16 := Cm.and15
  have A255 : ∀ x : Int, bits .and .i64 x 255 = x % 256 := Cm.and255
  go_enter Tryd.func20, Tryd.ntmps20
  go_wp2
  refine bodyPost_ret (v := .agg #[.int .i64 0, .int .i64 0, .int .i64 0, .int .i64 0, .int .i64 0, .int .i64 0, .int .i64 0, .int .i64 0, .bool false]) (by simp [results, Tryd.f20, go_sem]) rfl ⟨rfl, ?_⟩
  first | exact below_1 _ _ | exact below_2 _ _ _ | exact below_3 _ _ _ _ | exact below_4 _ _ _ _ _ | exact below_5 _ _ _ _ _ _ | exact below_d (below_1 _ _) | exact below_d (below_2 _ _ _) | exact below_d (below_3 _ _ _ _)
theorem one_49152 (h : Int) (it : Bool) (h0 : 49152 ≤ h) (h1 : h < 51200) (w : World) : Calls Tryd.prog 20 #[.int .i64 h, .bool it] w fun e w' => e = .returned (.agg #[.int .i64 32, .int .i64 0, .int .i64 0, .int .i64 (h / 256 % 8), .int .i64 0, .int .i64 0, .int .i64 0, .int .i64 (h % 256), .bool false]) ∧ Below w.heap.size w w' := by
  have A7 : ∀ x : Int, bits .and .i64 x 7 = x % 8 := Cm.and7
  have A15 : ∀ x : Int, bits .and .i64 x 15 = x % 16 := Cm.and15
  have A255 : ∀ x : Int, bits .and .i64 x 255 = x % 256 := Cm.and255
  go_enter Tryd.func20, Tryd.ntmps20
  go_wp2
  refine bodyPost_ret (v := .agg #[.int .i64 32, .int .i64 0, .int .i64 0, .int .i64 (h / 256 % 8), .int .i64 0, .int .i64 0, .int .i64 0, .int .i64 (h % 256), .bool false]) (by simp [results, Tryd.f20, go_sem]) rfl ⟨rfl, ?_⟩
  first | exact below_1 _ _ | exact below_2 _ _ _ | exact below_3 _ _ _ _ | exact below_4 _ _ _ _ _ | exact below_5 _ _ _ _ _ _ | exact below_d (below_1 _ _) | exact below_d (below_2 _ _ _) | exact below_d (below_3 _ _ _ _)
theorem one_51200 (h : Int) (it : Bool) (h0 : 51200 ≤ h) (h1 : h < 53248) (w : World) : Calls Tryd.prog 20 #[.int .i64 h, .bool it] w fun e w' => e = .returned (.agg #[.int .i64 31, .int .i64 0, .int .i64 0, .int .i64 (h / 256 % 8), .int .i64 0, .int .i64 0, .int .i64 0, .int .i64 (h % 256), .bool false]) ∧ Below w.heap.size w w' := by
  have A7 : ∀ x : Int, bits .and .i64 x 7 = x % 8 := Cm.and7
  have A15 : ∀ x : Int, bits .and .i64 x 15 = x % 16 := Cm.and15
  have A255 : ∀ x : Int, bits .and .i64 x 255 = x % 256 := Cm.and255
  go_enter Tryd.func20, Tryd.ntmps20
  go_wp2
  refine bodyPost_ret (v := .agg #[.int .i64 31, .int .i64 0, .int .i64 0, .int .i64 (h / 256 % 8), .int .i64 0, .int .i64 0, .int .i64 0, .int .i64 (h % 256), .bool false]) (by simp [results, Tryd.f20, go_sem]) rfl ⟨rfl, ?_⟩
  first | exact below_1 _ _ | exact below_2 _ _ _ | exact below_3 _ _ _ _ | exact below_4 _ _ _ _ _ | exact below_5 _ _ _ _ _ _ | exact below_d (below_1 _ _) | exact below_d (below_2 _ _ _) | exact below_d (below_3 _ _ _ _)
theorem one_53248_t (h : Int) (h0 : 53248 ≤ h) (h1 : h < 57344) (w : World) : Calls Tryd.prog 20 #[.int .i64 h, .bool true] w fun e w' => e = .returned (.agg #[.int .i64 0, .int .i64 0, .int .i64 0, .int .i64 0, .int .i64 0, .int .i64 0, .int .i64 0, .int .i64 0, .bool false]) ∧ Below w.heap.size w w' := by
  have A7 : ∀ x : Int, bits .and .i64 x 7 = x % 8 := Cm.and7
  have A15 : ∀ x : Int, bits .and .i64 x 15 = x % 16 := Cm.and15
  have A255 : ∀ x : Int, bits .and .i64 x 255 = x % 256 := Cm.and255
  go_enter Tryd.func20, Tryd.ntmps20
  go_wp2
  refine bodyPost_ret (v := .agg #[.int .i64 0, .int .i64 0, .int .i64 0, .int .i64 0, .int .i64 0, .int .i64 0, .int .i64 0, .int .i64 0, .bool false]) (by simp [results, Tryd.f20, go_sem]) rfl ⟨rfl, ?_⟩
  first | exact below_1 _ _ | exact below_2 _ _ _ | exact below_3 _ _ _ _ | exact below_4 _ _ _ _ _ | exact below_5 _ _ _ _ _ _ | exact below_d (below_1 _ _) | exact below_d (below_2 _ _ _) | exact below_d (below_3 _ _ _ _)
theorem one_53248_z (h : Int) (h0 : 53248 ≤ h) (h1 : h < 57344) (hz : 14 ≤ h / 256 % 16) (w : World) : Calls Tryd.prog 20 #[.int .i64 h, .bool false] w fun e w' => e = .returned (.agg #[.int .i64 0, .int .i64 0, .int .i64 0, .int .i64 0, .int .i64 0, .int .i64 0, .int .i64 0, .int .i64 0, .bool false]) ∧ Below w.heap.size w w' := by
  have A7 : ∀ x : Int, bits .and .i64 x 7 = x % 8 := Cm.and7
  have A15 : ∀ x : Int, bits .and .i64 x 15 = x % 16 := Cm.and15
  have A255 : ∀ x : Int, bits .and .i64 x 255 = x % 256 := Cm.and255
  go_enter Tryd.func20, Tryd.ntmps20
  go_wp2
  refine bodyPost_ret (v := .agg #[.int .i64 0, .int .i64 0, .int .i64 0, .int .i64 0, .int .i64 0, .int .i64 0, .int .i64 0, .int .i64 0, .bool false]) (by simp [results, Tryd.f20, go_sem]) rfl ⟨rfl, ?_⟩
  first | exact below_1 _ _ | exact below_2 _ _ _ | exact below_3 _ _ _ _ | exact below_4 _ _ _ _ _ | exact below_5 _ _ _ _ _ _ | exact below_d (below_1 _ _) | exact below_d (below_2 _ _ _) | exact below_d (below_3 _ _ _ _)
theorem one_53248_f (h : Int) (h0 : 53248 ≤ h) (h1 : h < 57344) (gg : Int) (hG : ∀ W, Calls Tryd.prog 49 #[.int .i64 1, .int .i64 h, .int .i64 0] W fun e w' => e = .returned (.int .i64 gg) ∧ ∃ n, w' = W.drewN n) (hz : h / 256 % 16 < 14) (w : World) : Calls Tryd.prog 20 #[.int .i64 h, .bool false] w fun e w' => e = .returned (.agg #[.int .i64 35, .int .i64 (h / 256 % 16), .int .i64 0, .int .i64 0, .int .i64 0, .int .i64 (gg), .int .i64 1, .int .i64 0, .bool false]) ∧ Below w.heap.size w w' := by
  have A7 : ∀ x : Int, bits .and .i64 x 7 = x % 8 := Cm.and7
  have A15 : ∀ x : Int, bits .and .i64 x 15 = x % 16 := Cm.and15
  have A255 : ∀ x : Int, bits .and .i64 x 255 = x % 256 := Cm.and255
  have HG := Lib.hid hG
  clear hG
  have hd : decide (14 ≤ h / 256 % 16) = false := by simp; omega
  go_enter Tryd.func20, Tryd.ntmps20
  go_wp2_with fail
  refine (HG.out _).mono ?_
  rintro e w' ⟨rfl, n1, rfl⟩
  go_wp2
  refine bodyPost_ret (v := .agg #[.int .i64 35, .int .i64 (h / 256 % 16), .int .i64 0, .int .i64 0, .int .i64 0, .int .i64 (gg), .int .i64 1, .int .i64 0, .bool false]) (by simp [results, Tryd.f20, go_sem]) rfl ⟨rfl, ?_⟩
  first | exact below_1 _ _ | exact below_2 _ _ _ | exact below_3 _ _ _ _ | exact below_4 _ _ _ _ _ | exact below_5 _ _ _ _ _ _ | exact below_d (below_1 _ _) | exact below_d (below_2 _ _ _) | exact below_d (below_3 _ _ _ _)
theorem one_57344 (h : Int) (it : Bool) (h0 : 57344 ≤ h) (h1 : h < 59392) (gg : Int) (hG : ∀ W, Calls Tryd.prog 49 #[.int .i64 2, .int .i64 h, .int .i64 0] W fun e w' => e = .returned (.int .i64 gg) ∧ ∃ n, w' = W.drewN n) (w : World) : Calls Tryd.prog 20 #[.int .i64 h, .bool it] w fun e w' => e = .returned (.agg #[.int .i64 35, .int .i64 14, .int .i64 0, .int .i64 0, .int .i64 0, .int .i64 (gg), .int .i64 1, .int .i64 0, .bool false]) ∧ Below w.heap.size w w' := by
  have A7 : ∀ x : Int, bits .and .i64 x 7 = x % 8 := Cm.and7
  have A15 : ∀ x : Int, bits .and .i64 x 15 = x % 16 := Cm.and15
  have A255 : ∀ x : Int, bits .and .i64 x 255 = x % 256 := Cm.and255
  have HG := Lib.hid hG
  clear hG
  go_enter Tryd.func20, Tryd.ntmps20
  go_wp2_with fail
  refine (HG.out _).mono ?_
  rintro e w' ⟨rfl, n1, rfl⟩
  go_wp2
  refine bodyPost_ret (v := .agg #[.int .i64 35, .int .i64 14, .int .i64 0, .int .i64 0, .int .i64 0, .int .i64 (gg), .int .i64 1, .int .i64 0, .bool false]) (by simp [results, Tryd.f20, go_sem]) rfl ⟨rfl, ?_⟩
  first | exact below_1 _ _ | exact below_2 _ _ _ | exact below_3 _ _ _ _ | exact below_4 _ _ _ _ _ | exact below_5 _ _ _ _ _ _ | exact below_d (below_1 _ _) | exact below_d (below_2 _ _ _) | exact below_d (below_3 _ _ _ _)
end Rd
end Go.Proofs.YtcphhojdfpedkaaDoor
