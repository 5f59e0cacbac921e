/- The document's makers of instructions; bits. No conditions but those that each fact names (text by gen_d.py). The document reads a halfword from 17408 to 18431. No conditions but those that each fact names (text by gen_d.py). -/
import Derived.Test.YtcphhojdfpedkaaDoorRows
import Derived.Test.YtcphhojdfpedkaaDoorGa
import Derived.ProofKit
import Derived.OpenShut
import Derived.WalkLawsBesides
import Derived.Lib.Hide
import Derived.Outline
import Derived.Deep.QuietTactic
import Derived.BigQuiet

namespace Go.Proofs.YtcphhojdfpedkaaDoor
open Go.ChangeShapes Go.WideShapes Go.ChangeAt Go.RowKit
namespace Rd
theorem imm_c (op d n v : Int) (w : World) : Calls Tryd.prog 46 #[.int .i64 op, .int .i64 d, .int .i64 n, .int .i64 v] w fun r w' => r = .returned (.agg #[.int .i64 (op), .int .i64 0, .int .i64 (d), .int .i64 (n), .int .i64 0, .int .i64 (v), .int .i64 1, .int .i64 0, .bool false]) ∧ w' = w.alloc (.cells #[.int .i64 (op), .int .i64 0, .int .i64 (d), .int .i64 (n), .int .i64 0, .int .i64 (v), .int .i64 1, .int .i64 0, .bool false] 23) := by
  go_enter Tryd.func46, Tryd.ntmps46
  go_wp2
  exact bodyPost_ret (v := .agg #[.int .i64 (op), .int .i64 0, .int .i64 (d), .int .i64 (n), .int .i64 0, .int .i64 (v), .int .i64 1, .int .i64 0, .bool false]) (by simp [results, Tryd.f46, go_sem]) rfl ⟨rfl, rfl⟩
theorem reg_c (op d n m : Int) (w : World) : Calls Tryd.prog 72 #[.int .i64 op, .int .i64 d, .int .i64 n, .int .i64 m] w fun r w' => r = .returned (.agg #[.int .i64 (op), .int .i64 0, .int .i64 (d), .int .i64 (n), .int .i64 (m), .int .i64 0, .int .i64 2, .int .i64 0, .bool false]) ∧ w' = w.alloc (.cells #[.int .i64 (op), .int .i64 0, .int .i64 (d), .int .i64 (n), .int .i64 (m), .int .i64 0, .int .i64 2, .int .i64 0, .bool false] 23) := by
  go_enter Tryd.func72, Tryd.ntmps72
  go_wp2
  exact bodyPost_ret (v := .agg #[.int .i64 (op), .int .i64 0, .int .i64 (d), .int .i64 (n), .int .i64 (m), .int .i64 0, .int .i64 2, .int .i64 0, .bool false]) (by simp [results, Tryd.f72, go_sem]) rfl ⟨rfl, rfl⟩
theorem with_c (a b c d e f g h : Int) (s0 s : Bool) (w : World) : Calls Tryd.prog 71 #[.agg #[.int .i64 a, .int .i64 b, .int .i64 c, .int .i64 d, .int .i64 e, .int .i64 f, .int .i64 g, .int .i64 h, .bool s0], .bool s] w fun r w' => r = .returned (.agg #[.int .i64 (a), .int .i64 (b), .int .i64 (c), .int .i64 (d), .int .i64 (e), .int .i64 (f), .int .i64 (g), .int .i64 (h), .bool s]) ∧ w' = (w.alloc (.cells #[.int .i64 (a), .int .i64 (b), .int .i64 (c), .int .i64 (d), .int .i64 (e), .int .i64 (f), .int .i64 (g), .int .i64 (h), .bool s] 23)).alloc (.cells #[.int .i64 (a), .int .i64 (b), .int .i64 (c), .int .i64 (d), .int .i64 (e), .int .i64 (f), .int .i64 (g), .int .i64 (h), .bool s] 23) := by
  go_enter Tryd.func71, Tryd.ntmps71
  go_wp2
  exact bodyPost_ret (v := .agg #[.int .i64 (a), .int .i64 (b), .int .i64 (c), .int .i64 (d), .int .i64 (e), .int .i64 (f), .int .i64 (g), .int .i64 (h), .bool s]) (by simp [results, Tryd.f71, go_sem]) rfl ⟨rfl, rfl⟩
theorem nat3 (n : Nat) : n &&& 3 = n % 4 := Nat.and_two_pow_sub_one_eq_mod n 2
theorem and3 (x : Int) : bits .and .i64 x 3 = x % 4 := by rw [show (3 : Int) = ((3 : Nat) : Int) by rfl, Cm.i64_and x 3 (by decide), nat3]; omega
theorem below_1 (w : World) (a : Obj) : Below w.heap.size w (w.alloc a) := (Below.refl _ _).alloc (Nat.le_refl _) _
theorem below_2 (w : World) (a b : Obj) : Below w.heap.size w ((w.alloc a).alloc b) := (below_1 w a).alloc (by simp) _
theorem below_3 (w : World) (a b c : Obj) : Below w.heap.size w (((w.alloc a).alloc b).alloc c) := (below_2 w a b).alloc (by simp; omega) _
theorem below_4 (w : World) (a b c d : Obj) : Below w.heap.size w ((((w.alloc a).alloc b).alloc c).alloc d) := (below_3 w a b c).alloc (by simp; omega) _
theorem below_d {B n : Nat} {a w : World} (h : Below B a w) : Below B a (w.drewN n) := ⟨h.os, h.tape, h.output, h.size, h.block⟩
end Rd
end Go.Proofs.YtcphhojdfpedkaaDoor

namespace Go.Proofs.YtcphhojdfpedkaaDoor
open Go.ChangeShapes Go.WideShapes Go.ChangeAt Go.RowKit
namespace Rd
theorem nat135 (n : Nat) : n &&& 135 = n % 256 &&& 135 := by
  rw [← Nat.and_two_pow_sub_one_eq_mod n 8, Nat.and_assoc]
  rfl
theorem all135 : ((List.range 256).all fun n => (n &&& 135 == 0) == (n / 128 % 2 == 0 && n % 8 == 0)) = true := by decide +kernel
theorem and135 (h : Int) (h0 : 0 ≤ h) (h1 : h < 65536) : (bits .and .i64 h 135 != 0) = !(decide (h / 128 % 2 = 0) && decide (h % 8 = 0)) := by
  obtain ⟨n, rfl⟩ : ∃ n : Nat, h = (n : Int) := ⟨h.toNat, by omega⟩
  have e := List.all_eq_true.1 all135 (n % 256) (List.mem_range.2 (Nat.mod_lt _ (by decide)))
  rw [show (135 : Int) = ((135 : Nat) : Int) by rfl, Cm.i64_and _ 135 (by decide), show ((n : Int) % 18446744073709551616).toNat = n by omega, nat135]
  have e1 : n % 256 / 128 % 2 = n / 128 % 2 := by omega
  have e2 : n % 256 % 8 = n % 8 := by omega
  rw [e1, e2] at e
  generalize n % 256 &&& 135 = z at *
  have cz : ((z : Int) != 0) = !(z == 0) := by rw [Bool.eq_iff_iff]; simp
  have c1 : decide ((n : Int) / 128 % 2 = 0) = (n / 128 % 2 == 0) := by rw [Bool.eq_iff_iff]; simp; omega
  have c2 : decide ((n : Int) % 8 = 0) = (n % 8 == 0) := by rw [Bool.eq_iff_iff]; simp; omega
  rw [cz, c1, c2, eq_of_beq e]
theorem hi_is (h : Int) : bits .or .i64 (h / 128 % 2 * 8) (h % 8) = h / 128 % 2 * 8 + h % 8 := Cm.or_join _ _ 3 (by decide) (by omega) (by omega) (by omega) (by omega) (by omega)
theorem low6_y (r : Int) (h0 : 0 ≤ r) (h1 : r ≤ 7) (w : World) : Calls Tryd.prog 60 #[.int .i64 r] w fun e w' => e = .returned (.bool true) ∧ ∃ n, w' = w.drewN n := by
  have hd : decide (r ≤ 7) = true := by simp; omega
  go_enter Tryd.func60, Tryd.ntmps60
  go_wp2
  go_ret
  exact ⟨rfl, 0, rfl⟩
theorem low6_n (r : Int) (h0 : 0 ≤ r) (h1 : 7 < r) (w : World) : Calls Tryd.prog 60 #[.int .i64 r] w fun e w' => e = .returned (.bool false) ∧ ∃ n, w' = w.drewN n := by
  have hd : decide (r ≤ 7) = false := by simp; omega
  go_enter Tryd.func60, Tryd.ntmps60
  go_wp2
  go_ret
  exact ⟨rfl, 0, rfl⟩
theorem high_17408 (h : Int) (h0 : 17408 ≤ h) (h1 : h < 17664) (w : World) : Calls Tryd.prog 45 #[.int .i64 h] w fun e w' => e = .returned (.agg #[.int .i64 5, .int .i64 0, .int .i64 (h / 128 % 2 * 8 + h % 8), .int .i64 (h / 128 % 2 * 8 + h % 8), .int .i64 (h / 8 % 16), .int .i64 0, .int .i64 2, .int .i64 0, .bool false]) ∧ Below w.heap.size w w' := by
  have A1 : ∀ x : Int, bits .and .i64 x 1 = x % 2 := Cm.and1
  have A3 : ∀ x : Int, bits .and .i64 x 3 = x % 4 := and3
  have A7 : ∀ x : Int, bits .and .i64 x 7 = x % 8 := Cm.and7
  have A15 : ∀ x : Int, bits .and .i64 x 15 = x % 16 := Cm.and15
  have e256m : h / 256 % 4 = 0 := by omega
  have hH := hi_is h
  go_enter Tryd.func45, Tryd.ntmps45
  go_wp2_with (first
    | (go_at_call 46; refine (imm_c _ _ _ _ _).mono ?_; rintro e w' ⟨rfl, rfl⟩)
    | (go_at_call 72; refine (reg_c _ _ _ _ _).mono ?_; rintro e w' ⟨rfl, rfl⟩)
    | (go_at_call 71; refine (with_c _ _ _ _ _ _ _ _ _ _ _).mono ?_; rintro e w' ⟨rfl, rfl⟩))
  refine bodyPost_ret (v := .agg #[.int .i64 5, .int .i64 0, .int .i64 (h / 128 % 2 * 8 + h % 8), .int .i64 (h / 128 % 2 * 8 + h % 8), .int .i64 (h / 8 % 16), .int .i64 0, .int .i64 2, .int .i64 0, .bool false]) (by simp [results, Tryd.f45, go_sem]) rfl ⟨rfl, ?_⟩
  first | exact below_1 _ _ | exact below_2 _ _ _ | exact below_3 _ _ _ _ | exact below_4 _ _ _ _ _ | exact below_5 _ _ _ _ _ _ | exact below_d (below_1 _ _) | exact below_d (below_2 _ _ _) | exact below_d (below_3 _ _ _ _)
theorem high_17920 (h : Int) (h0 : 17920 ≤ h) (h1 : h < 18176) (w : World) : Calls Tryd.prog 45 #[.int .i64 h] w fun e w' => e = .returned (.agg #[.int .i64 10, .int .i64 0, .int .i64 (h / 128 % 2 * 8 + h % 8), .int .i64 0, .int .i64 (h / 8 % 16), .int .i64 0, .int .i64 2, .int .i64 0, .bool false]) ∧ Below w.heap.size w w' := by
  have A1 : ∀ x : Int, bits .and .i64 x 1 = x % 2 := Cm.and1
  have A3 : ∀ x : Int, bits .and .i64 x 3 = x % 4 := and3
  have A7 : ∀ x : Int, bits .and .i64 x 7 = x % 8 := Cm.and7
  have A15 : ∀ x : Int, bits .and .i64 x 15 = x % 16 := Cm.and15
  have e256m : h / 256 % 4 = 2 := by omega
  have hH := hi_is h
  go_enter Tryd.func45, Tryd.ntmps45
  go_wp2_with (first
    | (go_at_call 46; refine (imm_c _ _ _ _ _).mono ?_; rintro e w' ⟨rfl, rfl⟩)
    | (go_at_call 72; refine (reg_c _ _ _ _ _).mono ?_; rintro e w' ⟨rfl, rfl⟩)
    | (go_at_call 71; refine (with_c _ _ _ _ _ _ _ _ _ _ _).mono ?_; rintro e w' ⟨rfl, rfl⟩))
  refine bodyPost_ret (v := .agg #[.int .i64 10, .int .i64 0, .int .i64 (h / 128 % 2 * 8 + h % 8), .int .i64 0, .int .i64 (h / 8 % 16), .int .i64 0, .int .i64 2, .int .i64 0, .bool false]) (by simp [results, Tryd.f45, go_sem]) rfl ⟨rfl, ?_⟩
  first | exact below_1 _ _ | exact below_2 _ _ _ | exact below_3 _ _ _ _ | exact below_4 _ _ _ _ _ | exact below_5 _ _ _ _ _ _ | exact below_d (below_1 _ _) | exact below_d (below_2 _ _ _) | exact below_d (below_3 _ _ _ _)
theorem high_17664_ll (h : Int) (h0 : 17664 ≤ h) (h1 : h < 17920) (hd : h / 128 % 2 * 8 + h % 8 ≤ 7) (hm : h / 8 % 16 ≤ 7) (w : World) : Calls Tryd.prog 45 #[.int .i64 h] w fun e w' => e = .returned (.agg #[.int .i64 0, .int .i64 0, .int .i64 0, .int .i64 0, .int .i64 0, .int .i64 0, .int .i64 0, .int .i64 0, .bool false]) ∧ Below w.heap.size w w' := by
  have A1 : ∀ x : Int, bits .and .i64 x 1 = x % 2 := Cm.and1
  have A3 : ∀ x : Int, bits .and .i64 x 3 = x % 4 := and3
  have A7 : ∀ x : Int, bits .and .i64 x 7 = x % 8 := Cm.and7
  have A15 : ∀ x : Int, bits .and .i64 x 15 = x % 16 := Cm.and15
  have e256m : h / 256 % 4 = 1 := by omega
  have hH := hi_is h
  obtain ⟨dd, ed⟩ : ∃ q, h / 128 % 2 * 8 + h % 8 = q := ⟨_, rfl⟩
  obtain ⟨mm, em⟩ : ∃ q, h / 8 % 16 = q := ⟨_, rfl⟩
  have d0 : 0 ≤ dd := by omega
  have m0 : 0 ≤ mm := by omega
  rw [ed] at hH hd
  rw [em] at hm
  go_enter Tryd.func45, Tryd.ntmps45
  go_wp2_with fail
  refine (low6_y dd d0 hd _).mono ?_
  rintro e w' ⟨rfl, n1, rfl⟩
  go_wp2_with fail
  refine (low6_y mm m0 hm _).mono ?_
  rintro e w' ⟨rfl, n2, rfl⟩
  go_wp2
  refine bodyPost_ret (v := .agg #[.int .i64 0, .int .i64 0, .int .i64 0, .int .i64 0, .int .i64 0, .int .i64 0, .int .i64 0, .int .i64 0, .bool false]) (by simp [results, Tryd.f45, go_sem]) rfl ⟨rfl, ?_⟩
  first | exact below_1 _ _ | exact below_2 _ _ _ | exact below_3 _ _ _ _ | exact below_4 _ _ _ _ _ | exact below_5 _ _ _ _ _ _ | exact below_d (below_1 _ _) | exact below_d (below_2 _ _ _) | exact below_d (below_3 _ _ _ _)
theorem high_17664_lh (h : Int) (h0 : 17664 ≤ h) (h1 : h < 17920) (hd : h / 128 % 2 * 8 + h % 8 ≤ 7) (hm : 7 < h / 8 % 16) (w : World) : Calls Tryd.prog 45 #[.int .i64 h] w fun e w' => e = .returned (.agg #[.int .i64 12, .int .i64 0, .int .i64 0, .int .i64 (h / 128 % 2 * 8 + h % 8), .int .i64 (h / 8 % 16), .int .i64 0, .int .i64 2, .int .i64 0, .bool false]) ∧ Below w.heap.size w w' := by
  have A1 : ∀ x : Int, bits .and .i64 x 1 = x % 2 := Cm.and1
  have A3 : ∀ x : Int, bits .and .i64 x 3 = x % 4 := and3
  have A7 : ∀ x : Int, bits .and .i64 x 7 = x % 8 := Cm.and7
  have A15 : ∀ x : Int, bits .and .i64 x 15 = x % 16 := Cm.and15
  have e256m : h / 256 % 4 = 1 := by omega
  have hH := hi_is h
  obtain ⟨dd, ed⟩ : ∃ q, h / 128 % 2 * 8 + h % 8 = q := ⟨_, rfl⟩
  obtain ⟨mm, em⟩ : ∃ q, h / 8 % 16 = q := ⟨_, rfl⟩
  have d0 : 0 ≤ dd := by omega
  have m0 : 0 ≤ mm := by omega
  rw [ed] at hH hd
  rw [em] at hm
  rw [ed, em]
  go_enter Tryd.func45, Tryd.ntmps45
  go_wp2_with fail
  refine (low6_y dd d0 hd _).mono ?_
  rintro e w' ⟨rfl, n1, rfl⟩
  go_wp2_with fail
  refine (low6_n mm m0 hm _).mono ?_
  rintro e w' ⟨rfl, n2, rfl⟩
  go_wp2_with (first
    | (go_at_call 46; refine (imm_c _ _ _ _ _).mono ?_; rintro e w' ⟨rfl, rfl⟩)
    | (go_at_call 72; refine (reg_c _ _ _ _ _).mono ?_; rintro e w' ⟨rfl, rfl⟩)
    | (go_at_call 71; refine (with_c _ _ _ _ _ _ _ _ _ _ _).mono ?_; rintro e w' ⟨rfl, rfl⟩))
  refine bodyPost_ret (v := .agg #[.int .i64 12, .int .i64 0, .int .i64 0, .int .i64 dd, .int .i64 mm, .int .i64 0, .int .i64 2, .int .i64 0, .bool false]) (by simp [results, Tryd.f45, go_sem]) rfl ⟨rfl, ?_⟩
  first | exact below_1 _ _ | exact below_2 _ _ _ | exact below_3 _ _ _ _ | exact below_4 _ _ _ _ _ | exact below_5 _ _ _ _ _ _ | exact below_d (below_1 _ _) | exact below_d (below_2 _ _ _) | exact below_d (below_3 _ _ _ _)
theorem high_17664_h (h : Int) (h0 : 17664 ≤ h) (h1 : h < 17920) (hd : 7 < h / 128 % 2 * 8 + h % 8) (w : World) : Calls Tryd.prog 45 #[.int .i64 h] w fun e w' => e = .returned (.agg #[.int .i64 12, .int .i64 0, .int .i64 0, .int .i64 (h / 128 % 2 * 8 + h % 8), .int .i64 (h / 8 % 16), .int .i64 0, .int .i64 2, .int .i64 0, .bool false]) ∧ Below w.heap.size w w' := by
  have A1 : ∀ x : Int, bits .and .i64 x 1 = x % 2 := Cm.and1
  have A3 : ∀ x : Int, bits .and .i64 x 3 = x % 4 := and3
  have A7 : ∀ x : Int, bits .and .i64 x 7 = x % 8 := Cm.and7
  have A15 : ∀ x : Int, bits .and .i64 x 15 = x % 16 := Cm.and15
  have e256m : h / 256 % 4 = 1 := by omega
  have hH := hi_is h
  obtain ⟨dd, ed⟩ : ∃ q, h / 128 % 2 * 8 + h % 8 = q := ⟨_, rfl⟩
  obtain ⟨mm, em⟩ : ∃ q, h / 8 % 16 = q := ⟨_, rfl⟩
  have d0 : 0 ≤ dd := by omega
  have m0 : 0 ≤ mm := by omega
  rw [ed] at hH hd
  rw [ed, em]
  go_enter Tryd.func45, Tryd.ntmps45
  go_wp2_with fail
  refine (low6_n dd d0 hd _).mono ?_
  rintro e w' ⟨rfl, n1, rfl⟩
  go_wp2_with (first
    | (go_at_call 46; refine (imm_c _ _ _ _ _).mono ?_; rintro e w' ⟨rfl, rfl⟩)
    | (go_at_call 72; refine (reg_c _ _ _ _ _).mono ?_; rintro e w' ⟨rfl, rfl⟩)
    | (go_at_call 71; refine (with_c _ _ _ _ _ _ _ _ _ _ _).mono ?_; rintro e w' ⟨rfl, rfl⟩))
  refine bodyPost_ret (v := .agg #[.int .i64 12, .int .i64 0, .int .i64 0, .int .i64 dd, .int .i64 mm, .int .i64 0, .int .i64 2, .int .i64 0, .bool false]) (by simp [results, Tryd.f45, go_sem]) rfl ⟨rfl, ?_⟩
  first | exact below_1 _ _ | exact below_2 _ _ _ | exact below_3 _ _ _ _ | exact below_4 _ _ _ _ _ | exact below_5 _ _ _ _ _ _ | exact below_d (below_1 _ _) | exact below_d (below_2 _ _ _) | exact below_d (below_3 _ _ _ _)
theorem high_18176_y (h : Int) (h0 : 18176 ≤ h) (h1 : h < 18432) (hb : h / 128 % 2 = 0 ∧ h % 8 = 0) (w : World) : Calls Tryd.prog 45 #[.int .i64 h] w fun e w' => e = .returned (.agg #[.int .i64 39, .int .i64 0, .int .i64 0, .int .i64 0, .int .i64 (h / 8 % 16), .int .i64 0, .int .i64 2, .int .i64 0, .bool false]) ∧ Below w.heap.size w w' := by
  have A1 : ∀ x : Int, bits .and .i64 x 1 = x % 2 := Cm.and1
  have A3 : ∀ x : Int, bits .and .i64 x 3 = x % 4 := and3
  have A7 : ∀ x : Int, bits .and .i64 x 7 = x % 8 := Cm.and7
  have A15 : ∀ x : Int, bits .and .i64 x 15 = x % 16 := Cm.and15
  have e256m : h / 256 % 4 = 3 := by omega
  have hH := hi_is h
  have hz : (bits .and .i64 h 135 != 0) = false := by rw [and135 h (by omega) (by omega)]; simp [hb.1, hb.2]
  clear hb
  go_enter Tryd.func45, Tryd.ntmps45
  go_wp2_with (first
    | (go_at_call 46; refine (imm_c _ _ _ _ _).mono ?_; rintro e w' ⟨rfl, rfl⟩)
    | (go_at_call 72; refine (reg_c _ _ _ _ _).mono ?_; rintro e w' ⟨rfl, rfl⟩)
    | (go_at_call 71; refine (with_c _ _ _ _ _ _ _ _ _ _ _).mono ?_; rintro e w' ⟨rfl, rfl⟩))
  refine bodyPost_ret (v := .agg #[.int .i64 39, .int .i64 0, .int .i64 0, .int .i64 0, .int .i64 (h / 8 % 16), .int .i64 0, .int .i64 2, .int .i64 0, .bool false]) (by simp [results, Tryd.f45, go_sem]) rfl ⟨rfl, ?_⟩
  first | exact below_1 _ _ | exact below_2 _ _ _ | exact below_3 _ _ _ _ | exact below_4 _ _ _ _ _ | exact below_5 _ _ _ _ _ _ | exact below_d (below_1 _ _) | exact below_d (below_2 _ _ _) | exact below_d (below_3 _ _ _ _)
theorem high_18176_n (h : Int) (h0 : 18176 ≤ h) (h1 : h < 18432) (hb : ¬ (h / 128 % 2 = 0 ∧ h % 8 = 0)) (w : World) : Calls Tryd.prog 45 #[.int .i64 h] w fun e w' => e = .returned (.agg #[.int .i64 0, .int .i64 0, .int .i64 0, .int .i64 0, .int .i64 0, .int .i64 0, .int .i64 0, .int .i64 0, .bool false]) ∧ Below w.heap.size w w' := by
  have A1 : ∀ x : Int, bits .and .i64 x 1 = x % 2 := Cm.and1
  have A3 : ∀ x : Int, bits .and .i64 x 3 = x % 4 := and3
  have A7 : ∀ x : Int, bits .and .i64 x 7 = x % 8 := Cm.and7
  have A15 : ∀ x : Int, bits .and .i64 x 15 = x % 16 := Cm.and15
  have e256m : h / 256 % 4 = 3 := by omega
  have hH := hi_is h
  have hz : (bits .and .i64 h 135 != 0) = true := by
    rw [and135 h (by omega) (by omega)]
    by_cases ha : h / 128 % 2 = 0 <;> by_cases hc : h % 8 = 0 <;> simp_all
  clear hb
  go_enter Tryd.func45, Tryd.ntmps45
  go_wp2_with (first
    | (go_at_call 46; refine (imm_c _ _ _ _ _).mono ?_; rintro e w' ⟨rfl, rfl⟩)
    | (go_at_call 72; refine (reg_c _ _ _ _ _).mono ?_; rintro e w' ⟨rfl, rfl⟩)
    | (go_at_call 71; refine (with_c _ _ _ _ _ _ _ _ _ _ _).mono ?_; rintro e w' ⟨rfl, rfl⟩))
  refine bodyPost_ret (v := .agg #[.int .i64 0, .int .i64 0, .int .i64 0, .int .i64 0, .int .i64 0, .int .i64 0, .int .i64 0, .int .i64 0, .bool false]) (by simp [results, Tryd.f45, go_sem]) rfl ⟨rfl, ?_⟩
  first | exact below_1 _ _ | exact below_2 _ _ _ | exact below_3 _ _ _ _ | exact below_4 _ _ _ _ _ | exact below_5 _ _ _ _ _ _ | exact below_d (below_1 _ _) | exact below_d (below_2 _ _ _) | exact below_d (below_3 _ _ _ _)
end Rd
end Go.Proofs.YtcphhojdfpedkaaDoor
