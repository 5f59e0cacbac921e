/- Contract of math/bits' OnesCount on numbers of sixteen bits. -/
import Derived.Test.YtdcnkmkaafimlaaDoorRows
import Derived.Test.YtdcnkmkaafimlaaDoorGa
namespace Go.Proofs.YtdcnkmkaafimlaaDoor
open Go.ChangeShapes Go.WideShapes Go.ChangeAt Go.RowKit

theorem u64_and_nat (a b : Nat) (ha : a < 18446744073709551616) (hb : b < 18446744073709551616) : bits .and .u64 (a : Int) (b : Int) = ((a &&& b : Nat) : Int) := by
  have hc : a &&& b ≤ a := Nat.and_le_left
  have h : bits .and .u64 (a : Int) (b : Int) = IntKind.u64.wrap (((BitVec.ofInt 64 a).toNat &&& (BitVec.ofInt 64 b).toNat : Nat) : Int) := by
    rw [← BitVec.toNat_and]; rfl
  have ea : (BitVec.ofInt 64 (a : Int)).toNat = a := by rw [BitVec.toNat_ofInt]; omega
  have eb : (BitVec.ofInt 64 (b : Int)).toNat = b := by rw [BitVec.toNat_ofInt]; omega
  rw [h, ea, eb, IntKind.wrap_u64]
  omega

/-! the library's steps, on small numbers -/
def s1 (x : Nat) : Nat := (x / 2 &&& 6148914691236517205) + (x &&& 6148914691236517205)
def s2 (x : Nat) : Nat := (x / 4 &&& 3689348814741910323) + (x &&& 3689348814741910323)
def s3 (x : Nat) : Nat := x / 16 + x &&& 1085102592571150095
def s4 (x : Nat) : Nat := x + x / 256
def s5 (x : Nat) : Nat := x + x / 65536
def s6 (x : Nat) : Nat := x + x / 4294967296
theorem s1_bd (x : Nat) : s1 x ≤ 2 * x := by
  have h1 : x / 2 &&& 6148914691236517205 ≤ x / 2 := Nat.and_le_left
  have h2 : x &&& 6148914691236517205 ≤ x := Nat.and_le_left
  unfold s1; omega
theorem s2_bd (x : Nat) : s2 x ≤ 2 * x := by
  have h1 : x / 4 &&& 3689348814741910323 ≤ x / 4 := Nat.and_le_left
  have h2 : x &&& 3689348814741910323 ≤ x := Nat.and_le_left
  unfold s2; omega
theorem s3_bd (x : Nat) : s3 x ≤ 2 * x := by
  have h1 : x / 16 + x &&& 1085102592571150095 ≤ x / 16 + x := Nat.and_le_left
  unfold s3; omega
def popB (c : Nat) : Bool := (List.range 16).all fun a => (List.range 256).all fun b => (s6 (s5 (s4 (s3 (s2 (s1 (c * 4096 + a * 256 + b)))))) &&& 127) == Im.pop (c * 4096 + a * 256 + b)
theorem pop_0 : popB 0 = true := by decide +kernel
theorem pop_1 : popB 1 = true := by decide +kernel
theorem pop_2 : popB 2 = true := by decide +kernel
theorem pop_3 : popB 3 = true := by decide +kernel
theorem pop_4 : popB 4 = true := by decide +kernel
theorem pop_5 : popB 5 = true := by decide +kernel
theorem pop_6 : popB 6 = true := by decide +kernel
theorem pop_7 : popB 7 = true := by decide +kernel
theorem pop_8 : popB 8 = true := by decide +kernel
theorem pop_9 : popB 9 = true := by decide +kernel
theorem pop_10 : popB 10 = true := by decide +kernel
theorem pop_11 : popB 11 = true := by decide +kernel
theorem pop_12 : popB 12 = true := by decide +kernel
theorem pop_13 : popB 13 = true := by decide +kernel
theorem pop_14 : popB 14 = true := by decide +kernel
theorem pop_15 : popB 15 = true := by decide +kernel
theorem pop_all (c : Nat) (h : c < 16) : popB c = true := by
  rcases (by omega : c = 0 ∨ c = 1 ∨ c = 2 ∨ c = 3 ∨ c = 4 ∨ c = 5 ∨ c = 6 ∨ c = 7 ∨ c = 8 ∨ c = 9 ∨ c = 10 ∨ c = 11 ∨ c = 12 ∨ c = 13 ∨ c = 14 ∨ c = 15) with rfl | rfl | rfl | rfl | rfl | rfl | rfl | rfl | rfl | rfl | rfl | rfl | rfl | rfl | rfl | rfl
  · exact pop_0
  · exact pop_1
  · exact pop_2
  · exact pop_3
  · exact pop_4
  · exact pop_5
  · exact pop_6
  · exact pop_7
  · exact pop_8
  · exact pop_9
  · exact pop_10
  · exact pop_11
  · exact pop_12
  · exact pop_13
  · exact pop_14
  · exact pop_15
theorem pop_is (x : Nat) (h : x < 65536) : (s6 (s5 (s4 (s3 (s2 (s1 x))))) &&& 127) = Im.pop x := by
  have h' := pop_all (x / 4096) (by omega)
  unfold popB at h'
  rw [List.all_eq_true] at h'
  have h2 := h' (x / 256 % 16) (by simp; omega)
  rw [List.all_eq_true] at h2
  have h3 := h2 (x % 256) (by simp; omega)
  rw [show x / 4096 * 4096 + x / 256 % 16 * 256 + x % 256 = x by omega] at h3
  exact eq_of_beq h3

theorem ones64_c (x : Nat) (hx : x < 65536) (w : World) :
    Calls Tryd.prog 60 #[.int .u64 (x : Int)] w fun e w' => e = .returned (.int .i64 (Im.pop x : Int)) ∧ ∃ n, w' = w.drewN n := by
  have hp := pop_is x hx
  have g1 : IntKind.u64.wrap (bits .and .u64 ((x : Int) / 2) 6148914691236517205 + bits .and .u64 (x : Int) 6148914691236517205) = (s1 x : Int) := by
    rw [show ((x : Int) / 2) = ((x / 2 : Nat) : Int) by omega, show (6148914691236517205 : Int) = ((6148914691236517205 : Nat) : Int) by rfl, u64_and_nat _ _ (by omega) (by decide), u64_and_nat _ _ (by omega) (by decide), IntKind.wrap_u64]
    have := s1_bd x
    unfold s1 at *
    omega
  have b1 := s1_bd x
  generalize s1 x = y1 at *
  have g2 : IntKind.u64.wrap (bits .and .u64 ((y1 : Int) / 4) 3689348814741910323 + bits .and .u64 (y1 : Int) 3689348814741910323) = (s2 y1 : Int) := by
    rw [show ((y1 : Int) / 4) = ((y1 / 4 : Nat) : Int) by omega, show (3689348814741910323 : Int) = ((3689348814741910323 : Nat) : Int) by rfl, u64_and_nat _ _ (by omega) (by decide), u64_and_nat _ _ (by omega) (by decide), IntKind.wrap_u64]
    have := s2_bd y1
    unfold s2 at *
    omega
  have b2 := s2_bd y1
  generalize s2 y1 = y2 at *
  have g3 : bits .and .u64 (IntKind.u64.wrap ((y2 : Int) / 16 + y2)) 1085102592571150095 = (s3 y2 : Int) := by
    rw [IntKind.wrap_u64, show ((y2 : Int) / 16 + (y2 : Int)) % 18446744073709551616 = ((y2 / 16 + y2 : Nat) : Int) by omega, show (1085102592571150095 : Int) = ((1085102592571150095 : Nat) : Int) by rfl, u64_and_nat _ _ (by omega) (by decide)]
    rfl
  have b3 := s3_bd y2
  generalize s3 y2 = y3 at *
  have g4 : IntKind.u64.wrap ((y3 : Int) + (y3 : Int) / 256) = (s4 y3 : Int) := by
    rw [IntKind.wrap_u64]; unfold s4; omega
  have b4 : s4 y3 ≤ 2 * y3 := by unfold s4; omega
  generalize s4 y3 = y4 at *
  have g5 : IntKind.u64.wrap ((y4 : Int) + (y4 : Int) / 65536) = (s5 y4 : Int) := by
    rw [IntKind.wrap_u64]; unfold s5; omega
  have b5 : s5 y4 ≤ 2 * y4 := by unfold s5; omega
  generalize s5 y4 = y5 at *
  have g6 : IntKind.u64.wrap ((y5 : Int) + (y5 : Int) / 4294967296) = (s6 y5 : Int) := by
    rw [IntKind.wrap_u64]; unfold s6; omega
  have b6 : s6 y5 ≤ 2 * y5 := by unfold s6; omega
  generalize s6 y5 = y6 at *
  have hy : y6 < 18446744073709551616 := by omega
  have hz : y6 < 9223372036854775808 := by omega
  have g7 : bits .and .i64 (y6 : Int) 127 = (Im.pop x : Int) := by
    rw [show (127 : Int) = ((127 : Nat) : Int) by rfl, Cm.i64_and _ _ (by decide), ← hp]
    rw [show ((y6 : Int) % 18446744073709551616).toNat = y6 by omega]
  clear hp b1 b2 b3 b4 b5 b6
  generalize (Im.pop x : Int) = V at *
  go_enter Tryd.func60, Tryd.ntmps60
  go_wp2
  go_ret
  exact ⟨ret_int (by first | rfl | exact g7), 0, rfl⟩

theorem ones_c (x : Nat) (hx : x < 65536) (w : World) :
    Calls Tryd.prog 53 #[.int .u64 (x : Int)] w fun e w' => e = .returned (.int .i64 (Im.pop x : Int)) ∧ ∃ n, w' = w.drewN n := by
  go_enter Tryd.func53, Tryd.ntmps53
  go_wp2_with ((go_at_call 60; refine (ones64_c x hx _).mono ?_; rintro e w' ⟨rfl, n, rfl⟩))
  go_ret
  exact ⟨rfl, n, rfl⟩
end Go.Proofs.YtdcnkmkaafimlaaDoor
