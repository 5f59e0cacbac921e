/- Contracts of the document's own Put and Get of offsets. -/
import Derived.Test.YtioeoiginimjhaaDoorRows
import Derived.Test.YtioeoiginimjhaaDoorOr
namespace Go.Proofs.YtioeoiginimjhaaDoor
open Go.ChangeShapes Go.WideShapes Go.ChangeAt Go.RowKit

theorem rput_no (k off : Int) (w : World) (hf : fitsB k off = false) :
    Calls Tryd.prog 9 #[.int .i64 k, .int .i64 off] w fun e w' => e = .returned (.tuple #[.int .i64 0, .int .i64 0]) ∧ ∃ n, w' = w.drewN n := by
  go_enter Tryd.func9, Tryd.ntmps9
  go_wp2_with ((go_at_call 11; refine (rfits_c _ _ _).mono ?_; rintro e w' ⟨rfl, n, rfl⟩; rw [hf]))
  go_ret2
  exact ⟨rfl, n, rfl⟩

theorem or64 (i : Nat) (c x y : Int) (hc : 2 ^ i = c) (hi : i ≤ 60) (hx0 : 0 ≤ x) (hx : x % c = 0) (hx1 : x < 1152921504606846976) (hy0 : 0 ≤ y) (hy : y < c) : bits .or .i64 x y = x + y := by
  subst hc
  have hp : 2 ^ i ≤ 2 ^ 60 := Nat.pow_le_pow_right (by omega) hi
  have e : ((2 : Int) ^ i) = ((2 ^ i : Nat) : Int) := by simp
  exact bits_join .i64 62 (by decide) (fun n h0 h1 => IntWalk.i64_in n (by omega)) i x y hx0 hx (by omega) hy0 hy (by omega)
theorem or32 (i : Nat) (c x y : Int) (hc : 2 ^ i = c) (hi : i ≤ 32) (hx0 : 0 ≤ x) (hx : x % c = 0) (hx1 : x < 4294967296) (hy0 : 0 ≤ y) (hy : y < c) : bits .or .u32 x y = x + y := by
  subst hc
  have hp : 2 ^ i ≤ 2 ^ 32 := Nat.pow_le_pow_right (by omega) hi
  have e : ((2 : Int) ^ i) = ((2 ^ i : Nat) : Int) := by simp
  exact bits_join .u32 32 (by decide) (fun n h0 h1 => by rw [IntKind.wrap_u32]; omega) i x y hx0 hx (by omega) hy0 hy (by omega)
theorem xor64 (b s : Int) (hb : 0 ≤ b ∧ b ≤ 1) (hs : 0 ≤ s ∧ s ≤ 1) : bits .xor .i64 b s = (b + s) % 2 := by
  rcases (by omega : b = 0 ∨ b = 1) with rfl | rfl <;> rcases (by omega : s = 0 ∨ s = 1) with rfl | rfl <;> rfl
theorem xor32 (b s : Int) (hb : 0 ≤ b ∧ b ≤ 1) (hs : 0 ≤ s ∧ s ≤ 1) : bits .xor .u32 b s = (b + s) % 2 := by
  rcases (by omega : b = 0 ∨ b = 1) with rfl | rfl <;> rcases (by omega : s = 0 ∨ s = 1) with rfl | rfl <;> rfl
theorem sI_yes {off : Int} (h : off < 0) : Om.sI off = 1 := by unfold Om.sI; rw [if_pos h]
theorem sI_no {off : Int} (h : ¬ off < 0) : Om.sI off = 0 := by unfold Om.sI; rw [if_neg h]

theorem rput_1y (off : Int) (w : World) (hf : fitsB 1 off = true) (hn : off < 0) :
    Calls Tryd.prog 9 #[.int .i64 1, .int .i64 off] w fun e w' => e = .returned (.tuple #[.int .i64 (Om.pA 1 off), .int .i64 (Om.pB 1 off)]) ∧ ∃ n, w' = w.drewN n := by
  obtain ⟨_, _, h3, h4, h5⟩ := Om.fits_spec hf
  replace h3 : -256 ≤ off := h3
  replace h4 : off ≤ 254 := h4
  clear h5
  go_enter Tryd.func9, Tryd.ntmps9
  go_wp2_with (first
    | (go_at_call 11; refine (rfits_c _ _ _).mono ?_; rintro e w' ⟨rfl, n, rfl⟩; rw [hf])
    | (go_at_call 19; refine (bit_c _ _ _ (by decide) (by decide)).mono ?_; rintro e w' ⟨rfl, n2, rfl⟩))
  go_ret2
  refine ⟨ret_pair ?_ ?_, _, rfl⟩
  · exact i64_mask _ 8 255 256 (by decide) (by decide) (by decide)
  · rfl

theorem rput_1n (off : Int) (w : World) (hf : fitsB 1 off = true) (hn : ¬ off < 0) :
    Calls Tryd.prog 9 #[.int .i64 1, .int .i64 off] w fun e w' => e = .returned (.tuple #[.int .i64 (Om.pA 1 off), .int .i64 (Om.pB 1 off)]) ∧ ∃ n, w' = w.drewN n := by
  obtain ⟨_, _, h3, h4, h5⟩ := Om.fits_spec hf
  replace h3 : -256 ≤ off := h3
  replace h4 : off ≤ 254 := h4
  clear h5
  go_enter Tryd.func9, Tryd.ntmps9
  go_wp2_with (first
    | (go_at_call 11; refine (rfits_c _ _ _).mono ?_; rintro e w' ⟨rfl, n, rfl⟩; rw [hf])
    | (go_at_call 19; refine (bit_c _ _ _ (by decide) (by decide)).mono ?_; rintro e w' ⟨rfl, n2, rfl⟩))
  go_ret2
  refine ⟨ret_pair ?_ ?_, _, rfl⟩
  · exact i64_mask _ 8 255 256 (by decide) (by decide) (by decide)
  · rfl

theorem rput_2y (off : Int) (w : World) (hf : fitsB 2 off = true) (hn : off < 0) :
    Calls Tryd.prog 9 #[.int .i64 2, .int .i64 off] w fun e w' => e = .returned (.tuple #[.int .i64 (Om.pA 2 off), .int .i64 (Om.pB 2 off)]) ∧ ∃ n, w' = w.drewN n := by
  obtain ⟨_, _, h3, h4, h5⟩ := Om.fits_spec hf
  replace h3 : -2048 ≤ off := h3
  replace h4 : off ≤ 2046 := h4
  clear h5
  go_enter Tryd.func9, Tryd.ntmps9
  go_wp2_with (first
    | (go_at_call 11; refine (rfits_c _ _ _).mono ?_; rintro e w' ⟨rfl, n, rfl⟩; rw [hf])
    | (go_at_call 19; refine (bit_c _ _ _ (by decide) (by decide)).mono ?_; rintro e w' ⟨rfl, n2, rfl⟩))
  go_ret2
  refine ⟨ret_pair ?_ ?_, _, rfl⟩
  · exact i64_mask _ 11 2047 2048 (by decide) (by decide) (by decide)
  · rfl

theorem rput_2n (off : Int) (w : World) (hf : fitsB 2 off = true) (hn : ¬ off < 0) :
    Calls Tryd.prog 9 #[.int .i64 2, .int .i64 off] w fun e w' => e = .returned (.tuple #[.int .i64 (Om.pA 2 off), .int .i64 (Om.pB 2 off)]) ∧ ∃ n, w' = w.drewN n := by
  obtain ⟨_, _, h3, h4, h5⟩ := Om.fits_spec hf
  replace h3 : -2048 ≤ off := h3
  replace h4 : off ≤ 2046 := h4
  clear h5
  go_enter Tryd.func9, Tryd.ntmps9
  go_wp2_with (first
    | (go_at_call 11; refine (rfits_c _ _ _).mono ?_; rintro e w' ⟨rfl, n, rfl⟩; rw [hf])
    | (go_at_call 19; refine (bit_c _ _ _ (by decide) (by decide)).mono ?_; rintro e w' ⟨rfl, n2, rfl⟩))
  go_ret2
  refine ⟨ret_pair ?_ ?_, _, rfl⟩
  · exact i64_mask _ 11 2047 2048 (by decide) (by decide) (by decide)
  · rfl

theorem rput_3y (off : Int) (w : World) (hf : fitsB 3 off = true) (hn : off < 0) :
    Calls Tryd.prog 9 #[.int .i64 3, .int .i64 off] w fun e w' => e = .returned (.tuple #[.int .i64 (Om.pA 3 off), .int .i64 (Om.pB 3 off)]) ∧ ∃ n, w' = w.drewN n := by
  obtain ⟨_, _, h3, h4, h5⟩ := Om.fits_spec hf
  replace h3 : -1048576 ≤ off := h3
  replace h4 : off ≤ 1048574 := h4
  clear h5
  go_enter Tryd.func9, Tryd.ntmps9
  go_wp2_with (first
    | (go_at_call 11; refine (rfits_c _ _ _).mono ?_; rintro e w' ⟨rfl, n, rfl⟩; rw [hf])
    | (go_at_call 19; refine (bit_c _ _ _ (by decide) (by decide)).mono ?_; rintro e w' ⟨rfl, n2, rfl⟩))
  go_ret2
  refine ⟨ret_pair ?_ ?_, _, rfl⟩
  · show bits .or .i64 1024 (bits .and .i64 (off / 4096) 63) = Om.sI off * 1024 + off / 4096 % 64
    rw [sI_yes hn, i64_mask _ 6 63 64 (by decide) (by decide) (by decide), or64 10 1024 _ _ (by decide) (by decide) (by omega) (by omega) (by omega) (by omega) (by omega)]
    omega
  · show bits .or .i64 (bits .or .i64 (off / 262144 % 2 * 8192) (off / 524288 % 2 * 2048)) (bits .and .i64 (off / 2) 2047) = off / 262144 % 2 * 8192 + off / 524288 % 2 * 2048 + off / 2 % 2048
    rw [i64_mask _ 11 2047 2048 (by decide) (by decide) (by decide), or64 13 8192 (off / 262144 % 2 * 8192) _ (by decide) (by decide) (by omega) (by omega) (by omega) (by omega) (by omega), or64 11 2048 _ _ (by decide) (by decide) (by omega) (by omega) (by omega) (by omega) (by omega)]

theorem rput_3n (off : Int) (w : World) (hf : fitsB 3 off = true) (hn : ¬ off < 0) :
    Calls Tryd.prog 9 #[.int .i64 3, .int .i64 off] w fun e w' => e = .returned (.tuple #[.int .i64 (Om.pA 3 off), .int .i64 (Om.pB 3 off)]) ∧ ∃ n, w' = w.drewN n := by
  obtain ⟨_, _, h3, h4, h5⟩ := Om.fits_spec hf
  replace h3 : -1048576 ≤ off := h3
  replace h4 : off ≤ 1048574 := h4
  clear h5
  go_enter Tryd.func9, Tryd.ntmps9
  go_wp2_with (first
    | (go_at_call 11; refine (rfits_c _ _ _).mono ?_; rintro e w' ⟨rfl, n, rfl⟩; rw [hf])
    | (go_at_call 19; refine (bit_c _ _ _ (by decide) (by decide)).mono ?_; rintro e w' ⟨rfl, n2, rfl⟩))
  go_ret2
  refine ⟨ret_pair ?_ ?_, _, rfl⟩
  · show bits .or .i64 0 (bits .and .i64 (off / 4096) 63) = Om.sI off * 1024 + off / 4096 % 64
    rw [sI_no (by omega), i64_mask _ 6 63 64 (by decide) (by decide) (by decide), or64 10 1024 _ _ (by decide) (by decide) (by omega) (by omega) (by omega) (by omega) (by omega)]
    omega
  · show bits .or .i64 (bits .or .i64 (off / 262144 % 2 * 8192) (off / 524288 % 2 * 2048)) (bits .and .i64 (off / 2) 2047) = off / 262144 % 2 * 8192 + off / 524288 % 2 * 2048 + off / 2 % 2048
    rw [i64_mask _ 11 2047 2048 (by decide) (by decide) (by decide), or64 13 8192 (off / 262144 % 2 * 8192) _ (by decide) (by decide) (by omega) (by omega) (by omega) (by omega) (by omega), or64 11 2048 _ _ (by decide) (by decide) (by omega) (by omega) (by omega) (by omega) (by omega)]

theorem rput_4y (off : Int) (w : World) (hf : fitsB 4 off = true) (hn : off < 0) :
    Calls Tryd.prog 9 #[.int .i64 4, .int .i64 off] w fun e w' => e = .returned (.tuple #[.int .i64 (Om.pA 4 off), .int .i64 (Om.pB 4 off)]) ∧ ∃ n, w' = w.drewN n := by
  obtain ⟨_, _, h3, h4, h5⟩ := Om.fits_spec hf
  replace h3 : -16777216 ≤ off := h3
  replace h4 : off ≤ 16777214 := h4
  clear h5
  have x1 := xor64 (off / 8388608 % 2) 1 (by omega) (by decide)
  have x2 := xor64 (off / 4194304 % 2) 1 (by omega) (by decide)
  obtain ⟨q1, e1⟩ : ∃ q, bits .xor .i64 (off / 8388608 % 2) 1 = q := ⟨_, rfl⟩
  obtain ⟨q2, e2⟩ : ∃ q, bits .xor .i64 (off / 4194304 % 2) 1 = q := ⟨_, rfl⟩
  rw [e1] at x1
  rw [e2] at x2
  have y1 : 0 ≤ q1 ∧ q1 ≤ 1 := by omega
  have y2 : 0 ≤ q2 ∧ q2 ≤ 1 := by omega
  have X1 := Lib.hid x1
  have X2 := Lib.hid x2
  clear x1 x2
  obtain ⟨y10, y11⟩ := y1
  obtain ⟨y20, y21⟩ := y2
  go_enter Tryd.func9, Tryd.ntmps9
  go_wp2_with (first
    | (go_at_call 11; refine (rfits_c _ _ _).mono ?_; rintro e w' ⟨rfl, n, rfl⟩; rw [hf])
    | (go_at_call 19; refine (bit_c _ _ _ (by decide) (by decide)).mono ?_; rintro e w' ⟨rfl, n2, rfl⟩))
  go_ret2
  refine ⟨ret_pair ?_ ?_, _, rfl⟩
  · show bits .or .i64 1024 (bits .and .i64 (off / 4096) 1023) = Om.sI off * 1024 + off / 4096 % 1024
    rw [sI_yes hn, i64_mask _ 10 1023 1024 (by decide) (by decide) (by decide), or64 10 1024 _ _ (by decide) (by decide) (by omega) (by omega) (by omega) (by omega) (by omega)]
    omega
  · show bits .or .i64 (bits .or .i64 ((1 - q1) * 8192) ((1 - q2) * 2048)) (bits .and .i64 (off / 2) 2047) = (1 + off / 8388608 % 2 + Om.sI off) % 2 * 8192 + (1 + off / 4194304 % 2 + Om.sI off) % 2 * 2048 + off / 2 % 2048
    have z1 : (1 + off / 8388608 % 2 + 1) % 2 = 1 - q1 := by rw [X1.out]; omega
    have z2 : (1 + off / 4194304 % 2 + 1) % 2 = 1 - q2 := by rw [X2.out]; omega
    rw [sI_yes hn, z1, z2, i64_mask _ 11 2047 2048 (by decide) (by decide) (by decide), or64 13 8192 ((1 - q1) * 8192) _ (by decide) (by decide) (by omega) (by omega) (by omega) (by omega) (by omega), or64 11 2048 _ _ (by decide) (by decide) (by omega) (by omega) (by omega) (by omega) (by omega)]

theorem rput_4n (off : Int) (w : World) (hf : fitsB 4 off = true) (hn : ¬ off < 0) :
    Calls Tryd.prog 9 #[.int .i64 4, .int .i64 off] w fun e w' => e = .returned (.tuple #[.int .i64 (Om.pA 4 off), .int .i64 (Om.pB 4 off)]) ∧ ∃ n, w' = w.drewN n := by
  obtain ⟨_, _, h3, h4, h5⟩ := Om.fits_spec hf
  replace h3 : -16777216 ≤ off := h3
  replace h4 : off ≤ 16777214 := h4
  clear h5
  have x1 := xor64 (off / 8388608 % 2) 0 (by omega) (by decide)
  have x2 := xor64 (off / 4194304 % 2) 0 (by omega) (by decide)
  obtain ⟨q1, e1⟩ : ∃ q, bits .xor .i64 (off / 8388608 % 2) 0 = q := ⟨_, rfl⟩
  obtain ⟨q2, e2⟩ : ∃ q, bits .xor .i64 (off / 4194304 % 2) 0 = q := ⟨_, rfl⟩
  rw [e1] at x1
  rw [e2] at x2
  have y1 : 0 ≤ q1 ∧ q1 ≤ 1 := by omega
  have y2 : 0 ≤ q2 ∧ q2 ≤ 1 := by omega
  have X1 := Lib.hid x1
  have X2 := Lib.hid x2
  clear x1 x2
  obtain ⟨y10, y11⟩ := y1
  obtain ⟨y20, y21⟩ := y2
  go_enter Tryd.func9, Tryd.ntmps9
  go_wp2_with (first
    | (go_at_call 11; refine (rfits_c _ _ _).mono ?_; rintro e w' ⟨rfl, n, rfl⟩; rw [hf])
    | (go_at_call 19; refine (bit_c _ _ _ (by decide) (by decide)).mono ?_; rintro e w' ⟨rfl, n2, rfl⟩))
  go_ret2
  refine ⟨ret_pair ?_ ?_, _, rfl⟩
  · show bits .or .i64 0 (bits .and .i64 (off / 4096) 1023) = Om.sI off * 1024 + off / 4096 % 1024
    rw [sI_no (by omega), i64_mask _ 10 1023 1024 (by decide) (by decide) (by decide), or64 10 1024 _ _ (by decide) (by decide) (by omega) (by omega) (by omega) (by omega) (by omega)]
    omega
  · show bits .or .i64 (bits .or .i64 ((1 - q1) * 8192) ((1 - q2) * 2048)) (bits .and .i64 (off / 2) 2047) = (1 + off / 8388608 % 2 + Om.sI off) % 2 * 8192 + (1 + off / 4194304 % 2 + Om.sI off) % 2 * 2048 + off / 2 % 2048
    have z1 : (1 + off / 8388608 % 2 + 0) % 2 = 1 - q1 := by rw [X1.out]; omega
    have z2 : (1 + off / 4194304 % 2 + 0) % 2 = 1 - q2 := by rw [X2.out]; omega
    rw [sI_no (by omega), z1, z2, i64_mask _ 11 2047 2048 (by decide) (by decide) (by decide), or64 13 8192 ((1 - q1) * 8192) _ (by decide) (by decide) (by omega) (by omega) (by omega) (by omega) (by omega), or64 11 2048 _ _ (by decide) (by decide) (by omega) (by omega) (by omega) (by omega) (by omega)]

theorem rput_5n (off : Int) (w : World) (hf : fitsB 5 off = true) (_hn : ¬ off < 0) :
    Calls Tryd.prog 9 #[.int .i64 5, .int .i64 off] w fun e w' => e = .returned (.tuple #[.int .i64 (Om.pA 5 off), .int .i64 (Om.pB 5 off)]) ∧ ∃ n, w' = w.drewN n := by
  obtain ⟨_, _, h3, h4, h5⟩ := Om.fits_spec hf
  replace h3 : 0 ≤ off := h3
  replace h4 : off ≤ 126 := h4
  clear h5
  go_enter Tryd.func9, Tryd.ntmps9
  go_wp2_with (first
    | (go_at_call 11; refine (rfits_c _ _ _).mono ?_; rintro e w' ⟨rfl, n, rfl⟩; rw [hf])
    | (go_at_call 19; refine (bit_c _ _ _ (by decide) (by decide)).mono ?_; rintro e w' ⟨rfl, n2, rfl⟩))
  go_ret2
  refine ⟨ret_pair ?_ ?_, _, rfl⟩
  · show bits .or .i64 (off / 64 % 2 * 512) (wrap64 (bits .and .i64 (off / 2) 31 * 8)) = off / 64 % 2 * 512 + off / 2 % 32 * 8
    rw [i64_mask _ 5 31 32 (by decide) (by decide) (by decide), show wrap64 (off / 2 % 32 * 8) = off / 2 % 32 * 8 by unfold wrap64; omega, or64 9 512 _ _ (by decide) (by decide) (by omega) (by omega) (by omega) (by omega) (by omega)]
  · rfl

theorem rput_c (k off : Int) (w : World) (hf : fitsB k off = true) :
    Calls Tryd.prog 9 #[.int .i64 k, .int .i64 off] w fun e w' => e = .returned (.tuple #[.int .i64 (Om.pA k off), .int .i64 (Om.pB k off)]) ∧ ∃ n, w' = w.drewN n := by
  obtain ⟨h1, h2, h3, _, _⟩ := Om.fits_spec hf
  rcases kinds ⟨h1, h2⟩ with rfl | rfl | rfl | rfl | rfl
  · by_cases hn : off < 0
    · exact rput_1y off w hf hn
    · exact rput_1n off w hf hn
  · by_cases hn : off < 0
    · exact rput_2y off w hf hn
    · exact rput_2n off w hf hn
  · by_cases hn : off < 0
    · exact rput_3y off w hf hn
    · exact rput_3n off w hf hn
  · by_cases hn : off < 0
    · exact rput_4y off w hf hn
    · exact rput_4n off w hf hn
  · exact rput_5n off w hf (by have h3 : 0 ≤ off := h3; omega)
end Go.Proofs.YtioeoiginimjhaaDoor
