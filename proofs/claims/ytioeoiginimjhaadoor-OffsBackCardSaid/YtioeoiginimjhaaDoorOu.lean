/- Contract of the document's own Get of offsets. -/
import Derived.Test.YtioeoiginimjhaaDoorRows
import Derived.Test.YtioeoiginimjhaaDoorOt
namespace Go.Proofs.YtioeoiginimjhaaDoor
open Go.ChangeShapes Go.WideShapes Go.ChangeAt Go.RowKit

set_option maxHeartbeats 1000000 in
theorem orget_1 (a b : Int) (w : World) :
    Calls Tryd.prog 14 #[.int .i64 1, .int .i64 a, .int .i64 b] w fun e w' => e = .returned (.int .i64 (Om.gA 1 (a % 4294967296) (b % 4294967296))) ∧ ∃ n, w' = w.drewN n := by
  obtain ⟨x, e0⟩ : ∃ h, a % 4294967296 = h := ⟨_, rfl⟩
  obtain ⟨y, e1⟩ : ∃ h, b % 4294967296 = h := ⟨_, rfl⟩
  have hx0 : 0 ≤ x := by omega
  have hx1 : x < 4294967296 := by omega
  rw [e0, e1]
  have ts := (Om.get_n x 10 10 1024 2 rfl rfl (by decide) (by decide) (by decide) (by decide) hx0 : getI x 10 10 = _)
  obtain ⟨s, es⟩ : ∃ q, getI x 10 10 = q := ⟨_, rfl⟩
  rw [es] at ts
  have hs0 : 0 ≤ s := by omega
  have hs1 : s < 2 := by omega
  have Ts := Lib.hid ts
  clear ts
  have u0 := (Om.sign_n x 7 128 rfl (by decide) (by decide) : signI x 8 = _)
  obtain ⟨U, eU⟩ : ∃ q, signI x 8 = q := ⟨_, rfl⟩
  rw [eU] at u0
  have hU : -128 ≤ U ∧ U < 128 := by rw [u0]; unfold Om.sg; split <;> omega
  obtain ⟨hU0, hU1⟩ := hU
  have HU := Lib.hid u0
  clear u0
  go_enter Tryd.func14, Tryd.ntmps14
  go_wp2_with (first
    | (go_at_call 24; refine (rget_c _ _ _ _ hx0 hx1).mono ?_; rintro e w' ⟨rfl, n, rfl⟩)
    | (go_at_call 25; refine (rsign_c _ _ _ hx0 hx1).mono ?_; rintro e w' ⟨rfl, n2, rfl⟩))
  go_ret
  refine ⟨ret_int ?_, _, rfl⟩
  rw [HU.out]
  rfl

set_option maxHeartbeats 1000000 in
theorem orget_2 (a b : Int) (w : World) :
    Calls Tryd.prog 14 #[.int .i64 2, .int .i64 a, .int .i64 b] w fun e w' => e = .returned (.int .i64 (Om.gA 2 (a % 4294967296) (b % 4294967296))) ∧ ∃ n, w' = w.drewN n := by
  obtain ⟨x, e0⟩ : ∃ h, a % 4294967296 = h := ⟨_, rfl⟩
  obtain ⟨y, e1⟩ : ∃ h, b % 4294967296 = h := ⟨_, rfl⟩
  have hx0 : 0 ≤ x := by omega
  have hx1 : x < 4294967296 := by omega
  rw [e0, e1]
  have ts := (Om.get_n x 10 10 1024 2 rfl rfl (by decide) (by decide) (by decide) (by decide) hx0 : getI x 10 10 = _)
  obtain ⟨s, es⟩ : ∃ q, getI x 10 10 = q := ⟨_, rfl⟩
  rw [es] at ts
  have hs0 : 0 ≤ s := by omega
  have hs1 : s < 2 := by omega
  have Ts := Lib.hid ts
  clear ts
  have u0 := (Om.sign_n x 10 1024 rfl (by decide) (by decide) : signI x 11 = _)
  obtain ⟨U, eU⟩ : ∃ q, signI x 11 = q := ⟨_, rfl⟩
  rw [eU] at u0
  have hU : -1024 ≤ U ∧ U < 1024 := by rw [u0]; unfold Om.sg; split <;> omega
  obtain ⟨hU0, hU1⟩ := hU
  have HU := Lib.hid u0
  clear u0
  go_enter Tryd.func14, Tryd.ntmps14
  go_wp2_with (first
    | (go_at_call 24; refine (rget_c _ _ _ _ hx0 hx1).mono ?_; rintro e w' ⟨rfl, n, rfl⟩)
    | (go_at_call 25; refine (rsign_c _ _ _ hx0 hx1).mono ?_; rintro e w' ⟨rfl, n2, rfl⟩))
  go_ret
  refine ⟨ret_int ?_, _, rfl⟩
  rw [HU.out]
  rfl

set_option maxHeartbeats 1000000 in
theorem orget_3 (a b : Int) (w : World) :
    Calls Tryd.prog 14 #[.int .i64 3, .int .i64 a, .int .i64 b] w fun e w' => e = .returned (.int .i64 (Om.gA 3 (a % 4294967296) (b % 4294967296))) ∧ ∃ n, w' = w.drewN n := by
  obtain ⟨x, e0⟩ : ∃ h, a % 4294967296 = h := ⟨_, rfl⟩
  obtain ⟨y, e1⟩ : ∃ h, b % 4294967296 = h := ⟨_, rfl⟩
  have hx0 : 0 ≤ x := by omega
  have hx1 : x < 4294967296 := by omega
  have hy0 : 0 ≤ y := by omega
  have hy1 : y < 4294967296 := by omega
  rw [e0, e1]
  have ts := (Om.get_n x 10 10 1024 2 rfl rfl (by decide) (by decide) (by decide) (by decide) hx0 : getI x 10 10 = _)
  obtain ⟨s, es⟩ : ∃ q, getI x 10 10 = q := ⟨_, rfl⟩
  rw [es] at ts
  have hs0 : 0 ≤ s := by omega
  have hs1 : s < 2 := by omega
  have Ts := Lib.hid ts
  clear ts
  have tf := (Om.get_n x 5 0 1 64 rfl rfl (by decide) (by decide) (by decide) (by decide) hx0 : getI x 5 0 = _)
  obtain ⟨f, ef⟩ : ∃ q, getI x 5 0 = q := ⟨_, rfl⟩
  rw [ef] at tf
  have hf0 : 0 ≤ f := by omega
  have hf1 : f < 64 := by omega
  have Tf := Lib.hid tf
  clear tf
  have ti := (Om.get_n y 11 11 2048 2 rfl rfl (by decide) (by decide) (by decide) (by decide) hy0 : getI y 11 11 = _)
  obtain ⟨i, ei⟩ : ∃ q, getI y 11 11 = q := ⟨_, rfl⟩
  rw [ei] at ti
  have hi0 : 0 ≤ i := by omega
  have hi1 : i < 2 := by omega
  have Ti := Lib.hid ti
  clear ti
  have tj := (Om.get_n y 13 13 8192 2 rfl rfl (by decide) (by decide) (by decide) (by decide) hy0 : getI y 13 13 = _)
  obtain ⟨j, ej⟩ : ∃ q, getI y 13 13 = q := ⟨_, rfl⟩
  rw [ej] at tj
  have hj0 : 0 ≤ j := by omega
  have hj1 : j < 2 := by omega
  have Tj := Lib.hid tj
  clear tj
  have tg := (Om.get_n y 10 0 1 2048 rfl rfl (by decide) (by decide) (by decide) (by decide) hy0 : getI y 10 0 = _)
  obtain ⟨g, eg⟩ : ∃ q, getI y 10 0 = q := ⟨_, rfl⟩
  rw [eg] at tg
  have hg0 : 0 ≤ g := by omega
  have hg1 : g < 2048 := by omega
  have Tg := Lib.hid tg
  clear tg
  have v0 : bits .or .u32 (bits .or .u32 (bits .or .u32 (bits .or .u32 (s * 524288) (i * 262144)) (j * 131072)) (f * 2048)) g = s * 524288 + i * 262144 + j * 131072 + f * 2048 + g := by
    rw [or32 19 524288 (s * 524288) _ (by decide) (by decide) (by omega) (by omega) (by omega) (by omega) (by omega), or32 18 262144 (s * 524288 + i * 262144) _ (by decide) (by decide) (by omega) (by omega) (by omega) (by omega) (by omega), or32 17 131072 (s * 524288 + i * 262144 + j * 131072) _ (by decide) (by decide) (by omega) (by omega) (by omega) (by omega) (by omega), or32 11 2048 (s * 524288 + i * 262144 + j * 131072 + f * 2048) _ (by decide) (by decide) (by omega) (by omega) (by omega) (by omega) (by omega)]
  obtain ⟨V, eV⟩ : ∃ q, bits .or .u32 (bits .or .u32 (bits .or .u32 (bits .or .u32 (s * 524288) (i * 262144)) (j * 131072)) (f * 2048)) g = q := ⟨_, rfl⟩
  rw [eV] at v0
  have hV0 : 0 ≤ V := by omega
  have hV1 : V < 1048576 := by omega
  have hV2 : V < 4294967296 := by omega
  have HV := Lib.hid v0
  clear v0
  have u0 := (Om.sign_n V 19 524288 rfl (by decide) (by decide) : signI V 20 = _)
  obtain ⟨U, eU⟩ : ∃ q, signI V 20 = q := ⟨_, rfl⟩
  rw [eU] at u0
  have hU : -524288 ≤ U ∧ U < 524288 := by rw [u0]; unfold Om.sg; split <;> omega
  obtain ⟨hU0, hU1⟩ := hU
  have HU := Lib.hid u0
  clear u0
  go_enter Tryd.func14, Tryd.ntmps14
  go_wp2_with (first
    | (go_at_call 24; refine (rget_c _ _ _ _ (by first | exact hx0 | exact hy0) (by first | exact hx1 | exact hy1)).mono ?_; rintro e w' ⟨rfl, n, rfl⟩)
    | (go_at_call 25; (try rw [eV]); refine (rsign_c _ _ _ hV0 hV2).mono ?_; rintro e w' ⟨rfl, n2, rfl⟩))
  go_ret
  refine ⟨ret_int ?_, _, rfl⟩
  have e : Om.gA 3 x y = 2 * Om.sg (x / 1024 % 2 * 524288 + y / 2048 % 2 * 262144 + y / 8192 % 2 * 131072 + x % 64 * 2048 + y % 2048) 524288 := rfl
  rw [e, ← Ts.out, ← Ti.out, ← Tj.out, show x % 64 = f by rw [Tf.out]; omega, show y % 2048 = g by rw [Tg.out]; omega, ← HV.out, HU.out, Int.emod_eq_of_lt hV0 (by omega)]

set_option maxHeartbeats 1000000 in
theorem orget_4 (a b : Int) (w : World) :
    Calls Tryd.prog 14 #[.int .i64 4, .int .i64 a, .int .i64 b] w fun e w' => e = .returned (.int .i64 (Om.gA 4 (a % 4294967296) (b % 4294967296))) ∧ ∃ n, w' = w.drewN n := by
  obtain ⟨x, e0⟩ : ∃ h, a % 4294967296 = h := ⟨_, rfl⟩
  obtain ⟨y, e1⟩ : ∃ h, b % 4294967296 = h := ⟨_, rfl⟩
  have hx0 : 0 ≤ x := by omega
  have hx1 : x < 4294967296 := by omega
  have hy0 : 0 ≤ y := by omega
  have hy1 : y < 4294967296 := by omega
  rw [e0, e1]
  have ts := (Om.get_n x 10 10 1024 2 rfl rfl (by decide) (by decide) (by decide) (by decide) hx0 : getI x 10 10 = _)
  obtain ⟨s, es⟩ : ∃ q, getI x 10 10 = q := ⟨_, rfl⟩
  rw [es] at ts
  have hs0 : 0 ≤ s := by omega
  have hs1 : s < 2 := by omega
  have Ts := Lib.hid ts
  clear ts
  have tf := (Om.get_n x 9 0 1 1024 rfl rfl (by decide) (by decide) (by decide) (by decide) hx0 : getI x 9 0 = _)
  obtain ⟨f, ef⟩ : ∃ q, getI x 9 0 = q := ⟨_, rfl⟩
  rw [ef] at tf
  have hf0 : 0 ≤ f := by omega
  have hf1 : f < 1024 := by omega
  have Tf := Lib.hid tf
  clear tf
  have ti := (Om.get_n y 11 11 2048 2 rfl rfl (by decide) (by decide) (by decide) (by decide) hy0 : getI y 11 11 = _)
  obtain ⟨i, ei⟩ : ∃ q, getI y 11 11 = q := ⟨_, rfl⟩
  rw [ei] at ti
  have hi0 : 0 ≤ i := by omega
  have hi1 : i < 2 := by omega
  have Ti := Lib.hid ti
  clear ti
  have tj := (Om.get_n y 13 13 8192 2 rfl rfl (by decide) (by decide) (by decide) (by decide) hy0 : getI y 13 13 = _)
  obtain ⟨j, ej⟩ : ∃ q, getI y 13 13 = q := ⟨_, rfl⟩
  rw [ej] at tj
  have hj0 : 0 ≤ j := by omega
  have hj1 : j < 2 := by omega
  have Tj := Lib.hid tj
  clear tj
  have tg := (Om.get_n y 10 0 1 2048 rfl rfl (by decide) (by decide) (by decide) (by decide) hy0 : getI y 10 0 = _)
  obtain ⟨g, eg⟩ : ∃ q, getI y 10 0 = q := ⟨_, rfl⟩
  rw [eg] at tg
  have hg0 : 0 ≤ g := by omega
  have hg1 : g < 2048 := by omega
  have Tg := Lib.hid tg
  clear tg
  have xq1 := xor32 j s (by omega) (by omega)
  obtain ⟨q1, eq1⟩ : ∃ q, bits .xor .u32 j s = q := ⟨_, rfl⟩
  rw [eq1] at xq1
  have hq10 : 0 ≤ q1 := by omega
  have hq11 : q1 < 2 := by omega
  have Xq1 := Lib.hid xq1
  clear xq1
  have xq2 := xor32 i s (by omega) (by omega)
  obtain ⟨q2, eq2⟩ : ∃ q, bits .xor .u32 i s = q := ⟨_, rfl⟩
  rw [eq2] at xq2
  have hq20 : 0 ≤ q2 := by omega
  have hq21 : q2 < 2 := by omega
  have Xq2 := Lib.hid xq2
  clear xq2
  have v0 : bits .or .u32 (bits .or .u32 (bits .or .u32 (bits .or .u32 (s * 8388608) ((1 - q1) * 4194304)) ((1 - q2) * 2097152)) (f * 2048)) g = s * 8388608 + (1 - q1) * 4194304 + (1 - q2) * 2097152 + f * 2048 + g := by
    rw [or32 23 8388608 (s * 8388608) _ (by decide) (by decide) (by omega) (by omega) (by omega) (by omega) (by omega), or32 22 4194304 (s * 8388608 + (1 - q1) * 4194304) _ (by decide) (by decide) (by omega) (by omega) (by omega) (by omega) (by omega), or32 21 2097152 (s * 8388608 + (1 - q1) * 4194304 + (1 - q2) * 2097152) _ (by decide) (by decide) (by omega) (by omega) (by omega) (by omega) (by omega), or32 11 2048 (s * 8388608 + (1 - q1) * 4194304 + (1 - q2) * 2097152 + f * 2048) _ (by decide) (by decide) (by omega) (by omega) (by omega) (by omega) (by omega)]
  obtain ⟨V, eV⟩ : ∃ q, bits .or .u32 (bits .or .u32 (bits .or .u32 (bits .or .u32 (s * 8388608) ((1 - q1) * 4194304)) ((1 - q2) * 2097152)) (f * 2048)) g = q := ⟨_, rfl⟩
  rw [eV] at v0
  have hV0 : 0 ≤ V := by omega
  have hV1 : V < 16777216 := by omega
  have hV2 : V < 4294967296 := by omega
  have HV := Lib.hid v0
  clear v0
  have u0 := (Om.sign_n V 23 8388608 rfl (by decide) (by decide) : signI V 24 = _)
  obtain ⟨U, eU⟩ : ∃ q, signI V 24 = q := ⟨_, rfl⟩
  rw [eU] at u0
  have hU : -8388608 ≤ U ∧ U < 8388608 := by rw [u0]; unfold Om.sg; split <;> omega
  obtain ⟨hU0, hU1⟩ := hU
  have HU := Lib.hid u0
  clear u0
  go_enter Tryd.func14, Tryd.ntmps14
  go_wp2_with (first
    | (go_at_call 24; refine (rget_c _ _ _ _ (by first | exact hx0 | exact hy0) (by first | exact hx1 | exact hy1)).mono ?_; rintro e w' ⟨rfl, n, rfl⟩)
    | (go_at_call 25; (try rw [eV]); refine (rsign_c _ _ _ hV0 hV2).mono ?_; rintro e w' ⟨rfl, n2, rfl⟩))
  go_ret
  refine ⟨ret_int ?_, _, rfl⟩
  have e : Om.gA 4 x y = 2 * Om.sg (x / 1024 % 2 * 8388608 + (1 + y / 8192 % 2 + x / 1024 % 2) % 2 * 4194304 + (1 + y / 2048 % 2 + x / 1024 % 2) % 2 * 2097152 + x % 1024 * 2048 + y % 2048) 8388608 := rfl
  rw [e, ← Ts.out, ← Ti.out, ← Tj.out, show x % 1024 = f by rw [Tf.out]; omega, show y % 2048 = g by rw [Tg.out]; omega, show (1 + j + s) % 2 = 1 - q1 by rw [Xq1.out]; omega, show (1 + i + s) % 2 = 1 - q2 by rw [Xq2.out]; omega, ← HV.out, HU.out, Int.emod_eq_of_lt hV0 (by omega)]

set_option maxHeartbeats 1000000 in
theorem orget_5 (a b : Int) (w : World) :
    Calls Tryd.prog 14 #[.int .i64 5, .int .i64 a, .int .i64 b] w fun e w' => e = .returned (.int .i64 (Om.gA 5 (a % 4294967296) (b % 4294967296))) ∧ ∃ n, w' = w.drewN n := by
  obtain ⟨x, e0⟩ : ∃ h, a % 4294967296 = h := ⟨_, rfl⟩
  obtain ⟨y, e1⟩ : ∃ h, b % 4294967296 = h := ⟨_, rfl⟩
  have hx0 : 0 ≤ x := by omega
  have hx1 : x < 4294967296 := by omega
  rw [e0, e1]
  have ts := (Om.get_n x 10 10 1024 2 rfl rfl (by decide) (by decide) (by decide) (by decide) hx0 : getI x 10 10 = _)
  obtain ⟨s, es⟩ : ∃ q, getI x 10 10 = q := ⟨_, rfl⟩
  rw [es] at ts
  have hs0 : 0 ≤ s := by omega
  have hs1 : s < 2 := by omega
  have Ts := Lib.hid ts
  clear ts
  have tt := (Om.get_n x 9 9 512 2 rfl rfl (by decide) (by decide) (by decide) (by decide) hx0 : getI x 9 9 = _)
  obtain ⟨t, et⟩ : ∃ q, getI x 9 9 = q := ⟨_, rfl⟩
  rw [et] at tt
  have ht0 : 0 ≤ t := by omega
  have ht1 : t < 2 := by omega
  have Tt := Lib.hid tt
  clear tt
  have tf := (Om.get_n x 7 3 8 32 rfl rfl (by decide) (by decide) (by decide) (by decide) hx0 : getI x 7 3 = _)
  obtain ⟨f, ef⟩ : ∃ q, getI x 7 3 = q := ⟨_, rfl⟩
  rw [ef] at tf
  have hf0 : 0 ≤ f := by omega
  have hf1 : f < 32 := by omega
  have Tf := Lib.hid tf
  clear tf
  have v0 : bits .or .u32 (t * 32) f = t * 32 + f := by
    rw [or32 5 32 (t * 32) _ (by decide) (by decide) (by omega) (by omega) (by omega) (by omega) (by omega)]
  obtain ⟨V, eV⟩ : ∃ q, bits .or .u32 (t * 32) f = q := ⟨_, rfl⟩
  rw [eV] at v0
  have hV0 : 0 ≤ V := by omega
  have hV1 : V < 64 := by omega
  have HV := Lib.hid v0
  clear v0
  go_enter Tryd.func14, Tryd.ntmps14
  go_wp2_with (first
    | (go_at_call 24; refine (rget_c _ _ _ _ hx0 hx1).mono ?_; rintro e w' ⟨rfl, n, rfl⟩))
  go_ret
  refine ⟨ret_int ?_, _, rfl⟩
  rw [HV.out, Tt.out, Tf.out]
  rfl

end Go.Proofs.YtioeoiginimjhaaDoor
