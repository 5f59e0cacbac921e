/- For every word ExpandFew returns true: a word of more than eight bits that is no repeated byte is not found, every other is. No conditions. -/
import Derived.Test.YtlgifolagfooaaaRows
import Derived.WalkKit
import Derived.ProofKit
import Derived.OpenShut
import Derived.Below
import Derived.Test.YtlgifolagfooaaaEa
import Derived.Test.YtlgifolagfooaaaEn
namespace Go.Proofs.Ytlgifolagfooaaa.expandFew
open Go.ChangeShapes Go.WideShapes Go.ChangeAt Go.RowKit

theorem own : ownKnob Try.prog.godebug = none := by kernel_rfl

theorem found_iff (x : Int) (hx0 : 0 ≤ x) (hx : x < 4294967296) : findB x = true ↔ (Em.normF 32 x.toNat ≤ 255 ∨ Em.same x.toNat = true) := by
  rw [findB_iff x hx0]
  constructor
  · rintro ⟨i, h0, h1, h2, h3⟩
    exact Em.few_no i.toNat x.toNat ((good_of x i hx0 h0 h1).2 ⟨h2, h3⟩)
  · intro h
    obtain ⟨i, hg⟩ := Em.few_yes x.toNat (by omega) h
    have hi : i < 4096 := by unfold Em.good Em.okN at hg; simp at hg; omega
    have := (good_of x (i : Int) hx0 (by omega) (by omega)).1 (by simpa using hg)
    exact ⟨i, by omega, by omega, this.1, this.2⟩

theorem same_of (x : Int) (hx0 : 0 ≤ x) : Em.same x.toNat = true ↔ (x = x % 256 * 16843009 ∨ x = x % 256 * 65537 ∨ x = x / 256 % 256 * 16777472) := by
  unfold Em.same
  simp only [Bool.or_eq_true, decide_eq_true_eq]
  omega

theorem low8 (x : Int) (h0 : 0 ≤ x) (h1 : x < 4294967296) : bits .and .u32 x 255 = x % 256 := by
  obtain ⟨X, rfl⟩ := Int.eq_ofNat_of_zero_le h0
  rw [show (255 : Int) = ((255 : Nat) : Int) by rfl, u32_and_nat _ _ (by omega) (by omega), nat_mask8]; rfl
theorem low1 (x : Int) (h0 : 0 ≤ x) (h1 : x < 4294967296) : bits .and .u32 x 1 = x % 2 := by
  obtain ⟨X, rfl⟩ := Int.eq_ofNat_of_zero_le h0
  rw [u32_and1 _ (by omega)]; rfl

theorem norm_stop (x Y : Int) (i : Int) (h0 : 0 ≤ Y) (h : Em.normF (32 - i.toNat) Y.toNat = Em.normF 32 x.toNat) (hs : i = 32 ∨ Y = 0 ∨ Y % 2 = 1) : Y = ((Em.normF 32 x.toNat : Nat) : Int) := by
  rcases hs with rfl | rfl | h1
  · rw [show 32 - (32 : Int).toNat = 0 by rfl, Em.normF] at h
    omega
  · rw [show (0 : Int).toNat = 0 by rfl, Em.normF_zero] at h
    omega
  · rw [Em.normF_odd _ _ (by omega)] at h
    omega
theorem norm_go (x Y : Int) (i : Int) (h0 : 0 ≤ Y) (h : Em.normF (32 - i.toNat) Y.toNat = Em.normF 32 x.toNat) (hi0 : 0 ≤ i) (hi : i < 32) (h1 : Y ≠ 0) (h2 : Y % 2 = 0) :
    Em.normF (32 - (i + 1).toNat) (Y / 2).toNat = Em.normF 32 x.toNat := by
  rw [← h, show 32 - i.toNat = (32 - (i + 1).toNat) + 1 by omega, Em.normF_even _ _ (by omega) (by omega)]
  congr 1
  omega

/-- the halving, as the law has it, whatever came before it: it ends at the word without its lowest zeros -/
theorem rest (x : Int) (s : Bool) (hs : findB x = true ↔ (Em.normF 32 x.toNat ≤ 255 ∨ s = true)) :
    ∀ Y : Int, Y = ((Em.normF 32 x.toNat : Nat) : Int) → (255 < Y → s = false → findB x = false) ∧ (255 < Y → s = true → findB x = true) ∧ (Y ≤ 255 → findB x = true) := by
  rintro Y rfl
  refine ⟨fun h1 h2 => ?_, fun _ h2 => hs.2 (.inr h2), fun h => hs.2 (.inl (by omega))⟩
  cases h : findB x with
  | false => rfl
  | true => rcases hs.1 h with h | h
            · omega
            · rw [h2] at h; cases h

theorem walkA (x : Int) (hx0 : 0 ≤ x) (hx : x < 4294967296) (w : World) (h1 : (x == x % 256 * 16843009) = true)
    (HF : RowKit.Hid (findB x = true ↔ (Em.normF 32 x.toNat ≤ 255 ∨ true = true))) :
    Calls Try.prog 7 #[.int .u32 x] w fun e w' => e = .returned (.bool true) ∧ Below w.heap.size w w' := by
  have hl := low8 x hx0 hx
  have hl2 := low8 (x / 256) (by omega) (by omega)
  have HR := Lib.hid (rest x _ HF.out)
  clear HF
  go_enter Try.func7, Try.ntmps7
  go_wp2_with fail
  refine (find_c _ _ hx0 hx).mono ?_
  rintro e w' ⟨rfl, n1, rfl⟩
  go_wp2
  go_loop [7, 8] (fun y i => ∃ i' Y : Int, 0 ≤ i' ∧ i' ≤ 32 ∧ 0 ≤ Y ∧ Y < 4294967296 ∧ i = .int .i64 i' ∧ y = .int .u32 Y ∧ RowKit.Hid (Em.normF (32 - i'.toNat) Y.toNat = Em.normF 32 x.toNat)) (fun _ i => (32 - intOf i).toNat)
  case atStart => exact ⟨0, x, by omega, by omega, hx0, hx, rfl, rfl, Lib.hid rfl⟩
  case round =>
    obtain ⟨i', Y, hi0, hi1, hY0, hY1, rfl, rfl, HN⟩ := hrel
    clear hl hl2 h1
    have h0 := low1 Y hY0 hY1
    by_cases hlt : i' < 32
    · by_cases hz : Y = 0
      · subst hz
        obtain ⟨r1, r2, r3⟩ := HR.out _ (norm_stop x 0 i' hY0 HN.out (.inr (.inl rfl)))
        clear HN HR
        by_cases hb : (255 : Int) < 0
        · have hf := r2 hb (by trivial)
          clear r1 r2 r3
          go_wp2_with fail
          refine (awake_c _).mono ?_
          rintro e w' ⟨rfl, n5, rfl⟩
          go_wp2
          go_ret
          exact ⟨rfl, below_drewN (Below.refl _ _)⟩
        · have hf := r3 (by omega)
          clear r1 r2 r3
          go_wp2_with fail
          refine (awake_c _).mono ?_
          rintro e w' ⟨rfl, n5, rfl⟩
          go_wp2
          go_ret
          exact ⟨rfl, below_drewN (Below.refl _ _)⟩
      · by_cases ho : Y % 2 = 1
        · have hzb : (Y != 0) = true := by simpa using hz
          have hob : (Y % 2 == 0) = false := by rw [ho]; rfl
          obtain ⟨r1, r2, r3⟩ := HR.out _ (norm_stop x Y i' hY0 HN.out (.inr (.inr ho)))
          clear HN HR
          by_cases hb : 255 < Y
          · have hf := r2 hb (by trivial)
            clear r1 r2 r3
            go_wp2_with fail
            refine (awake_c _).mono ?_
            rintro e w' ⟨rfl, n5, rfl⟩
            go_wp2
            go_ret
            exact ⟨rfl, below_drewN (Below.refl _ _)⟩
          · have hf := r3 (by omega)
            clear r1 r2 r3
            go_wp2_with fail
            refine (awake_c _).mono ?_
            rintro e w' ⟨rfl, n5, rfl⟩
            go_wp2
            go_ret
            exact ⟨rfl, below_drewN (Below.refl _ _)⟩
        · have hzb : (Y != 0) = true := by simpa using hz
          have hob : (Y % 2 == 0) = true := by rw [show Y % 2 = 0 by omega]; rfl
          have HG := Lib.hid (norm_go x Y i' hY0 HN.out hi0 hlt hz (by omega))
          clear hz ho HN
          go_wp2
          go_round
          case rel => exact ⟨i' + 1, _, by omega, by omega, by omega, by omega, rfl, rfl, HG⟩
          case measure => simp [intOf]; omega
    · have hi : i' = 32 := by omega
      obtain ⟨r1, r2, r3⟩ := HR.out _ (norm_stop x Y i' hY0 HN.out (.inl hi))
      clear HN HR
      by_cases hb : 255 < Y
      · have hf := r2 hb (by trivial)
        clear r1 r2 r3
        go_wp2_with fail
        refine (awake_c _).mono ?_
        rintro e w' ⟨rfl, n5, rfl⟩
        go_wp2
        go_ret
        exact ⟨rfl, below_drewN (Below.refl _ _)⟩
      · have hf := r3 (by omega)
        clear r1 r2 r3
        go_wp2_with fail
        refine (awake_c _).mono ?_
        rintro e w' ⟨rfl, n5, rfl⟩
        go_wp2
        go_ret
        exact ⟨rfl, below_drewN (Below.refl _ _)⟩

theorem walkB (x : Int) (hx0 : 0 ≤ x) (hx : x < 4294967296) (w : World) (h1 : (x == x % 256 * 16843009) = false) (h2 : (x == x % 256 * 65537) = true)
    (HF : RowKit.Hid (findB x = true ↔ (Em.normF 32 x.toNat ≤ 255 ∨ true = true))) :
    Calls Try.prog 7 #[.int .u32 x] w fun e w' => e = .returned (.bool true) ∧ Below w.heap.size w w' := by
  have hl := low8 x hx0 hx
  have hl2 := low8 (x / 256) (by omega) (by omega)
  have HR := Lib.hid (rest x _ HF.out)
  clear HF
  go_enter Try.func7, Try.ntmps7
  go_wp2_with fail
  refine (find_c _ _ hx0 hx).mono ?_
  rintro e w' ⟨rfl, n1, rfl⟩
  go_wp2
  go_loop [7, 8] (fun y i => ∃ i' Y : Int, 0 ≤ i' ∧ i' ≤ 32 ∧ 0 ≤ Y ∧ Y < 4294967296 ∧ i = .int .i64 i' ∧ y = .int .u32 Y ∧ RowKit.Hid (Em.normF (32 - i'.toNat) Y.toNat = Em.normF 32 x.toNat)) (fun _ i => (32 - intOf i).toNat)
  case atStart => exact ⟨0, x, by omega, by omega, hx0, hx, rfl, rfl, Lib.hid rfl⟩
  case round =>
    obtain ⟨i', Y, hi0, hi1, hY0, hY1, rfl, rfl, HN⟩ := hrel
    clear hl hl2 h1 h2
    have h0 := low1 Y hY0 hY1
    by_cases hlt : i' < 32
    · by_cases hz : Y = 0
      · subst hz
        obtain ⟨r1, r2, r3⟩ := HR.out _ (norm_stop x 0 i' hY0 HN.out (.inr (.inl rfl)))
        clear HN HR
        by_cases hb : (255 : Int) < 0
        · have hf := r2 hb (by trivial)
          clear r1 r2 r3
          go_wp2_with fail
          refine (awake_c _).mono ?_
          rintro e w' ⟨rfl, n5, rfl⟩
          go_wp2
          go_ret
          exact ⟨rfl, below_drewN (Below.refl _ _)⟩
        · have hf := r3 (by omega)
          clear r1 r2 r3
          go_wp2_with fail
          refine (awake_c _).mono ?_
          rintro e w' ⟨rfl, n5, rfl⟩
          go_wp2
          go_ret
          exact ⟨rfl, below_drewN (Below.refl _ _)⟩
      · by_cases ho : Y % 2 = 1
        · have hzb : (Y != 0) = true := by simpa using hz
          have hob : (Y % 2 == 0) = false := by rw [ho]; rfl
          obtain ⟨r1, r2, r3⟩ := HR.out _ (norm_stop x Y i' hY0 HN.out (.inr (.inr ho)))
          clear HN HR
          by_cases hb : 255 < Y
          · have hf := r2 hb (by trivial)
            clear r1 r2 r3
            go_wp2_with fail
            refine (awake_c _).mono ?_
            rintro e w' ⟨rfl, n5, rfl⟩
            go_wp2
            go_ret
            exact ⟨rfl, below_drewN (Below.refl _ _)⟩
          · have hf := r3 (by omega)
            clear r1 r2 r3
            go_wp2_with fail
            refine (awake_c _).mono ?_
            rintro e w' ⟨rfl, n5, rfl⟩
            go_wp2
            go_ret
            exact ⟨rfl, below_drewN (Below.refl _ _)⟩
        · have hzb : (Y != 0) = true := by simpa using hz
          have hob : (Y % 2 == 0) = true := by rw [show Y % 2 = 0 by omega]; rfl
          have HG := Lib.hid (norm_go x Y i' hY0 HN.out hi0 hlt hz (by omega))
          clear hz ho HN
          go_wp2
          go_round
          case rel => exact ⟨i' + 1, _, by omega, by omega, by omega, by omega, rfl, rfl, HG⟩
          case measure => simp [intOf]; omega
    · have hi : i' = 32 := by omega
      obtain ⟨r1, r2, r3⟩ := HR.out _ (norm_stop x Y i' hY0 HN.out (.inl hi))
      clear HN HR
      by_cases hb : 255 < Y
      · have hf := r2 hb (by trivial)
        clear r1 r2 r3
        go_wp2_with fail
        refine (awake_c _).mono ?_
        rintro e w' ⟨rfl, n5, rfl⟩
        go_wp2
        go_ret
        exact ⟨rfl, below_drewN (Below.refl _ _)⟩
      · have hf := r3 (by omega)
        clear r1 r2 r3
        go_wp2_with fail
        refine (awake_c _).mono ?_
        rintro e w' ⟨rfl, n5, rfl⟩
        go_wp2
        go_ret
        exact ⟨rfl, below_drewN (Below.refl _ _)⟩

theorem walkC (x : Int) (hx0 : 0 ≤ x) (hx : x < 4294967296) (w : World) (h1 : (x == x % 256 * 16843009) = false) (h2 : (x == x % 256 * 65537) = false) (h3 : (x == x / 256 % 256 * 16777472) = true)
    (HF : RowKit.Hid (findB x = true ↔ (Em.normF 32 x.toNat ≤ 255 ∨ true = true))) :
    Calls Try.prog 7 #[.int .u32 x] w fun e w' => e = .returned (.bool true) ∧ Below w.heap.size w w' := by
  have hl := low8 x hx0 hx
  have hl2 := low8 (x / 256) (by omega) (by omega)
  have HR := Lib.hid (rest x _ HF.out)
  clear HF
  go_enter Try.func7, Try.ntmps7
  go_wp2_with fail
  refine (find_c _ _ hx0 hx).mono ?_
  rintro e w' ⟨rfl, n1, rfl⟩
  go_wp2
  go_loop [7, 8] (fun y i => ∃ i' Y : Int, 0 ≤ i' ∧ i' ≤ 32 ∧ 0 ≤ Y ∧ Y < 4294967296 ∧ i = .int .i64 i' ∧ y = .int .u32 Y ∧ RowKit.Hid (Em.normF (32 - i'.toNat) Y.toNat = Em.normF 32 x.toNat)) (fun _ i => (32 - intOf i).toNat)
  case atStart => exact ⟨0, x, by omega, by omega, hx0, hx, rfl, rfl, Lib.hid rfl⟩
  case round =>
    obtain ⟨i', Y, hi0, hi1, hY0, hY1, rfl, rfl, HN⟩ := hrel
    clear hl hl2 h1 h2 h3
    have h0 := low1 Y hY0 hY1
    by_cases hlt : i' < 32
    · by_cases hz : Y = 0
      · subst hz
        obtain ⟨r1, r2, r3⟩ := HR.out _ (norm_stop x 0 i' hY0 HN.out (.inr (.inl rfl)))
        clear HN HR
        by_cases hb : (255 : Int) < 0
        · have hf := r2 hb (by trivial)
          clear r1 r2 r3
          go_wp2_with fail
          refine (awake_c _).mono ?_
          rintro e w' ⟨rfl, n5, rfl⟩
          go_wp2
          go_ret
          exact ⟨rfl, below_drewN (Below.refl _ _)⟩
        · have hf := r3 (by omega)
          clear r1 r2 r3
          go_wp2_with fail
          refine (awake_c _).mono ?_
          rintro e w' ⟨rfl, n5, rfl⟩
          go_wp2
          go_ret
          exact ⟨rfl, below_drewN (Below.refl _ _)⟩
      · by_cases ho : Y % 2 = 1
        · have hzb : (Y != 0) = true := by simpa using hz
          have hob : (Y % 2 == 0) = false := by rw [ho]; rfl
          obtain ⟨r1, r2, r3⟩ := HR.out _ (norm_stop x Y i' hY0 HN.out (.inr (.inr ho)))
          clear HN HR
          by_cases hb : 255 < Y
          · have hf := r2 hb (by trivial)
            clear r1 r2 r3
            go_wp2_with fail
            refine (awake_c _).mono ?_
            rintro e w' ⟨rfl, n5, rfl⟩
            go_wp2
            go_ret
            exact ⟨rfl, below_drewN (Below.refl _ _)⟩
          · have hf := r3 (by omega)
            clear r1 r2 r3
            go_wp2_with fail
            refine (awake_c _).mono ?_
            rintro e w' ⟨rfl, n5, rfl⟩
            go_wp2
            go_ret
            exact ⟨rfl, below_drewN (Below.refl _ _)⟩
        · have hzb : (Y != 0) = true := by simpa using hz
          have hob : (Y % 2 == 0) = true := by rw [show Y % 2 = 0 by omega]; rfl
          have HG := Lib.hid (norm_go x Y i' hY0 HN.out hi0 hlt hz (by omega))
          clear hz ho HN
          go_wp2
          go_round
          case rel => exact ⟨i' + 1, _, by omega, by omega, by omega, by omega, rfl, rfl, HG⟩
          case measure => simp [intOf]; omega
    · have hi : i' = 32 := by omega
      obtain ⟨r1, r2, r3⟩ := HR.out _ (norm_stop x Y i' hY0 HN.out (.inl hi))
      clear HN HR
      by_cases hb : 255 < Y
      · have hf := r2 hb (by trivial)
        clear r1 r2 r3
        go_wp2_with fail
        refine (awake_c _).mono ?_
        rintro e w' ⟨rfl, n5, rfl⟩
        go_wp2
        go_ret
        exact ⟨rfl, below_drewN (Below.refl _ _)⟩
      · have hf := r3 (by omega)
        clear r1 r2 r3
        go_wp2_with fail
        refine (awake_c _).mono ?_
        rintro e w' ⟨rfl, n5, rfl⟩
        go_wp2
        go_ret
        exact ⟨rfl, below_drewN (Below.refl _ _)⟩

theorem walkD (x : Int) (hx0 : 0 ≤ x) (hx : x < 4294967296) (w : World) (h1 : (x == x % 256 * 16843009) = false) (h2 : (x == x % 256 * 65537) = false) (h3 : (x == x / 256 % 256 * 16777472) = false)
    (HF : RowKit.Hid (findB x = true ↔ (Em.normF 32 x.toNat ≤ 255 ∨ false = true))) :
    Calls Try.prog 7 #[.int .u32 x] w fun e w' => e = .returned (.bool true) ∧ Below w.heap.size w w' := by
  have hl := low8 x hx0 hx
  have hl2 := low8 (x / 256) (by omega) (by omega)
  have HR := Lib.hid (rest x _ HF.out)
  clear HF
  go_enter Try.func7, Try.ntmps7
  go_wp2_with fail
  refine (find_c _ _ hx0 hx).mono ?_
  rintro e w' ⟨rfl, n1, rfl⟩
  go_wp2
  go_loop [7, 8] (fun y i => ∃ i' Y : Int, 0 ≤ i' ∧ i' ≤ 32 ∧ 0 ≤ Y ∧ Y < 4294967296 ∧ i = .int .i64 i' ∧ y = .int .u32 Y ∧ RowKit.Hid (Em.normF (32 - i'.toNat) Y.toNat = Em.normF 32 x.toNat)) (fun _ i => (32 - intOf i).toNat)
  case atStart => exact ⟨0, x, by omega, by omega, hx0, hx, rfl, rfl, Lib.hid rfl⟩
  case round =>
    obtain ⟨i', Y, hi0, hi1, hY0, hY1, rfl, rfl, HN⟩ := hrel
    clear hl hl2 h1 h2 h3
    have h0 := low1 Y hY0 hY1
    by_cases hlt : i' < 32
    · by_cases hz : Y = 0
      · subst hz
        obtain ⟨r1, r2, r3⟩ := HR.out _ (norm_stop x 0 i' hY0 HN.out (.inr (.inl rfl)))
        clear HN HR
        by_cases hb : (255 : Int) < 0
        · have hf := r1 hb (by trivial)
          clear r1 r2 r3
          go_wp2_with fail
          refine (awake_c _).mono ?_
          rintro e w' ⟨rfl, n5, rfl⟩
          go_wp2
          go_ret
          exact ⟨rfl, below_drewN (Below.refl _ _)⟩
        · have hf := r3 (by omega)
          clear r1 r2 r3
          go_wp2_with fail
          refine (awake_c _).mono ?_
          rintro e w' ⟨rfl, n5, rfl⟩
          go_wp2
          go_ret
          exact ⟨rfl, below_drewN (Below.refl _ _)⟩
      · by_cases ho : Y % 2 = 1
        · have hzb : (Y != 0) = true := by simpa using hz
          have hob : (Y % 2 == 0) = false := by rw [ho]; rfl
          obtain ⟨r1, r2, r3⟩ := HR.out _ (norm_stop x Y i' hY0 HN.out (.inr (.inr ho)))
          clear HN HR
          by_cases hb : 255 < Y
          · have hf := r1 hb (by trivial)
            clear r1 r2 r3
            go_wp2_with fail
            refine (awake_c _).mono ?_
            rintro e w' ⟨rfl, n5, rfl⟩
            go_wp2
            go_ret
            exact ⟨rfl, below_drewN (Below.refl _ _)⟩
          · have hf := r3 (by omega)
            clear r1 r2 r3
            go_wp2_with fail
            refine (awake_c _).mono ?_
            rintro e w' ⟨rfl, n5, rfl⟩
            go_wp2
            go_ret
            exact ⟨rfl, below_drewN (Below.refl _ _)⟩
        · have hzb : (Y != 0) = true := by simpa using hz
          have hob : (Y % 2 == 0) = true := by rw [show Y % 2 = 0 by omega]; rfl
          have HG := Lib.hid (norm_go x Y i' hY0 HN.out hi0 hlt hz (by omega))
          clear hz ho HN
          go_wp2
          go_round
          case rel => exact ⟨i' + 1, _, by omega, by omega, by omega, by omega, rfl, rfl, HG⟩
          case measure => simp [intOf]; omega
    · have hi : i' = 32 := by omega
      obtain ⟨r1, r2, r3⟩ := HR.out _ (norm_stop x Y i' hY0 HN.out (.inl hi))
      clear HN HR
      by_cases hb : 255 < Y
      · have hf := r1 hb (by trivial)
        clear r1 r2 r3
        go_wp2_with fail
        refine (awake_c _).mono ?_
        rintro e w' ⟨rfl, n5, rfl⟩
        go_wp2
        go_ret
        exact ⟨rfl, below_drewN (Below.refl _ _)⟩
      · have hf := r3 (by omega)
        clear r1 r2 r3
        go_wp2_with fail
        refine (awake_c _).mono ?_
        rintro e w' ⟨rfl, n5, rfl⟩
        go_wp2
        go_ret
        exact ⟨rfl, below_drewN (Below.refl _ _)⟩

theorem walk (x : Int) (wx : (Lit.int .u32 x).wf = true) (w : World) :
    Calls Try.prog 7 #[.int .u32 x] w fun e w' => e = .returned (.bool true) ∧ Below w.heap.size w w' := by
  obtain ⟨hx0, hx1⟩ := bounds_u32 wx
  have hx : x < 4294967296 := by omega
  have hfi := found_iff x hx0 hx
  rw [same_of x hx0] at hfi
  by_cases c1 : x = x % 256 * 16843009
  · exact walkA x hx0 hx w (by simpa using c1) (Lib.hid (hfi.trans (or_congr Iff.rfl ⟨fun _ => rfl, fun _ => .inl c1⟩)))
  by_cases c2 : x = x % 256 * 65537
  · exact walkB x hx0 hx w (by simpa using c1) (by simpa using c2) (Lib.hid (hfi.trans (or_congr Iff.rfl ⟨fun _ => rfl, fun _ => .inr (.inl c2)⟩)))
  by_cases c3 : x = x / 256 % 256 * 16777472
  · exact walkC x hx0 hx w (by simpa using c1) (by simpa using c2) (by simpa using c3) (Lib.hid (hfi.trans (or_congr Iff.rfl ⟨fun _ => rfl, fun _ => .inr (.inr c3)⟩)))
  exact walkD x hx0 hx w (by simpa using c1) (by simpa using c2) (by simpa using c3) (Lib.hid (hfi.trans (or_congr Iff.rfl ⟨fun h => (h.elim c1 fun h => h.elim c2 c3).elim, fun h => by cases h⟩)))

set_option maxRecDepth 100000 in
theorem lifted (os : Os) (started : os.Started) (H : Type) (enc : TypeId × Value → H) :
    ReturnsInHanded {} Try.checked os 7 .any (Rows.expandFewSpec.pre6 enc Try.prog Try.f7 Rows.expandFewRow.domain false) (Rows.expandFewSpec.post enc Try.prog Try.f7 false true false false) := by
  refine returnsInHanded_of_change (C := Try.checked) own started (by kernel_rfl) Try.func7
    (ChangeSpec.witness6 (enc := enc) (C := Try.checked) false ⟨#[], #[.int .u32 0], []⟩ 8 (by kernel_rfl) (by kernel_rfl) (by kernel_rfl) (by kernel_rfl)) ?_
  intro W base args ds gs before hval0 hW _ _
  have hval : ∀ (j : Nat) t v, Try.f7.params[j]? = some t → args[j]? = some v → Value.okWide Try.prog W .any base t v := hval0
  have hW' := hW
  obtain ⟨p, q, hA0, hV, rfl, _, _⟩ := hW
  have hA : DataW.TrodAll enc Try.prog W 0 (fun _ => true) true Try.f7.params.toList args.toList ds p := hA0
  rw [Try.params7] at hA hval
  obtain ⟨v0, vs0, d0, ds0, p0, q0, hargs, rfl, rfl, h0, r0⟩ := trodAll_cons hA
  obtain ⟨rfl, rfl, rfl⟩ := trodAll_nil r0
  obtain rfl : args = #[v0] := by cases args; simp_all
  obtain ⟨rfl, rfl⟩ := trodVars_none hV
  obtain ⟨a0, rfl, rfl, rfl, w0⟩ := open_int Try.underlying22 (hval 0 22 v0 rfl rfl) h0
  clear hA0 hval0
  refine (walk a0 w0 W).mono fun e W' ⟨he, bel⟩ => ?_
  subst he
  exact ⟨_, rfl, _, _, _, [], _, [], hW', trodAll_mk1 (shut_bool Try.underlying4 _), (trodAll_cons_mk (shut_int Try.underlying22 w0) trodAll_mk0), rfl, bel.frame _, fun h => by cases h⟩

theorem over : Rows.expandFewRow.holds Try.pinned (OpenSpec.ofChange Rows.expandFewSpec) :=
  OpenClaim.holds_of_wide 7 Try.f7 rfl rfl rfl rfl rfl rfl rfl ⟨rfl, rfl, rfl, rfl, rfl⟩ rfl rfl rfl rfl rfl (by kernel_rfl) Try.func7 (by kernel_rfl)
    (of_decide_eq_true (by kernel_rfl)) (by unfold Func.isWrapper; first | (rw [if_pos (by decide +kernel)]; kernel_rfl) | (rw [if_neg (by decide +kernel)]; exact ⟨rfl, rfl⟩))
    (fun os started H enc _ => lifted os started H enc)

theorem proved : Rows.ExpandFewSaid := over
end Go.Proofs.Ytlgifolagfooaaa.expandFew
