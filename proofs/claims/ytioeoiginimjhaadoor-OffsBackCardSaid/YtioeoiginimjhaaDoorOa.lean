/- The contracts of the program and of the document on offsets in one form; the chapter's examples (awake). -/
import Derived.Test.YtioeoiginimjhaaDoorRows
import Derived.Test.YtioeoiginimjhaaDoorOu
namespace Go.Proofs.YtioeoiginimjhaaDoor
open Go.ChangeShapes Go.WideShapes Go.ChangeAt Go.RowKit

theorem gA_no (k x y : Int) (hk : ¬ (1 ≤ k ∧ k ≤ 5)) : Om.gA k x y = 0 := by
  unfold Om.gA
  rw [if_neg (by omega), if_neg (by omega), if_neg (by omega), if_neg (by omega), if_neg (by omega)]

theorem orget_no (k a b : Int) (w : World) (hk : ¬ (1 ≤ k ∧ k ≤ 5)) :
    Calls Tryd.prog 14 #[.int .i64 k, .int .i64 a, .int .i64 b] w fun e w' => e = .returned (.int .i64 (Om.gA k (a % 4294967296) (b % 4294967296))) ∧ ∃ n, w' = w.drewN n := by
  rw [gA_no _ _ _ hk]
  have hx0 : 0 ≤ a % 4294967296 := by omega
  have hx1 : a % 4294967296 < 4294967296 := by omega
  have b1 : (k == 1) = false := by simp; omega
  have b2 : (k == 2) = false := by simp; omega
  have b3 : (k == 3) = false := by simp; omega
  have b4 : (k == 4) = false := by simp; omega
  have b5 : (k == 5) = false := by simp; omega
  clear hk
  go_enter Tryd.func14, Tryd.ntmps14
  go_wp2_with ((go_at_call 24; refine (rget_c _ _ _ _ hx0 hx1).mono ?_; rintro e w' ⟨rfl, n, rfl⟩))
  go_ret
  exact ⟨rfl, _, rfl⟩

theorem orget_c (k a b : Int) (w : World) :
    Calls Tryd.prog 14 #[.int .i64 k, .int .i64 a, .int .i64 b] w fun e w' => e = .returned (.int .i64 (Om.gA k (a % 4294967296) (b % 4294967296))) ∧ ∃ n, w' = w.drewN n := by
  by_cases hk : 1 ≤ k ∧ k ≤ 5
  · rcases kinds hk with rfl | rfl | rfl | rfl | rfl
    · exact orget_1 a b w
    · exact orget_2 a b w
    · exact orget_3 a b w
    · exact orget_4 a b w
    · exact orget_5 a b w
  · exact orget_no k a b w hk

theorem pget_c (k a b : Int) (w : World) (hT : Tabs w) :
    Calls Tryd.prog 13 #[.int .i64 k, .int .i64 a, .int .i64 b] w fun e w' => e = .returned (.int .i64 (Om.gA k (a % 4294967296) (b % 4294967296))) ∧ Below w.heap.size w w' := by
  by_cases hk : 1 ≤ k ∧ k ≤ 5
  · rw [← Om.getV_ar k _ _ hk (by omega) (by omega)]
    exact oget_c k a b w hk hT
  · rw [gA_no _ _ _ hk]
    exact oget_no k a b w hk

theorem pput_c (k off : Int) (w : World) (hT : Tabs w) (hf : fitsB k off = true) :
    Calls Tryd.prog 8 #[.int .i64 k, .int .i64 off] w fun e w' => e = .returned (.tuple #[.int .i64 (Om.pA k off), .int .i64 (Om.pB k off)]) ∧ Below w.heap.size w w' := by
  rw [← (Om.put_ar k off hf).1, ← (Om.put_ar k off hf).2]
  exact oput_c k off w hT hf

/-- W is a world behind w: both tables lie there still, and all that was there at w -/
structure Later (w W : World) : Prop where
  tabs : Tabs W
  bel : Below w.heap.size w W
theorem Later.refl {w : World} (h : Tabs w) : Later w w := ⟨h, Below.refl _ _⟩
theorem Later.step {w W W' : World} (h : Later w W) (hb : Below W.heap.size W W') : Later w W' := ⟨h.tabs.below hb h.tabs.big, h.bel.trans (hb.mono h.bel.size)⟩
theorem Later.drewn {w W : World} (h : Later w W) (n : Nat) : Later w (W.drewN n) := ⟨h.tabs.drew n, below_drewN h.bel n⟩

theorem awake_c (w : World) (hT : Tabs w) :
    Calls Tryd.prog 12 #[] w fun e w' => e = .returned (.bool true) ∧ Below w.heap.size w w' := by
  have hL := Later.refl hT
  clear hT
  go_enter Tryd.func12, Tryd.ntmps12
  go_wp2_with (first
    | (go_at_call 8; refine (pput_c _ _ _ (Later.tabs (w := w) (by assumption)) (by decide +kernel)).mono ?_; rintro e w2 ⟨rfl, hb⟩; have hL2 := Later.step (w := w) (by assumption) hb; clear hb
       simp only [show Om.pA 1 (-4) = 254 by decide +kernel, show Om.pB 1 (-4) = 0 by decide +kernel, show Om.pA 4 0 = 0 by decide +kernel, show Om.pB 4 0 = 10240 by decide +kernel])
    | (go_at_call 13; refine (pget_c _ _ _ _ (Later.tabs (w := w) (by assumption))).mono ?_; rintro e w2 ⟨rfl, hb⟩; have hL2 := Later.step (w := w) (by assumption) hb; clear hb
       simp only [show Om.gA 4 (0 % 4294967296) (10240 % 4294967296) = 0 by decide +kernel])
    | (go_at_call 10; refine (fits_c _ _ _ (Later.tabs (w := w) (by assumption))).mono ?_; rintro e w2 ⟨rfl, hb⟩; have hL2 := Later.step (w := w) (by assumption) hb; clear hb
       simp only [show fitsB 5 126 = true by decide +kernel, show fitsB 5 128 = false by decide +kernel, show fitsB 2 3 = false by decide +kernel]))
  go_ret
  exact ⟨rfl, hL2.bel⟩
end Go.Proofs.YtioeoiginimjhaaDoor
