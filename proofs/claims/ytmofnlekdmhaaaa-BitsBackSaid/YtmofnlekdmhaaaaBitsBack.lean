/- For all words x and v and every two numbers hi and lo BitsBack returns true: what Put puts into a field is what Get gets there, the rest of the word is as it was, and what is no field changes nothing and is 0. No conditions. -/
import Derived.Test.YtmofnlekdmhaaaaRows
import Derived.WalkKit
import Derived.ProofKit
import Derived.OpenShut
import Derived.Below
import Derived.Test.YtmofnlekdmhaaaaBa
import Derived.Test.YtmofnlekdmhaaaaAr
namespace Go.Proofs.Ytmofnlekdmhaaaa.bitsBack
open Go.ChangeShapes Go.WideShapes Go.ChangeAt Go.RowKit

theorem own : ownKnob Try.prog.godebug = none := by kernel_rfl
theorem laidOut : laidOutB Try.prog = true := by kernel_rfl

theorem putI_bd (x hi lo v : Int) (hx0 : 0 ≤ x) (hx : x < 4294967296) : 0 ≤ putI x hi lo v ∧ putI x hi lo v < 4294967296 := by
  unfold putI
  split
  · have := Bm.put_lt x.toNat lo.toNat (hi.toNat + 1 - lo.toNat) v.toNat (by omega)
    omega
  · omega
theorem getI_bd (x hi lo : Int) (hx0 : 0 ≤ x) (hx : x < 4294967296) : 0 ≤ getI x hi lo ∧ getI x hi lo < 4294967296 := by
  unfold getI
  split
  · have := Bm.get_lt x.toNat hi.toNat lo.toNat (by omega)
    omega
  · omega

/-- the four facts, of the numbers -/
theorem facts (x hi lo v : Int) (hx0 : 0 ≤ x) (hx : x < 4294967296) (h1 : 0 ≤ lo) (h2 : lo ≤ hi) (h3 : hi < 32) :
    putI (putI x hi lo v) hi lo (getI x hi lo) = x ∧ getI (putI x hi lo v) hi lo = getI v (hi - lo) 0 ∧
    (0 < lo → getI (putI x hi lo v) (lo - 1) 0 = getI x (lo - 1) 0) ∧ (hi < 31 → getI (putI x hi lo v) 31 (hi + 1) = getI x 31 (hi + 1)) := by
  obtain ⟨X, rfl⟩ := Int.eq_ofNat_of_zero_le hx0
  obtain ⟨L, rfl⟩ := Int.eq_ofNat_of_zero_le h1
  obtain ⟨n, rfl⟩ : ∃ n : Nat, hi = (L : Int) + n := ⟨(hi - L).toNat, by omega⟩
  have e1 : putI (X : Int) ((L : Int) + n) L v = ((Bm.putU X L (n + 1) v.toNat : Nat) : Int) := by
    unfold putI
    rw [if_pos ⟨h1, h2, h3⟩, Int.toNat_natCast, Int.toNat_natCast, show ((L : Int) + n).toNat + 1 - L = n + 1 by omega]
  have e2 : getI (X : Int) ((L : Int) + n) L = ((Bm.getB X (L + (n + 1) - 1) L : Nat) : Int) := by
    unfold getI
    rw [if_pos ⟨h1, h2, h3⟩, Int.toNat_natCast, Int.toNat_natCast, show ((L : Int) + n).toNat = L + (n + 1) - 1 by omega]
  have hlt := Bm.put_lt X L (n + 1) v.toNat (by omega)
  rw [e1, e2]
  refine ⟨?_, ?_, fun h => ?_, fun h => ?_⟩
  · unfold putI
    rw [if_pos ⟨h1, h2, h3⟩, Int.toNat_natCast, Int.toNat_natCast, Int.toNat_natCast, show ((L : Int) + n).toNat + 1 - L = n + 1 by omega, Bm.put_back (by omega) (by omega) (by omega)]
  · unfold getI
    rw [if_pos ⟨h1, h2, h3⟩, if_pos (by omega), Int.toNat_natCast, Int.toNat_natCast, show ((L : Int) + n).toNat = L + (n + 1) - 1 by omega, Bm.got_put (by omega) (by omega)]
    rw [show ((L : Int) + n - L).toNat = n + 1 - 1 by omega]
    rfl
  · rcases Bm.below_put (X := X) (V := v.toNat) (lo := L) (n := n + 1) (by omega) with h4 | h4
    · unfold getI
      rw [if_pos (by omega), if_pos (by omega), Int.toNat_natCast, Int.toNat_natCast, show ((L : Int) - 1).toNat = L - 1 by omega, show (0 : Int).toNat = 0 from rfl, h4]
    · omega
  · unfold getI
    rw [if_pos (by omega), if_pos (by omega), Int.toNat_natCast, Int.toNat_natCast, show ((L : Int) + n + 1).toNat = L + (n + 1) by omega, show (31 : Int).toNat = 31 from rfl, Bm.above_put (by omega)]

theorem walk (x v hi lo : Int) (wx : (Lit.int .u32 x).wf = true) (wv : (Lit.int .u32 v).wf = true) (whi : (Lit.int .i64 hi).wf = true) (wlo : (Lit.int .i64 lo).wf = true) (w : World) :
    Calls Try.prog 6 #[.int .u32 x, .int .u32 v, .agg #[.int .i64 hi, .int .i64 lo]] w fun e w' => e = .returned (.bool true) ∧ Below w.heap.size w w' := by
  obtain ⟨hx0, hx⟩ := bounds_u32 wx
  obtain ⟨hv0, hv⟩ := bounds_u32 wv
  obtain ⟨hh0, hh1⟩ := bounds_i64 whi
  obtain ⟨hl0, hl1⟩ := bounds_i64 wlo
  clear wx wv whi wlo
  by_cases hf : 0 ≤ lo ∧ lo ≤ hi ∧ hi < 32
  · obtain ⟨h1, h2, h3⟩ := hf
    have HF := Lib.hid (facts x hi lo v hx0 (by omega) h1 h2 h3)
    obtain ⟨hy0, hy1⟩ := putI_bd x hi lo v hx0 (by omega)
    obtain ⟨hg0, hg1⟩ := getI_bd x hi lo hx0 (by omega)
    go_enter Try.func6, Try.ntmps6
    go_wp2_with fail
    go_quiet (fail)
    go_wp2_with fail
    refine (put_c x hi lo v _ hx0 (by omega) hv0 (by omega)).mono ?_
    rintro e w' ⟨rfl, n1, rfl⟩
    have hy2 : putI x hi lo v < 4294967296 := by omega
    have hg2 : getI x hi lo < 4294967296 := by omega
    go_wp2_with fail
    refine (get_c x hi lo _ hx0 (by omega)).mono ?_
    rintro e w' ⟨rfl, n2, rfl⟩
    go_wp2_with fail
    refine (put_c _ _ _ _ _ hy0 hy2 hg0 hg2).mono ?_
    rintro e w' ⟨rfl, n3, rfl⟩
    rw [HF.out.1]
    go_wp2_with fail
    refine (get_c _ _ _ _ hy0 hy2).mono ?_
    rintro e w' ⟨rfl, n4, rfl⟩
    rw [HF.out.2.1]
    go_wp2_with fail
    refine (get_c _ _ _ _ hv0 (by omega)).mono ?_
    rintro e w' ⟨rfl, n5, rfl⟩
    by_cases hlo : 0 < lo
    · have H3 := Lib.hid (HF.out.2.2.1 hlo)
      go_wp2_with fail
      refine (get_c _ _ _ _ hy0 hy2).mono ?_
      rintro e w' ⟨rfl, n6, rfl⟩
      rw [H3.out]
      go_wp2_with fail
      refine (get_c _ _ _ _ hx0 (by omega)).mono ?_
      rintro e w' ⟨rfl, n7, rfl⟩
      by_cases hhi : hi < 31
      · have H4 := Lib.hid (HF.out.2.2.2 hhi)
        have hne : (hi == 31) = false := by simp; omega
        go_wp2_with fail
        refine (get_c _ _ _ _ hy0 hy2).mono ?_
        rintro e w' ⟨rfl, n8, rfl⟩
        rw [H4.out]
        go_wp2_with fail
        refine (get_c _ _ _ _ hx0 (by omega)).mono ?_
        rintro e w' ⟨rfl, n9, rfl⟩
        go_wp2_with fail
        refine (awake_c _).mono ?_
        rintro e w' ⟨rfl, hbel⟩
        go_wp2
        go_ret
        exact ⟨rfl, (below_drewN ((Below.refl _ _).alloc (Nat.le_refl _) _)).trans (hbel.mono (by simp))⟩
      · have hne : (hi == 31) = true := by simp; omega
        go_wp2_with fail
        refine (awake_c _).mono ?_
        rintro e w' ⟨rfl, hbel⟩
        go_wp2
        go_ret
        exact ⟨rfl, (below_drewN ((Below.refl _ _).alloc (Nat.le_refl _) _)).trans (hbel.mono (by simp))⟩
    · by_cases hhi : hi < 31
      · have H4 := Lib.hid (HF.out.2.2.2 hhi)
        have hne : (hi == 31) = false := by simp; omega
        go_wp2_with fail
        refine (get_c _ _ _ _ hy0 hy2).mono ?_
        rintro e w' ⟨rfl, n8, rfl⟩
        rw [H4.out]
        go_wp2_with fail
        refine (get_c _ _ _ _ hx0 (by omega)).mono ?_
        rintro e w' ⟨rfl, n9, rfl⟩
        go_wp2_with fail
        refine (awake_c _).mono ?_
        rintro e w' ⟨rfl, hbel⟩
        go_wp2
        go_ret
        exact ⟨rfl, (below_drewN ((Below.refl _ _).alloc (Nat.le_refl _) _)).trans (hbel.mono (by simp))⟩
      · have hne : (hi == 31) = true := by simp; omega
        go_wp2_with fail
        refine (awake_c _).mono ?_
        rintro e w' ⟨rfl, hbel⟩
        go_wp2
        go_ret
        exact ⟨rfl, (below_drewN ((Below.refl _ _).alloc (Nat.le_refl _) _)).trans (hbel.mono (by simp))⟩
  · have HP := Lib.hid (show putI x hi lo v = x by unfold putI; rw [if_neg hf])
    have HG := Lib.hid (show getI x hi lo = 0 by unfold getI; rw [if_neg hf])
    have hcase : lo < 0 ∨ (0 ≤ lo ∧ hi < lo) ∨ (0 ≤ lo ∧ lo ≤ hi ∧ 31 < hi) := by omega
    clear hf
    rcases hcase with c1 | ⟨c1, c2⟩ | ⟨c1, c2, c3⟩
    all_goals
      go_enter Try.func6, Try.ntmps6
      go_wp2_with fail
      go_quiet (fail)
      go_wp2_with fail
      refine (put_c _ _ _ _ _ hx0 (by omega) hv0 (by omega)).mono ?_
      rintro e w' ⟨rfl, n1, rfl⟩
      rw [HP.out]
      go_wp2_with fail
      refine (get_c _ _ _ _ hx0 (by omega)).mono ?_
      rintro e w' ⟨rfl, n2, rfl⟩
      rw [HG.out]
      go_wp2_with fail
      refine (awake_c _).mono ?_
      rintro e w' ⟨rfl, hbel⟩
      go_wp2
      go_ret
      exact ⟨rfl, (below_drewN ((Below.refl _ _).alloc (Nat.le_refl _) _)).trans (hbel.mono (by simp))⟩

set_option maxRecDepth 100000 in
theorem lifted (os : Os) (started : os.Started) (H : Type) (enc : TypeId × Value → H) :
    ReturnsInHanded {} Try.checked os 6 .any (Rows.bitsBackSpec.pre6 enc Try.prog Try.f6 Rows.bitsBackRow.domain false) (Rows.bitsBackSpec.post enc Try.prog Try.f6 false true false false) := by
  refine returnsInHanded_of_change (C := Try.checked) own started (by kernel_rfl) Try.func6
    (ChangeSpec.witness6 (enc := enc) (C := Try.checked) false ⟨#[], #[.int .u32 0, .int .u32 0, .agg #[.int .i64 0, .int .i64 0]], []⟩ 8 (by kernel_rfl) (by kernel_rfl) (by kernel_rfl) (by kernel_rfl)) ?_
  intro W base args ds gs before hval0 hW _ _
  have hval : ∀ (j : Nat) t v, Try.f6.params[j]? = some t → args[j]? = some v → Value.okWide Try.prog W .any base t v := hval0
  have hW' := hW
  obtain ⟨p, q, hA0, hV, rfl, _, _⟩ := hW
  have hA : DataW.TrodAll enc Try.prog W 0 (fun _ => true) true Try.f6.params.toList args.toList ds p := hA0
  rw [Try.params6] at hA hval
  obtain ⟨v0, vs0, d0, ds0, p0, q0, hargs, rfl, rfl, h0, r0⟩ := trodAll_cons hA
  obtain ⟨v1, vs1, d1, ds1, p1, q1, rfl, rfl, rfl, h1, r1⟩ := trodAll_cons r0
  obtain ⟨v2, vs2, d2, ds2, p2, q2, rfl, rfl, rfl, h2, r2⟩ := trodAll_cons r1
  obtain ⟨rfl, rfl, rfl⟩ := trodAll_nil r2
  obtain rfl : args = #[v0, v1, v2] := by cases args; simp_all
  obtain ⟨rfl, rfl⟩ := trodVars_none hV
  obtain ⟨a0, rfl, rfl, rfl, w0⟩ := open_int Try.underlying22 (hval 0 22 v0 rfl rfl) h0
  obtain ⟨a1, rfl, rfl, rfl, w1⟩ := open_int Try.underlying22 (hval 1 22 v1 rfl rfl) h1
  have k2 := h2
  have lt2 : ∀ x ∈ p2, x.block < W.heap.size := by obtain ⟨m, hm⟩ := k2; exact DataW.trod_lt m _ _ _ hm
  obtain ⟨a2, b2, rfl, w2, u2⟩ := open_pair Try.underlying23 Try.underlying3 (by kernel_rfl) (by kernel_rfl) (hval 2 23 v2 rfl rfl) h2
  clear hA0 hval0
  refine (walk a0 a1 a2 b2 w0 w1 w2 u2 W).mono fun e W' ⟨he, bel⟩ => ?_
  subst he
  exact ⟨_, rfl, _, _, _, [], _, [], hW', trodAll_mk1 (shut_bool Try.underlying4 _), (trodAll_cons_mk (shut_int Try.underlying22 w0) (trodAll_cons_mk (shut_int Try.underlying22 w1) (trodAll_cons_mk (Below.trod laidOut (by kernel_rfl) (of_decide_eq_true (by kernel_rfl)) k2 bel lt2) trodAll_mk0))), rfl, bel.frame _, fun h => by cases h⟩

theorem over : Rows.bitsBackRow.holds Try.pinned (OpenSpec.ofChange Rows.bitsBackSpec) :=
  OpenClaim.holds_of_wide 6 Try.f6 rfl rfl rfl rfl rfl rfl rfl ⟨rfl, rfl, rfl, rfl, rfl⟩ rfl rfl rfl rfl rfl (by kernel_rfl) Try.func6 (by kernel_rfl)
    (of_decide_eq_true (by kernel_rfl)) (by unfold Func.isWrapper; first | (rw [if_pos (by decide +kernel)]; kernel_rfl) | (rw [if_neg (by decide +kernel)]; exact ⟨rfl, rfl⟩))
    (fun os started H enc _ => lifted os started H enc)

theorem proved : Rows.BitsBackSaid := over
end Go.Proofs.Ytmofnlekdmhaaaa.bitsBack
