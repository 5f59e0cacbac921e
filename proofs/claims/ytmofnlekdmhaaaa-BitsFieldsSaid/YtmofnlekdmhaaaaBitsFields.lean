/- For all words x and v and every two numbers hi and lo BitsFields returns true: Get and Put answer what the document says. No conditions. -/
import Derived.Test.YtmofnlekdmhaaaaRows
import Derived.WalkKit
import Derived.ProofKit
import Derived.OpenShut
import Derived.Below
import Derived.Deep.RegionHeld3
import Derived.Test.YtmofnlekdmhaaaaBa
import Derived.Test.YtmofnlekdmhaaaaAr
namespace Go.Proofs.Ytmofnlekdmhaaaa.bitsFields
open Go.ChangeShapes Go.WideShapes Go.ChangeAt Go.RowKit

theorem own : ownKnob Try.prog.godebug = none := by kernel_rfl
theorem laidOut : laidOutB Try.prog = true := by kernel_rfl

set_option maxHeartbeats 1000000 in
theorem walk (x v hi lo : Int) (wx : (Lit.int .u32 x).wf = true) (wv : (Lit.int .u32 v).wf = true) (_whi : (Lit.int .i64 hi).wf = true) (_wlo : (Lit.int .i64 lo).wf = true) (w : World) :
    Calls Try.prog 3 #[.int .u32 x, .int .u32 v, .agg #[.int .i64 hi, .int .i64 lo]] w fun e w' => e = .returned (.bool true) ∧ Below w.heap.size w w' := by
  obtain ⟨hx0, hx1⟩ := bounds_u32 wx
  obtain ⟨hv0, hv1⟩ := bounds_u32 wv
  have hx : x < 4294967296 := by omega
  have hv : v < 4294967296 := by omega
  clear wx wv _whi _wlo hx1 hv1
  have hbox : Below w.heap.size w (w.alloc (.cells #[.int .i64 hi, .int .i64 lo] 23)) := (Below.refl _ _).alloc (Nat.le_refl _) _
  have hnew := heap_alloc_new w (.cells #[.int .i64 hi, .int .i64 lo] 23)
  have hc0 : (w.alloc (.cells #[.int .i64 hi, .int .i64 lo] 23)).cell? ⟨w.heap.size, 0, none⟩ = some (.int .i64 hi) := by simp only [World.cell?, hnew]; rfl
  have hc1 : (w.alloc (.cells #[.int .i64 hi, .int .i64 lo] 23)).cell? ⟨w.heap.size, 1, none⟩ = some (.int .i64 lo) := by simp only [World.cell?, hnew]; rfl
  clear hnew
  have HB := Lib.hid hbox; clear hbox
  have H0 := Lib.hid hc0; clear hc0
  have H1 := Lib.hid hc1; clear hc1
  go_enter Try.func3, Try.ntmps3
  go_wp2_with fail
  go_region_held3 (fun w' => w'.cell? ⟨w.heap.size, 0, none⟩ = some (.int .i64 hi) ∧ w'.cell? ⟨w.heap.size, 1, none⟩ = some (.int .i64 lo) ∧ Below w.heap.size w w' ∧ w.heap.size < w'.heap.size)
    (first
      | (exact ⟨H0.out, H1.out, HB.out.drew, by simp⟩)
      | (go_split_ands; refine ⟨by assumption, by assumption, below_drewN (by assumption), by assumption⟩)
      | (go_split_ands; refine ⟨(hbel.cell (by assumption)).trans (by assumption), (hbel.cell (by assumption)).trans (by assumption), Below.trans (by assumption) (hbel.mono (Nat.le_of_lt (by assumption))), Nat.lt_of_lt_of_le (by assumption) hbel.size⟩))
    (first
      | (go_at_call 9; refine (get_c _ _ _ _ hx0 hx).mono ?_; rintro e w' ⟨rfl, n1, rfl⟩)
      | (go_at_call 10; refine (rget_c _ _ _ _ hx0 hx).mono ?_; rintro e w' ⟨rfl, n2, rfl⟩)
      | (go_at_call 11; refine (put_c _ _ _ _ _ hx0 hx hv0 hv).mono ?_; rintro e w' ⟨rfl, n3, rfl⟩)
      | (go_at_call 12; refine (rput_c _ _ _ _ _ hx0 hx hv0 hv).mono ?_; rintro e w' ⟨rfl, n4, rfl⟩)
      | (go_at_call 13; refine (awake_c _).mono ?_; rintro e w' ⟨rfl, hbel⟩))
  all_goals
    go_split_ands
    go_wp2
    go_ret
    exact ⟨rfl, by assumption⟩

set_option maxRecDepth 100000 in
theorem lifted (os : Os) (started : os.Started) (H : Type) (enc : TypeId × Value → H) :
    ReturnsInHanded {} Try.checked os 3 .any (Rows.bitsFieldsSpec.pre6 enc Try.prog Try.f3 Rows.bitsFieldsRow.domain false) (Rows.bitsFieldsSpec.post enc Try.prog Try.f3 false true false false) := by
  refine returnsInHanded_of_change (C := Try.checked) own started (by kernel_rfl) Try.func3
    (ChangeSpec.witness6 (enc := enc) (C := Try.checked) false ⟨#[], #[.int .u32 0, .int .u32 0, .agg #[.int .i64 0, .int .i64 0]], []⟩ 8 (by kernel_rfl) (by kernel_rfl) (by kernel_rfl) (by kernel_rfl)) ?_
  intro W base args ds gs before hval0 hW _ _
  have hval : ∀ (j : Nat) t v, Try.f3.params[j]? = some t → args[j]? = some v → Value.okWide Try.prog W .any base t v := hval0
  have hW' := hW
  obtain ⟨p, q, hA0, hV, rfl, _, _⟩ := hW
  have hA : DataW.TrodAll enc Try.prog W 0 (fun _ => true) true Try.f3.params.toList args.toList ds p := hA0
  rw [Try.params3] at hA hval
  obtain ⟨v0, vs0, d0, ds0, p0, q0, hargs, rfl, rfl, h0, r0⟩ := trodAll_cons hA
  obtain ⟨v1, vs1, d1, ds1, p1, q1, rfl, rfl, rfl, h1, r1⟩ := trodAll_cons r0
  obtain ⟨v2, vs2, d2, ds2, p2, q2, rfl, rfl, rfl, h2, r2⟩ := trodAll_cons r1
  obtain ⟨rfl, rfl, rfl⟩ := trodAll_nil r2
  obtain rfl : args = #[v0, v1, v2] := by cases args; simp_all
  obtain ⟨rfl, rfl⟩ := trodVars_none hV
  obtain ⟨a0, rfl, rfl, rfl, w0⟩ := open_int Try.underlying22 (hval 0 22 v0 rfl rfl) h0
  obtain ⟨a1, rfl, rfl, rfl, w1⟩ := open_int Try.underlying22 (hval 1 22 v1 rfl rfl) h1
  have k2 := h2
  have lt2 : ∀ x ∈ p2, x.block < W.heap.size := by obtain ⟨m, hm⟩ := k2; exact DataW.trod_lt m _ _ _ hm
  obtain ⟨a2, b2, rfl, w2, u2⟩ := open_pair Try.underlying23 Try.underlying3 (by kernel_rfl) (by kernel_rfl) (hval 2 23 v2 rfl rfl) h2
  clear hA0 hval0
  refine (walk a0 a1 a2 b2 w0 w1 w2 u2 W).mono fun e W' ⟨he, bel⟩ => ?_
  subst he
  exact ⟨_, rfl, _, _, _, [], _, [], hW', trodAll_mk1 (shut_bool Try.underlying4 _), (trodAll_cons_mk (shut_int Try.underlying22 w0) (trodAll_cons_mk (shut_int Try.underlying22 w1) (trodAll_cons_mk (Below.trod laidOut (by kernel_rfl) (of_decide_eq_true (by kernel_rfl)) k2 bel lt2) trodAll_mk0))), rfl, bel.frame _, fun h => by cases h⟩

theorem over : Rows.bitsFieldsRow.holds Try.pinned (OpenSpec.ofChange Rows.bitsFieldsSpec) :=
  OpenClaim.holds_of_wide 3 Try.f3 rfl rfl rfl rfl rfl rfl rfl ⟨rfl, rfl, rfl, rfl, rfl⟩ rfl rfl rfl rfl rfl (by kernel_rfl) Try.func3 (by kernel_rfl)
    (of_decide_eq_true (by kernel_rfl)) (by unfold Func.isWrapper; first | (rw [if_pos (by decide +kernel)]; kernel_rfl) | (rw [if_neg (by decide +kernel)]; exact ⟨rfl, rfl⟩))
    (fun os started H enc _ => lifted os started H enc)

theorem proved : Rows.BitsFieldsSaid := over
end Go.Proofs.Ytmofnlekdmhaaaa.bitsFields
