/- For every byte ExpandByte returns true: a byte tells itself, and is found so. No conditions. -/
import Derived.Test.YtlgifolagfooaaaRows
import Derived.WalkKit
import Derived.ProofKit
import Derived.OpenShut
import Derived.Below
import Derived.Test.YtlgifolagfooaaaEa
namespace Go.Proofs.Ytlgifolagfooaaa.expandByte
open Go.ChangeShapes Go.WideShapes Go.ChangeAt Go.RowKit

theorem own : ownKnob Try.prog.godebug = none := by kernel_rfl

theorem byte_exp (x : Int) (h0 : 0 ≤ x) (h1 : x < 256) : expI x = x ∧ okB x = true := by
  rw [exp_small x h0 (by omega)]
  unfold Em.expN Em.tell okB Em.okN
  rw [if_pos (by omega)]
  constructor
  · omega
  · simp; omega
theorem byte_find (x : Int) (h0 : 0 ≤ x) (h1 : x < 256) : findI x = x ∧ findB x = true := by
  obtain ⟨e1, e2⟩ := byte_exp x h0 h1
  obtain ⟨hb, hf0, hf1, hf2, _, hf4⟩ := find_least x x h0 h0 (by omega) e2 e1
  refine ⟨?_, hb⟩
  rw [(byte_exp (findI x) hf0 (by omega)).1] at hf4
  exact hf4

theorem walk (x : Int) (wx : (Lit.int .u8 x).wf = true) (w : World) :
    Calls Try.prog 6 #[.int .u8 x] w fun e w' => e = .returned (.bool true) ∧ Below w.heap.size w w' := by
  obtain ⟨hx0, hx1⟩ := bounds_u8 wx
  clear wx
  obtain ⟨f1, f2⟩ := byte_find x hx0 (by omega)
  obtain ⟨e1, _⟩ := byte_exp x hx0 (by omega)
  have hf := find_c x
  have he := exp_c x
  rw [f1, f2] at hf
  rw [e1] at he
  clear f1 f2 e1
  go_enter Try.func6, Try.ntmps6
  go_wp2_with fail
  refine (hf _ hx0 (by omega)).mono ?_
  rintro e w' ⟨rfl, n1, rfl⟩
  go_wp2_with fail
  refine (he _ (by omega) (by omega)).mono ?_
  rintro e w' ⟨rfl, n2, rfl⟩
  go_wp2_with fail
  refine (awake_c _).mono ?_
  rintro e w' ⟨rfl, n5, rfl⟩
  go_wp2
  go_ret
  exact ⟨rfl, below_drewN (Below.refl _ _)⟩

set_option maxRecDepth 100000 in
theorem lifted (os : Os) (started : os.Started) (H : Type) (enc : TypeId × Value → H) :
    ReturnsInHanded {} Try.checked os 6 .any (Rows.expandByteSpec.pre6 enc Try.prog Try.f6 Rows.expandByteRow.domain false) (Rows.expandByteSpec.post enc Try.prog Try.f6 false true false false) := by
  refine returnsInHanded_of_change (C := Try.checked) own started (by kernel_rfl) Try.func6
    (ChangeSpec.witness6 (enc := enc) (C := Try.checked) false ⟨#[], #[.int .u8 0], []⟩ 8 (by kernel_rfl) (by kernel_rfl) (by kernel_rfl) (by kernel_rfl)) ?_
  intro W base args ds gs before hval0 hW _ _
  have hval : ∀ (j : Nat) t v, Try.f6.params[j]? = some t → args[j]? = some v → Value.okWide Try.prog W .any base t v := hval0
  have hW' := hW
  obtain ⟨p, q, hA0, hV, rfl, _, _⟩ := hW
  have hA : DataW.TrodAll enc Try.prog W 0 (fun _ => true) true Try.f6.params.toList args.toList ds p := hA0
  rw [Try.params6] at hA hval
  obtain ⟨v0, vs0, d0, ds0, p0, q0, hargs, rfl, rfl, h0, r0⟩ := trodAll_cons hA
  obtain ⟨rfl, rfl, rfl⟩ := trodAll_nil r0
  obtain rfl : args = #[v0] := by cases args; simp_all
  obtain ⟨rfl, rfl⟩ := trodVars_none hV
  obtain ⟨a0, rfl, rfl, rfl, w0⟩ := open_int Try.underlying5 (hval 0 5 v0 rfl rfl) h0
  clear hA0 hval0
  refine (walk a0 w0 W).mono fun e W' ⟨he, bel⟩ => ?_
  subst he
  exact ⟨_, rfl, _, _, _, [], _, [], hW', trodAll_mk1 (shut_bool Try.underlying4 _), (trodAll_cons_mk (shut_int Try.underlying5 w0) trodAll_mk0), rfl, bel.frame _, fun h => by cases h⟩

theorem over : Rows.expandByteRow.holds Try.pinned (OpenSpec.ofChange Rows.expandByteSpec) :=
  OpenClaim.holds_of_wide 6 Try.f6 rfl rfl rfl rfl rfl rfl rfl ⟨rfl, rfl, rfl, rfl, rfl⟩ rfl rfl rfl rfl rfl (by kernel_rfl) Try.func6 (by kernel_rfl)
    (of_decide_eq_true (by kernel_rfl)) (by unfold Func.isWrapper; first | (rw [if_pos (by decide +kernel)]; kernel_rfl) | (rw [if_neg (by decide +kernel)]; exact ⟨rfl, rfl⟩))
    (fun os started H enc _ => lifted os started H enc)

theorem proved : Rows.ExpandByteSaid := over
end Go.Proofs.Ytlgifolagfooaaa.expandByte
