/- For every word and every two numbers of eight bits BitsTurns returns true: a word turned by both is the word turned by their sum, and turned by 32 it is itself. No conditions. -/
import Derived.Test.YtmofnlekdmhaaaaRows
import Derived.WalkKit
import Derived.ProofKit
import Derived.OpenShut
import Derived.Below
import Derived.Test.YtmofnlekdmhaaaaBa
namespace Go.Proofs.Ytmofnlekdmhaaaa.bitsTurns
open Go.ChangeShapes Go.WideShapes Go.ChangeAt Go.RowKit

theorem own : ownKnob Try.prog.godebug = none := by kernel_rfl
theorem laidOut : laidOutB Try.prog = true := by kernel_rfl

theorem rorI_rorI (x a b : Int) (hx0 : 0 ≤ x) (hx : x < 4294967296) : rorI (rorI x a) b = rorI x (a + b) := by
  unfold rorI
  rw [Int.toNat_natCast, Bm.ror_ror (by omega) (by omega) (by omega), show ((a % 32).toNat + (b % 32).toNat) % 32 = ((a + b) % 32).toNat by omega]

theorem walk (x a b : Int) (hx0 : 0 ≤ x) (hx : x < 4294967296) (ha0 : -128 ≤ a) (ha : a ≤ 127) (hb0 : -128 ≤ b) (hb : b ≤ 127) (w : World) :
    Calls Try.prog 7 #[.int .u32 x, .int .i8 a, .int .i8 b] w fun e w' => e = .returned (.bool true) ∧ Below w.heap.size w w' := by
  have H1 := Lib.hid (rorI_rorI x a b hx0 hx)
  have H2 := Lib.hid ((rorI_mod x 32 0 (by omega)).trans (rorI_zero x hx0 hx))
  obtain ⟨hr0, hr1⟩ := rorv_bd x a hx0 hx
  go_enter Try.func7, Try.ntmps7
  go_wp2_with fail
  refine (ror_c _ _ _ hx0 hx).mono ?_
  rintro e w' ⟨rfl, n1, rfl⟩
  go_wp2_with fail
  refine (ror_c _ _ _ hr0 hr1).mono ?_
  rintro e w' ⟨rfl, n2, rfl⟩
  rw [H1.out]
  go_wp2_with fail
  refine (ror_c _ _ _ hx0 hx).mono ?_
  rintro e w' ⟨rfl, n3, rfl⟩
  go_wp2_with fail
  refine (ror_c _ _ _ hx0 hx).mono ?_
  rintro e w' ⟨rfl, n4, rfl⟩
  rw [H2.out]
  go_wp2_with fail
  refine (awake_c _).mono ?_
  rintro e w' ⟨rfl, hbel⟩
  go_wp2
  go_ret
  exact ⟨rfl, (below_drewN (Below.refl _ _)).trans hbel⟩

set_option maxRecDepth 100000 in
theorem lifted (os : Os) (started : os.Started) (H : Type) (enc : TypeId × Value → H) :
    ReturnsInHanded {} Try.checked os 7 .any (Rows.bitsTurnsSpec.pre6 enc Try.prog Try.f7 Rows.bitsTurnsRow.domain false) (Rows.bitsTurnsSpec.post enc Try.prog Try.f7 false true false false) := by
  refine returnsInHanded_of_change (C := Try.checked) own started (by kernel_rfl) Try.func7
    (ChangeSpec.witness6 (enc := enc) (C := Try.checked) false ⟨#[], #[.int .u32 0, .int .i8 0, .int .i8 0], []⟩ 8 (by kernel_rfl) (by kernel_rfl) (by kernel_rfl) (by kernel_rfl)) ?_
  intro W base args ds gs before hval0 hW _ _
  have hval : ∀ (j : Nat) t v, Try.f7.params[j]? = some t → args[j]? = some v → Value.okWide Try.prog W .any base t v := hval0
  have hW' := hW
  obtain ⟨p, q, hA0, hV, rfl, _, _⟩ := hW
  have hA : DataW.TrodAll enc Try.prog W 0 (fun _ => true) true Try.f7.params.toList args.toList ds p := hA0
  rw [Try.params7] at hA hval
  obtain ⟨v0, vs0, d0, ds0, p0, q0, hargs, rfl, rfl, h0, r0⟩ := trodAll_cons hA
  obtain ⟨v1, vs1, d1, ds1, p1, q1, rfl, rfl, rfl, h1, r1⟩ := trodAll_cons r0
  obtain ⟨v2, vs2, d2, ds2, p2, q2, rfl, rfl, rfl, h2, r2⟩ := trodAll_cons r1
  obtain ⟨rfl, rfl, rfl⟩ := trodAll_nil r2
  obtain rfl : args = #[v0, v1, v2] := by cases args; simp_all
  obtain ⟨rfl, rfl⟩ := trodVars_none hV
  obtain ⟨a0, rfl, rfl, rfl, w0⟩ := open_int Try.underlying22 (hval 0 22 v0 rfl rfl) h0
  obtain ⟨a1, rfl, rfl, rfl, w1⟩ := open_int Try.underlying36 (hval 1 36 v1 rfl rfl) h1
  obtain ⟨a2, rfl, rfl, rfl, w2⟩ := open_int Try.underlying36 (hval 2 36 v2 rfl rfl) h2
  clear hA0 hval0
  have bd0 := bounds_u32 w0
  have bd1 := bounds_i8 w1
  have bd2 := bounds_i8 w2
  refine (walk a0 a1 a2 (by omega) (by omega) (by omega) (by omega) (by omega) (by omega) W).mono fun e W' ⟨he, bel⟩ => ?_
  subst he
  exact ⟨_, rfl, _, _, _, [], _, [], hW', trodAll_mk1 (shut_bool Try.underlying4 _), (trodAll_cons_mk (shut_int Try.underlying22 w0) (trodAll_cons_mk (shut_int Try.underlying36 w1) (trodAll_cons_mk (shut_int Try.underlying36 w2) trodAll_mk0))), rfl, bel.frame _, fun h => by cases h⟩

theorem over : Rows.bitsTurnsRow.holds Try.pinned (OpenSpec.ofChange Rows.bitsTurnsSpec) :=
  OpenClaim.holds_of_wide 7 Try.f7 rfl rfl rfl rfl rfl rfl rfl ⟨rfl, rfl, rfl, rfl, rfl⟩ rfl rfl rfl rfl rfl (by kernel_rfl) Try.func7 (by kernel_rfl)
    (of_decide_eq_true (by kernel_rfl)) (by unfold Func.isWrapper; first | (rw [if_pos (by decide +kernel)]; kernel_rfl) | (rw [if_neg (by decide +kernel)]; exact ⟨rfl, rfl⟩))
    (fun os started H enc _ => lifted os started H enc)

theorem proved : Rows.BitsTurnsSaid := over
end Go.Proofs.Ytmofnlekdmhaaaa.bitsTurns
