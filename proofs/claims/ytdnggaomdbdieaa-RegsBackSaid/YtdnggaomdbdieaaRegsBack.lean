/- For every number RegsBack returns true: the name of a register is found to be that register, and what is no register has no name. No conditions. -/
import Derived.Test.YtdnggaomdbdieaaRows
import Derived.WalkKit
import Derived.ProofKit
import Derived.OpenShut
import Derived.ShutString
import Derived.Below
import Derived.Test.YtdnggaomdbdieaaRw
namespace Go.Proofs.Ytdnggaomdbdieaa.regsBack
open Go.ChangeShapes Go.WideShapes Go.ChangeAt Go.RowKit
open Go.ChangeMaps (open_string shut_string)

theorem own : ownKnob Try.prog.godebug = none := by kernel_rfl

theorem walk (r : Int) (_wr : (Lit.int .i64 r).wf = true) (w : World) :
    Calls Try.prog 6 #[.int .i64 r] w fun e w' => e = .returned (.bool true) ∧ Below w.heap.size w w' := by
  by_cases h0 : 0 ≤ r
  · by_cases h15 : r ≤ 15
    · have hL0 : Below w.heap.size w w := Below.refl _ _
      have hf : ∀ W, Calls Try.prog 10 #[.string ⟨(Rm.nameI r).toArray⟩] W fun e W' => e = .returned (.int .i64 r) ∧ Below W.heap.size W W' := fun W => by
        have h := find_c ⟨(Rm.nameI r).toArray⟩ W
        rwa [show (⟨(Rm.nameI r).toArray⟩ : ByteArray).toList = Rm.nameI r by simp, Rm.find_name ⟨h0, h15⟩] at h
      go_enter Try.func6, Try.ntmps6
      go_wp2_with fail
      refine (name_c r _).mono ?_
      rintro e w1 ⟨rfl, hb⟩
      have hL1 := next hL0 hb
      clear hb
      go_wp2_with fail
      refine (hf _).mono ?_
      rintro e w2 ⟨rfl, hb⟩
      have hL2 := next hL1 hb
      clear hb
      go_wp2_with fail
      refine (awake_c _).mono ?_
      rintro e w9 ⟨rfl, hb⟩
      have hL9 := next hL2 hb
      clear hb
      go_wp2
      go_ret
      exact ⟨rfl, hL9⟩
    · have h15' : 15 < r := by omega
      have hL0 : Below w.heap.size w w := Below.refl _ _
      have hn := name_c r
      rw [Rm.name_no (by omega)] at hn
      go_enter Try.func6, Try.ntmps6
      go_wp2_with fail
      refine (hn _).mono ?_
      rintro e w1 ⟨rfl, hb⟩
      have hL1 := next hL0 hb
      clear hb
      go_wp2_with fail
      refine (awake_c _).mono ?_
      rintro e w9 ⟨rfl, hb⟩
      have hL9 := next hL1 hb
      clear hb
      go_wp2
      go_ret
      exact ⟨rfl, hL9⟩
  · have h0' : r < 0 := by omega
    have hL0 : Below w.heap.size w w := Below.refl _ _
    have hn := name_c r
    rw [Rm.name_no (by omega)] at hn
    go_enter Try.func6, Try.ntmps6
    go_wp2_with fail
    refine (hn _).mono ?_
    rintro e w1 ⟨rfl, hb⟩
    have hL1 := next hL0 hb
    clear hb
    go_wp2_with fail
    refine (awake_c _).mono ?_
    rintro e w9 ⟨rfl, hb⟩
    have hL9 := next hL1 hb
    clear hb
    go_wp2
    go_ret
    exact ⟨rfl, hL9⟩

set_option maxRecDepth 100000 in
theorem lifted (os : Os) (started : os.Started) (H : Type) (enc : TypeId × Value → H) :
    ReturnsInHanded {} Try.checked os 6 .any (Rows.regsBackSpec.pre6 enc Try.prog Try.f6 Rows.regsBackRow.domain false) (Rows.regsBackSpec.post enc Try.prog Try.f6 false true false false) := by
  refine returnsInHanded_of_change (C := Try.checked) own started (by kernel_rfl) Try.func6
    (ChangeSpec.witness6 (enc := enc) (C := Try.checked) false ⟨#[], #[.int .i64 0], []⟩ 8 (by kernel_rfl) (by kernel_rfl) (by kernel_rfl) (by kernel_rfl)) ?_
  intro W base args ds gs before hval0 hW _ _
  have hval : ∀ (j : Nat) t v, Try.f6.params[j]? = some t → args[j]? = some v → Value.okWide Try.prog W .any base t v := hval0
  have hW' := hW
  obtain ⟨p, q, hA0, hV, rfl, _, _⟩ := hW
  have hA : DataW.TrodAll enc Try.prog W 0 (fun _ => true) true Try.f6.params.toList args.toList ds p := hA0
  rw [Try.params6] at hA hval
  obtain ⟨v0, vs0, d0, ds0, p0, q0, hargs, rfl, rfl, h0, r0⟩ := trodAll_cons hA
  obtain ⟨rfl, rfl, rfl⟩ := trodAll_nil r0
  obtain rfl : args = #[v0] := by cases args; simp_all
  obtain ⟨rfl, rfl⟩ := trodVars_none hV
  obtain ⟨a0, rfl, rfl, rfl, w0⟩ := open_int Try.underlying3 (hval 0 3 v0 rfl rfl) h0
  clear hA0 hval0
  refine (walk a0 w0 W).mono fun e W' ⟨he, bel⟩ => ?_
  subst he
  exact ⟨_, rfl, _, _, _, [], _, [], hW', trodAll_mk1 (shut_bool Try.underlying4 _), (trodAll_cons_mk (shut_int Try.underlying3 w0) trodAll_mk0), rfl, bel.frame _, fun h => by cases h⟩

theorem over : Rows.regsBackRow.holds Try.pinned (OpenSpec.ofChange Rows.regsBackSpec) :=
  OpenClaim.holds_of_wide 6 Try.f6 rfl rfl rfl rfl rfl rfl rfl ⟨rfl, rfl, rfl, rfl, rfl⟩ rfl rfl rfl rfl rfl (by kernel_rfl) Try.func6 (by kernel_rfl)
    (of_decide_eq_true (by kernel_rfl)) (by unfold Func.isWrapper; first | (rw [if_pos (by decide +kernel)]; kernel_rfl) | (rw [if_neg (by decide +kernel)]; exact ⟨rfl, rfl⟩))
    (fun os started H enc _ => lifted os started H enc)

theorem proved : Rows.RegsBackSaid := over
end Go.Proofs.Ytdnggaomdbdieaa.regsBack
