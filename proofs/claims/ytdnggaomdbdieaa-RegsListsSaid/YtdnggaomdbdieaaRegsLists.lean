/- For every list RegsLists returns true: how many registers there are, which, and whether all are low, is what the document says. No conditions. -/
import Derived.Test.YtdnggaomdbdieaaRows
import Derived.WalkKit
import Derived.ProofKit
import Derived.OpenShut
import Derived.ShutString
import Derived.Below
import Derived.Test.YtdnggaomdbdieaaRw
namespace Go.Proofs.Ytdnggaomdbdieaa.regsLists
open Go.ChangeShapes Go.WideShapes Go.ChangeAt Go.RowKit
open Go.ChangeMaps (open_string shut_string)

theorem own : ownKnob Try.prog.godebug = none := by kernel_rfl

theorem walk (m : Int) (_wm : (Lit.int .i64 m).wf = true) (w : World) :
    Calls Try.prog 4 #[.int .i64 m] w fun e w' => e = .returned (.bool true) ∧ Below w.heap.size w w' := by
  have hL0 : Below w.heap.size w w := Below.refl _ _
  have hlen : (Rm.allI m).length ≤ 1000000 := by rw [Rm.all_len]; have := Rm.count_bd m; omega
  go_enter Try.func4, Try.ntmps4
  go_wp2_with fail
  refine (count_c m _).mono ?_
  rintro e w1 ⟨rfl, n1, rfl⟩
  have hL1 := below_drewN hL0 n1
  go_wp2_with fail
  refine (rcount_c m _).mono ?_
  rintro e w2 ⟨rfl, hb⟩
  have hL2 := next hL1 hb
  clear hb
  go_wp2_with fail
  refine (all_c m _).mono ?_
  rintro e w3 ⟨A, c, rfl, _, hI, hb⟩
  have hL3 := next hL2 hb
  clear hb
  go_wp2_with fail
  refine (rall_c m _).mono ?_
  rintro e w4 ⟨A', c', rfl, _, hI', hb⟩
  have hL4 := next hL3 hb
  have hI2 := (hI.below hb (Nat.le_refl _)).more hb.size
  clear hb hI
  go_wp2_with fail
  refine (ints_c A A' c c' w4.heap.size (Rm.allI m) _ hI2 hI' hlen).mono ?_
  rintro e w5 ⟨rfl, n5, rfl⟩
  have hL5 := below_drewN hL4 n5
  go_wp2_with fail
  refine (low_c m _).mono ?_
  rintro e w6 ⟨rfl, n6, rfl⟩
  have hL6 := below_drewN hL5 n6
  go_wp2_with fail
  refine (rlow_c m _).mono ?_
  rintro e w7 ⟨rfl, n7, rfl⟩
  have hL7 := below_drewN hL6 n7
  go_wp2_with fail
  simp only [World.drewN_drewN] at hL7
  refine (awake_c _).mono ?_
  rintro e w9 ⟨rfl, hb⟩
  have hL9 := next hL7 hb
  clear hb
  go_wp2
  go_ret
  exact ⟨rfl, hL9⟩

set_option maxRecDepth 100000 in
theorem lifted (os : Os) (started : os.Started) (H : Type) (enc : TypeId × Value → H) :
    ReturnsInHanded {} Try.checked os 4 .any (Rows.regsListsSpec.pre6 enc Try.prog Try.f4 Rows.regsListsRow.domain false) (Rows.regsListsSpec.post enc Try.prog Try.f4 false true false false) := by
  refine returnsInHanded_of_change (C := Try.checked) own started (by kernel_rfl) Try.func4
    (ChangeSpec.witness6 (enc := enc) (C := Try.checked) false ⟨#[], #[.int .i64 0], []⟩ 8 (by kernel_rfl) (by kernel_rfl) (by kernel_rfl) (by kernel_rfl)) ?_
  intro W base args ds gs before hval0 hW _ _
  have hval : ∀ (j : Nat) t v, Try.f4.params[j]? = some t → args[j]? = some v → Value.okWide Try.prog W .any base t v := hval0
  have hW' := hW
  obtain ⟨p, q, hA0, hV, rfl, _, _⟩ := hW
  have hA : DataW.TrodAll enc Try.prog W 0 (fun _ => true) true Try.f4.params.toList args.toList ds p := hA0
  rw [Try.params4] at hA hval
  obtain ⟨v0, vs0, d0, ds0, p0, q0, hargs, rfl, rfl, h0, r0⟩ := trodAll_cons hA
  obtain ⟨rfl, rfl, rfl⟩ := trodAll_nil r0
  obtain rfl : args = #[v0] := by cases args; simp_all
  obtain ⟨rfl, rfl⟩ := trodVars_none hV
  obtain ⟨a0, rfl, rfl, rfl, w0⟩ := open_int Try.underlying3 (hval 0 3 v0 rfl rfl) h0
  clear hA0 hval0
  refine (walk a0 w0 W).mono fun e W' ⟨he, bel⟩ => ?_
  subst he
  exact ⟨_, rfl, _, _, _, [], _, [], hW', trodAll_mk1 (shut_bool Try.underlying4 _), (trodAll_cons_mk (shut_int Try.underlying3 w0) trodAll_mk0), rfl, bel.frame _, fun h => by cases h⟩

theorem over : Rows.regsListsRow.holds Try.pinned (OpenSpec.ofChange Rows.regsListsSpec) :=
  OpenClaim.holds_of_wide 4 Try.f4 rfl rfl rfl rfl rfl rfl rfl ⟨rfl, rfl, rfl, rfl, rfl⟩ rfl rfl rfl rfl rfl (by kernel_rfl) Try.func4 (by kernel_rfl)
    (of_decide_eq_true (by kernel_rfl)) (by unfold Func.isWrapper; first | (rw [if_pos (by decide +kernel)]; kernel_rfl) | (rw [if_neg (by decide +kernel)]; exact ⟨rfl, rfl⟩))
    (fun os started H enc _ => lifted os started H enc)

theorem proved : Rows.RegsListsSaid := over
end Go.Proofs.Ytdnggaomdbdieaa.regsLists
