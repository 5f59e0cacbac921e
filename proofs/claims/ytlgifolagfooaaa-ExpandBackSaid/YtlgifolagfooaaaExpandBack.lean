/- For every number ExpandBack returns true: what is found tells the word, and no number that tells it is less. No conditions. -/
import Derived.Test.YtlgifolagfooaaaRows
import Derived.WalkKit
import Derived.ProofKit
import Derived.OpenShut
import Derived.Below
import Derived.Test.YtlgifolagfooaaaEa
namespace Go.Proofs.Ytlgifolagfooaaa.expandBack
open Go.ChangeShapes Go.WideShapes Go.ChangeAt Go.RowKit

theorem own : ownKnob Try.prog.godebug = none := by kernel_rfl

theorem bad_is (x : Int) (h : okB x = false) (h0 : 0 ≤ x) (h1 : x ≤ 4095) : x % 256 = 0 := by
  unfold okB Em.okN at h; simp at h; omega
theorem good_in (x : Int) (h : okB x = true) : 0 ≤ x ∧ x < 4096 := by
  unfold okB Em.okN at h; simp at h; omega
theorem exp_bd (x : Int) : 0 ≤ expI x ∧ expI x < 4294967296 := by
  unfold expI Em.expN Em.tell
  have hb : (x % 4096).toNat % 256 < 256 := Nat.mod_lt _ (by decide)
  generalize (x % 4096).toNat % 256 = b at *
  generalize (x % 4096).toNat / 128 = y
  have h2 : b * 65536 ||| b < 2 ^ 32 := Nat.or_lt_two_pow (by omega) (by omega)
  have h3 : b * 16777216 ||| b * 256 < 2 ^ 32 := Nat.or_lt_two_pow (by omega) (by omega)
  have h4 : b * 16777216 ||| b * 65536 ||| b * 256 ||| b < 2 ^ 32 := Nat.or_lt_two_pow (Nat.or_lt_two_pow (Nat.or_lt_two_pow (by omega) (by omega)) (by omega)) (by omega)
  have h5 := Bm.ror_lt (b % 128 + 128) y (by omega)
  repeat' split
  all_goals omega

theorem walk (x : Int) (wx : (Lit.int .i64 x).wf = true) (w : World) :
    Calls Try.prog 5 #[.int .i64 x] w fun e w' => e = .returned (.bool true) ∧ Below w.heap.size w w' := by
  obtain ⟨hx0, hx1⟩ := bounds_i64 wx
  clear wx
  have hm := i64_low8 x
  cases hv : okB x with
  | false =>
    have hz : 0 ≤ x → x ≤ 4095 → (x % 256 == 0) = true := fun a b => by simpa using bad_is x hv a b
    have hva := valid_c x
    rw [hv] at hva
    clear hv
    by_cases c0 : x < 0
    · go_enter Try.func5, Try.ntmps5
      go_wp2_with fail
      refine (hva _).mono ?_
      rintro e w' ⟨rfl, n1, rfl⟩
      go_wp2_with fail
      refine (awake_c _).mono ?_
      rintro e w' ⟨rfl, n5, rfl⟩
      go_wp2
      go_ret
      exact ⟨rfl, below_drewN (Below.refl _ _)⟩
    by_cases c1 : 4095 < x
    · go_enter Try.func5, Try.ntmps5
      go_wp2_with fail
      refine (hva _).mono ?_
      rintro e w' ⟨rfl, n1, rfl⟩
      go_wp2_with fail
      refine (awake_c _).mono ?_
      rintro e w' ⟨rfl, n5, rfl⟩
      go_wp2
      go_ret
      exact ⟨rfl, below_drewN (Below.refl _ _)⟩
    have hz' := hz (by omega) (by omega)
    clear hz
    go_enter Try.func5, Try.ntmps5
    go_wp2_with fail
    refine (hva _).mono ?_
    rintro e w' ⟨rfl, n1, rfl⟩
    go_wp2_with fail
    refine (awake_c _).mono ?_
    rintro e w' ⟨rfl, n5, rfl⟩
    go_wp2
    go_ret
    exact ⟨rfl, below_drewN (Below.refl _ _)⟩
  | true =>
    obtain ⟨h0, h1⟩ := good_in x hv
    obtain ⟨b0, b1⟩ := exp_bd x
    obtain ⟨hb, hf0, hf1, hf2, hf3, hf4⟩ := find_least (expI x) x b0 h0 h1 hv rfl
    have hva := valid_c x
    rw [hv] at hva
    have hfi := find_c (expI x)
    rw [hb] at hfi
    have hvf := valid_c (findI (expI x))
    rw [hf3] at hvf
    have hef := exp_c (findI (expI x))
    rw [hf4] at hef
    clear hv hb hf3 hf4 hm
    generalize findI (expI x) = f at *
    go_enter Try.func5, Try.ntmps5
    go_wp2_with fail
    refine (hva _).mono ?_
    rintro e w' ⟨rfl, n1, rfl⟩
    go_wp2_with fail
    refine (exp_c _ _ hx0 hx1).mono ?_
    rintro e w' ⟨rfl, n2, rfl⟩
    go_wp2_with fail
    refine (hfi _ b0 b1).mono ?_
    rintro e w' ⟨rfl, n3, rfl⟩
    go_wp2_with fail
    refine (hvf _).mono ?_
    rintro e w' ⟨rfl, n4, rfl⟩
    go_wp2_with fail
    refine (hef _ (by omega) (by omega)).mono ?_
    rintro e w' ⟨rfl, n6, rfl⟩
    go_wp2_with fail
    refine (exp_c _ _ hx0 hx1).mono ?_
    rintro e w' ⟨rfl, n7, rfl⟩
    go_wp2_with fail
    refine (awake_c _).mono ?_
    rintro e w' ⟨rfl, n5, rfl⟩
    go_wp2
    go_ret
    exact ⟨rfl, below_drewN (Below.refl _ _)⟩

set_option maxRecDepth 100000 in
theorem lifted (os : Os) (started : os.Started) (H : Type) (enc : TypeId × Value → H) :
    ReturnsInHanded {} Try.checked os 5 .any (Rows.expandBackSpec.pre6 enc Try.prog Try.f5 Rows.expandBackRow.domain false) (Rows.expandBackSpec.post enc Try.prog Try.f5 false true false false) := by
  refine returnsInHanded_of_change (C := Try.checked) own started (by kernel_rfl) Try.func5
    (ChangeSpec.witness6 (enc := enc) (C := Try.checked) false ⟨#[], #[.int .i64 0], []⟩ 8 (by kernel_rfl) (by kernel_rfl) (by kernel_rfl) (by kernel_rfl)) ?_
  intro W base args ds gs before hval0 hW _ _
  have hval : ∀ (j : Nat) t v, Try.f5.params[j]? = some t → args[j]? = some v → Value.okWide Try.prog W .any base t v := hval0
  have hW' := hW
  obtain ⟨p, q, hA0, hV, rfl, _, _⟩ := hW
  have hA : DataW.TrodAll enc Try.prog W 0 (fun _ => true) true Try.f5.params.toList args.toList ds p := hA0
  rw [Try.params5] at hA hval
  obtain ⟨v0, vs0, d0, ds0, p0, q0, hargs, rfl, rfl, h0, r0⟩ := trodAll_cons hA
  obtain ⟨rfl, rfl, rfl⟩ := trodAll_nil r0
  obtain rfl : args = #[v0] := by cases args; simp_all
  obtain ⟨rfl, rfl⟩ := trodVars_none hV
  obtain ⟨a0, rfl, rfl, rfl, w0⟩ := open_int Try.underlying3 (hval 0 3 v0 rfl rfl) h0
  clear hA0 hval0
  refine (walk a0 w0 W).mono fun e W' ⟨he, bel⟩ => ?_
  subst he
  exact ⟨_, rfl, _, _, _, [], _, [], hW', trodAll_mk1 (shut_bool Try.underlying4 _), (trodAll_cons_mk (shut_int Try.underlying3 w0) trodAll_mk0), rfl, bel.frame _, fun h => by cases h⟩

theorem over : Rows.expandBackRow.holds Try.pinned (OpenSpec.ofChange Rows.expandBackSpec) :=
  OpenClaim.holds_of_wide 5 Try.f5 rfl rfl rfl rfl rfl rfl rfl ⟨rfl, rfl, rfl, rfl, rfl⟩ rfl rfl rfl rfl rfl (by kernel_rfl) Try.func5 (by kernel_rfl)
    (of_decide_eq_true (by kernel_rfl)) (by unfold Func.isWrapper; first | (rw [if_pos (by decide +kernel)]; kernel_rfl) | (rw [if_neg (by decide +kernel)]; exact ⟨rfl, rfl⟩))
    (fun os started H enc _ => lifted os started H enc)

theorem proved : Rows.ExpandBackSaid := over
end Go.Proofs.Ytlgifolagfooaaa.expandBack
