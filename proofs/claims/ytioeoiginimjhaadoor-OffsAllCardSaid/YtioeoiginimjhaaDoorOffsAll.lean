/- For every kind and every two halfwords OffsAll returns true: what is got fits its kind, and is put as its own bits stand. Conditions: none; the row lists the program's two tables, and the card ties them to the program's text. -/
import Derived.Test.YtioeoiginimjhaaDoorRows
import Derived.Test.YtioeoiginimjhaaDoorTie
import Derived.Test.YtioeoiginimjhaaDoorCards
import Derived.SevenTiedAt
import Derived.WalkKit
import Derived.ProofKit
import Derived.OpenShut
import Derived.Below
import Derived.Test.YtioeoiginimjhaaDoorLd
namespace Go.Proofs.YtioeoiginimjhaaDoor.offsAll
open Go.ChangeShapes Go.WideShapes Go.ChangeAt Go.RowKit

theorem own : ownKnob Tryd.prog.godebug = none := by kernel_rfl

theorem walk_no (k a b : Int) (w : World) (hT : Tabs w) (hk : ¬ (1 ≤ k ∧ k ≤ 5)) :
    Calls Tryd.prog 6 #[.int .i64 k, .int .i64 a, .int .i64 b] w fun e w' => e = .returned (.bool true) ∧ Below w.heap.size w w' := by
  have hL := Later.refl hT
  have h0 := gA_no k (a % 4294967296) (b % 4294967296) hk
  clear hT
  by_cases h1 : k < 1
  · clear hk
    go_enter Tryd.func6, Tryd.ntmps6
    go_wp2_with (first
      | (go_at_call 13; refine (pget_c _ _ _ _ (Later.tabs (w := w) (by assumption))).mono ?_; rintro e w2 ⟨rfl, hb⟩; have hL2 := Later.step (w := w) (by assumption) hb; clear hb)
      | (go_at_call 12; refine (awake_c _ (Later.tabs (w := w) (by assumption))).mono ?_; rintro e w4 ⟨rfl, hb⟩; have hL4 := Later.step (w := w) (by assumption) hb; clear hb))
    go_ret
    exact ⟨rfl, hL4.bel⟩
  · have h5 : 5 < k := by omega
    clear hk
    go_enter Tryd.func6, Tryd.ntmps6
    go_wp2_with (first
      | (go_at_call 13; refine (pget_c _ _ _ _ (Later.tabs (w := w) (by assumption))).mono ?_; rintro e w2 ⟨rfl, hb⟩; have hL2 := Later.step (w := w) (by assumption) hb; clear hb)
      | (go_at_call 12; refine (awake_c _ (Later.tabs (w := w) (by assumption))).mono ?_; rintro e w4 ⟨rfl, hb⟩; have hL4 := Later.step (w := w) (by assumption) hb; clear hb))
    go_ret
    exact ⟨rfl, hL4.bel⟩

theorem walk_yes (k a b : Int) (w : World) (hT : Tabs w) (h1 : 1 ≤ k) (h5 : k ≤ 5) :
    Calls Tryd.prog 6 #[.int .i64 k, .int .i64 a, .int .i64 b] w fun e w' => e = .returned (.bool true) ∧ Below w.heap.size w w' := by
  have hL := Later.refl hT
  clear hT
  obtain ⟨off, eo⟩ : ∃ q, Om.gA k (a % 4294967296) (b % 4294967296) = q := ⟨_, rfl⟩
  have hf : fitsB k off = true := by rw [← eo]; exact Om.gA_fits k _ _ ⟨h1, h5⟩
  have hb := Om.back k off hf
  have hp := Om.p_bd k off
  have em1 : Om.pA k off % 4294967296 = Om.pA k off := Int.emod_eq_of_lt hp.1 (by omega)
  have em2 : Om.pB k off % 4294967296 = Om.pB k off := Int.emod_eq_of_lt hp.2.2.1 (by omega)
  clear hp
  go_enter Tryd.func6, Tryd.ntmps6
  go_wp2_with (first
    | (go_at_call 13; refine (pget_c _ _ _ _ (Later.tabs (w := w) (by assumption))).mono ?_; rintro e w2 ⟨rfl, hb⟩; have hL2 := Later.step (w := w) (by assumption) hb; clear hb)
    | (go_at_call 8; refine (pput_c _ _ _ (Later.tabs (w := w) (by assumption)) hf).mono ?_; rintro e w2 ⟨rfl, hb⟩; have hL2 := Later.step (w := w) (by assumption) hb; clear hb)
    | (go_at_call 10; refine (fits_c _ _ _ (Later.tabs (w := w) (by assumption))).mono ?_; rintro e w2 ⟨rfl, hb⟩; have hL2 := Later.step (w := w) (by assumption) hb; clear hb)
    | (go_at_call 12; refine (awake_c _ (Later.tabs (w := w) (by assumption))).mono ?_; rintro e w4 ⟨rfl, hb⟩; have hL4 := Later.step (w := w) (by assumption) hb; clear hb))
  go_ret
  exact ⟨rfl, hL4.bel⟩

theorem walk (k a b : Int) (_wk : (Lit.int .i64 k).wf = true) (_wa : (Lit.int .i64 a).wf = true) (_wb : (Lit.int .i64 b).wf = true) (w : World) (hT : Tabs w) :
    Calls Tryd.prog 6 #[.int .i64 k, .int .i64 a, .int .i64 b] w fun e w' => e = .returned (.bool true) ∧ Below w.heap.size w w' := by
  by_cases hk : 1 ≤ k ∧ k ≤ 5
  · exact walk_yes k a b w hT hk.1 hk.2
  · exact walk_no k a b w hT hk

set_option maxRecDepth 100000 in
theorem lifted (os : Os) (started : os.Started) (H : Type) (enc : TypeId × Value → H) :
    ReturnsInHanded {} Tryd.checked os 6 .any (fun w args => (Rows.offsAllSpec.pre enc Tryd.prog Tryd.f6 [] false w args ∧ laidMetH Tryd.prog laidL w) ∧ sizedMet enc Tryd.prog Tryd.f6 (OpenSpec.ofChange Rows.offsAllSpec) false w args)
      (Rows.offsAllSpec.post enc Tryd.prog Tryd.f6 false true false false) := by
  refine returnsInHanded_of_change_and (C := Tryd.checked) (X := fun w _ => laidMetH Tryd.prog laidL w) (fun _ _ _ hh h => h.of_heap hh) own started (by kernel_rfl) Tryd.func6
    (ChangeSpec.witness_shaped (enc := enc) (C := Tryd.checked) (os := os) (X := fun w _ => laidMetH Tryd.prog laidL w) false (World.doorLaid Tryd.prog 400 os) #[.int .i64 0, .int .i64 0, .int .i64 0] 8 rfl (World.shaped_of_RefB (by kernel_rfl) (by kernel_rfl)) (by kernel_rfl) (by kernel_rfl) (by kernel_rfl) (door_met os _)) ?_
  intro W base args ds gs before hval0 hW _ _ hL _
  have hval : ∀ (j : Nat) t v, Tryd.f6.params[j]? = some t → args[j]? = some v → Value.okWide Tryd.prog W .any base t v := hval0
  have hW' := hW
  obtain ⟨p, q, hA0, hV, rfl, _, _⟩ := hW
  have hA : DataW.TrodAll enc Tryd.prog W 0 (fun _ => true) true Tryd.f6.params.toList args.toList ds p := hA0
  rw [Tryd.params6] at hA hval
  obtain ⟨v0, vs0, d0, ds0, p0, q0, hargs, rfl, rfl, h0, r0⟩ := trodAll_cons hA
  obtain ⟨v1, vs1, d1, ds1, p1, q1, rfl, rfl, rfl, h1, r1⟩ := trodAll_cons r0
  obtain ⟨v2, vs2, d2, ds2, p2, q2, rfl, rfl, rfl, h2, r2⟩ := trodAll_cons r1
  obtain ⟨rfl, rfl, rfl⟩ := trodAll_nil r2
  obtain rfl : args = #[v0, v1, v2] := by cases args; simp_all
  obtain ⟨rfl, rfl⟩ := trodVars_none hV
  obtain ⟨a0, rfl, rfl, rfl, w0⟩ := open_int Tryd.underlying3 (hval 0 3 v0 rfl rfl) h0
  obtain ⟨a1, rfl, rfl, rfl, w1⟩ := open_int Tryd.underlying3 (hval 1 3 v1 rfl rfl) h1
  obtain ⟨a2, rfl, rfl, rfl, w2⟩ := open_int Tryd.underlying3 (hval 2 3 v2 rfl rfl) h2
  clear hA0 hval0
  refine (walk a0 a1 a2 w0 w1 w2 W (tabs_of hL)).mono fun e W' ⟨he, bel⟩ => ?_
  subst he
  exact ⟨_, rfl, _, _, _, [], _, [], hW', trodAll_mk1 (shut_bool Tryd.underlying4 _), (trodAll_cons_mk (shut_int Tryd.underlying3 w0) (trodAll_cons_mk (shut_int Tryd.underlying3 w1) (trodAll_cons_mk (shut_int Tryd.underlying3 w2) trodAll_mk0))), rfl, bel.frame _, fun h => by cases h⟩

theorem over : Rows.offsAllRow.holds Tryd.pinned (OpenSpec.ofChange Rows.offsAllSpec) :=
  OpenClaim.holds_of_wide 6 Tryd.f6 rfl rfl rfl rfl rfl rfl rfl ⟨rfl, rfl, rfl, rfl, rfl⟩ rfl rfl rfl rfl rfl (by kernel_rfl) Tryd.func6 (by kernel_rfl)
    (of_decide_eq_true (by kernel_rfl)) (by unfold Func.isWrapper; first | (rw [if_pos (by decide +kernel)]; kernel_rfl) | (rw [if_neg (by decide +kernel)]; exact ⟨rfl, rfl⟩))
    (fun os started H enc _ => lifted os started H enc)

theorem proved : Rows.OffsAllCardSaid :=
  Claim7.holds_tied_plain_at .later [] [.data, .data] true Rows.offsAllCard.stood.harness false
    over (fun _ h => by cases h) (by kernel_rfl) (fun _ h => by cases h) offsAll_row_tie rfl ⟨rfl, rfl⟩ (by kernel_rfl) rfl
    (fun f fn hf hfn => by
      obtain rfl : f = 6 := Option.some.inj ((show Tryd.prog.funcNamed Rows.offsAllRow.func = some 6 by kernel_rfl).symm.trans hf) |>.symm
      obtain rfl : fn = Tryd.f6 := (Option.some.inj (Tryd.func6.symm.trans hfn)).symm
      exact ⟨by kernel_rfl, fun j t ht => by
        rw [Tryd.params6] at ht
        have hm : t ∈ [3, 3, 3] := by simpa using Array.mem_of_getElem? ht
        have hall : ([3, 3, 3].all fun u => !Tryd.prog.wantsStandIn u) = true := by kernel_rfl
        exact (show Tryd.prog.wantsStandIn t = false by simpa using List.all_eq_true.1 hall t hm)⟩)
    (by kernel_rfl)
end Go.Proofs.YtioeoiginimjhaaDoor.offsAll
