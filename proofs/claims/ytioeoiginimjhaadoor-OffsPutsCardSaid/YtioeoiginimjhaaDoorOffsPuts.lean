/- For every kind and every offset OffsPuts returns true: Put and Fits answer what the document says. Conditions: none; the row lists the program's two tables, and the card ties them to the program's text. -/
import Derived.Test.YtioeoiginimjhaaDoorRows
import Derived.Test.YtioeoiginimjhaaDoorTie
import Derived.Test.YtioeoiginimjhaaDoorCards
import Derived.SevenTiedAt
import Derived.WalkKit
import Derived.ProofKit
import Derived.OpenShut
import Derived.Below
import Derived.Test.YtioeoiginimjhaaDoorLd
namespace Go.Proofs.YtioeoiginimjhaaDoor.offsPuts
open Go.ChangeShapes Go.WideShapes Go.ChangeAt Go.RowKit

theorem own : ownKnob Tryd.prog.godebug = none := by kernel_rfl

theorem walk_yes (k off : Int) (w : World) (hT : Tabs w) (hf : fitsB k off = true) :
    Calls Tryd.prog 3 #[.int .i64 k, .int .i64 off] w fun e w' => e = .returned (.bool true) ∧ Below w.heap.size w w' := by
  have hL := Later.refl hT
  clear hT
  go_enter Tryd.func3, Tryd.ntmps3
  go_wp2_with (first
    | (go_at_call 8; refine (pput_c _ _ _ (Later.tabs (w := w) (by assumption)) hf).mono ?_; rintro e w2 ⟨rfl, hb⟩; have hL2 := Later.step (w := w) (by assumption) hb; clear hb)
    | (go_at_call 9; refine (rput_c _ _ _ hf).mono ?_; rintro e w3 ⟨rfl, n, rfl⟩; have hL3 := Later.drewn (w := w) (by assumption) n)
    | (go_at_call 10; refine (fits_c _ _ _ (Later.tabs (w := w) (by assumption))).mono ?_; rintro e w2 ⟨rfl, hb⟩; have hL2 := Later.step (w := w) (by assumption) hb; clear hb)
    | (go_at_call 11; refine (rfits_c _ _ _).mono ?_; rintro e w3 ⟨rfl, n, rfl⟩; have hL3 := Later.drewn (w := w) (by assumption) n)
    | (go_at_call 12; refine (awake_c _ (Later.tabs (w := w) (by assumption))).mono ?_; rintro e w4 ⟨rfl, hb⟩; have hL4 := Later.step (w := w) (by assumption) hb; clear hb))
  go_ret
  exact ⟨rfl, hL4.bel⟩

theorem walk_no (k off : Int) (w : World) (hT : Tabs w) (hf : fitsB k off = false) :
    Calls Tryd.prog 3 #[.int .i64 k, .int .i64 off] w fun e w' => e = .returned (.bool true) ∧ Below w.heap.size w w' := by
  have hL := Later.refl hT
  clear hT
  go_enter Tryd.func3, Tryd.ntmps3
  go_wp2_with (first
    | (go_at_call 8; refine (oput_no _ _ _ (Later.tabs (w := w) (by assumption)) hf).mono ?_; rintro e w2 ⟨rfl, hb⟩; have hL2 := Later.step (w := w) (by assumption) hb; clear hb)
    | (go_at_call 9; refine (rput_no _ _ _ hf).mono ?_; rintro e w3 ⟨rfl, n, rfl⟩; have hL3 := Later.drewn (w := w) (by assumption) n)
    | (go_at_call 10; refine (fits_c _ _ _ (Later.tabs (w := w) (by assumption))).mono ?_; rintro e w2 ⟨rfl, hb⟩; have hL2 := Later.step (w := w) (by assumption) hb; clear hb)
    | (go_at_call 11; refine (rfits_c _ _ _).mono ?_; rintro e w3 ⟨rfl, n, rfl⟩; have hL3 := Later.drewn (w := w) (by assumption) n)
    | (go_at_call 12; refine (awake_c _ (Later.tabs (w := w) (by assumption))).mono ?_; rintro e w4 ⟨rfl, hb⟩; have hL4 := Later.step (w := w) (by assumption) hb; clear hb))
  go_ret
  exact ⟨rfl, hL4.bel⟩

theorem walk (k off : Int) (_wk : (Lit.int .i64 k).wf = true) (_wo : (Lit.int .i64 off).wf = true) (w : World) (hT : Tabs w) :
    Calls Tryd.prog 3 #[.int .i64 k, .int .i64 off] w fun e w' => e = .returned (.bool true) ∧ Below w.heap.size w w' := by
  cases hf : fitsB k off with
  | true => exact walk_yes k off w hT hf
  | false => exact walk_no k off w hT hf

set_option maxRecDepth 100000 in
theorem lifted (os : Os) (started : os.Started) (H : Type) (enc : TypeId × Value → H) :
    ReturnsInHanded {} Tryd.checked os 3 .any (fun w args => (Rows.offsPutsSpec.pre enc Tryd.prog Tryd.f3 [] false w args ∧ laidMetH Tryd.prog laidL w) ∧ sizedMet enc Tryd.prog Tryd.f3 (OpenSpec.ofChange Rows.offsPutsSpec) false w args)
      (Rows.offsPutsSpec.post enc Tryd.prog Tryd.f3 false true false false) := by
  refine returnsInHanded_of_change_and (C := Tryd.checked) (X := fun w _ => laidMetH Tryd.prog laidL w) (fun _ _ _ hh h => h.of_heap hh) own started (by kernel_rfl) Tryd.func3
    (ChangeSpec.witness_shaped (enc := enc) (C := Tryd.checked) (os := os) (X := fun w _ => laidMetH Tryd.prog laidL w) false (World.doorLaid Tryd.prog 400 os) #[.int .i64 0, .int .i64 0] 8 rfl (World.shaped_of_RefB (by kernel_rfl) (by kernel_rfl)) (by kernel_rfl) (by kernel_rfl) (by kernel_rfl) (door_met os _)) ?_
  intro W base args ds gs before hval0 hW _ _ hL _
  have hval : ∀ (j : Nat) t v, Tryd.f3.params[j]? = some t → args[j]? = some v → Value.okWide Tryd.prog W .any base t v := hval0
  have hW' := hW
  obtain ⟨p, q, hA0, hV, rfl, _, _⟩ := hW
  have hA : DataW.TrodAll enc Tryd.prog W 0 (fun _ => true) true Tryd.f3.params.toList args.toList ds p := hA0
  rw [Tryd.params3] at hA hval
  obtain ⟨v0, vs0, d0, ds0, p0, q0, hargs, rfl, rfl, h0, r0⟩ := trodAll_cons hA
  obtain ⟨v1, vs1, d1, ds1, p1, q1, rfl, rfl, rfl, h1, r1⟩ := trodAll_cons r0
  obtain ⟨rfl, rfl, rfl⟩ := trodAll_nil r1
  obtain rfl : args = #[v0, v1] := by cases args; simp_all
  obtain ⟨rfl, rfl⟩ := trodVars_none hV
  obtain ⟨a0, rfl, rfl, rfl, w0⟩ := open_int Tryd.underlying3 (hval 0 3 v0 rfl rfl) h0
  obtain ⟨a1, rfl, rfl, rfl, w1⟩ := open_int Tryd.underlying3 (hval 1 3 v1 rfl rfl) h1
  clear hA0 hval0
  refine (walk a0 a1 w0 w1 W (tabs_of hL)).mono fun e W' ⟨he, bel⟩ => ?_
  subst he
  exact ⟨_, rfl, _, _, _, [], _, [], hW', trodAll_mk1 (shut_bool Tryd.underlying4 _), (trodAll_cons_mk (shut_int Tryd.underlying3 w0) (trodAll_cons_mk (shut_int Tryd.underlying3 w1) trodAll_mk0)), rfl, bel.frame _, fun h => by cases h⟩

theorem over : Rows.offsPutsRow.holds Tryd.pinned (OpenSpec.ofChange Rows.offsPutsSpec) :=
  OpenClaim.holds_of_wide 3 Tryd.f3 rfl rfl rfl rfl rfl rfl rfl ⟨rfl, rfl, rfl, rfl, rfl⟩ rfl rfl rfl rfl rfl (by kernel_rfl) Tryd.func3 (by kernel_rfl)
    (of_decide_eq_true (by kernel_rfl)) (by unfold Func.isWrapper; first | (rw [if_pos (by decide +kernel)]; kernel_rfl) | (rw [if_neg (by decide +kernel)]; exact ⟨rfl, rfl⟩))
    (fun os started H enc _ => lifted os started H enc)

theorem proved : Rows.OffsPutsCardSaid :=
  Claim7.holds_tied_plain_at .later [] [.data, .data] true Rows.offsPutsCard.stood.harness false
    over (fun _ h => by cases h) (by kernel_rfl) (fun _ h => by cases h) offsPuts_row_tie rfl ⟨rfl, rfl⟩ (by kernel_rfl) rfl
    (fun f fn hf hfn => by
      obtain rfl : f = 3 := Option.some.inj ((show Tryd.prog.funcNamed Rows.offsPutsRow.func = some 3 by kernel_rfl).symm.trans hf) |>.symm
      obtain rfl : fn = Tryd.f3 := (Option.some.inj (Tryd.func3.symm.trans hfn)).symm
      exact ⟨by kernel_rfl, fun j t ht => by
        rw [Tryd.params3] at ht
        have hm : t ∈ [3, 3] := by simpa using Array.mem_of_getElem? ht
        have hall : ([3, 3].all fun u => !Tryd.prog.wantsStandIn u) = true := by kernel_rfl
        exact (show Tryd.prog.wantsStandIn t = false by simpa using List.all_eq_true.1 hall t hm)⟩)
    (by kernel_rfl)
end Go.Proofs.YtioeoiginimjhaaDoor.offsPuts
