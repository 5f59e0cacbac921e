/- For every number OffsWider returns true: of two kinds of one sort what fits the lesser one fits the greater one. Conditions: none; the row lists the program's two tables, and the card ties them to the program's text. -/
import Derived.Test.YtioeoiginimjhaaDoorRows
import Derived.Test.YtioeoiginimjhaaDoorTie
import Derived.Test.YtioeoiginimjhaaDoorCards
import Derived.SevenTiedAt
import Derived.WalkKit
import Derived.ProofKit
import Derived.OpenShut
import Derived.Below
import Derived.Test.YtioeoiginimjhaaDoorLd
namespace Go.Proofs.YtioeoiginimjhaaDoor.offsWider
open Go.ChangeShapes Go.WideShapes Go.ChangeAt Go.RowKit

theorem own : ownKnob Tryd.prog.godebug = none := by kernel_rfl

/-- which of the six answers may stand together -/
def goes (b1 b2 b3 b4 b5 p : Bool) : Bool := (!b1 || b2) && (!b2 || b3) && (!b3 || b4) && (!b5 || b1) && (p || !b4)

theorem goes_all (off : Int) : goes (fitsB 1 off) (fitsB 2 off) (fitsB 3 off) (fitsB 4 off) (fitsB 5 off) (off.tmod 2 == 0) = true := by
  rw [tmod2]
  have e1 : fitsB 1 off = decide (-256 ≤ off ∧ off ≤ 254 ∧ off % 2 = 0) := by unfold fitsB; apply decide_eq_decide.2; exact ⟨fun h => h.2.2, fun h => ⟨by decide, by decide, h⟩⟩
  have e2 : fitsB 2 off = decide (-2048 ≤ off ∧ off ≤ 2046 ∧ off % 2 = 0) := by unfold fitsB; apply decide_eq_decide.2; exact ⟨fun h => h.2.2, fun h => ⟨by decide, by decide, h⟩⟩
  have e3 : fitsB 3 off = decide (-1048576 ≤ off ∧ off ≤ 1048574 ∧ off % 2 = 0) := by unfold fitsB; apply decide_eq_decide.2; exact ⟨fun h => h.2.2, fun h => ⟨by decide, by decide, h⟩⟩
  have e4 : fitsB 4 off = decide (-16777216 ≤ off ∧ off ≤ 16777214 ∧ off % 2 = 0) := by unfold fitsB; apply decide_eq_decide.2; exact ⟨fun h => h.2.2, fun h => ⟨by decide, by decide, h⟩⟩
  have e5 : fitsB 5 off = decide (0 ≤ off ∧ off ≤ 126 ∧ off % 2 = 0) := by unfold fitsB; apply decide_eq_decide.2; exact ⟨fun h => h.2.2, fun h => ⟨by decide, by decide, h⟩⟩
  rw [e1, e2, e3, e4, e5]
  unfold goes
  simp only [Bool.and_eq_true, Bool.or_eq_true, Bool.not_eq_true', decide_eq_true_eq, decide_eq_false_iff_not]
  omega

theorem walk_at (off : Int) (w : World) (hL : Later w w) (b1 b2 b3 b4 b5 p : Bool) (h1 : fitsB 1 off = b1) (h2 : fitsB 2 off = b2) (h3 : fitsB 3 off = b3) (h4 : fitsB 4 off = b4) (h5 : fitsB 5 off = b5) (hp : (off.tmod 2 == 0) = p) (hg : goes b1 b2 b3 b4 b5 p = true) :
    Calls Tryd.prog 7 #[.int .i64 off] w fun e w' => e = .returned (.bool true) ∧ Below w.heap.size w w' := by
  revert hg
  cases b1 <;> cases b2 <;> cases b3 <;> cases b4 <;> cases b5 <;> cases p
  all_goals intro hg
  all_goals first
    | (exact absurd hg (by decide))
    | skip
  all_goals clear hg
  all_goals
    go_enter Tryd.func7, Tryd.ntmps7
    go_wp2_with (first
      | (go_at_call 10; refine (fits_c _ _ _ (Later.tabs (w := w) (by assumption))).mono ?_; rintro e w2 ⟨rfl, hb⟩; have hL2 := Later.step (w := w) (by assumption) hb; clear hb)
      | (go_at_call 12; refine (awake_c _ (Later.tabs (w := w) (by assumption))).mono ?_; rintro e w4 ⟨rfl, hb⟩; have hL4 := Later.step (w := w) (by assumption) hb; clear hb))
    go_ret
    exact ⟨rfl, hL4.bel⟩

theorem walk (off : Int) (_wo : (Lit.int .i64 off).wf = true) (w : World) (hT : Tabs w) :
    Calls Tryd.prog 7 #[.int .i64 off] w fun e w' => e = .returned (.bool true) ∧ Below w.heap.size w w' :=
  walk_at off w (Later.refl hT) _ _ _ _ _ _ rfl rfl rfl rfl rfl rfl (goes_all off)

set_option maxRecDepth 100000 in
theorem lifted (os : Os) (started : os.Started) (H : Type) (enc : TypeId × Value → H) :
    ReturnsInHanded {} Tryd.checked os 7 .any (fun w args => (Rows.offsWiderSpec.pre enc Tryd.prog Tryd.f7 [] false w args ∧ laidMetH Tryd.prog laidL w) ∧ sizedMet enc Tryd.prog Tryd.f7 (OpenSpec.ofChange Rows.offsWiderSpec) false w args)
      (Rows.offsWiderSpec.post enc Tryd.prog Tryd.f7 false true false false) := by
  refine returnsInHanded_of_change_and (C := Tryd.checked) (X := fun w _ => laidMetH Tryd.prog laidL w) (fun _ _ _ hh h => h.of_heap hh) own started (by kernel_rfl) Tryd.func7
    (ChangeSpec.witness_shaped (enc := enc) (C := Tryd.checked) (os := os) (X := fun w _ => laidMetH Tryd.prog laidL w) false (World.doorLaid Tryd.prog 400 os) #[.int .i64 0] 8 rfl (World.shaped_of_RefB (by kernel_rfl) (by kernel_rfl)) (by kernel_rfl) (by kernel_rfl) (by kernel_rfl) (door_met os _)) ?_
  intro W base args ds gs before hval0 hW _ _ hL _
  have hval : ∀ (j : Nat) t v, Tryd.f7.params[j]? = some t → args[j]? = some v → Value.okWide Tryd.prog W .any base t v := hval0
  have hW' := hW
  obtain ⟨p, q, hA0, hV, rfl, _, _⟩ := hW
  have hA : DataW.TrodAll enc Tryd.prog W 0 (fun _ => true) true Tryd.f7.params.toList args.toList ds p := hA0
  rw [Tryd.params7] at hA hval
  obtain ⟨v0, vs0, d0, ds0, p0, q0, hargs, rfl, rfl, h0, r0⟩ := trodAll_cons hA
  obtain ⟨rfl, rfl, rfl⟩ := trodAll_nil r0
  obtain rfl : args = #[v0] := by cases args; simp_all
  obtain ⟨rfl, rfl⟩ := trodVars_none hV
  obtain ⟨a0, rfl, rfl, rfl, w0⟩ := open_int Tryd.underlying3 (hval 0 3 v0 rfl rfl) h0
  clear hA0 hval0
  refine (walk a0 w0 W (tabs_of hL)).mono fun e W' ⟨he, bel⟩ => ?_
  subst he
  exact ⟨_, rfl, _, _, _, [], _, [], hW', trodAll_mk1 (shut_bool Tryd.underlying4 _), (trodAll_cons_mk (shut_int Tryd.underlying3 w0) trodAll_mk0), rfl, bel.frame _, fun h => by cases h⟩

theorem over : Rows.offsWiderRow.holds Tryd.pinned (OpenSpec.ofChange Rows.offsWiderSpec) :=
  OpenClaim.holds_of_wide 7 Tryd.f7 rfl rfl rfl rfl rfl rfl rfl ⟨rfl, rfl, rfl, rfl, rfl⟩ rfl rfl rfl rfl rfl (by kernel_rfl) Tryd.func7 (by kernel_rfl)
    (of_decide_eq_true (by kernel_rfl)) (by unfold Func.isWrapper; first | (rw [if_pos (by decide +kernel)]; kernel_rfl) | (rw [if_neg (by decide +kernel)]; exact ⟨rfl, rfl⟩))
    (fun os started H enc _ => lifted os started H enc)

theorem proved : Rows.OffsWiderCardSaid :=
  Claim7.holds_tied_plain_at .later [] [.data, .data] true Rows.offsWiderCard.stood.harness false
    over (fun _ h => by cases h) (by kernel_rfl) (fun _ h => by cases h) offsWider_row_tie rfl ⟨rfl, rfl⟩ (by kernel_rfl) rfl
    (fun f fn hf hfn => by
      obtain rfl : f = 7 := Option.some.inj ((show Tryd.prog.funcNamed Rows.offsWiderRow.func = some 7 by kernel_rfl).symm.trans hf) |>.symm
      obtain rfl : fn = Tryd.f7 := (Option.some.inj (Tryd.func7.symm.trans hfn)).symm
      exact ⟨by kernel_rfl, fun j t ht => by
        rw [Tryd.params7] at ht
        have hm : t ∈ [3] := by simpa using Array.mem_of_getElem? ht
        have hall : ([3].all fun u => !Tryd.prog.wantsStandIn u) = true := by kernel_rfl
        exact (show Tryd.prog.wantsStandIn t = false by simpa using List.all_eq_true.1 hall t hm)⟩)
    (by kernel_rfl)
end Go.Proofs.YtioeoiginimjhaaDoor.offsWider
