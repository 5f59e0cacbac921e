/- For every condition, mask and row of bools CondsMasks returns true: the mask of a block and the conditions of a mask are what the document says. Conditions: none; the row lists the table of names, and the card ties it to the text of the program. -/
import Derived.Test.YtndeknebpimiaaaDoorRows
import Derived.Test.YtndeknebpimiaaaDoorTie
import Derived.Test.YtndeknebpimiaaaDoorCards
import Derived.SevenTiedAt
import Derived.WalkKit
import Derived.ProofKit
import Derived.OpenShut
import Derived.ShutString
import Derived.Below
import Derived.Test.YtndeknebpimiaaaDoorCp
namespace Go.Proofs.YtndeknebpimiaaaDoor.condsMasks
open Go.ChangeShapes Go.WideShapes Go.ChangeAt Go.RowKit

theorem own : ownKnob Tryd.prog.godebug = none := by kernel_rfl
theorem laidOut : laidOutB Tryd.prog = true := by kernel_rfl

theorem big (c m : Int) (A : Option Addr) (cap : Nat) (xs : List Bool) (w : World) (h : 100 < xs.length) (hT : Tabs w) :
    Calls Tryd.prog 5 #[.int .i64 c, .int .i64 m, .slice A xs.length cap] w fun e w' => e = .returned (.bool true) ∧ Below w.heap.size w w' := by
  have hl : decide ((100 : Int) < (xs.length : Int)) = true := by simp; omega
  clear h
  go_enter Tryd.func5, Tryd.ntmps5
  go_wp2_with ((go_at_call 16; refine (awake_c _ hT).mono ?_; rintro e w4 ⟨rfl, hb⟩))
  go_ret
  exact ⟨rfl, hb⟩

theorem conds_len (c m : Int) : (Cm.condsI c m).length ≤ 1000000 := by
  by_cases h : 0 ≤ c ∧ c ≤ 14 ∧ 1 ≤ m ∧ m ≤ 15
  · have h' := Cm.all_pairs (p := fun c m => decide ((Cm.condsI c m).length ≤ 4)) (by decide +kernel) c m ⟨h.1, h.2.1⟩ (by omega)
    have := of_decide_eq_true h'
    omega
  · rw [Cm.conds_no h]; simp

theorem small (c m : Int) (A : Option Addr) (cap : Nat) (xs : List Bool) (w : World) (h : ¬ 100 < xs.length) (hA : BoolsAt w w.heap.size A xs) (hT : Tabs w) :
    Calls Tryd.prog 5 #[.int .i64 c, .int .i64 m, .slice A xs.length cap] w fun e w' => e = .returned (.bool true) ∧ Below w.heap.size w w' := by
  have hl : decide ((100 : Int) < (xs.length : Int)) = false := by simp; omega
  have hlen := conds_len c m
  have hL := Later.refl hT
  clear hT h
  obtain ⟨V, eV⟩ : ∃ V, Cm.condsI c m = V := ⟨_, rfl⟩
  have EV := Lib.hid eV
  rw [eV] at hlen
  have HLEN := Lib.hid hlen
  clear eV hlen
  go_enter Tryd.func5, Tryd.ntmps5
  go_wp2_with fail
  refine (mask_c _ _ _ _ _ hA).mono ?_
  rintro e w1 ⟨rfl, n1, rfl⟩
  go_wp2_with fail
  refine (rmask_c _ _ _ _ _ (hA.drewN _)).mono ?_
  rintro e w1 ⟨rfl, n2, rfl⟩
  go_wp2_with fail
  refine (conds_c _ _ _).mono ?_
  rintro e w2 ⟨A2, c2, rfl, hI2, hb⟩
  rw [EV.out] at hI2 ⊢
  have hL2 := (hL.drewn _).step hb
  clear hb
  go_wp2_with fail
  refine (rconds_c _ _ _).mono ?_
  rintro e w3 ⟨A3, c3, rfl, hI3, hb⟩
  rw [EV.out] at hI3 ⊢
  have hL3 := hL2.step hb
  have hI2' := (hI2.below hb (Nat.le_refl _)).more hb.size
  clear hb hI2
  go_wp2_with fail
  refine (ints_c _ _ _ _ _ _ _ hI2' hI3 HLEN.out).mono ?_
  rintro e w4 ⟨rfl, n4, rfl⟩
  go_wp2_with fail
  refine (awake_c _ (hL3.drewn _).tabs).mono ?_
  rintro e w5 ⟨rfl, hb⟩
  have hL5 := (hL3.drewn _).step hb
  clear hb
  go_wp2
  go_ret
  exact ⟨rfl, hL5.bel⟩

theorem walk (c m : Int) (A : Option Addr) (cap : Nat) (xs : List Bool) (w : World) (_wc : (Lit.int .i64 c).wf = true) (_wm : (Lit.int .i64 m).wf = true) (hA : BoolsAt w w.heap.size A xs) (hT : Tabs w) :
    Calls Tryd.prog 5 #[.int .i64 c, .int .i64 m, .slice A xs.length cap] w fun e w' => e = .returned (.bool true) ∧ Below w.heap.size w w' := by
  by_cases h : 100 < xs.length
  · exact big c m A cap xs w h hT
  · exact small c m A cap xs w h hA hT

set_option maxRecDepth 100000 in
theorem lifted (os : Os) (started : os.Started) (H : Type) (enc : TypeId × Value → H) :
    ReturnsInHanded {} Tryd.checked os 5 .any (fun w args => (Rows.condsMasksSpec.pre enc Tryd.prog Tryd.f5 [] false w args ∧ laidMetH Tryd.prog laidL w) ∧ sizedMet enc Tryd.prog Tryd.f5 (OpenSpec.ofChange Rows.condsMasksSpec) false w args)
      (Rows.condsMasksSpec.post enc Tryd.prog Tryd.f5 false true false false) := by
  refine returnsInHanded_of_change_and (C := Tryd.checked) (X := fun w _ => laidMetH Tryd.prog laidL w) (fun _ _ _ hh h => h.of_heap hh) own started (by kernel_rfl) Tryd.func5
    (ChangeSpec.witness_shaped (enc := enc) (C := Tryd.checked) (os := os) (X := fun w _ => laidMetH Tryd.prog laidL w) false (World.doorLaid Tryd.prog 400 os) #[.int .i64 0, .int .i64 0, .slice none 0 0] 8 rfl (World.shaped_of_RefB (by kernel_rfl) (by kernel_rfl)) (by kernel_rfl) (by kernel_rfl) (by kernel_rfl) (door_met os _)) ?_
  intro W base args ds gs before hval0 hW _ _ hL _
  have hval : ∀ (j : Nat) t v, Tryd.f5.params[j]? = some t → args[j]? = some v → Value.okWide Tryd.prog W .any base t v := hval0
  have hW' := hW
  obtain ⟨p, q, hA0, hV, rfl, _, _⟩ := hW
  have hA : DataW.TrodAll enc Tryd.prog W 0 (fun _ => true) true Tryd.f5.params.toList args.toList ds p := hA0
  rw [Tryd.params5] at hA hval
  obtain ⟨v0, vs0, d0, ds0, p0, q0, hargs, rfl, rfl, h0, r0⟩ := trodAll_cons hA
  obtain ⟨v1, vs1, d1, ds1, p1, q1, rfl, rfl, rfl, h1, r1⟩ := trodAll_cons r0
  obtain ⟨v2, vs2, d2, ds2, p2, q2, rfl, rfl, rfl, h2, r2⟩ := trodAll_cons r1
  obtain ⟨rfl, rfl, rfl⟩ := trodAll_nil r2
  obtain rfl : args = #[v0, v1, v2] := by cases args; simp_all
  obtain ⟨rfl, rfl⟩ := trodVars_none hV
  obtain ⟨a0, rfl, rfl, rfl, w0⟩ := open_int Tryd.underlying3 (hval 0 3 v0 rfl rfl) h0
  obtain ⟨a1, rfl, rfl, rfl, w1⟩ := open_int Tryd.underlying3 (hval 1 3 v1 rfl rfl) h1
  obtain ⟨a2, len2, cap2, rfl⟩ := okWide_slice Tryd.underlying30 (hval 2 30 v2 rfl rfl)
  have k2 := h2
  have lt2 : ∀ x ∈ p2, x.block < W.heap.size := by obtain ⟨m, hm⟩ := k2; exact DataW.trod_lt m _ _ _ hm
  obtain ⟨z2, e2, i2⟩ := open_boolrow Tryd.underlying30 Tryd.underlying4 (by kernel_rfl) h2
  subst e2
  clear hA0 hval0
  refine (walk a0 a1 a2 cap2 z2 W w0 w1 i2 (tabs_of hL)).mono fun e W' ⟨he, bel⟩ => ?_
  subst he
  exact ⟨_, rfl, _, _, _, [], _, [], hW', trodAll_mk1 (shut_bool Tryd.underlying4 _), (trodAll_cons_mk (shut_int Tryd.underlying3 w0) (trodAll_cons_mk (shut_int Tryd.underlying3 w1) (trodAll_cons_mk (Below.trod laidOut (by kernel_rfl) (of_decide_eq_true (by kernel_rfl)) k2 bel lt2) trodAll_mk0))), rfl, bel.frame _, fun h => by cases h⟩

theorem over : Rows.condsMasksRow.holds Tryd.pinned (OpenSpec.ofChange Rows.condsMasksSpec) :=
  OpenClaim.holds_of_wide 5 Tryd.f5 rfl rfl rfl rfl rfl rfl rfl ⟨rfl, rfl, rfl, rfl, rfl⟩ rfl rfl rfl rfl rfl (by kernel_rfl) Tryd.func5 (by kernel_rfl)
    (of_decide_eq_true (by kernel_rfl)) (by unfold Func.isWrapper; first | (rw [if_pos (by decide +kernel)]; kernel_rfl) | (rw [if_neg (by decide +kernel)]; exact ⟨rfl, rfl⟩))
    (fun os started H enc _ => lifted os started H enc)

theorem proved : Rows.CondsMasksCardSaid :=
  Claim7.holds_tied_plain_at .later [] [.data] true Rows.condsMasksCard.stood.harness false
    over (fun _ h => by cases h) (by kernel_rfl) (fun _ h => by cases h) condsMasks_row_tie rfl ⟨rfl, rfl⟩ (by kernel_rfl) rfl
    (fun f fn hf hfn => by
      obtain rfl : f = 5 := Option.some.inj ((show Tryd.prog.funcNamed Rows.condsMasksRow.func = some 5 by kernel_rfl).symm.trans hf) |>.symm
      obtain rfl : fn = Tryd.f5 := (Option.some.inj (Tryd.func5.symm.trans hfn)).symm
      exact ⟨by kernel_rfl, fun j t ht => by
        rw [Tryd.params5] at ht
        have hm : t ∈ [3, 3, 30] := by simpa using Array.mem_of_getElem? ht
        have hall : ([3, 3, 30].all fun u => !Tryd.prog.wantsStandIn u) = true := by kernel_rfl
        exact (show Tryd.prog.wantsStandIn t = false by simpa using List.all_eq_true.1 hall t hm)⟩)
    (by kernel_rfl)
end Go.Proofs.YtndeknebpimiaaaDoor.condsMasks
