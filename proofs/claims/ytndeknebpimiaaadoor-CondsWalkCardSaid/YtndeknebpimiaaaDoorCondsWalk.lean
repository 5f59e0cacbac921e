/- For every condition and mask CondsWalk returns true: the IT state of a block goes through just its conditions, and ends. Conditions: none; the row lists the table of names, and the card ties it to the text of the program. -/
import Derived.Test.YtndeknebpimiaaaDoorRows
import Derived.Test.YtndeknebpimiaaaDoorTie
import Derived.Test.YtndeknebpimiaaaDoorCards
import Derived.SevenTiedAt
import Derived.WalkKit
import Derived.ProofKit
import Derived.OpenShut
import Derived.ShutString
import Derived.Below
import Derived.Test.YtndeknebpimiaaaDoorCp
namespace Go.Proofs.YtndeknebpimiaaaDoor.condsWalk
open Go.ChangeShapes Go.WideShapes Go.ChangeAt Go.RowKit

theorem own : ownKnob Tryd.prog.godebug = none := by kernel_rfl
theorem laidOut : laidOutB Tryd.prog = true := by kernel_rfl

theorem empty_c (c m : Int) (w : World) (h : Cm.condsI c m = []) : Calls Tryd.prog 22 #[.int .i64 c, .int .i64 m] w fun e w' => ∃ A cap, e = .returned (.slice A 0 cap) ∧ Below w.heap.size w w' := by
  refine (conds_c c m w).mono ?_
  rintro e w' ⟨A, cap, he, _, hb⟩
  rw [h] at he
  exact ⟨A, cap, he, hb⟩

theorem none_ (c m : Int) (w : World) (hT : Tabs w) (h : Cm.condsI c m = []) :
    Calls Tryd.prog 9 #[.int .i64 c, .int .i64 m] w fun e w' => e = .returned (.bool true) ∧ Below w.heap.size w w' := by
  have hL := Later.refl hT
  have HM := Lib.hid h
  clear hT h
  go_enter Tryd.func9, Tryd.ntmps9
  go_wp2_with fail
  refine (empty_c _ _ _ HM.out).mono ?_
  rintro e w2 ⟨A2, c2, rfl, hb⟩
  have hL2 := hL.step hb
  clear hb
  go_wp2_with fail
  refine (awake_c _ hL2.tabs).mono ?_
  rintro e w5 ⟨rfl, hb⟩
  have hL5 := hL2.step hb
  clear hb
  go_wp2
  go_ret
  exact ⟨rfl, hL5.bel⟩

theorem walk_cons (it : Int) (V : List Int) (k : Nat) (h : k < V.length) (hw : Cm.walkB it (V.drop k) = true) :
    Cm.condI it = V.getD k 0 ∧ it % 16 ≠ 0 ∧ Cm.walkB (Cm.nextI it) (V.drop (k + 1)) = true := by
  rw [List.drop_eq_getElem_cons h, Cm.walkB] at hw
  simp only [Bool.and_eq_true, beq_iff_eq, Bool.not_eq_true', beq_eq_false_iff_ne] at hw
  refine ⟨?_, hw.1.2, hw.2⟩
  rw [hw.1.1]
  simp [List.getD, List.getElem?_eq_getElem h]
theorem walk_nil (it : Int) (V : List Int) (k : Nat) (h : ¬ k < V.length) (hw : Cm.walkB it (V.drop k) = true) : it = 0 := by
  rw [List.drop_eq_nil_of_le (by omega), Cm.walkB] at hw
  simpa using hw

theorem cond_at (it x : Int) (w : World) (h : Cm.condI it = x) :
    Calls Tryd.prog 26 #[.int .i64 it] w fun e w' => e = .returned (.int .i64 x) ∧ ∃ n, w' = w.drewN n := by
  rw [← h]; exact cond_c it w

set_option maxHeartbeats 1000000 in
theorem some_ (c m : Int) (w : World) (hT : Tabs w) (h : ¬ Cm.condsI c m = []) :
    Calls Tryd.prog 9 #[.int .i64 c, .int .i64 m] w fun e w' => e = .returned (.bool true) ∧ Below w.heap.size w w' := by
  have hin : 0 ≤ c ∧ c ≤ 14 ∧ 1 ≤ m ∧ m ≤ 15 := by
    by_cases q : 0 ≤ c ∧ c ≤ 14 ∧ 1 ≤ m ∧ m ≤ 15
    · exact q
    · exact absurd (Cm.conds_no q) h
  obtain ⟨hc0, hc1, hm0, hm1⟩ := hin
  have hwalk := Cm.walks c m ⟨hc0, hc1⟩ ⟨hm0, hm1⟩ h
  have hst := state_is c m ⟨hc0, hc1⟩ ⟨hm0, hm1⟩
  have hlen : (Cm.condsI c m).length ≤ 4 := of_decide_eq_true (Cm.all_pairs (p := fun c m => decide ((Cm.condsI c m).length ≤ 4)) (by decide +kernel) c m ⟨hc0, hc1⟩ (by omega))
  have hpos : 0 < (Cm.condsI c m).length := List.length_pos_iff.2 h
  have hL := Later.refl hT
  obtain ⟨V, eV⟩ : ∃ V, Cm.condsI c m = V := ⟨_, rfl⟩
  rw [eV] at hwalk hlen hpos
  have EV := Lib.hid eV
  have HW := Lib.hid hwalk
  have hposI : (0 : Int) < (V.length : Int) := by omega
  have hne : ((V.length : Int) == 0) = false := beq_eq_false_iff_ne.2 (by omega)
  have hlenI : (V.length : Int) ≤ 4 := by omega
  clear hT h eV hwalk hlen
  go_enter Tryd.func9, Tryd.ntmps9
  go_wp2_with fail
  refine (conds_c _ _ _).mono ?_
  rintro e w2 ⟨A2, c2, rfl, hI, hb⟩
  rw [EV.out] at hI ⊢
  have hL2 := hL.step hb
  clear hb hL
  go_wp2
  go_loopw [6, 7] (fun its is wr => ∃ (k n : Nat) (it : Int), k ≤ V.length ∧ is = .int .i64 k ∧ its = .int .i64 it ∧ RowKit.Hid (Cm.walkB it (V.drop k) = true) ∧ wr = w2.drewN n) (fun _ is _ => V.length - (intOf is).toNat)
  case atStart => exact ⟨0, 0, c * 16 + m, by omega, rfl, rfl, HW, rfl⟩
  case round =>
    obtain ⟨k, n, it, hk, rfl, rfl, HF, rfl⟩ := hrel
    by_cases hlt : k < V.length
    · obtain ⟨b2, off2, rfl, hb2, hcell⟩ := hI.at_ hlt
      obtain ⟨g1, g2, g3⟩ := walk_cons it V k hlt HF.out
      have hB : (bits .and .i64 it 15 == 0) = false := by rw [Cm.and15]; simp [g2]
      generalize V.getD k 0 = x at *
      have G1 := Lib.hid g1
      have G3 := Lib.hid g3
      have hi0 : (0 : Int) ≤ (k : Int) := by omega
      have hi1 : (k : Int) < (V.length : Int) := by omega
      clear HF g1 g2 g3
      go_wp2_with fail
      go_quiet ((go_at_call 26; first | exact Calls.quiet_of (cond_at _ _ _ G1.out) | exact drawn_on (cond_at _ _ _ G1.out)))
      go_wp2_with ((go_at_call 24; refine (next_c _ _).mono ?_; rintro e w5 ⟨rfl, n5, rfl⟩))
      go_roundw
      case rel => exact ⟨k + 1, _, _, by omega, by go_num, rfl, G3, by first | rfl | rw [World.drewN_drewN]⟩
      case measure => simp [intOf]; omega
    · have h0 := walk_nil it V k hlt HF.out
      subst h0
      clear HF
      go_wp2_with fail
      refine (awake_c _ (hL2.drewn _).tabs).mono ?_
      rintro e w5 ⟨rfl, hb⟩
      have hL5 := (hL2.drewn _).step hb
      clear hb
      go_wp2
      go_ret
      exact ⟨rfl, hL5.bel⟩

theorem walk (c m : Int) (_wc : (Lit.int .i64 c).wf = true) (_wm : (Lit.int .i64 m).wf = true) (w : World) (hT : Tabs w) :
    Calls Tryd.prog 9 #[.int .i64 c, .int .i64 m] w fun e w' => e = .returned (.bool true) ∧ Below w.heap.size w w' := by
  by_cases h : Cm.condsI c m = []
  · exact none_ c m w hT h
  · exact some_ c m w hT h

set_option maxRecDepth 100000 in
theorem lifted (os : Os) (started : os.Started) (H : Type) (enc : TypeId × Value → H) :
    ReturnsInHanded {} Tryd.checked os 9 .any (fun w args => (Rows.condsWalkSpec.pre enc Tryd.prog Tryd.f9 [] false w args ∧ laidMetH Tryd.prog laidL w) ∧ sizedMet enc Tryd.prog Tryd.f9 (OpenSpec.ofChange Rows.condsWalkSpec) false w args)
      (Rows.condsWalkSpec.post enc Tryd.prog Tryd.f9 false true false false) := by
  refine returnsInHanded_of_change_and (C := Tryd.checked) (X := fun w _ => laidMetH Tryd.prog laidL w) (fun _ _ _ hh h => h.of_heap hh) own started (by kernel_rfl) Tryd.func9
    (ChangeSpec.witness_shaped (enc := enc) (C := Tryd.checked) (os := os) (X := fun w _ => laidMetH Tryd.prog laidL w) false (World.doorLaid Tryd.prog 400 os) #[.int .i64 0, .int .i64 0] 8 rfl (World.shaped_of_RefB (by kernel_rfl) (by kernel_rfl)) (by kernel_rfl) (by kernel_rfl) (by kernel_rfl) (door_met os _)) ?_
  intro W base args ds gs before hval0 hW _ _ hL _
  have hval : ∀ (j : Nat) t v, Tryd.f9.params[j]? = some t → args[j]? = some v → Value.okWide Tryd.prog W .any base t v := hval0
  have hW' := hW
  obtain ⟨p, q, hA0, hV, rfl, _, _⟩ := hW
  have hA : DataW.TrodAll enc Tryd.prog W 0 (fun _ => true) true Tryd.f9.params.toList args.toList ds p := hA0
  rw [Tryd.params9] at hA hval
  obtain ⟨v0, vs0, d0, ds0, p0, q0, hargs, rfl, rfl, h0, r0⟩ := trodAll_cons hA
  obtain ⟨v1, vs1, d1, ds1, p1, q1, rfl, rfl, rfl, h1, r1⟩ := trodAll_cons r0
  obtain ⟨rfl, rfl, rfl⟩ := trodAll_nil r1
  obtain rfl : args = #[v0, v1] := by cases args; simp_all
  obtain ⟨rfl, rfl⟩ := trodVars_none hV
  obtain ⟨a0, rfl, rfl, rfl, w0⟩ := open_int Tryd.underlying3 (hval 0 3 v0 rfl rfl) h0
  obtain ⟨a1, rfl, rfl, rfl, w1⟩ := open_int Tryd.underlying3 (hval 1 3 v1 rfl rfl) h1
  clear hA0 hval0
  refine (walk a0 a1 w0 w1 W (tabs_of hL)).mono fun e W' ⟨he, bel⟩ => ?_
  subst he
  exact ⟨_, rfl, _, _, _, [], _, [], hW', trodAll_mk1 (shut_bool Tryd.underlying4 _), (trodAll_cons_mk (shut_int Tryd.underlying3 w0) (trodAll_cons_mk (shut_int Tryd.underlying3 w1) trodAll_mk0)), rfl, bel.frame _, fun h => by cases h⟩

theorem over : Rows.condsWalkRow.holds Tryd.pinned (OpenSpec.ofChange Rows.condsWalkSpec) :=
  OpenClaim.holds_of_wide 9 Tryd.f9 rfl rfl rfl rfl rfl rfl rfl ⟨rfl, rfl, rfl, rfl, rfl⟩ rfl rfl rfl rfl rfl (by kernel_rfl) Tryd.func9 (by kernel_rfl)
    (of_decide_eq_true (by kernel_rfl)) (by unfold Func.isWrapper; first | (rw [if_pos (by decide +kernel)]; kernel_rfl) | (rw [if_neg (by decide +kernel)]; exact ⟨rfl, rfl⟩))
    (fun os started H enc _ => lifted os started H enc)

theorem proved : Rows.CondsWalkCardSaid :=
  Claim7.holds_tied_plain_at .later [] [.data] true Rows.condsWalkCard.stood.harness false
    over (fun _ h => by cases h) (by kernel_rfl) (fun _ h => by cases h) condsWalk_row_tie rfl ⟨rfl, rfl⟩ (by kernel_rfl) rfl
    (fun f fn hf hfn => by
      obtain rfl : f = 9 := Option.some.inj ((show Tryd.prog.funcNamed Rows.condsWalkRow.func = some 9 by kernel_rfl).symm.trans hf) |>.symm
      obtain rfl : fn = Tryd.f9 := (Option.some.inj (Tryd.func9.symm.trans hfn)).symm
      exact ⟨by kernel_rfl, fun j t ht => by
        rw [Tryd.params9] at ht
        have hm : t ∈ [3, 3] := by simpa using Array.mem_of_getElem? ht
        have hall : ([3, 3].all fun u => !Tryd.prog.wantsStandIn u) = true := by kernel_rfl
        exact (show Tryd.prog.wantsStandIn t = false by simpa using List.all_eq_true.1 hall t hm)⟩)
    (by kernel_rfl)
end Go.Proofs.YtndeknebpimiaaaDoor.condsWalk
