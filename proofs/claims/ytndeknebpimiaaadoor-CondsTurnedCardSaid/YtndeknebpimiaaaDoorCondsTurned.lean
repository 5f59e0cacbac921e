/- For every condition and flags CondsTurned returns true: of a condition and the other one just one is true; turned twice it is the same. Conditions: none; the row lists the table of names, and the card ties it to the text of the program. -/
import Derived.Test.YtndeknebpimiaaaDoorRows
import Derived.Test.YtndeknebpimiaaaDoorTie
import Derived.Test.YtndeknebpimiaaaDoorCards
import Derived.SevenTiedAt
import Derived.WalkKit
import Derived.ProofKit
import Derived.OpenShut
import Derived.ShutString
import Derived.Below
import Derived.Test.YtndeknebpimiaaaDoorCp
import Derived.Test.YtndeknebpimiaaaDoorCq
namespace Go.Proofs.YtndeknebpimiaaaDoor.condsTurned
open Go.ChangeShapes Go.WideShapes Go.ChangeAt Go.RowKit

theorem own : ownKnob Tryd.prog.godebug = none := by kernel_rfl
theorem laidOut : laidOutB Tryd.prog = true := by kernel_rfl

set_option maxHeartbeats 1000000 in
theorem out_ (c : Int) (n z k v : Bool) (w : World) (hT : Tabs w) (h : c < 0 ∨ (0 ≤ c ∧ 13 < c)) :
    Calls Tryd.prog 7 #[.int .i64 c, .agg #[.bool n, .bool z, .bool k, .bool v]] w fun e w' => e = .returned (.bool true) ∧ Below w.heap.size w w' := by
  have hB := Boxed.start hT n z k v 23
  have H1 := Lib.hid (Cm.holds_no c n z k v (by omega))
  have H2 := Lib.hid (Cm.turn_no c (by omega))
  have hL := hB.later
  clear hT hB
  rcases h with h | ⟨h0, h⟩
  all_goals
    go_enter Tryd.func7, Tryd.ntmps7
    go_wp2_with fail
    refine (holds_c _ _ _ _ _ _).mono ?_
    rintro e w1 ⟨rfl, hb⟩
    rw [H1.out]
    have hL1 := hL.step hb
    clear hb
    go_wp2_with fail
    refine (turn_c _ _).mono ?_
    rintro e w2 ⟨rfl, n2, rfl⟩
    rw [H2.out]
    go_wp2_with fail
    refine (awake_c _ (hL1.drewn _).tabs).mono ?_
    rintro e w3 ⟨rfl, hb⟩
    have hL3 := (hL1.drewn _).step hb
    clear hb
    go_wp2
    go_ret
    exact ⟨rfl, hL3.bel⟩

theorem find_of (c : Int) (h : 0 ≤ c ∧ c ≤ 13) : Cm.findI (⟨(Cm.nameL c).toArray⟩ : ByteArray).toList = c := by rw [bytes_list, Cm.find_name c h]

set_option maxHeartbeats 4000000 in
theorem in_ (c : Int) (n z k v : Bool) (w : World) (hT : Tabs w) (h0 : 0 ≤ c) (h1 : c ≤ 13) :
    Calls Tryd.prog 7 #[.int .i64 c, .agg #[.bool n, .bool z, .bool k, .bool v]] w fun e w' => e = .returned (.bool true) ∧ Below w.heap.size w w' := by
  have HB := Lib.hid (Boxed.start hT n z k v 23)
  have hone := Cm.one_holds c ⟨h0, h1⟩ n z k v
  have htw := Cm.turn_twice c ⟨h0, h1⟩
  have HF := Lib.hid (find_of c ⟨h0, h1⟩)
  obtain ⟨t, et⟩ : ∃ t, Cm.turnI c = t := ⟨_, rfl⟩
  rw [et] at hone htw
  have HT1 := Lib.hid et
  have HT2 := Lib.hid htw
  clear hT et htw
  cases eb : Cm.holdsB c n z k v
  all_goals
    rw [eb] at hone
    simp only [Bool.not_false, Bool.not_true] at hone
    have H1 := Lib.hid eb
    have H2 := Lib.hid hone
    clear eb hone
    go_enter Tryd.func7, Tryd.ntmps7
    go_wp2_with fail
    go_region_held3 (fun w' => w'.cell? ⟨w.heap.size, 0, none⟩ = some (.bool n) ∧ w'.cell? ⟨w.heap.size, 1, none⟩ = some (.bool z) ∧ w'.cell? ⟨w.heap.size, 2, none⟩ = some (.bool k) ∧ w'.cell? ⟨w.heap.size, 3, none⟩ = some (.bool v) ∧ Boxed w n z k v w')
      (first
        | (exact HB.out.drew.held)
        | (go_split_ands; exact (Boxed.drewn (by assumption) _).held)
        | (go_split_ands; exact (Boxed.other (by assumption) _).held)
        | (go_split_ands; exact (Boxed.step (by assumption) hbel).held))
      (first
        | (go_at_call 10; refine (holds_c _ _ _ _ _ _).mono ?_; rintro e w' ⟨rfl, hbel⟩; first | rw [H1.out] | rw [H2.out])
        | (go_at_call 12; refine (turn_c _ _).mono ?_; rintro e w' ⟨rfl, n1, rfl⟩; first | rw [HT1.out] | rw [HT2.out])
        | (go_at_call 14; go_split_ands; refine (name_c _ _ (Boxed.later (by assumption)).tabs).mono ?_; rintro e w' ⟨rfl, n3, rfl⟩)
        | (go_at_call 17; go_split_ands; refine (find_c _ _ (Boxed.later (by assumption)).tabs).mono ?_; rintro e w' ⟨rfl, n4, rfl⟩; rw [HF.out])
        | (go_at_call 16; go_split_ands; refine (awake_c _ (Boxed.later (by assumption)).tabs).mono ?_; rintro e w' ⟨rfl, hbel⟩))
    all_goals
      go_split_ands
      go_wp2
      go_ret
      exact ⟨rfl, (Boxed.later (by assumption)).bel⟩

theorem walk (c : Int) (n z k v : Bool) (_wc : (Lit.int .i64 c).wf = true) (w : World) (hT : Tabs w) :
    Calls Tryd.prog 7 #[.int .i64 c, .agg #[.bool n, .bool z, .bool k, .bool v]] w fun e w' => e = .returned (.bool true) ∧ Below w.heap.size w w' := by
  by_cases h : 0 ≤ c ∧ c ≤ 13
  · exact in_ c n z k v w hT h.1 h.2
  · exact out_ c n z k v w hT (by omega)

set_option maxRecDepth 100000 in
theorem lifted (os : Os) (started : os.Started) (H : Type) (enc : TypeId × Value → H) :
    ReturnsInHanded {} Tryd.checked os 7 .any (fun w args => (Rows.condsTurnedSpec.pre enc Tryd.prog Tryd.f7 [] false w args ∧ laidMetH Tryd.prog laidL w) ∧ sizedMet enc Tryd.prog Tryd.f7 (OpenSpec.ofChange Rows.condsTurnedSpec) false w args)
      (Rows.condsTurnedSpec.post enc Tryd.prog Tryd.f7 false true false false) := by
  refine returnsInHanded_of_change_and (C := Tryd.checked) (X := fun w _ => laidMetH Tryd.prog laidL w) (fun _ _ _ hh h => h.of_heap hh) own started (by kernel_rfl) Tryd.func7
    (ChangeSpec.witness_shaped (enc := enc) (C := Tryd.checked) (os := os) (X := fun w _ => laidMetH Tryd.prog laidL w) false (World.doorLaid Tryd.prog 400 os) #[.int .i64 0, .agg #[.bool false, .bool false, .bool false, .bool false]] 8 rfl (World.shaped_of_RefB (by kernel_rfl) (by kernel_rfl)) (by kernel_rfl) (by kernel_rfl) (by kernel_rfl) (door_met os _)) ?_
  intro W base args ds gs before hval0 hW _ _ hL _
  have hval : ∀ (j : Nat) t v, Tryd.f7.params[j]? = some t → args[j]? = some v → Value.okWide Tryd.prog W .any base t v := hval0
  have hW' := hW
  obtain ⟨p, q, hA0, hV, rfl, _, _⟩ := hW
  have hA : DataW.TrodAll enc Tryd.prog W 0 (fun _ => true) true Tryd.f7.params.toList args.toList ds p := hA0
  rw [Tryd.params7] at hA hval
  obtain ⟨v0, vs0, d0, ds0, p0, q0, hargs, rfl, rfl, h0, r0⟩ := trodAll_cons hA
  obtain ⟨v1, vs1, d1, ds1, p1, q1, rfl, rfl, rfl, h1, r1⟩ := trodAll_cons r0
  obtain ⟨rfl, rfl, rfl⟩ := trodAll_nil r1
  obtain rfl : args = #[v0, v1] := by cases args; simp_all
  obtain ⟨rfl, rfl⟩ := trodVars_none hV
  obtain ⟨a0, rfl, rfl, rfl, w0⟩ := open_int Tryd.underlying3 (hval 0 3 v0 rfl rfl) h0
  have k1 := h1
  have lt1 : ∀ x ∈ p1, x.block < W.heap.size := by obtain ⟨m, hm⟩ := k1; exact DataW.trod_lt m _ _ _ hm
  obtain ⟨fn1, fz1, fc1, fv1, rfl⟩ := open_flags Tryd.underlying23 (by kernel_rfl) ⟨by kernel_rfl, by kernel_rfl, by kernel_rfl⟩ ⟨by kernel_rfl, by kernel_rfl, by kernel_rfl⟩ ⟨by kernel_rfl, by kernel_rfl, by kernel_rfl⟩ ⟨by kernel_rfl, by kernel_rfl, by kernel_rfl⟩ (hval 1 23 v1 rfl rfl) h1
  clear hA0 hval0
  refine (walk a0 fn1 fz1 fc1 fv1 w0 W (tabs_of hL)).mono fun e W' ⟨he, bel⟩ => ?_
  subst he
  exact ⟨_, rfl, _, _, _, [], _, [], hW', trodAll_mk1 (shut_bool Tryd.underlying4 _), (trodAll_cons_mk (shut_int Tryd.underlying3 w0) (trodAll_cons_mk (Below.trod laidOut (by kernel_rfl) (of_decide_eq_true (by kernel_rfl)) k1 bel lt1) trodAll_mk0)), rfl, bel.frame _, fun h => by cases h⟩

theorem over : Rows.condsTurnedRow.holds Tryd.pinned (OpenSpec.ofChange Rows.condsTurnedSpec) :=
  OpenClaim.holds_of_wide 7 Tryd.f7 rfl rfl rfl rfl rfl rfl rfl ⟨rfl, rfl, rfl, rfl, rfl⟩ rfl rfl rfl rfl rfl (by kernel_rfl) Tryd.func7 (by kernel_rfl)
    (of_decide_eq_true (by kernel_rfl)) (by unfold Func.isWrapper; first | (rw [if_pos (by decide +kernel)]; kernel_rfl) | (rw [if_neg (by decide +kernel)]; exact ⟨rfl, rfl⟩))
    (fun os started H enc _ => lifted os started H enc)

theorem proved : Rows.CondsTurnedCardSaid :=
  Claim7.holds_tied_plain_at .later [] [.data] true Rows.condsTurnedCard.stood.harness false
    over (fun _ h => by cases h) (by kernel_rfl) (fun _ h => by cases h) condsTurned_row_tie rfl ⟨rfl, rfl⟩ (by kernel_rfl) rfl
    (fun f fn hf hfn => by
      obtain rfl : f = 7 := Option.some.inj ((show Tryd.prog.funcNamed Rows.condsTurnedRow.func = some 7 by kernel_rfl).symm.trans hf) |>.symm
      obtain rfl : fn = Tryd.f7 := (Option.some.inj (Tryd.func7.symm.trans hfn)).symm
      exact ⟨by kernel_rfl, fun j t ht => by
        rw [Tryd.params7] at ht
        have hm : t ∈ [3, 23] := by simpa using Array.mem_of_getElem? ht
        have hall : ([3, 23].all fun u => !Tryd.prog.wantsStandIn u) = true := by kernel_rfl
        exact (show Tryd.prog.wantsStandIn t = false by simpa using List.all_eq_true.1 hall t hm)⟩)
    (by kernel_rfl)
end Go.Proofs.YtndeknebpimiaaaDoor.condsTurned
