/- For every number and every text IsaNames returns true: the operation's name, the name's operation, and whether it may set flags are what the document says. Conditions: none; the row lists the program's table of names, and the card ties it to the text of the program. -/
import Derived.Test.YthnjpgiaofedoaaDoorRows
import Derived.Test.YthnjpgiaofedoaaDoorTie
import Derived.Test.YthnjpgiaofedoaaDoorCards
import Derived.SevenTiedAt
import Derived.WalkKit
import Derived.ProofKit
import Derived.OpenShut
import Derived.ShutString
import Derived.Below
import Derived.Test.YthnjpgiaofedoaaDoorIp
import Derived.Test.YthnjpgiaofedoaaDoorIw
namespace Go.Proofs.YthnjpgiaofedoaaDoor.isaNames
open Go.ChangeShapes Go.WideShapes Go.ChangeAt Go.RowKit
open Go.ChangeMaps (open_string shut_string)

theorem own : ownKnob Tryd.prog.godebug = none := by kernel_rfl
theorem laidOut : laidOutB Tryd.prog = true := by kernel_rfl

theorem same_str (l : List UInt8) : ((⟨l.toArray⟩ : ByteArray).toList == (⟨l.toArray⟩ : ByteArray).toList) = true := by simp

set_option maxHeartbeats 1000000 in
theorem walk (op : Int) (s : ByteArray) (_wo : (Lit.int .i64 op).wf = true) (w : World) (hT : Tabs w) :
    Calls Tryd.prog 3 #[.int .i64 op, .string s] w fun e w' => e = .returned (.bool true) ∧ Below w.heap.size w w' := by
  have hL0 := Lib.hid (Later.refl hT)
  clear hT
  have hN := fun W (h : Tabs W) => name_c op W h
  have hM := fun W => rname_c op W
  obtain ⟨p, ep⟩ : ∃ p : ByteArray, (⟨(Im.nameI op).toArray⟩ : ByteArray) = p := ⟨_, rfl⟩
  rw [ep] at hN hM
  clear ep
  have hp : (p.toList == p.toList) = true := by simp
  have hF := fun W (h : Tabs W) => find_c s W h
  have hG := fun W => rfind_c s W
  generalize Im.findI s.toList = v at hF hG
  obtain ⟨b, eb⟩ : ∃ b : Bool, (v != 0) = b := ⟨_, rfl⟩
  rw [eb] at hF hG
  clear eb
  have hS := fun W => sets_c op W
  have hR := fun W => rsets_c op W
  generalize Im.setsB op = c at hS hR
  go_enter Tryd.func3, Tryd.ntmps3
  go_wp2_with fail
  refine (hF _ hL0.out.tabs).mono ?_
  rintro e w' ⟨rfl, n1, rfl⟩
  have hL1 := Lib.hid (hL0.out.drewn n1)
  clear hL0 hF
  go_wp2_with fail
  refine (hG _).mono ?_
  rintro e w2 ⟨rfl, hb⟩
  have hL2 := Lib.hid (hL1.out.step hb)
  clear hL1 hG hb
  go_wp2_with fail
  refine (hN _ hL2.out.tabs).mono ?_
  rintro e w' ⟨rfl, n3, rfl⟩
  have hL3 := Lib.hid (hL2.out.drewn n3)
  clear hL2 hN
  go_wp2_with fail
  refine (hM _).mono ?_
  rintro e w4 ⟨rfl, hb⟩
  have hL4 := Lib.hid (hL3.out.step hb)
  clear hL3 hM hb
  go_wp2_with fail
  refine (hS _).mono ?_
  rintro e w' ⟨rfl, n5, rfl⟩
  clear hS
  go_wp2_with fail
  refine (hR _).mono ?_
  rintro e w' ⟨rfl, n6, rfl⟩
  clear hR
  go_wp2_with fail
  refine (awake_c _ (hL4.out.drewn _).tabs).mono ?_
  rintro e w7 ⟨rfl, hb⟩
  go_wp2
  go_ret
  exact ⟨rfl, ((hL4.out.drewn _).step hb).bel⟩

set_option maxRecDepth 100000 in
theorem lifted (os : Os) (started : os.Started) (H : Type) (enc : TypeId × Value → H) :
    ReturnsInHanded {} Tryd.checked os 3 .any (fun w args => (Rows.isaNamesSpec.pre enc Tryd.prog Tryd.f3 [] false w args ∧ laidMetH Tryd.prog laidL w) ∧ sizedMet enc Tryd.prog Tryd.f3 (OpenSpec.ofChange Rows.isaNamesSpec) false w args)
      (Rows.isaNamesSpec.post enc Tryd.prog Tryd.f3 false true false false) := by
  refine returnsInHanded_of_change_and (C := Tryd.checked) (X := fun w _ => laidMetH Tryd.prog laidL w) (fun _ _ _ hh h => h.of_heap hh) own started (by kernel_rfl) Tryd.func3
    (ChangeSpec.witness_shaped (enc := enc) (C := Tryd.checked) (os := os) (X := fun w _ => laidMetH Tryd.prog laidL w) false (World.doorLaid Tryd.prog 400 os) #[.int .i64 0, .string ⟨#[]⟩] 8 rfl (World.shaped_of_RefB (by kernel_rfl) (by kernel_rfl)) (by kernel_rfl) (by kernel_rfl) (by kernel_rfl) (door_met os _)) ?_
  intro W base args ds gs before hval0 hW _ _ hL _
  have hval : ∀ (j : Nat) t v, Tryd.f3.params[j]? = some t → args[j]? = some v → Value.okWide Tryd.prog W .any base t v := hval0
  have hW' := hW
  obtain ⟨p, q, hA0, hV, rfl, _, _⟩ := hW
  have hA : DataW.TrodAll enc Tryd.prog W 0 (fun _ => true) true Tryd.f3.params.toList args.toList ds p := hA0
  rw [Tryd.params3] at hA hval
  obtain ⟨v0, vs0, d0, ds0, p0, q0, hargs, rfl, rfl, h0, r0⟩ := trodAll_cons hA
  obtain ⟨v1, vs1, d1, ds1, p1, q1, rfl, rfl, rfl, h1, r1⟩ := trodAll_cons r0
  obtain ⟨rfl, rfl, rfl⟩ := trodAll_nil r1
  obtain rfl : args = #[v0, v1] := by cases args; simp_all
  obtain ⟨rfl, rfl⟩ := trodVars_none hV
  obtain ⟨a0, rfl, rfl, rfl, w0⟩ := open_int Tryd.underlying3 (hval 0 3 v0 rfl rfl) h0
  obtain ⟨a1, rfl, rfl, rfl, w1⟩ := open_string Tryd.underlying9 (hval 1 9 v1 rfl rfl) h1
  clear hA0 hval0
  refine (walk a0 a1 w0 W (tabs_of hL)).mono fun e W' ⟨he, bel⟩ => ?_
  subst he
  exact ⟨_, rfl, _, _, _, [], _, [], hW', trodAll_mk1 (shut_bool Tryd.underlying4 _), (trodAll_cons_mk (shut_int Tryd.underlying3 w0) (trodAll_cons_mk (shut_string Tryd.underlying9 w1) trodAll_mk0)), rfl, bel.frame _, fun h => by cases h⟩

theorem over : Rows.isaNamesRow.holds Tryd.pinned (OpenSpec.ofChange Rows.isaNamesSpec) :=
  OpenClaim.holds_of_wide 3 Tryd.f3 rfl rfl rfl rfl rfl rfl rfl ⟨rfl, rfl, rfl, rfl, rfl⟩ rfl rfl rfl rfl rfl (by kernel_rfl) Tryd.func3 (by kernel_rfl)
    (of_decide_eq_true (by kernel_rfl)) (by unfold Func.isWrapper; first | (rw [if_pos (by decide +kernel)]; kernel_rfl) | (rw [if_neg (by decide +kernel)]; exact ⟨rfl, rfl⟩))
    (fun os started H enc _ => lifted os started H enc)

theorem proved : Rows.IsaNamesCardSaid :=
  Claim7.holds_tied_plain_at .later [] [.data] true Rows.isaNamesCard.stood.harness false
    over (fun _ h => by cases h) (by kernel_rfl) (fun _ h => by cases h) isaNames_row_tie rfl ⟨rfl, rfl⟩ (by kernel_rfl) rfl
    (fun f fn hf hfn => by
      obtain rfl : f = 3 := Option.some.inj ((show Tryd.prog.funcNamed Rows.isaNamesRow.func = some 3 by kernel_rfl).symm.trans hf) |>.symm
      obtain rfl : fn = Tryd.f3 := (Option.some.inj (Tryd.func3.symm.trans hfn)).symm
      exact ⟨by kernel_rfl, fun j t ht => by
        rw [Tryd.params3] at ht
        have hm : t ∈ [3, 9] := by simpa using Array.mem_of_getElem? ht
        have hall : ([3, 9].all fun u => !Tryd.prog.wantsStandIn u) = true := by kernel_rfl
        exact (show Tryd.prog.wantsStandIn t = false by simpa using List.all_eq_true.1 hall t hm)⟩)
    (by kernel_rfl)
end Go.Proofs.YthnjpgiaofedoaaDoor.isaNames
