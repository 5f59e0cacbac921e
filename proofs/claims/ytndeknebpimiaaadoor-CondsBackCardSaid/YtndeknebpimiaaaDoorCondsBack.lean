/- For every condition and row of bools CondsBack returns true: a mask of a block tells which instructions have its condition and which the other one. Conditions: none; the row lists the table of names, and the card ties it to the text of the program. -/
import Derived.Test.YtndeknebpimiaaaDoorRows
import Derived.Test.YtndeknebpimiaaaDoorTie
import Derived.Test.YtndeknebpimiaaaDoorCards
import Derived.SevenTiedAt
import Derived.WalkKit
import Derived.ProofKit
import Derived.OpenShut
import Derived.ShutString
import Derived.Below
import Derived.Test.YtndeknebpimiaaaDoorCp
namespace Go.Proofs.YtndeknebpimiaaaDoor.condsBack
open Go.ChangeShapes Go.WideShapes Go.ChangeAt Go.RowKit

theorem own : ownKnob Tryd.prog.godebug = none := by kernel_rfl
theorem laidOut : laidOutB Tryd.prog = true := by kernel_rfl

theorem big (c : Int) (A : Option Addr) (cap : Nat) (xs : List Bool) (w : World) (h : 100 < xs.length) (hT : Tabs w) :
    Calls Tryd.prog 8 #[.int .i64 c, .slice A xs.length cap] w fun e w' => e = .returned (.bool true) ∧ Below w.heap.size w w' := by
  have hl : decide ((100 : Int) < (xs.length : Int)) = true := by simp; omega
  clear h
  go_enter Tryd.func8, Tryd.ntmps8
  go_wp2_with ((go_at_call 16; refine (awake_c _ hT).mono ?_; rintro e w4 ⟨rfl, hb⟩))
  go_ret
  exact ⟨rfl, hb⟩

theorem none_c (c : Int) (w : World) : Calls Tryd.prog 22 #[.int .i64 c, .int .i64 0] w fun e w' => ∃ A cap, e = .returned (.slice A 0 cap) ∧ Below w.heap.size w w' := by
  refine (conds_c c 0 w).mono ?_
  rintro e w' ⟨A, cap, he, _, hb⟩
  rw [Cm.conds_no (by omega)] at he
  exact ⟨A, cap, he, hb⟩

theorem none_ (c : Int) (A : Option Addr) (cap : Nat) (xs : List Bool) (w : World) (h : ¬ 100 < xs.length) (hA : BoolsAt w w.heap.size A xs) (hT : Tabs w) (hm : Cm.maskI c xs = 0) :
    Calls Tryd.prog 8 #[.int .i64 c, .slice A xs.length cap] w fun e w' => e = .returned (.bool true) ∧ Below w.heap.size w w' := by
  have hl : decide ((100 : Int) < (xs.length : Int)) = false := by simp; omega
  have hL := Later.refl hT
  have HM := Lib.hid hm
  clear hT h hm
  go_enter Tryd.func8, Tryd.ntmps8
  go_wp2_with fail
  refine (mask_c _ _ _ _ _ hA).mono ?_
  rintro e w1 ⟨rfl, n1, rfl⟩
  rw [HM.out]
  go_wp2_with fail
  refine (none_c _ _).mono ?_
  rintro e w2 ⟨A2, c2, rfl, hb⟩
  have hL2 := (hL.drewn _).step hb
  clear hb
  go_wp2_with fail
  refine (awake_c _ hL2.tabs).mono ?_
  rintro e w5 ⟨rfl, hb⟩
  have hL5 := hL2.step hb
  clear hb
  go_wp2
  go_ret
  exact ⟨rfl, hL5.bel⟩

/-- what the law asks of an entry -/
def want (c : Int) (s : Bool) : Int := if s then c else Cm.turnI c
theorem row_at (c : Int) (xs : List Bool) (k : Nat) (h : k < xs.length) : (c :: xs.map (want c)).getD (k + 1) 0 = want c (xs.getD k false) := by
  simp [List.getD, List.getElem?_eq_getElem h]

set_option maxHeartbeats 1000000 in
theorem some_ (c : Int) (A : Option Addr) (cap : Nat) (xs : List Bool) (w : World) (h : ¬ 100 < xs.length) (hA : BoolsAt w w.heap.size A xs) (hT : Tabs w) (hm : ¬ Cm.maskI c xs = 0) :
    Calls Tryd.prog 8 #[.int .i64 c, .slice A xs.length cap] w fun e w' => e = .returned (.bool true) ∧ Below w.heap.size w w' := by
  have hl : decide ((100 : Int) < (xs.length : Int)) = false := by simp; omega
  have hin : 0 ≤ c ∧ c ≤ 14 ∧ xs.length ≤ 3 := by
    by_cases q : 0 ≤ c ∧ c ≤ 14 ∧ xs.length ≤ 3
    · exact q
    · exact absurd (Cm.mask_no q) hm
  have htell : Cm.condsI c (Cm.maskI c xs) = c :: xs.map (want c) := Cm.mask_tells c xs ⟨hin.1, hin.2.1⟩ hin.2.2 hm
  obtain ⟨m, em⟩ : ∃ m, Cm.maskI c xs = m := ⟨_, rfl⟩
  rw [em] at hm htell
  have hmb : (m == 0) = false := by simp [hm]
  have hL := Later.refl hT
  have EM := Lib.hid em
  have HT := Lib.hid htell
  have HX := Lib.hid (show ((c :: xs.map (want c)).length : Int) = (xs.length : Int) + 1 by simp)
  have HY := Lib.hid (show (c :: xs.map (want c)).length = xs.length + 1 by simp)
  have HZ := Lib.hid (show (c :: xs.map (want c)).getD 0 0 = c from rfl)
  have HR : ∀ k, k < xs.length → RowKit.Hid ((c :: xs.map (want c)).getD (k + 1) 0 = want c (xs.getD k false)) := fun k hk => Lib.hid (row_at c xs k hk)
  have HRR := Lib.hid HR
  have hlen : (xs.length : Int) ≤ 3 := by omega
  clear hT h hm em htell hin HR
  obtain ⟨R, eR⟩ : ∃ R, (c :: xs.map (want c)) = R := ⟨_, rfl⟩
  rw [eR] at HT HX HY HZ HRR
  clear eR
  go_enter Tryd.func8, Tryd.ntmps8
  go_wp2_with fail
  refine (mask_c _ _ _ _ _ hA).mono ?_
  rintro e w1 ⟨rfl, n1, rfl⟩
  rw [EM.out]
  go_wp2_with fail
  refine (conds_c _ _ _).mono ?_
  rintro e w2 ⟨A2, c2, rfl, hI, hb⟩
  rw [HT.out] at hI ⊢
  have hL2 := (hL.drewn _).step hb
  have hA2 := (hA.drewN n1).below hb (Nat.le_refl _)
  clear hb hA
  rw [HY.out]
  obtain ⟨b2, off2, rfl, hb2, hcell2⟩ := hI.at_ (k := 0) (by rw [HY.out]; omega)
  rw [HZ.out] at hcell2
  simp only [Nat.add_zero] at hcell2
  go_wp2
  go_loopw [7] (fun is wr => ∃ k n : Nat, k ≤ xs.length ∧ is = .int .i64 k ∧ wr = w2.drewN n) (fun is _ => xs.length - (intOf is).toNat)
  case atStart => exact ⟨0, 0, by omega, rfl, rfl⟩
  case round =>
    obtain ⟨k, n, hk, rfl, rfl⟩ := hrel
    by_cases hlt : k < xs.length
    · obtain ⟨b, off, rfl, hb, hcell⟩ := hA2.at_ hlt
      have hr := (HRR.out k hlt).out
      have hcr := hI.at_ (k := k + 1) (by rw [HY.out]; omega)
      rw [hr] at hcr
      obtain ⟨b3, off3, e3, hb3, hcell3⟩ := hcr
      simp only [Option.some.injEq, Addr.mk.injEq, and_true] at e3
      obtain ⟨rfl, rfl⟩ := e3
      generalize xs.getD k false = s at *
      have hi0 : (0 : Int) ≤ (k : Int) := by omega
      have hi1 : (k : Int) < (xs.length : Int) := by omega
      clear hr hcell2
      unfold want at hcell3
      cases s with
      | true =>
        rw [if_pos rfl] at hcell3
        go_wp2
        go_roundw
        case rel => exact ⟨k + 1, n, by omega, by go_num, rfl⟩
        case measure => simp [intOf]; omega
      | false =>
        rw [if_neg (by simp)] at hcell3
        go_wp2_with ((go_at_call 12; refine (turn_c _ _).mono ?_; rintro e w5 ⟨rfl, n5, rfl⟩))
        go_roundw
        case rel => exact ⟨k + 1, n + n5, by omega, by go_num, rfl⟩
        case measure => simp [intOf]; omega
    · go_wp2_with fail
      refine (awake_c _ (hL2.drewn _).tabs).mono ?_
      rintro e w5 ⟨rfl, hb⟩
      have hL5 := (hL2.drewn _).step hb
      clear hb
      go_wp2
      go_ret
      exact ⟨rfl, hL5.bel⟩

theorem walk (c : Int) (A : Option Addr) (cap : Nat) (xs : List Bool) (w : World) (_wc : (Lit.int .i64 c).wf = true) (hA : BoolsAt w w.heap.size A xs) (hT : Tabs w) :
    Calls Tryd.prog 8 #[.int .i64 c, .slice A xs.length cap] w fun e w' => e = .returned (.bool true) ∧ Below w.heap.size w w' := by
  by_cases h : 100 < xs.length
  · exact big c A cap xs w h hT
  · by_cases hm : Cm.maskI c xs = 0
    · exact none_ c A cap xs w h hA hT hm
    · exact some_ c A cap xs w h hA hT hm

set_option maxRecDepth 100000 in
theorem lifted (os : Os) (started : os.Started) (H : Type) (enc : TypeId × Value → H) :
    ReturnsInHanded {} Tryd.checked os 8 .any (fun w args => (Rows.condsBackSpec.pre enc Tryd.prog Tryd.f8 [] false w args ∧ laidMetH Tryd.prog laidL w) ∧ sizedMet enc Tryd.prog Tryd.f8 (OpenSpec.ofChange Rows.condsBackSpec) false w args)
      (Rows.condsBackSpec.post enc Tryd.prog Tryd.f8 false true false false) := by
  refine returnsInHanded_of_change_and (C := Tryd.checked) (X := fun w _ => laidMetH Tryd.prog laidL w) (fun _ _ _ hh h => h.of_heap hh) own started (by kernel_rfl) Tryd.func8
    (ChangeSpec.witness_shaped (enc := enc) (C := Tryd.checked) (os := os) (X := fun w _ => laidMetH Tryd.prog laidL w) false (World.doorLaid Tryd.prog 400 os) #[.int .i64 0, .slice none 0 0] 8 rfl (World.shaped_of_RefB (by kernel_rfl) (by kernel_rfl)) (by kernel_rfl) (by kernel_rfl) (by kernel_rfl) (door_met os _)) ?_
  intro W base args ds gs before hval0 hW _ _ hL _
  have hval : ∀ (j : Nat) t v, Tryd.f8.params[j]? = some t → args[j]? = some v → Value.okWide Tryd.prog W .any base t v := hval0
  have hW' := hW
  obtain ⟨p, q, hA0, hV, rfl, _, _⟩ := hW
  have hA : DataW.TrodAll enc Tryd.prog W 0 (fun _ => true) true Tryd.f8.params.toList args.toList ds p := hA0
  rw [Tryd.params8] at hA hval
  obtain ⟨v0, vs0, d0, ds0, p0, q0, hargs, rfl, rfl, h0, r0⟩ := trodAll_cons hA
  obtain ⟨v1, vs1, d1, ds1, p1, q1, rfl, rfl, rfl, h1, r1⟩ := trodAll_cons r0
  obtain ⟨rfl, rfl, rfl⟩ := trodAll_nil r1
  obtain rfl : args = #[v0, v1] := by cases args; simp_all
  obtain ⟨rfl, rfl⟩ := trodVars_none hV
  obtain ⟨a0, rfl, rfl, rfl, w0⟩ := open_int Tryd.underlying3 (hval 0 3 v0 rfl rfl) h0
  obtain ⟨a1, len1, cap1, rfl⟩ := okWide_slice Tryd.underlying30 (hval 1 30 v1 rfl rfl)
  have k1 := h1
  have lt1 : ∀ x ∈ p1, x.block < W.heap.size := by obtain ⟨m, hm⟩ := k1; exact DataW.trod_lt m _ _ _ hm
  obtain ⟨z1, e1, i1⟩ := open_boolrow Tryd.underlying30 Tryd.underlying4 (by kernel_rfl) h1
  subst e1
  clear hA0 hval0
  refine (walk a0 a1 cap1 z1 W w0 i1 (tabs_of hL)).mono fun e W' ⟨he, bel⟩ => ?_
  subst he
  exact ⟨_, rfl, _, _, _, [], _, [], hW', trodAll_mk1 (shut_bool Tryd.underlying4 _), (trodAll_cons_mk (shut_int Tryd.underlying3 w0) (trodAll_cons_mk (Below.trod laidOut (by kernel_rfl) (of_decide_eq_true (by kernel_rfl)) k1 bel lt1) trodAll_mk0)), rfl, bel.frame _, fun h => by cases h⟩

theorem over : Rows.condsBackRow.holds Tryd.pinned (OpenSpec.ofChange Rows.condsBackSpec) :=
  OpenClaim.holds_of_wide 8 Tryd.f8 rfl rfl rfl rfl rfl rfl rfl ⟨rfl, rfl, rfl, rfl, rfl⟩ rfl rfl rfl rfl rfl (by kernel_rfl) Tryd.func8 (by kernel_rfl)
    (of_decide_eq_true (by kernel_rfl)) (by unfold Func.isWrapper; first | (rw [if_pos (by decide +kernel)]; kernel_rfl) | (rw [if_neg (by decide +kernel)]; exact ⟨rfl, rfl⟩))
    (fun os started H enc _ => lifted os started H enc)

theorem proved : Rows.CondsBackCardSaid :=
  Claim7.holds_tied_plain_at .later [] [.data] true Rows.condsBackCard.stood.harness false
    over (fun _ h => by cases h) (by kernel_rfl) (fun _ h => by cases h) condsBack_row_tie rfl ⟨rfl, rfl⟩ (by kernel_rfl) rfl
    (fun f fn hf hfn => by
      obtain rfl : f = 8 := Option.some.inj ((show Tryd.prog.funcNamed Rows.condsBackRow.func = some 8 by kernel_rfl).symm.trans hf) |>.symm
      obtain rfl : fn = Tryd.f8 := (Option.some.inj (Tryd.func8.symm.trans hfn)).symm
      exact ⟨by kernel_rfl, fun j t ht => by
        rw [Tryd.params8] at ht
        have hm : t ∈ [3, 30] := by simpa using Array.mem_of_getElem? ht
        have hall : ([3, 30].all fun u => !Tryd.prog.wantsStandIn u) = true := by kernel_rfl
        exact (show Tryd.prog.wantsStandIn t = false by simpa using List.all_eq_true.1 hall t hm)⟩)
    (by kernel_rfl)
end Go.Proofs.YtndeknebpimiaaaDoor.condsBack
