/- For every kind, offset and two other numbers OffsBack returns true: an offset in pieces, whatever other bits there are, is that offset. Conditions: none; the row lists the program's two tables, and the card ties them to the program's text. -/
import Derived.Test.YtioeoiginimjhaaDoorRows
import Derived.Test.YtioeoiginimjhaaDoorTie
import Derived.Test.YtioeoiginimjhaaDoorCards
import Derived.SevenTiedAt
import Derived.WalkKit
import Derived.ProofKit
import Derived.OpenShut
import Derived.Below
import Derived.Test.YtioeoiginimjhaaDoorLd
import Derived.Test.YtioeoiginimjhaaDoorOk
import Derived.Test.YtioeoiginimjhaaDoorAp
namespace Go.Proofs.YtioeoiginimjhaaDoor.offsBack
open Go.ChangeShapes Go.WideShapes Go.ChangeAt Go.RowKit

theorem own : ownKnob Tryd.prog.godebug = none := by kernel_rfl
theorem laidOut : laidOutB Tryd.prog = true := by kernel_rfl

/-- W is a world behind w, and the argument's block, made first, lies there still -/
structure Boxed (w : World) (n0 n1 : Int) (W : World) : Prop where
  later : Later w W
  c0 : W.cell? ⟨w.heap.size, 0, none⟩ = some (.int .i64 n0)
  c1 : W.cell? ⟨w.heap.size, 1, none⟩ = some (.int .i64 n1)
  lt : w.heap.size < W.heap.size
theorem Boxed.step {w W W' : World} {n0 n1 : Int} (h : Boxed w n0 n1 W) (hb : Below W.heap.size W W') : Boxed w n0 n1 W' :=
  ⟨h.later.step hb, (hb.cell h.lt).trans h.c0, (hb.cell h.lt).trans h.c1, Nat.lt_of_lt_of_le h.lt hb.size⟩
theorem Boxed.start {w : World} (hT : Tabs w) (n0 n1 : Int) (t : TypeId) : Boxed w n0 n1 (w.alloc (.cells #[.int .i64 n0, .int .i64 n1] t)) :=
  ⟨(Later.refl hT).step ((Below.refl _ _).alloc (Nat.le_refl _) _), World.cell?_alloc_new w _ t 0, World.cell?_alloc_new w _ t 1, by simp⟩
theorem Boxed.alloc {w W : World} {n0 n1 : Int} (h : Boxed w n0 n1 W) (o : Obj) : Later w (W.alloc o) := h.later.step ((Below.refl _ _).alloc (Nat.le_refl _) _)

theorem walk_no (k off n0 n1 : Int) (w : World) (hT : Tabs w) (hf : fitsB k off = false) :
    Calls Tryd.prog 5 #[.int .i64 k, .int .i64 off, .agg #[.int .i64 n0, .int .i64 n1]] w fun e w' => e = .returned (.bool true) ∧ Below w.heap.size w w' := by
  have hB0 := Boxed.start hT n0 n1 28
  clear hT
  go_enter Tryd.func5, Tryd.ntmps5
  go_wp2_with (first
    | (go_at_call 10; refine (fits_c _ _ _ hB0.later.tabs).mono ?_; rintro e w1 ⟨rfl, hb⟩; rw [hf]; have hB1 := hB0.step hb; clear hb)
    | (go_at_call 12; refine (awake_c _ hB1.later.tabs).mono ?_; rintro e w4 ⟨rfl, hb⟩; have hL4 := Later.step (w := w) hB1.later hb; clear hb))
  go_ret
  exact ⟨rfl, hL4.bel⟩

theorem walk_1 (off n0 n1 : Int) (w : World) (hT : Tabs w) (hf : fitsB 1 off = true) :
    Calls Tryd.prog 5 #[.int .i64 1, .int .i64 off, .agg #[.int .i64 n0, .int .i64 n1]] w fun e w' => e = .returned (.bool true) ∧ Below w.heap.size w w' := by
  have hB0 := Boxed.start hT n0 n1 28
  obtain ⟨_, _, f3, f4, f5⟩ := Om.fits_spec hf
  obtain ⟨g0, g1, g2⟩ := Om.backs_1 off n0 n1 f3 f4 f5
  clear hT f3 f4 f5
  obtain ⟨A, eA⟩ : ∃ q, Om.pA 1 off = q := ⟨_, rfl⟩
  obtain ⟨B, eB⟩ : ∃ q, Om.pB 1 off = q := ⟨_, rfl⟩
  rw [eA] at g0 g2
  rw [eB] at g1 g2
  go_enter Tryd.func5, Tryd.ntmps5
  go_wp2_with (first
    | (go_at_call 10; refine (fits_c _ _ _ hB0.later.tabs).mono ?_; rintro e w1 ⟨rfl, hb⟩; rw [hf]; have hB1 := hB0.step hb; clear hb)
    | (go_at_call 8; refine (pput_c _ _ _ hB1.later.tabs hf).mono ?_; rintro e w2 ⟨rfl, hb⟩; rw [eA, eB]; have hB2 := hB1.step hb; clear hb; have c0 := hB2.c0; have c1 := hB2.c1; have lt := hB2.lt)
    | (go_at_call 13; refine (pget_c _ _ _ _ (hB2.alloc _).tabs).mono ?_; rintro e w3 ⟨rfl, hb⟩; have hL3 := Later.step (w := w) (hB2.alloc _) hb; clear hb)
    | (go_at_call 12; refine (awake_c _ hL3.tabs).mono ?_; rintro e w4 ⟨rfl, hb⟩; have hL4 := Later.step (w := w) hL3 hb; clear hb))
  go_ret
  exact ⟨rfl, hL4.bel⟩

theorem walk_2 (off n0 n1 : Int) (w : World) (hT : Tabs w) (hf : fitsB 2 off = true) :
    Calls Tryd.prog 5 #[.int .i64 2, .int .i64 off, .agg #[.int .i64 n0, .int .i64 n1]] w fun e w' => e = .returned (.bool true) ∧ Below w.heap.size w w' := by
  have hB0 := Boxed.start hT n0 n1 28
  obtain ⟨_, _, f3, f4, f5⟩ := Om.fits_spec hf
  obtain ⟨g0, g1, g2⟩ := Om.backs_2 off n0 n1 f3 f4 f5
  clear hT f3 f4 f5
  obtain ⟨A, eA⟩ : ∃ q, Om.pA 2 off = q := ⟨_, rfl⟩
  obtain ⟨B, eB⟩ : ∃ q, Om.pB 2 off = q := ⟨_, rfl⟩
  rw [eA] at g0 g2
  rw [eB] at g1 g2
  go_enter Tryd.func5, Tryd.ntmps5
  go_wp2_with (first
    | (go_at_call 10; refine (fits_c _ _ _ hB0.later.tabs).mono ?_; rintro e w1 ⟨rfl, hb⟩; rw [hf]; have hB1 := hB0.step hb; clear hb)
    | (go_at_call 8; refine (pput_c _ _ _ hB1.later.tabs hf).mono ?_; rintro e w2 ⟨rfl, hb⟩; rw [eA, eB]; have hB2 := hB1.step hb; clear hb; have c0 := hB2.c0; have c1 := hB2.c1; have lt := hB2.lt)
    | (go_at_call 13; refine (pget_c _ _ _ _ (hB2.alloc _).tabs).mono ?_; rintro e w3 ⟨rfl, hb⟩; have hL3 := Later.step (w := w) (hB2.alloc _) hb; clear hb)
    | (go_at_call 12; refine (awake_c _ hL3.tabs).mono ?_; rintro e w4 ⟨rfl, hb⟩; have hL4 := Later.step (w := w) hL3 hb; clear hb))
  go_ret
  exact ⟨rfl, hL4.bel⟩

theorem walk_3 (off n0 n1 : Int) (w : World) (hT : Tabs w) (hf : fitsB 3 off = true) :
    Calls Tryd.prog 5 #[.int .i64 3, .int .i64 off, .agg #[.int .i64 n0, .int .i64 n1]] w fun e w' => e = .returned (.bool true) ∧ Below w.heap.size w w' := by
  have hB0 := Boxed.start hT n0 n1 28
  obtain ⟨_, _, f3, f4, f5⟩ := Om.fits_spec hf
  obtain ⟨g0, g1, g2⟩ := Om.backs_3 off n0 n1 f3 f4 f5
  clear hT f3 f4 f5
  obtain ⟨A, eA⟩ : ∃ q, Om.pA 3 off = q := ⟨_, rfl⟩
  obtain ⟨B, eB⟩ : ∃ q, Om.pB 3 off = q := ⟨_, rfl⟩
  rw [eA] at g0 g2
  rw [eB] at g1 g2
  go_enter Tryd.func5, Tryd.ntmps5
  go_wp2_with (first
    | (go_at_call 10; refine (fits_c _ _ _ hB0.later.tabs).mono ?_; rintro e w1 ⟨rfl, hb⟩; rw [hf]; have hB1 := hB0.step hb; clear hb)
    | (go_at_call 8; refine (pput_c _ _ _ hB1.later.tabs hf).mono ?_; rintro e w2 ⟨rfl, hb⟩; rw [eA, eB]; have hB2 := hB1.step hb; clear hb; have c0 := hB2.c0; have c1 := hB2.c1; have lt := hB2.lt)
    | (go_at_call 13; refine (pget_c _ _ _ _ (hB2.alloc _).tabs).mono ?_; rintro e w3 ⟨rfl, hb⟩; have hL3 := Later.step (w := w) (hB2.alloc _) hb; clear hb)
    | (go_at_call 12; refine (awake_c _ hL3.tabs).mono ?_; rintro e w4 ⟨rfl, hb⟩; have hL4 := Later.step (w := w) hL3 hb; clear hb))
  go_ret
  exact ⟨rfl, hL4.bel⟩

theorem walk_4 (off n0 n1 : Int) (w : World) (hT : Tabs w) (hf : fitsB 4 off = true) :
    Calls Tryd.prog 5 #[.int .i64 4, .int .i64 off, .agg #[.int .i64 n0, .int .i64 n1]] w fun e w' => e = .returned (.bool true) ∧ Below w.heap.size w w' := by
  have hB0 := Boxed.start hT n0 n1 28
  obtain ⟨_, _, f3, f4, f5⟩ := Om.fits_spec hf
  obtain ⟨g0, g1, g2⟩ := Om.backs_4 off n0 n1 f3 f4 f5
  clear hT f3 f4 f5
  obtain ⟨A, eA⟩ : ∃ q, Om.pA 4 off = q := ⟨_, rfl⟩
  obtain ⟨B, eB⟩ : ∃ q, Om.pB 4 off = q := ⟨_, rfl⟩
  rw [eA] at g0 g2
  rw [eB] at g1 g2
  go_enter Tryd.func5, Tryd.ntmps5
  go_wp2_with (first
    | (go_at_call 10; refine (fits_c _ _ _ hB0.later.tabs).mono ?_; rintro e w1 ⟨rfl, hb⟩; rw [hf]; have hB1 := hB0.step hb; clear hb)
    | (go_at_call 8; refine (pput_c _ _ _ hB1.later.tabs hf).mono ?_; rintro e w2 ⟨rfl, hb⟩; rw [eA, eB]; have hB2 := hB1.step hb; clear hb; have c0 := hB2.c0; have c1 := hB2.c1; have lt := hB2.lt)
    | (go_at_call 13; refine (pget_c _ _ _ _ (hB2.alloc _).tabs).mono ?_; rintro e w3 ⟨rfl, hb⟩; have hL3 := Later.step (w := w) (hB2.alloc _) hb; clear hb)
    | (go_at_call 12; refine (awake_c _ hL3.tabs).mono ?_; rintro e w4 ⟨rfl, hb⟩; have hL4 := Later.step (w := w) hL3 hb; clear hb))
  go_ret
  exact ⟨rfl, hL4.bel⟩

theorem walk_5 (off n0 n1 : Int) (w : World) (hT : Tabs w) (hf : fitsB 5 off = true) :
    Calls Tryd.prog 5 #[.int .i64 5, .int .i64 off, .agg #[.int .i64 n0, .int .i64 n1]] w fun e w' => e = .returned (.bool true) ∧ Below w.heap.size w w' := by
  have hB0 := Boxed.start hT n0 n1 28
  obtain ⟨_, _, f3, f4, f5⟩ := Om.fits_spec hf
  obtain ⟨g0, g1, g2⟩ := Om.backs_5 off n0 n1 f3 f4 f5
  clear hT f3 f4 f5
  obtain ⟨A, eA⟩ : ∃ q, Om.pA 5 off = q := ⟨_, rfl⟩
  obtain ⟨B, eB⟩ : ∃ q, Om.pB 5 off = q := ⟨_, rfl⟩
  rw [eA] at g0 g2
  rw [eB] at g1 g2
  go_enter Tryd.func5, Tryd.ntmps5
  go_wp2_with (first
    | (go_at_call 10; refine (fits_c _ _ _ hB0.later.tabs).mono ?_; rintro e w1 ⟨rfl, hb⟩; rw [hf]; have hB1 := hB0.step hb; clear hb)
    | (go_at_call 8; refine (pput_c _ _ _ hB1.later.tabs hf).mono ?_; rintro e w2 ⟨rfl, hb⟩; rw [eA, eB]; have hB2 := hB1.step hb; clear hb; have c0 := hB2.c0; have c1 := hB2.c1; have lt := hB2.lt)
    | (go_at_call 13; refine (pget_c _ _ _ _ (hB2.alloc _).tabs).mono ?_; rintro e w3 ⟨rfl, hb⟩; have hL3 := Later.step (w := w) (hB2.alloc _) hb; clear hb)
    | (go_at_call 12; refine (awake_c _ hL3.tabs).mono ?_; rintro e w4 ⟨rfl, hb⟩; have hL4 := Later.step (w := w) hL3 hb; clear hb))
  go_ret
  exact ⟨rfl, hL4.bel⟩

theorem walk (k off n0 n1 : Int) (_wk : (Lit.int .i64 k).wf = true) (_wo : (Lit.int .i64 off).wf = true) (_w0 : (Lit.int .i64 n0).wf = true) (_w1 : (Lit.int .i64 n1).wf = true) (w : World) (hT : Tabs w) :
    Calls Tryd.prog 5 #[.int .i64 k, .int .i64 off, .agg #[.int .i64 n0, .int .i64 n1]] w fun e w' => e = .returned (.bool true) ∧ Below w.heap.size w w' := by
  cases hf : fitsB k off with
  | false => exact walk_no k off n0 n1 w hT hf
  | true =>
    obtain ⟨h1, h2, _, _, _⟩ := Om.fits_spec hf
    rcases kinds ⟨h1, h2⟩ with rfl | rfl | rfl | rfl | rfl
    · exact walk_1 off n0 n1 w hT hf
    · exact walk_2 off n0 n1 w hT hf
    · exact walk_3 off n0 n1 w hT hf
    · exact walk_4 off n0 n1 w hT hf
    · exact walk_5 off n0 n1 w hT hf

set_option maxRecDepth 100000 in
theorem lifted (os : Os) (started : os.Started) (H : Type) (enc : TypeId × Value → H) :
    ReturnsInHanded {} Tryd.checked os 5 .any (fun w args => (Rows.offsBackSpec.pre enc Tryd.prog Tryd.f5 [] false w args ∧ laidMetH Tryd.prog laidL w) ∧ sizedMet enc Tryd.prog Tryd.f5 (OpenSpec.ofChange Rows.offsBackSpec) false w args)
      (Rows.offsBackSpec.post enc Tryd.prog Tryd.f5 false true false false) := by
  refine returnsInHanded_of_change_and (C := Tryd.checked) (X := fun w _ => laidMetH Tryd.prog laidL w) (fun _ _ _ hh h => h.of_heap hh) own started (by kernel_rfl) Tryd.func5
    (ChangeSpec.witness_shaped (enc := enc) (C := Tryd.checked) (os := os) (X := fun w _ => laidMetH Tryd.prog laidL w) false (World.doorLaid Tryd.prog 400 os) #[.int .i64 0, .int .i64 0, .agg #[.int .i64 0, .int .i64 0]] 8 rfl (World.shaped_of_RefB (by kernel_rfl) (by kernel_rfl)) (by kernel_rfl) (by kernel_rfl) (by kernel_rfl) (door_met os _)) ?_
  intro W base args ds gs before hval0 hW _ _ hL _
  have hval : ∀ (j : Nat) t v, Tryd.f5.params[j]? = some t → args[j]? = some v → Value.okWide Tryd.prog W .any base t v := hval0
  have hW' := hW
  obtain ⟨p, q, hA0, hV, rfl, _, _⟩ := hW
  have hA : DataW.TrodAll enc Tryd.prog W 0 (fun _ => true) true Tryd.f5.params.toList args.toList ds p := hA0
  rw [Tryd.params5] at hA hval
  obtain ⟨v0, vs0, d0, ds0, p0, q0, hargs, rfl, rfl, h0, r0⟩ := trodAll_cons hA
  obtain ⟨v1, vs1, d1, ds1, p1, q1, rfl, rfl, rfl, h1, r1⟩ := trodAll_cons r0
  obtain ⟨v2, vs2, d2, ds2, p2, q2, rfl, rfl, rfl, h2, r2⟩ := trodAll_cons r1
  obtain ⟨rfl, rfl, rfl⟩ := trodAll_nil r2
  obtain rfl : args = #[v0, v1, v2] := by cases args; simp_all
  obtain ⟨rfl, rfl⟩ := trodVars_none hV
  obtain ⟨a0, rfl, rfl, rfl, w0⟩ := open_int Tryd.underlying3 (hval 0 3 v0 rfl rfl) h0
  obtain ⟨a1, rfl, rfl, rfl, w1⟩ := open_int Tryd.underlying3 (hval 1 3 v1 rfl rfl) h1
  have k2 := h2
  have lt2 : ∀ x ∈ p2, x.block < W.heap.size := by obtain ⟨m, hm⟩ := k2; exact DataW.trod_lt m _ _ _ hm
  obtain ⟨a2, b2, rfl, w2, u2⟩ := open_pair Tryd.underlying28 Tryd.underlying3 (by kernel_rfl) (by kernel_rfl) (hval 2 28 v2 rfl rfl) h2
  clear hA0 hval0
  refine (walk a0 a1 a2 b2 w0 w1 w2 u2 W (tabs_of hL)).mono fun e W' ⟨he, bel⟩ => ?_
  subst he
  exact ⟨_, rfl, _, _, _, [], _, [], hW', trodAll_mk1 (shut_bool Tryd.underlying4 _), (trodAll_cons_mk (shut_int Tryd.underlying3 w0) (trodAll_cons_mk (shut_int Tryd.underlying3 w1) (trodAll_cons_mk (Below.trod laidOut (by kernel_rfl) (of_decide_eq_true (by kernel_rfl)) k2 bel lt2) trodAll_mk0))), rfl, bel.frame _, fun h => by cases h⟩

theorem over : Rows.offsBackRow.holds Tryd.pinned (OpenSpec.ofChange Rows.offsBackSpec) :=
  OpenClaim.holds_of_wide 5 Tryd.f5 rfl rfl rfl rfl rfl rfl rfl ⟨rfl, rfl, rfl, rfl, rfl⟩ rfl rfl rfl rfl rfl (by kernel_rfl) Tryd.func5 (by kernel_rfl)
    (of_decide_eq_true (by kernel_rfl)) (by unfold Func.isWrapper; first | (rw [if_pos (by decide +kernel)]; kernel_rfl) | (rw [if_neg (by decide +kernel)]; exact ⟨rfl, rfl⟩))
    (fun os started H enc _ => lifted os started H enc)

theorem proved : Rows.OffsBackCardSaid :=
  Claim7.holds_tied_plain_at .later [] [.data, .data] true Rows.offsBackCard.stood.harness false
    over (fun _ h => by cases h) (by kernel_rfl) (fun _ h => by cases h) offsBack_row_tie rfl ⟨rfl, rfl⟩ (by kernel_rfl) rfl
    (fun f fn hf hfn => by
      obtain rfl : f = 5 := Option.some.inj ((show Tryd.prog.funcNamed Rows.offsBackRow.func = some 5 by kernel_rfl).symm.trans hf) |>.symm
      obtain rfl : fn = Tryd.f5 := (Option.some.inj (Tryd.func5.symm.trans hfn)).symm
      exact ⟨by kernel_rfl, fun j t ht => by
        rw [Tryd.params5] at ht
        have hm : t ∈ [3, 3, 28] := by simpa using Array.mem_of_getElem? ht
        have hall : ([3, 3, 28].all fun u => !Tryd.prog.wantsStandIn u) = true := by kernel_rfl
        exact (show Tryd.prog.wantsStandIn t = false by simpa using List.all_eq_true.1 hall t hm)⟩)
    (by kernel_rfl)
end Go.Proofs.YtioeoiginimjhaaDoor.offsBack
