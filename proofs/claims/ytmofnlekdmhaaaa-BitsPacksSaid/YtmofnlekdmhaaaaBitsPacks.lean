/- For every list of numbers and every text BitsPacks returns true: Pack and Unpack answer what the document says. No conditions (of lists and texts beyond 100000 it asks the examples alone). -/
import Derived.Test.YtmofnlekdmhaaaaRows
import Derived.WalkKit
import Derived.ProofKit
import Derived.OpenShut
import Derived.ShutString
import Derived.Below
import Derived.Test.YtmofnlekdmhaaaaBa
import Derived.Test.YtmofnlekdmhaaaaAr
namespace Go.Proofs.Ytmofnlekdmhaaaa.bitsPacks
open Go.ChangeShapes Go.WideShapes Go.ChangeAt Go.RowKit
open Go.ChangeMaps (open_string shut_string)

theorem own : ownKnob Try.prog.godebug = none := by kernel_rfl
theorem laidOut : laidOutB Try.prog = true := by kernel_rfl

theorem big (A : Option Addr) (c : Nat) (xs : List Int) (s : ByteArray) (w : World) (h : 100000 < xs.length ∨ (xs.length ≤ 100000 ∧ 100000 < s.size)) :
    Calls Try.prog 5 #[.slice A xs.length c, .string s] w fun e w' => e = .returned (.bool true) ∧ Below w.heap.size w w' := by
  rcases h with h1 | ⟨h1, h2⟩
  all_goals
    go_enter Try.func5, Try.ntmps5
    go_wp2_with fail
    refine (awake_c _).mono ?_
    rintro e w' ⟨rfl, hbel⟩
    go_wp2
    go_ret
    exact ⟨rfl, hbel⟩

theorem walk (A : Option Addr) (c : Nat) (xs : List Int) (s : ByteArray) (w : World) (hA : IntsAt w w.heap.size A xs) :
    Calls Try.prog 5 #[.slice A xs.length c, .string s] w fun e w' => e = .returned (.bool true) ∧ Below w.heap.size w w' := by
  by_cases hbig : 100000 < xs.length ∨ (xs.length ≤ 100000 ∧ 100000 < s.size)
  · exact big A c xs s w hbig
  · have h1 : xs.length ≤ 100000 := by omega
    have h2 : s.size ≤ 100000 := by omega
    clear hbig
    have hu := Pm.unpackB_length s.data.toList
    have hu2 : s.data.toList.length = s.size := by simp
    have HU := Lib.hid (show (Pm.unpackB s.data.toList).length ≤ 100000 by omega)
    clear hu hu2
    go_enter Try.func5, Try.ntmps5
    go_wp2_with fail
    refine (pack_c A c xs _ hA (by omega)).mono ?_
    rintro e w1 ⟨rfl, hb1⟩
    have hs1 := hb1.size
    go_wp2_with fail
    refine (rpack_c A c xs _ ((hA.below hb1 (Nat.le_refl _)).more hs1) (by omega)).mono ?_
    rintro e w2 ⟨rfl, hb2⟩
    have hb3 := hb1.trans (hb2.mono hs1)
    have hs3 := hb3.size
    clear hb1 hb2 hs1
    go_wp2_with fail
    refine (unpack_c s _ (by omega)).mono ?_
    rintro e w3 ⟨A3, c3, rfl, hI3, hb4⟩
    have hb5 := hb3.trans (hb4.mono hs3)
    have hs5 := hb5.size
    clear hb4 hb3 hs3
    go_wp2_with fail
    refine (runpack_c s _ (by omega)).mono ?_
    rintro e w4 ⟨A4, c4, rfl, hI4, hb6⟩
    have hb7 := hb5.trans (hb6.mono hs5)
    have hs7 := hb7.size
    have hI5 := (hI3.below hb6 (Nat.le_refl _)).more hb6.size
    clear hb5 hb6 hs5 hI3
    go_wp2_with fail
    refine (ints_c _ _ _ _ _ _ _ hI5 hI4 (by have := HU.out; omega)).mono ?_
    rintro e w' ⟨rfl, n1, rfl⟩
    go_wp2_with fail
    refine (awake_c _).mono ?_
    rintro e w5 ⟨rfl, hb8⟩
    go_wp2
    go_ret
    exact ⟨rfl, (below_drewN hb7).trans (hb8.mono hs7)⟩

set_option maxRecDepth 100000 in
theorem lifted (os : Os) (started : os.Started) (H : Type) (enc : TypeId × Value → H) :
    ReturnsInHanded {} Try.checked os 5 .any (Rows.bitsPacksSpec.pre6 enc Try.prog Try.f5 Rows.bitsPacksRow.domain false) (Rows.bitsPacksSpec.post enc Try.prog Try.f5 false true false false) := by
  refine returnsInHanded_of_change (C := Try.checked) own started (by kernel_rfl) Try.func5
    (ChangeSpec.witness6 (enc := enc) (C := Try.checked) false ⟨#[], #[.slice none 0 0, .string ⟨#[]⟩], []⟩ 8 (by kernel_rfl) (by kernel_rfl) (by kernel_rfl) (by kernel_rfl)) ?_
  intro W base args ds gs before hval0 hW _ _
  have hval : ∀ (j : Nat) t v, Try.f5.params[j]? = some t → args[j]? = some v → Value.okWide Try.prog W .any base t v := hval0
  have hW' := hW
  obtain ⟨p, q, hA0, hV, rfl, _, _⟩ := hW
  have hA : DataW.TrodAll enc Try.prog W 0 (fun _ => true) true Try.f5.params.toList args.toList ds p := hA0
  rw [Try.params5] at hA hval
  obtain ⟨v0, vs0, d0, ds0, p0, q0, hargs, rfl, rfl, h0, r0⟩ := trodAll_cons hA
  obtain ⟨v1, vs1, d1, ds1, p1, q1, rfl, rfl, rfl, h1, r1⟩ := trodAll_cons r0
  obtain ⟨rfl, rfl, rfl⟩ := trodAll_nil r1
  obtain rfl : args = #[v0, v1] := by cases args; simp_all
  obtain ⟨rfl, rfl⟩ := trodVars_none hV
  obtain ⟨a0, len0, cap0, rfl⟩ := okWide_slice Try.underlying31 (hval 0 31 v0 rfl rfl)
  have k0 := h0
  have lt0 : ∀ x ∈ p0, x.block < W.heap.size := by obtain ⟨m, hm⟩ := k0; exact DataW.trod_lt m _ _ _ hm
  obtain ⟨z0, e0, i0⟩ := open_row Try.underlying31 Try.underlying3 (by kernel_rfl) h0
  subst e0
  obtain ⟨a1, rfl, rfl, rfl, w1⟩ := open_string Try.underlying9 (hval 1 9 v1 rfl rfl) h1
  clear hA0 hval0
  refine (walk a0 cap0 z0 a1 W i0).mono fun e W' ⟨he, bel⟩ => ?_
  subst he
  exact ⟨_, rfl, _, _, _, [], _, [], hW', trodAll_mk1 (shut_bool Try.underlying4 _), (trodAll_cons_mk (Below.trod laidOut (by kernel_rfl) (of_decide_eq_true (by kernel_rfl)) k0 bel lt0) (trodAll_cons_mk (shut_string Try.underlying9 w1) trodAll_mk0)), rfl, bel.frame _, fun h => by cases h⟩

theorem over : Rows.bitsPacksRow.holds Try.pinned (OpenSpec.ofChange Rows.bitsPacksSpec) :=
  OpenClaim.holds_of_wide 5 Try.f5 rfl rfl rfl rfl rfl rfl rfl ⟨rfl, rfl, rfl, rfl, rfl⟩ rfl rfl rfl rfl rfl (by kernel_rfl) Try.func5 (by kernel_rfl)
    (of_decide_eq_true (by kernel_rfl)) (by unfold Func.isWrapper; first | (rw [if_pos (by decide +kernel)]; kernel_rfl) | (rw [if_neg (by decide +kernel)]; exact ⟨rfl, rfl⟩))
    (fun os started H enc _ => lifted os started H enc)

theorem proved : Rows.BitsPacksSaid := over
end Go.Proofs.Ytmofnlekdmhaaaa.bitsPacks
