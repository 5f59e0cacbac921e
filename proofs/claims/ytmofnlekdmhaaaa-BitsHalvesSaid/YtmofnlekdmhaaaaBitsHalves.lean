/- For every list of numbers BitsHalves returns true: packed and unpacked they are the same halfwords, two bytes each. No conditions (of lists beyond 10000 numbers it asks the examples alone). -/
import Derived.Test.YtmofnlekdmhaaaaRows
import Derived.WalkKit
import Derived.ProofKit
import Derived.OpenShut
import Derived.Below
import Derived.Test.YtmofnlekdmhaaaaBa
import Derived.Test.YtmofnlekdmhaaaaAr
namespace Go.Proofs.Ytmofnlekdmhaaaa.bitsHalves
open Go.ChangeShapes Go.WideShapes Go.ChangeAt Go.RowKit

theorem own : ownKnob Try.prog.godebug = none := by kernel_rfl
theorem laidOut : laidOutB Try.prog = true := by kernel_rfl

theorem and_half (z : Int) : bits .and .i64 z 65535 = z % 65536 := by
  show IntKind.i64.wrap ((BitVec.ofInt 64 z &&& BitVec.ofInt 64 65535).toNat : Int) = _
  have h1 : (BitVec.ofInt 64 65535).toNat = 65535 := by decide
  rw [BitVec.toNat_and, h1, nat_mask16, BitVec.toNat_ofInt, IntKind.wrap_i64]
  omega

/-- the halfwords of the numbers -/
def low (l : List Int) : List Int := l.map (· % 65536)
theorem low_snoc (l : List Int) (k : Nat) (h : k < l.length) : low (l.take (k + 1)) = low (l.take k) ++ [l.getD k 0 % 65536] := by
  unfold low
  rw [Pm.take_snoc l k h]; simp
theorem low_length (l : List Int) : (low l).length = l.length := by simp [low]

theorem unpack_low (l : List Int) (w : World) (h : l.length ≤ 10000) :
    Calls Try.prog 21 #[.string ⟨(Pm.packB l).toArray⟩] w fun e w' => ∃ A c, e = .returned (.slice A (low l).length c) ∧ IntsAt w' w'.heap.size A (low l) ∧ Below w.heap.size w w' := by
  have hu := unpack_c ⟨(Pm.packB l).toArray⟩ w (by have := Pm.packB_length l; simp [ByteArray.size]; omega)
  have e : Pm.unpackB (⟨(Pm.packB l).toArray⟩ : ByteArray).data.toList = low l := by
    show Pm.unpackB (Pm.packB l).toArray.toList = low l
    rw [List.toList_toArray]; exact Pm.unpack_pack l
  rw [e] at hu
  exact hu

set_option maxHeartbeats 400000 in
theorem walk (A : Option Addr) (c : Nat) (xs : List Int) (w : World) (hA : IntsAt w w.heap.size A xs) :
    Calls Try.prog 8 #[.slice A xs.length c] w fun e w' => e = .returned (.bool true) ∧ Below w.heap.size w w' := by
  by_cases hbig : 10000 < xs.length
  · go_enter Try.func8, Try.ntmps8
    go_wp2_with fail
    refine (awake_c _).mono ?_
    rintro e w' ⟨rfl, hbel⟩
    go_wp2
    go_ret
    exact ⟨rfl, hbel⟩
  · obtain ⟨i0, hi, hz0, hz1, hz2⟩ := info_parts Try.info3
    go_enter Try.func8, Try.ntmps8
    go_wp2
    go_loopw [3, 4] (fun v i wr => ∃ k : Nat, k ≤ xs.length ∧ i = .int .i64 k ∧ wr.ownsRow w.heap.size 3 1 v (low (xs.take k)).length (Pm.ints (low (xs.take k))) ∧ Below w.heap.size w wr) (fun _ i _ => xs.length - (intOf i).toNat)
    case atStart => exact ⟨0, by omega, rfl, World.ownsRow_nil _ _ _ _, Below.refl _ _⟩
    case round =>
      obtain ⟨k, hk, rfl, hB, hbel⟩ := hrel
      have hsz := hbel.size
      by_cases hlt : k < xs.length
      · obtain ⟨b, off, rfl, hb, hc⟩ := (hA.below hbel (Nat.le_refl _)).at_ hlt
        have hE := low_snoc xs k hlt
        generalize xs.getD k 0 = z at *
        have hh := and_half z
        have hlen : (low (xs.take k)).length ≤ 10000 := by rw [low_length, List.length_take]; omega
        have e2 : (low (xs.take (k + 1))).length = (low (xs.take k)).length + 1 := by rw [hE]; simp
        have E1 := Lib.hid hE
        have E2 := Lib.hid e2
        clear e2 hE
        generalize low (xs.take k) = acc at *
        have hi0 : (0 : Int) ≤ (k : Int) := by omega
        have hi1 : (k : Int) < (xs.length : Int) := by omega
        go_wp2_with (at_builtin; refine wpList_append_own _ rfl _ _ 31 rfl w.heap.size 3 i0 (.int .i64 0) 1 8 Try.underlying31 hi hz0 hz1 hz2 rfl (by omega) u3 acc.length (Pm.ints acc) rfl (hB.alloc _) ⟨wr.heap.size, 0, none⟩ 1 1 [.int .i64 (z % 65536)] rfl rfl (World.news_of_block (cs := #[.int .i64 (z % 65536)]) (t := 3) (fr := (0, 0)) (heap_alloc_new wr _)) (by simp [Value.oneCell']) (by unfold maxLen; omega) (by omega) (by simp; omega) ?_; intro v' w1 hown1 hgrow _)
        go_roundw
        case rel =>
          refine ⟨k + 1, by omega, by go_num, ?_, (hbel.alloc hsz _).grown hgrow (by simp; omega) (fun j hj => (hB.lt j hj).1)⟩
          rw [E2.out, E1.out, ← Pm.ints_snoc]
          exact hown1
        case measure => simp [intOf]; omega
      · obtain rfl : k = xs.length := by omega
        rw [List.take_length] at hB
        obtain ⟨A2, c2, hv, hI2⟩ := IntsAt.of_own hB rfl
        subst hv
        have hlen1 := low_length xs
        have hlen2 := Pm.packB_length xs
        go_wp2_with fail
        refine (pack_c A c xs _ (hA.below hbel (Nat.le_refl _) |>.more hsz) (by omega)).mono ?_
        rintro e w1 ⟨rfl, hb1⟩
        have hbel1 : Below w.heap.size w w1 := hbel.trans (hb1.mono hsz)
        have hI3 := hI2.below hb1 (Nat.le_refl _)
        have hb1' := hb1.size
        clear hB hb1 hI2 hbel
        have HL := Lib.hid hlen1
        have HP := Lib.hid hlen2
        clear hlen1 hlen2
        have hlenB : (((Pm.packB xs).length : Int) == 2 * (xs.length : Int)) = true := by
          rw [HP.out]; simp
        go_wp2_with fail
        refine (unpack_low xs _ (by omega)).mono ?_
        rintro e w2 ⟨A3, c3, rfl, hI4, hb2⟩
        have hs1 := hbel1.size
        have hI5 := (hI3.below hb2 hb1').more (Nat.le_trans hb1' hb2.size)
        go_wp2_with fail
        refine (ints_c _ _ _ _ _ _ _ hI4 hI5 (by rw [HL.out]; omega)).mono ?_
        rintro e w' ⟨rfl, n1, rfl⟩
        go_wp2_with fail
        refine (awake_c _).mono ?_
        rintro e w3 ⟨rfl, hb3⟩
        go_wp2
        go_ret
        exact ⟨rfl, (below_drewN (hbel1.trans (hb2.mono hs1))).trans (hb3.mono (by have := hb2.size; simp; omega))⟩

set_option maxRecDepth 100000 in
theorem lifted (os : Os) (started : os.Started) (H : Type) (enc : TypeId × Value → H) :
    ReturnsInHanded {} Try.checked os 8 .any (Rows.bitsHalvesSpec.pre6 enc Try.prog Try.f8 Rows.bitsHalvesRow.domain false) (Rows.bitsHalvesSpec.post enc Try.prog Try.f8 false true false false) := by
  refine returnsInHanded_of_change (C := Try.checked) own started (by kernel_rfl) Try.func8
    (ChangeSpec.witness6 (enc := enc) (C := Try.checked) false ⟨#[], #[.slice none 0 0], []⟩ 8 (by kernel_rfl) (by kernel_rfl) (by kernel_rfl) (by kernel_rfl)) ?_
  intro W base args ds gs before hval0 hW _ _
  have hval : ∀ (j : Nat) t v, Try.f8.params[j]? = some t → args[j]? = some v → Value.okWide Try.prog W .any base t v := hval0
  have hW' := hW
  obtain ⟨p, q, hA0, hV, rfl, _, _⟩ := hW
  have hA : DataW.TrodAll enc Try.prog W 0 (fun _ => true) true Try.f8.params.toList args.toList ds p := hA0
  rw [Try.params8] at hA hval
  obtain ⟨v0, vs0, d0, ds0, p0, q0, hargs, rfl, rfl, h0, r0⟩ := trodAll_cons hA
  obtain ⟨rfl, rfl, rfl⟩ := trodAll_nil r0
  obtain rfl : args = #[v0] := by cases args; simp_all
  obtain ⟨rfl, rfl⟩ := trodVars_none hV
  obtain ⟨a0, len0, cap0, rfl⟩ := okWide_slice Try.underlying31 (hval 0 31 v0 rfl rfl)
  have k0 := h0
  have lt0 : ∀ x ∈ p0, x.block < W.heap.size := by obtain ⟨m, hm⟩ := k0; exact DataW.trod_lt m _ _ _ hm
  obtain ⟨z0, e0, i0⟩ := open_row Try.underlying31 Try.underlying3 (by kernel_rfl) h0
  subst e0
  clear hA0 hval0
  refine (walk a0 cap0 z0 W i0).mono fun e W' ⟨he, bel⟩ => ?_
  subst he
  exact ⟨_, rfl, _, _, _, [], _, [], hW', trodAll_mk1 (shut_bool Try.underlying4 _), (trodAll_cons_mk (Below.trod laidOut (by kernel_rfl) (of_decide_eq_true (by kernel_rfl)) k0 bel lt0) trodAll_mk0), rfl, bel.frame _, fun h => by cases h⟩

theorem over : Rows.bitsHalvesRow.holds Try.pinned (OpenSpec.ofChange Rows.bitsHalvesSpec) :=
  OpenClaim.holds_of_wide 8 Try.f8 rfl rfl rfl rfl rfl rfl rfl ⟨rfl, rfl, rfl, rfl, rfl⟩ rfl rfl rfl rfl rfl (by kernel_rfl) Try.func8 (by kernel_rfl)
    (of_decide_eq_true (by kernel_rfl)) (by unfold Func.isWrapper; first | (rw [if_pos (by decide +kernel)]; kernel_rfl) | (rw [if_neg (by decide +kernel)]; exact ⟨rfl, rfl⟩))
    (fun os started H enc _ => lifted os started H enc)

theorem proved : Rows.BitsHalvesSaid := over
end Go.Proofs.Ytmofnlekdmhaaaa.bitsHalves
