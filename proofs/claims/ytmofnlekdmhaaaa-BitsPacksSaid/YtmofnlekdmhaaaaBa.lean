/- The chapter's examples hold of the program: awake answers true, and nothing that was there is changed. -/
import Derived.Test.YtmofnlekdmhaaaaBv
import Derived.Test.YtmofnlekdmhaaaaBx
import Derived.Test.YtmofnlekdmhaaaaBy
namespace Go.Proofs.Ytmofnlekdmhaaaa
open Go.ChangeShapes Go.WideShapes Go.ChangeAt Go.RowKit

theorem IntsAt.new_ (w : World) (xs : List Int) : IntsAt (w.alloc (.cells (Pm.ints xs).toArray 3)) (w.heap.size + 1) (some ⟨w.heap.size, 0, none⟩) xs := by
  refine .inr ⟨w.heap.size, 0, rfl, by omega, fun j hj => ?_⟩
  have hb := heap_alloc_new w (.cells (Pm.ints xs).toArray 3)
  have e2 : (Pm.ints xs)[j]? = some (.int .i64 (xs.getD j 0)) := by
    simp [Pm.ints, List.getD, List.getElem?_eq_getElem hj]
  rw [Nat.zero_add]
  simp only [World.cell?, hb]
  rw [← e2]
  simp

theorem IntsAt.more {w : World} {B B' : Nat} {A : Option Addr} {xs : List Int} (h : IntsAt w B A xs) (hB : B ≤ B') : IntsAt w B' A xs := by
  rcases h with h | ⟨b, off, h1, h2, h3⟩
  · exact .inl h
  · exact .inr ⟨b, off, h1, by omega, h3⟩

theorem pack_8193 (A : Option Addr) (c : Nat) (w : World) (hA : IntsAt w w.heap.size A [8193]) :
    Calls Try.prog 18 #[.slice A 1 c] w fun e w' => e = .returned (.string ⟨#[1, 32]⟩) ∧ Below w.heap.size w w' := by
  have h := pack_c A c [8193] w hA (by decide)
  have e : (Pm.packB [8193]).toArray = #[1, 32] := by decide
  rw [e] at h
  exact h

theorem unpack_3 (w : World) :
    Calls Try.prog 21 #[.string ⟨#[1, 32, 5]⟩] w fun e w' => ∃ A c, e = .returned (.slice A 2 c) ∧ IntsAt w' w'.heap.size A [8193, 5] ∧ Below w.heap.size w w' := by
  have h := unpack_c ⟨#[1, 32, 5]⟩ w (by decide)
  have e : Pm.unpackB (⟨#[1, 32, 5]⟩ : ByteArray).data.toList = [8193, 5] := by decide
  rw [e] at h
  exact h

theorem ints_2 (A A' : Option Addr) (c c' B : Nat) (w : World) (hA : IntsAt w B A [8193, 5]) (hA' : IntsAt w B A' [8193, 5]) :
    Calls Try.prog 20 #[.slice A 2 c, .slice A' 2 c'] w fun e w' => e = .returned (.bool true) ∧ ∃ n, w' = w.drewN n :=
  ints_c A A' c c' B [8193, 5] w hA hA' (by decide)

theorem get_ex (w : World) : Calls Try.prog 9 #[.int .u32 43981, .int .i64 11, .int .i64 4] w fun e w' => e = .returned (.int .u32 188) ∧ ∃ n, w' = w.drewN n := by
  have h := get_c 43981 11 4 w (by decide) (by decide)
  rw [show getI 43981 11 4 = 188 by decide +kernel] at h
  exact h
theorem sign_ex (w : World) : Calls Try.prog 14 #[.int .u32 255, .int .i64 8] w fun e w' => e = .returned (.int .i64 (-1)) ∧ ∃ n, w' = w.drewN n := by
  have h := sign_c 255 8 w (by decide) (by decide)
  rw [show signI 255 8 = -1 by decide +kernel] at h
  exact h
theorem put_ex (w : World) : Calls Try.prog 11 #[.int .u32 0, .int .i64 7, .int .i64 4, .int .u32 31] w fun e w' => e = .returned (.int .u32 240) ∧ ∃ n, w' = w.drewN n := by
  have h := put_c 0 7 4 31 w (by decide) (by decide) (by decide) (by decide)
  rw [show putI 0 7 4 31 = 240 by decide +kernel] at h
  exact h
theorem ror_ex (w : World) : Calls Try.prog 16 #[.int .u32 1, .int .i64 1] w fun e w' => e = .returned (.int .u32 2147483648) ∧ ∃ n, w' = w.drewN n := by
  have h := ror_c 1 1 w (by decide) (by decide)
  rw [show rorI 1 1 = 2147483648 by decide +kernel] at h
  exact h

theorem below_drewN {B n : Nat} {a w : World} (h : Below B a w) : Below B a (w.drewN n) := ⟨h.os, h.tape, h.output, h.size, h.block⟩

theorem awake_c (w : World) : Calls Try.prog 13 #[] w fun e w' => e = .returned (.bool true) ∧ Below w.heap.size w w' := by
  go_enter Try.func13, Try.ntmps13
  go_wp2_with fail
  refine (get_ex _).mono ?_
  rintro e w' ⟨rfl, n1, rfl⟩
  go_wp2_with fail
  refine (sign_ex _).mono ?_
  rintro e w' ⟨rfl, n2, rfl⟩
  go_wp2_with fail
  have hI : IntsAt ((w.drewN (n1 + n2)).alloc (.cells #[.int .i64 8193] 3)) ((w.drewN (n1 + n2)).alloc (.cells #[.int .i64 8193] 3)).heap.size (some ⟨w.heap.size, 0, none⟩) [8193] :=
    (IntsAt.new_ (w.drewN (n1 + n2)) [8193]).more (by simp)
  have hb0 : Below w.heap.size w ((w.drewN (n1 + n2)).alloc (.cells #[.int .i64 8193] 3)) := (below_drewN (Below.refl _ _)).alloc (Nat.le_refl _) _
  refine (pack_8193 _ _ _ hI).mono ?_
  clear hI
  rintro e w1 ⟨rfl, hb1⟩
  have hb2 : Below w.heap.size w w1 := hb0.trans (hb1.mono (by simp))
  clear hb0 hb1
  go_wp2_with fail
  refine (put_ex _).mono ?_
  rintro e w' ⟨rfl, n3, rfl⟩
  go_wp2_with fail
  refine (ror_ex _).mono ?_
  rintro e w' ⟨rfl, n4, rfl⟩
  go_wp2_with fail
  refine (unpack_3 _).mono ?_
  rintro e w2 ⟨A, c, rfl, hI, hb3⟩
  have hb4 : Below w.heap.size w w2 := (below_drewN (n := n3 + n4) hb2).trans (hb3.mono (by have := hb2.size; simpa using this))
  clear hb2 hb3
  have hs2 := hb4.size
  go_wp2_with fail
  refine (ints_2 _ _ _ _ (w2.alloc (.cells #[.int .i64 8193, .int .i64 5] 3)).heap.size _ ((hI.below ((Below.refl _ _).alloc (Nat.le_refl _) _) (Nat.le_refl _)).more (by simp)) ((IntsAt.new_ w2 [8193, 5]).more (by simp))).mono ?_
  rintro e w' ⟨rfl, n5, rfl⟩
  go_wp2
  go_ret
  exact ⟨rfl, below_drewN (hb4.alloc hs2 _)⟩
end Go.Proofs.Ytmofnlekdmhaaaa
