/- Contracts of encode's firstOf over one width and over two: the halfwords of the first width that has some. No conditions but those that each fact names. -/
import Derived.Test.YtmofimgodmcdjaaDoorRows
import Derived.Test.YtmofimgodmcdjaaDoorCi
namespace Go.Proofs.YtmofimgodmcdjaaDoor
open Go.ChangeShapes Go.WideShapes Go.ChangeAt Go.RowKit
namespace Ew

/-- the answer of Encode and Best: a row's halfwords, or that there are none -/
def RowIs (l : List Int) (e : Ending) (w : World) : Prop :=
  (l.length = 0 ∧ e = .returned (.tuple #[.slice none 0 0, .int .i64 6])) ∨ (0 < l.length ∧ ∃ A c, e = .returned (.tuple #[.slice A l.length c, .int .i64 0]) ∧ IntsAt w w.heap.size A l)

/-- what is called at each width answers the width's row -/
def Tries (pi pt : Value) (L : Bool → List Int) (w : World) : Prop :=
  ∀ (b : Bool) (W : World), Below w.heap.size w W → Calls Tryd.prog 10 #[.bool b, pi, pt] W fun e w' => (∃ A c, e = .returned (.slice A (L b).length c) ∧ IntsAt w' w'.heap.size A (L b)) ∧ Below W.heap.size W w'

theorem first1_c (pi pt : Value) (L : Bool → List Int) (b : Bool) (g c : Nat) (w : World) (h0 : w.cell? ⟨g, 0, none⟩ = some (.bool b)) (hC : Tries pi pt L w) :
    Calls Tryd.prog 7 #[.func (.func 10) #[] #[pi, pt], .slice (some ⟨g, 0, none⟩) 1 c] w fun e w' => RowIs (L b) e w' ∧ Below w.heap.size w w' := by
  replace hC := Lib.hid (hC b w (Below.refl _ _))
  generalize L b = l at *
  obtain ⟨n, hn⟩ : ∃ n, l.length = n := ⟨_, rfl⟩
  by_cases hz : n = 0
  · subst hz
    rw [hn] at hC
    go_enter Tryd.func7, Tryd.ntmps7
    go_wp2
    refine wp_loop_rounds 2 ?_
    rw [rounds_succ]
    go_wp2_with (go_at_call 10; refine hC.out.mono ?_; rintro e w1 ⟨⟨A, c1, rfl, hI⟩, hb⟩)
    rw [rounds_succ]
    go_wp2
    refine bodyPost_ret (v := .tuple #[.slice none 0 0, .int .i64 6]) (by simp [results, Tryd.results7, go_sem]) rfl ?_
    exact ⟨.inl ⟨hn, rfl⟩, hb⟩
  · rw [hn] at hC
    have hpos : (0 : Int) < (n : Int) := by omega
    go_enter Tryd.func7, Tryd.ntmps7
    go_wp2
    refine wp_loop_rounds 2 ?_
    rw [rounds_succ]
    go_wp2_with (go_at_call 10; refine hC.out.mono ?_; rintro e w1 ⟨⟨A, c1, rfl, hI⟩, hb⟩)
    refine bodyPost_ret (v := .tuple #[.slice A n c1, .int .i64 0]) (by simp [results, Tryd.results7, go_sem]) rfl ?_
    exact ⟨.inr ⟨by omega, A, c1, by rw [hn], hI⟩, hb⟩

theorem first2_c (pi pt : Value) (L : Bool → List Int) (g c : Nat) (w : World) (hg : g < w.heap.size) (h0 : w.cell? ⟨g, 0, none⟩ = some (.bool false)) (h1 : w.cell? ⟨g, 1, none⟩ = some (.bool true)) (hC : Tries pi pt L w) :
    Calls Tryd.prog 7 #[.func (.func 10) #[] #[pi, pt], .slice (some ⟨g, 0, none⟩) 2 c] w fun e w' => RowIs (if (L false).length = 0 then L true else L false) e w' ∧ Below w.heap.size w w' := by
  have hF := Lib.hid (hC false w (Below.refl _ _))
  have hT := Lib.hid (hC true)
  clear hC
  generalize L false = l at *
  generalize L true = r at *
  obtain ⟨n, hn⟩ : ∃ n, l.length = n := ⟨_, rfl⟩
  obtain ⟨m, hm⟩ : ∃ m, r.length = m := ⟨_, rfl⟩
  rw [hn] at hF
  rw [hm] at hT
  by_cases hz : n = 0
  · subst hz
    rw [if_pos hn]
    by_cases hy : m = 0
    · subst hy
      go_enter Tryd.func7, Tryd.ntmps7
      go_wp2
      refine wp_loop_rounds 3 ?_
      rw [rounds_succ]
      go_wp2_with (go_at_call 10; refine hF.out.mono ?_; rintro e w1 ⟨⟨A, c1, rfl, hI⟩, hb⟩)
      have h1' := (hb.cell (p := ⟨g, 1, none⟩) hg).trans h1
      have hT' := Lib.hid (hT.out w1 hb)
      rw [rounds_succ]
      go_wp2_with (go_at_call 10; refine hT'.out.mono ?_; rintro e w2 ⟨⟨A2, c2, rfl, hI2⟩, hb2⟩)
      rw [rounds_succ]
      go_wp2
      refine bodyPost_ret (v := .tuple #[.slice none 0 0, .int .i64 6]) (by simp [results, Tryd.results7, go_sem]) rfl ?_
      exact ⟨.inl ⟨hm, rfl⟩, hb.trans (hb2.mono hb.size)⟩
    · have hpos : (0 : Int) < (m : Int) := by omega
      go_enter Tryd.func7, Tryd.ntmps7
      go_wp2
      refine wp_loop_rounds 3 ?_
      rw [rounds_succ]
      go_wp2_with (go_at_call 10; refine hF.out.mono ?_; rintro e w1 ⟨⟨A, c1, rfl, hI⟩, hb⟩)
      have h1' := (hb.cell (p := ⟨g, 1, none⟩) hg).trans h1
      have hT' := Lib.hid (hT.out w1 hb)
      rw [rounds_succ]
      go_wp2_with (go_at_call 10; refine hT'.out.mono ?_; rintro e w2 ⟨⟨A2, c2, rfl, hI2⟩, hb2⟩)
      refine bodyPost_ret (v := .tuple #[.slice A2 m c2, .int .i64 0]) (by simp [results, Tryd.results7, go_sem]) rfl ?_
      exact ⟨.inr ⟨by omega, A2, c2, by rw [hm], hI2⟩, hb.trans (hb2.mono hb.size)⟩
  · rw [if_neg (by omega)]
    have hpos : (0 : Int) < (n : Int) := by omega
    go_enter Tryd.func7, Tryd.ntmps7
    go_wp2
    refine wp_loop_rounds 3 ?_
    rw [rounds_succ]
    go_wp2_with (go_at_call 10; refine hF.out.mono ?_; rintro e w1 ⟨⟨A, c1, rfl, hI⟩, hb⟩)
    refine bodyPost_ret (v := .tuple #[.slice A n c1, .int .i64 0]) (by simp [results, Tryd.results7, go_sem]) rfl ?_
    exact ⟨.inr ⟨by omega, A, c1, by rw [hn], hI⟩, hb⟩
end Ew
end Go.Proofs.YtmofimgodmcdjaaDoor
