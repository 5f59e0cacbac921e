/- Contract of Check. -/
import Derived.Test.YtdcnkmkaafimlaaDoorRows
import Derived.Test.YtdcnkmkaafimlaaDoorGd
import Derived.Test.YtdcnkmkaafimlaaDoorGi
import Derived.Test.YtdcnkmkaafimlaaDoorIl
namespace Go.Proofs.YtdcnkmkaafimlaaDoor
open Go.ChangeShapes Go.WideShapes Go.ChangeAt Go.RowKit

def Good (f : Im.F) : Prop := (f.step = 0 ∨ f.step = 1 ∨ f.step = 2) ∧ (f.list = 0 ∨ f.list = 24575 ∨ f.list = 57343)
theorem if_good {c : Prop} [Decidable c] {a b : Im.F} (ha : Good a) (hb : Good b) : Good (if c then a else b) := by split <;> assumption
theorem fields_good (op mode : Int) (s : Bool) : Good (Im.fieldsI op mode s) := by
  unfold Im.fieldsI
  repeat' apply if_good
  all_goals exact ⟨by decide, by decide⟩
theorem step_is (op mode : Int) (s : Bool) : (Im.fieldsI op mode s).step = 0 ∨ (Im.fieldsI op mode s).step = 1 ∨ (Im.fieldsI op mode s).step = 2 := (fields_good op mode s).1
theorem lists_are (op mode : Int) (s : Bool) : (Im.fieldsI op mode s).list = 0 ∨ (Im.fieldsI op mode s).list = 24575 ∨ (Im.fieldsI op mode s).list = 57343 := (fields_good op mode s).2
theorem one_bd {set r : Int} (h : Im.oneB set r = true) (hs : (set == 0) = false) : 0 ≤ r ∧ r ≤ 15 := by
  unfold Im.oneB at h
  rw [if_neg (by simpa using hs)] at h
  simp only [Bool.and_eq_true, decide_eq_true_eq] at h
  exact h.1

theorem fields_x (op cond rd rn rm imm mode list : Int) (s : Bool) (f0 f1 f2 f3 f4 f5 f6 f7 : Int) (w : World) (h : 1 ≤ op ∧ op ≤ 45) (hf : Im.fieldsI op mode s = ⟨f0, f1, f2, f3, f4, f5, f6, f7⟩) :
    Calls Tryd.prog 41 #[.agg #[.int .i64 op, .int .i64 cond, .int .i64 rd, .int .i64 rn, .int .i64 rm, .int .i64 imm, .int .i64 mode, .int .i64 list, .bool s]] w fun e w' => e = .returned (.tuple #[.agg #[.int .i64 f0, .int .i64 f1, .int .i64 f2, .int .i64 f3, .int .i64 f4, .int .i64 f5, .int .i64 f6, .int .i64 f7], .bool true]) ∧ Below w.heap.size w w' := by
  have h' := fields_c op cond rd rn rm imm mode list s w h
  rw [hf] at h'
  exact h'

/-- W is a world behind w in which the instruction lies at b, the fields at c -/
structure At (w : World) (b c : Nat) (op cond rd rn rm imm mode list : Int) (s : Bool) (f0 f1 f2 f3 f4 f5 f6 f7 : Int) (W : World) : Prop where
  bel : Below w.heap.size w W
  i0 : W.cell? ⟨b, 0, none⟩ = some (.int .i64 op)
  i1 : W.cell? ⟨b, 1, none⟩ = some (.int .i64 cond)
  i2 : W.cell? ⟨b, 2, none⟩ = some (.int .i64 rd)
  i3 : W.cell? ⟨b, 3, none⟩ = some (.int .i64 rn)
  i4 : W.cell? ⟨b, 4, none⟩ = some (.int .i64 rm)
  i5 : W.cell? ⟨b, 5, none⟩ = some (.int .i64 imm)
  i6 : W.cell? ⟨b, 6, none⟩ = some (.int .i64 mode)
  i7 : W.cell? ⟨b, 7, none⟩ = some (.int .i64 list)
  i8 : W.cell? ⟨b, 8, none⟩ = some (.bool s)
  g0 : W.cell? ⟨c, 0, none⟩ = some (.int .i64 f0)
  g1 : W.cell? ⟨c, 1, none⟩ = some (.int .i64 f1)
  g2 : W.cell? ⟨c, 2, none⟩ = some (.int .i64 f2)
  g3 : W.cell? ⟨c, 3, none⟩ = some (.int .i64 f3)
  g4 : W.cell? ⟨c, 4, none⟩ = some (.int .i64 f4)
  g5 : W.cell? ⟨c, 5, none⟩ = some (.int .i64 f5)
  g6 : W.cell? ⟨c, 6, none⟩ = some (.int .i64 f6)
  g7 : W.cell? ⟨c, 7, none⟩ = some (.int .i64 f7)
  lb : b < W.heap.size
  lc : c < W.heap.size
theorem At.step {w W W' : World} {b c : Nat} {op cond rd rn rm imm mode list : Int} {s : Bool} {f0 f1 f2 f3 f4 f5 f6 f7 : Int} (h : At w b c op cond rd rn rm imm mode list s f0 f1 f2 f3 f4 f5 f6 f7 W) (hb : Below W.heap.size W W') : At w b c op cond rd rn rm imm mode list s f0 f1 f2 f3 f4 f5 f6 f7 W' :=
  ⟨h.bel.trans (hb.mono h.bel.size), (hb.cell h.lb).trans h.i0, (hb.cell h.lb).trans h.i1, (hb.cell h.lb).trans h.i2, (hb.cell h.lb).trans h.i3, (hb.cell h.lb).trans h.i4, (hb.cell h.lb).trans h.i5, (hb.cell h.lb).trans h.i6, (hb.cell h.lb).trans h.i7, (hb.cell h.lb).trans h.i8, (hb.cell h.lc).trans h.g0, (hb.cell h.lc).trans h.g1, (hb.cell h.lc).trans h.g2, (hb.cell h.lc).trans h.g3, (hb.cell h.lc).trans h.g4, (hb.cell h.lc).trans h.g5, (hb.cell h.lc).trans h.g6, (hb.cell h.lc).trans h.g7, Nat.lt_of_lt_of_le h.lb hb.size, Nat.lt_of_lt_of_le h.lc hb.size⟩
theorem At.start (op cond rd rn rm imm mode list : Int) (s : Bool) (f0 f1 f2 f3 f4 f5 f6 f7 : Int) (w w1 : World) (t t' : TypeId) (hb : Below (w.alloc (.cells #[.int .i64 op, .int .i64 cond, .int .i64 rd, .int .i64 rn, .int .i64 rm, .int .i64 imm, .int .i64 mode, .int .i64 list, .bool s] t)).heap.size (w.alloc (.cells #[.int .i64 op, .int .i64 cond, .int .i64 rd, .int .i64 rn, .int .i64 rm, .int .i64 imm, .int .i64 mode, .int .i64 list, .bool s] t)) w1) :
    At w w.heap.size w1.heap.size op cond rd rn rm imm mode list s f0 f1 f2 f3 f4 f5 f6 f7 (w1.alloc (.cells #[.int .i64 f0, .int .i64 f1, .int .i64 f2, .int .i64 f3, .int .i64 f4, .int .i64 f5, .int .i64 f6, .int .i64 f7] t')) := by
  have hs := hb.size
  simp at hs
  have hc : ∀ j, (w1.alloc (.cells #[.int .i64 f0, .int .i64 f1, .int .i64 f2, .int .i64 f3, .int .i64 f4, .int .i64 f5, .int .i64 f6, .int .i64 f7] t')).cell? ⟨w.heap.size, j, none⟩ = (#[.int .i64 op, .int .i64 cond, .int .i64 rd, .int .i64 rn, .int .i64 rm, .int .i64 imm, .int .i64 mode, .int .i64 list, .bool s] : Array Value)[j]? := by
    intro j
    have h1 := (Below.refl w1.heap.size w1).alloc (Nat.le_refl _) (.cells #[.int .i64 f0, .int .i64 f1, .int .i64 f2, .int .i64 f3, .int .i64 f4, .int .i64 f5, .int .i64 f6, .int .i64 f7] t')
    refine (h1.cell (p := ⟨w.heap.size, j, none⟩) (by show w.heap.size < w1.heap.size; omega)).trans ?_
    refine (hb.cell (p := ⟨w.heap.size, j, none⟩) (by simp)).trans ?_
    exact World.cell?_alloc_new w _ t j
  exact ⟨((one_below w _).trans (hb.mono (by simp))).trans ((one_below w1 _).mono (by omega)), hc 0, hc 1, hc 2, hc 3, hc 4, hc 5, hc 6, hc 7, hc 8, World.cell?_alloc_new w1 _ t' 0, World.cell?_alloc_new w1 _ t' 1, World.cell?_alloc_new w1 _ t' 2, World.cell?_alloc_new w1 _ t' 3, World.cell?_alloc_new w1 _ t' 4, World.cell?_alloc_new w1 _ t' 5, World.cell?_alloc_new w1 _ t' 6, World.cell?_alloc_new w1 _ t' 7, by simp; omega, by simp⟩

theorem check_no (op cond rd rn rm imm mode list : Int) (s : Bool) (w : World) (h : ¬ (1 ≤ op ∧ op ≤ 45)) :
    Calls Tryd.prog 25 #[.agg #[.int .i64 op, .int .i64 cond, .int .i64 rd, .int .i64 rn, .int .i64 rm, .int .i64 imm, .int .i64 mode, .int .i64 list, .bool s]] w fun e w' => e = .returned (.int .i64 6) ∧ Below w.heap.size w w' := by
  go_enter Tryd.func25, Tryd.ntmps25
  go_wp2_with fail
  refine (fields_no op cond rd rn rm imm mode list s _ h).mono ?_
  rintro e w1 ⟨rfl, hb⟩
  have hbel := (one_below w _).trans (hb.mono (by simp))
  clear hb
  simp only [FV]
  go_wp2
  go_ret
  exact ⟨rfl, hbel.alloc hbel.size _⟩

set_option maxHeartbeats 1000000 in
theorem check_yes (op cond rd rn rm imm mode list : Int) (s : Bool) (f0 f1 f2 f3 f4 f5 f6 f7 : Int) (w : World) (h : 1 ≤ op ∧ op ≤ 45) (hf : Im.fieldsI op mode s = ⟨f0, f1, f2, f3, f4, f5, f6, f7⟩) :
    Calls Tryd.prog 25 #[.agg #[.int .i64 op, .int .i64 cond, .int .i64 rd, .int .i64 rn, .int .i64 rm, .int .i64 imm, .int .i64 mode, .int .i64 list, .bool s]] w fun e w' => e = .returned (.int .i64 (Im.errI (Im.checkB op cond rd rn rm imm mode list s))) ∧ Below w.heap.size w w' := by
  have e0 : Im.checkB op cond rd rn rm imm mode list s = ((Im.oneB f0 rd && Im.oneB f1 rn) && Im.lastB ⟨f0, f1, f2, f3, f4, f5, f6, f7⟩ mode imm rm && Im.listB ⟨f0, f1, f2, f3, f4, f5, f6, f7⟩ rn list && Im.condB op cond imm && !(s && !Im.setsB op)) := by
    unfold Im.checkB; rw [hf, decide_eq_true h]; simp
  have hst := step_is op mode s
  have hls := lists_are op mode s
  rw [hf] at hst hls
  rw [e0]
  clear e0
  have HST := Lib.hid hst
  have HLS := Lib.hid hls
  have HF := Lib.hid hf
  have HH := Lib.hid h
  clear hst hls hf h
  go_enter Tryd.func25, Tryd.ntmps25
  go_wp2_with fail
  refine (fields_x op cond rd rn rm imm mode list s f0 f1 f2 f3 f4 f5 f6 f7 _ HH.out HF.out).mono ?_
  rintro e w1 ⟨rfl, hb⟩
  have hA := At.start op cond rd rn rm imm mode list s f0 f1 f2 f3 f4 f5 f6 f7 w w1 _ 51 hb
  clear hb
  have HA := Lib.hid hA
  obtain ⟨bel, i0, i1, i2, i3, i4, i5, i6, i7, i8, g0, g1, g2, g3, g4, g5, g6, g7, lb, lc⟩ := hA
  go_wp2_with fail
  clear bel i0 i1 i2 i3 i4 i5 i6 i7 i8 g0 g1 g2 g3 g4 g5 g6 g7 lb lc
  refine (regs_c f0 f1 f2 f3 f4 f5 f6 f7 op cond rd rn rm imm mode list s _).mono ?_
  rintro e w2 ⟨rfl, hb⟩
  have H2 := Lib.hid (HA.out.step hb)
  clear hb HA
  cases hR : (Im.oneB f0 rd && Im.oneB f1 rn) with
  | false =>
    go_wp2
    go_ret
    exact ⟨ret_int (by rw [hR]; rfl), H2.out.bel⟩
  | true =>
    have hn : (f1 == 0) = false → 0 ≤ rn ∧ rn ≤ 15 := fun h => one_bd (by rw [Bool.and_eq_true] at hR; exact hR.2) h
    have HN := Lib.hid hn
    clear hn
    obtain ⟨bel, i0, i1, i2, i3, i4, i5, i6, i7, i8, g0, g1, g2, g3, g4, g5, g6, g7, lb, lc⟩ := H2.out
    go_wp2_with fail
    clear bel i0 i1 i2 i3 i4 i5 i6 i7 i8 g0 g1 g2 g3 g4 g5 g6 g7 lb lc
    refine (last_c ⟨f0, f1, f2, f3, f4, f5, f6, f7⟩ op cond rd rn rm imm mode list s _ HST.out).mono ?_
    rintro e w3 ⟨rfl, hb⟩
    have H3 := Lib.hid (H2.out.step hb)
    clear hb H2
    cases hS : Im.lastB ⟨f0, f1, f2, f3, f4, f5, f6, f7⟩ mode imm rm with
    | false =>
      go_wp2
      go_ret
      exact ⟨ret_int (by rw [hR, hS]; rfl), H3.out.bel⟩
    | true =>
      obtain ⟨bel, i0, i1, i2, i3, i4, i5, i6, i7, i8, g0, g1, g2, g3, g4, g5, g6, g7, lb, lc⟩ := H3.out
      go_wp2_with fail
      clear bel i0 i1 i2 i3 i4 i5 i6 i7 i8 g0 g1 g2 g3 g4 g5 g6 g7 lb lc
      refine (list_c ⟨f0, f1, f2, f3, f4, f5, f6, f7⟩ op cond rd rn rm imm mode list s _ HLS.out HN.out).mono ?_
      rintro e w4 ⟨rfl, hb⟩
      have H4 := Lib.hid (H3.out.step hb)
      clear hb H3
      cases hT : Im.listB ⟨f0, f1, f2, f3, f4, f5, f6, f7⟩ rn list with
      | false =>
        go_wp2
        go_ret
        exact ⟨ret_int (by rw [hR, hS, hT]; rfl), H4.out.bel⟩
      | true =>
        obtain ⟨bel, i0, i1, i2, i3, i4, i5, i6, i7, i8, g0, g1, g2, g3, g4, g5, g6, g7, lb, lc⟩ := H4.out
        go_wp2_with fail
        clear bel i0 i1 i2 i3 i4 i5 i6 i7 i8 g0 g1 g2 g3 g4 g5 g6 g7 lb lc
        refine (takes_c op cond rd rn rm imm mode list s _).mono ?_
        rintro e w5 ⟨rfl, hb⟩
        have H5 := Lib.hid (H4.out.step hb)
        clear hb H4
        cases hU : Im.condB op cond imm with
        | false =>
          go_wp2
          go_ret
          exact ⟨ret_int (by rw [hR, hS, hT, hU]; rfl), H5.out.bel⟩
        | true =>
          obtain ⟨bel, i0, i1, i2, i3, i4, i5, i6, i7, i8, g0, g1, g2, g3, g4, g5, g6, g7, lb, lc⟩ := H5.out
          cases s with
          | false =>
            go_wp2
            go_ret
            exact ⟨ret_int (by rw [hR, hS, hT, hU]; rfl), H5.out.bel⟩
          | true =>
            go_wp2_with fail
            refine (sets_c op _).mono ?_
            rintro e w6 ⟨rfl, n, rfl⟩
            clear bel i0 i1 i2 i3 i4 i5 i6 i7 i8 g0 g1 g2 g3 g4 g5 g6 g7 lb lc
            cases hV : Im.setsB op with
            | false =>
              go_wp2
              go_ret
              exact ⟨ret_int (by rw [hR, hS, hT, hU, hV]; rfl), below_drewN H5.out.bel _⟩
            | true =>
              go_wp2
              go_ret
              exact ⟨ret_int (by rw [hR, hS, hT, hU, hV]; rfl), below_drewN H5.out.bel _⟩

theorem check_c (op cond rd rn rm imm mode list : Int) (s : Bool) (w : World) :
    Calls Tryd.prog 25 #[.agg #[.int .i64 op, .int .i64 cond, .int .i64 rd, .int .i64 rn, .int .i64 rm, .int .i64 imm, .int .i64 mode, .int .i64 list, .bool s]] w fun e w' => e = .returned (.int .i64 (Im.errI (Im.checkB op cond rd rn rm imm mode list s))) ∧ Below w.heap.size w w' := by
  by_cases h : 1 ≤ op ∧ op ≤ 45
  · exact check_yes op cond rd rn rm imm mode list s _ _ _ _ _ _ _ _ w h rfl
  · rw [show Im.checkB op cond rd rn rm imm mode list s = false by unfold Im.checkB; rw [decide_eq_false h]; simp]
    exact check_no op cond rd rn rm imm mode list s w h
end Go.Proofs.YtdcnkmkaafimlaaDoor
