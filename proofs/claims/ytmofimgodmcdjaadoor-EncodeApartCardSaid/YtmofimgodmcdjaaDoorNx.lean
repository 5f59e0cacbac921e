/- The forms read out of the table; Encode's search, plainly; the contract of fill for any form of the table. No conditions but those that each fact names. -/
import Derived.Test.YtmofimgodmcdjaaDoorRows
import Derived.Test.YtmofimgodmcdjaaDoorGh
import Derived.Test.YtmofimgodmcdjaaDoorNq
import Derived.Test.YtmofimgodmcdjaaDoorIc
namespace Go.Proofs.YtmofimgodmcdjaaDoor
open Go.ChangeShapes Go.WideShapes Go.ChangeAt Go.RowKit

theorem index_form_0 (w : World) : (Instr.index 66 (.agg formCells.toArray) (.int .i64 0)).run Tryd.prog w = .ok (.agg (fmC (formTab.getD 0 ⟨[], 0, [], 0⟩)).toArray) w := by kernel_rfl
theorem index_form_1 (w : World) : (Instr.index 66 (.agg formCells.toArray) (.int .i64 1)).run Tryd.prog w = .ok (.agg (fmC (formTab.getD 1 ⟨[], 0, [], 0⟩)).toArray) w := by kernel_rfl
theorem index_form_2 (w : World) : (Instr.index 66 (.agg formCells.toArray) (.int .i64 2)).run Tryd.prog w = .ok (.agg (fmC (formTab.getD 2 ⟨[], 0, [], 0⟩)).toArray) w := by kernel_rfl
theorem index_form_3 (w : World) : (Instr.index 66 (.agg formCells.toArray) (.int .i64 3)).run Tryd.prog w = .ok (.agg (fmC (formTab.getD 3 ⟨[], 0, [], 0⟩)).toArray) w := by kernel_rfl
theorem index_form_4 (w : World) : (Instr.index 66 (.agg formCells.toArray) (.int .i64 4)).run Tryd.prog w = .ok (.agg (fmC (formTab.getD 4 ⟨[], 0, [], 0⟩)).toArray) w := by kernel_rfl
theorem index_form_5 (w : World) : (Instr.index 66 (.agg formCells.toArray) (.int .i64 5)).run Tryd.prog w = .ok (.agg (fmC (formTab.getD 5 ⟨[], 0, [], 0⟩)).toArray) w := by kernel_rfl
theorem index_form_6 (w : World) : (Instr.index 66 (.agg formCells.toArray) (.int .i64 6)).run Tryd.prog w = .ok (.agg (fmC (formTab.getD 6 ⟨[], 0, [], 0⟩)).toArray) w := by kernel_rfl
theorem index_form_7 (w : World) : (Instr.index 66 (.agg formCells.toArray) (.int .i64 7)).run Tryd.prog w = .ok (.agg (fmC (formTab.getD 7 ⟨[], 0, [], 0⟩)).toArray) w := by kernel_rfl
theorem index_form_8 (w : World) : (Instr.index 66 (.agg formCells.toArray) (.int .i64 8)).run Tryd.prog w = .ok (.agg (fmC (formTab.getD 8 ⟨[], 0, [], 0⟩)).toArray) w := by kernel_rfl
theorem index_form_9 (w : World) : (Instr.index 66 (.agg formCells.toArray) (.int .i64 9)).run Tryd.prog w = .ok (.agg (fmC (formTab.getD 9 ⟨[], 0, [], 0⟩)).toArray) w := by kernel_rfl
theorem index_form_10 (w : World) : (Instr.index 66 (.agg formCells.toArray) (.int .i64 10)).run Tryd.prog w = .ok (.agg (fmC (formTab.getD 10 ⟨[], 0, [], 0⟩)).toArray) w := by kernel_rfl
theorem index_form_11 (w : World) : (Instr.index 66 (.agg formCells.toArray) (.int .i64 11)).run Tryd.prog w = .ok (.agg (fmC (formTab.getD 11 ⟨[], 0, [], 0⟩)).toArray) w := by kernel_rfl
theorem index_form_12 (w : World) : (Instr.index 66 (.agg formCells.toArray) (.int .i64 12)).run Tryd.prog w = .ok (.agg (fmC (formTab.getD 12 ⟨[], 0, [], 0⟩)).toArray) w := by kernel_rfl
theorem index_form_13 (w : World) : (Instr.index 66 (.agg formCells.toArray) (.int .i64 13)).run Tryd.prog w = .ok (.agg (fmC (formTab.getD 13 ⟨[], 0, [], 0⟩)).toArray) w := by kernel_rfl
theorem index_form_14 (w : World) : (Instr.index 66 (.agg formCells.toArray) (.int .i64 14)).run Tryd.prog w = .ok (.agg (fmC (formTab.getD 14 ⟨[], 0, [], 0⟩)).toArray) w := by kernel_rfl
theorem index_form_15 (w : World) : (Instr.index 66 (.agg formCells.toArray) (.int .i64 15)).run Tryd.prog w = .ok (.agg (fmC (formTab.getD 15 ⟨[], 0, [], 0⟩)).toArray) w := by kernel_rfl
theorem index_form_16 (w : World) : (Instr.index 66 (.agg formCells.toArray) (.int .i64 16)).run Tryd.prog w = .ok (.agg (fmC (formTab.getD 16 ⟨[], 0, [], 0⟩)).toArray) w := by kernel_rfl
theorem index_form_17 (w : World) : (Instr.index 66 (.agg formCells.toArray) (.int .i64 17)).run Tryd.prog w = .ok (.agg (fmC (formTab.getD 17 ⟨[], 0, [], 0⟩)).toArray) w := by kernel_rfl
theorem index_form_18 (w : World) : (Instr.index 66 (.agg formCells.toArray) (.int .i64 18)).run Tryd.prog w = .ok (.agg (fmC (formTab.getD 18 ⟨[], 0, [], 0⟩)).toArray) w := by kernel_rfl
theorem index_form_19 (w : World) : (Instr.index 66 (.agg formCells.toArray) (.int .i64 19)).run Tryd.prog w = .ok (.agg (fmC (formTab.getD 19 ⟨[], 0, [], 0⟩)).toArray) w := by kernel_rfl
theorem index_form_20 (w : World) : (Instr.index 66 (.agg formCells.toArray) (.int .i64 20)).run Tryd.prog w = .ok (.agg (fmC (formTab.getD 20 ⟨[], 0, [], 0⟩)).toArray) w := by kernel_rfl
theorem index_form_21 (w : World) : (Instr.index 66 (.agg formCells.toArray) (.int .i64 21)).run Tryd.prog w = .ok (.agg (fmC (formTab.getD 21 ⟨[], 0, [], 0⟩)).toArray) w := by kernel_rfl
theorem index_form_22 (w : World) : (Instr.index 66 (.agg formCells.toArray) (.int .i64 22)).run Tryd.prog w = .ok (.agg (fmC (formTab.getD 22 ⟨[], 0, [], 0⟩)).toArray) w := by kernel_rfl
theorem index_form_23 (w : World) : (Instr.index 66 (.agg formCells.toArray) (.int .i64 23)).run Tryd.prog w = .ok (.agg (fmC (formTab.getD 23 ⟨[], 0, [], 0⟩)).toArray) w := by kernel_rfl
theorem index_form_24 (w : World) : (Instr.index 66 (.agg formCells.toArray) (.int .i64 24)).run Tryd.prog w = .ok (.agg (fmC (formTab.getD 24 ⟨[], 0, [], 0⟩)).toArray) w := by kernel_rfl
theorem index_form_25 (w : World) : (Instr.index 66 (.agg formCells.toArray) (.int .i64 25)).run Tryd.prog w = .ok (.agg (fmC (formTab.getD 25 ⟨[], 0, [], 0⟩)).toArray) w := by kernel_rfl
theorem index_form_26 (w : World) : (Instr.index 66 (.agg formCells.toArray) (.int .i64 26)).run Tryd.prog w = .ok (.agg (fmC (formTab.getD 26 ⟨[], 0, [], 0⟩)).toArray) w := by kernel_rfl
theorem index_form_27 (w : World) : (Instr.index 66 (.agg formCells.toArray) (.int .i64 27)).run Tryd.prog w = .ok (.agg (fmC (formTab.getD 27 ⟨[], 0, [], 0⟩)).toArray) w := by kernel_rfl
theorem index_form_28 (w : World) : (Instr.index 66 (.agg formCells.toArray) (.int .i64 28)).run Tryd.prog w = .ok (.agg (fmC (formTab.getD 28 ⟨[], 0, [], 0⟩)).toArray) w := by kernel_rfl
theorem index_form_29 (w : World) : (Instr.index 66 (.agg formCells.toArray) (.int .i64 29)).run Tryd.prog w = .ok (.agg (fmC (formTab.getD 29 ⟨[], 0, [], 0⟩)).toArray) w := by kernel_rfl
theorem index_form_30 (w : World) : (Instr.index 66 (.agg formCells.toArray) (.int .i64 30)).run Tryd.prog w = .ok (.agg (fmC (formTab.getD 30 ⟨[], 0, [], 0⟩)).toArray) w := by kernel_rfl
theorem index_form_31 (w : World) : (Instr.index 66 (.agg formCells.toArray) (.int .i64 31)).run Tryd.prog w = .ok (.agg (fmC (formTab.getD 31 ⟨[], 0, [], 0⟩)).toArray) w := by kernel_rfl
theorem index_form_32 (w : World) : (Instr.index 66 (.agg formCells.toArray) (.int .i64 32)).run Tryd.prog w = .ok (.agg (fmC (formTab.getD 32 ⟨[], 0, [], 0⟩)).toArray) w := by kernel_rfl
theorem index_form : ∀ (k : Nat), k < 33 → ∀ w : World, (Instr.index 66 (.agg formCells.toArray) (.int .i64 (k : Int))).run Tryd.prog w = .ok (.agg (fmC (formTab.getD k ⟨[], 0, [], 0⟩)).toArray) w
  | 0, _, w => index_form_0 w
  | 1, _, w => index_form_1 w
  | 2, _, w => index_form_2 w
  | 3, _, w => index_form_3 w
  | 4, _, w => index_form_4 w
  | 5, _, w => index_form_5 w
  | 6, _, w => index_form_6 w
  | 7, _, w => index_form_7 w
  | 8, _, w => index_form_8 w
  | 9, _, w => index_form_9 w
  | 10, _, w => index_form_10 w
  | 11, _, w => index_form_11 w
  | 12, _, w => index_form_12 w
  | 13, _, w => index_form_13 w
  | 14, _, w => index_form_14 w
  | 15, _, w => index_form_15 w
  | 16, _, w => index_form_16 w
  | 17, _, w => index_form_17 w
  | 18, _, w => index_form_18 w
  | 19, _, w => index_form_19 w
  | 20, _, w => index_form_20 w
  | 21, _, w => index_form_21 w
  | 22, _, w => index_form_22 w
  | 23, _, w => index_form_23 w
  | 24, _, w => index_form_24 w
  | 25, _, w => index_form_25 w
  | 26, _, w => index_form_26 w
  | 27, _, w => index_form_27 w
  | 28, _, w => index_form_28 w
  | 29, _, w => index_form_29 w
  | 30, _, w => index_form_30 w
  | 31, _, w => index_form_31 w
  | 32, _, w => index_form_32 w
  | n + 33, h, _ => by omega

theorem underFm : Tryd.prog.underlying 65 = some (.struct (Tryd.prog.fieldsOf 65)) := by kernel_rfl
theorem infoFm : (Tryd.prog.info? 65).map (·.size) = some 30 := by kernel_rfl
/-- what the walk asks of a form -/
def fmOkB (f : Fm) : Bool := f.of_.length == 6 && (f.pcs.length == 4 && ((f.of_.all fun b => decide (0 ≤ b.2 ∧ b.2 < 65536)) && (f.pcs.all fun p => decide (0 ≤ p.f ∧ p.f < 7 ∧ 0 ≤ p.hi ∧ p.hi < 32 ∧ 0 ≤ p.lo ∧ p.lo < 32 ∧ 0 ≤ p.at_ ∧ p.at_ ≤ 32))))
theorem forms_ok : (formTab.all fmOkB) = true := by decide +kernel
theorem forms_len : formTab.length = 33 := rfl
theorem form_open (f : Fm) (h : fmOkB f = true) : ∃ (o0 o1 o2 o3 o4 o5 o6 o7 o8 o9 o10 o11 asks f0 t0 l0 a0 f1 t1 l1 a1 f2 t2 l2 a2 f3 t3 l3 a3 kd : Int), f = ⟨[(o0, o1), (o2, o3), (o4, o5), (o6, o7), (o8, o9), (o10, o11)], asks, [⟨f0, t0, l0, a0⟩, ⟨f1, t1, l1, a1⟩, ⟨f2, t2, l2, a2⟩, ⟨f3, t3, l3, a3⟩], kd⟩ ∧ (∀ b ∈ ([(o0, o1), (o2, o3), (o4, o5), (o6, o7), (o8, o9), (o10, o11)] : List (Int × Int)), 0 ≤ b.2 ∧ b.2 < 65536) ∧ (∀ p ∈ ([⟨f0, t0, l0, a0⟩, ⟨f1, t1, l1, a1⟩, ⟨f2, t2, l2, a2⟩, ⟨f3, t3, l3, a3⟩] : List Pc), PcOk p) := by
  obtain ⟨of_, asks, pcs, kd⟩ := f
  unfold fmOkB at h
  simp only [Bool.and_eq_true, beq_iff_eq] at h
  obtain ⟨h1, h2, h3, h4⟩ := h
  match of_, h1, pcs, h2 with
  | [(o0, o1), (o2, o3), (o4, o5), (o6, o7), (o8, o9), (o10, o11)], _, [⟨f0, t0, l0, a0⟩, ⟨f1, t1, l1, a1⟩, ⟨f2, t2, l2, a2⟩, ⟨f3, t3, l3, a3⟩], _ =>
    refine ⟨o0, o1, o2, o3, o4, o5, o6, o7, o8, o9, o10, o11, asks, f0, t0, l0, a0, f1, t1, l1, a1, f2, t2, l2, a2, f3, t3, l3, a3, kd, rfl, fun b hb => ?_, fun p hp => ?_⟩
    · have := List.all_eq_true.1 h3 b hb
      simpa using this
    · have := List.all_eq_true.1 h4 p hp
      simp only [decide_eq_true_eq] at this
      obtain ⟨q1, q2, q3, q4, q5, q6, q7, q8⟩ := this
      exact ⟨q1, q2, q3, q4, q5, q6, q7, q8⟩

theorem index_bg (o0 o1 o2 o3 o4 o5 o6 o7 o8 o9 o10 o11 : Int) (k : Nat) (hk : k < 6) (w : World) : (Instr.index 59 (.agg #[.int .i64 o0, .int .i64 o1, .int .i64 o2, .int .i64 o3, .int .i64 o4, .int .i64 o5, .int .i64 o6, .int .i64 o7, .int .i64 o8, .int .i64 o9, .int .i64 o10, .int .i64 o11]) (.int .i64 (k : Int))).run Tryd.prog w = .ok (.agg (bgC (([(o0, o1), (o2, o3), (o4, o5), (o6, o7), (o8, o9), (o10, o11)] : List (Int × Int)).getD k (0, 0))).toArray) w := by
  rcases (by omega : k = 0 ∨ k = 1 ∨ k = 2 ∨ k = 3 ∨ k = 4 ∨ k = 5) with rfl | rfl | rfl | rfl | rfl | rfl <;> kernel_rfl

/-- the fields behind all pieces of a form -/
def foldP (ps : List Pc) (hw : Int) (L : Nat → Int) : Int × (Nat → Int) := ps.foldl pcStep (hw, L)
def fillP (f : Fm) (hw cond rd rn rm imm list : Int) : Option Int := fillEnd (foldP f.pcs hw (fieldsF cond rd rn rm imm list)).1 (foldP f.pcs hw (fieldsF cond rd rn rm imm list)).2 f.kind imm
/-- of what a form is of, the first that fits -/
def innerP (f : Fm) (op cond rd rn rm imm list : Int) : List (Int × Int) → Option Int
  | [] => none
  | b :: r => if b.1 = op then (match fillP f b.2 cond rd rn rm imm list with
    | some h => some h
    | none => innerP f op cond rd rn rm imm list r) else innerP f op cond rd rn rm imm list r
def searchP (has op cond rd rn rm imm list : Int) : List Fm → Option Int
  | [] => none
  | f :: r => if bits .andNot .i64 f.asks has = 0 then (match innerP f op cond rd rn rm imm list f.of_ with
    | some h => some h
    | none => searchP has op cond rd rn rm imm list r) else searchP has op cond rd rn rm imm list r
def encP (op cond rd rn rm imm mode list : Int) (s it : Bool) : Option Int :=
  if Im.checkB op cond rd rn rm imm mode list s = true then searchP (traitsI cond rd rn rm mode s it) op cond rd rn rm imm list formTab else none

theorem fill_f (f : Fm) (hf : fmOkB f = true) (hw op cond rd rn rm imm mode list : Int) (s : Bool) (w : World) (hT : Tabs w) (hw0 : 0 ≤ hw) (hw1 : hw < 65536) :
    Calls Tryd.prog 19 #[.agg (fmC f).toArray, .int .i64 hw, .agg #[.int .i64 op, .int .i64 cond, .int .i64 rd, .int .i64 rn, .int .i64 rm, .int .i64 imm, .int .i64 mode, .int .i64 list, .bool s]] w fun e w' => e = .returned (optV (fillP f hw cond rd rn rm imm list)) ∧ Below w.heap.size w w' := by
  obtain ⟨o0, o1, o2, o3, o4, o5, o6, o7, o8, o9, o10, o11, asks, f0, t0, l0, a0, f1, t1, l1, a1, f2, t2, l2, a2, f3, t3, l3, a3, kd, rfl, h1, h2⟩ := form_open f hf
  exact fill_c o0 o1 o2 o3 o4 o5 o6 o7 o8 o9 o10 o11 asks f0 t0 l0 a0 f1 t1 l1 a1 f2 t2 l2 a2 f3 t3 l3 a3 kd hw op cond rd rn rm imm mode list s w hT hw0 hw1 h2

end Go.Proofs.YtmofimgodmcdjaaDoor
