/- The document's own Encode: which of its rows is asked (text by gen_vf.py). No conditions but those that each fact names. -/
import Derived.Test.YtcphhojdfpedkaaDoorGj
import Derived.Test.YtcphhojdfpedkaaDoorQk
namespace Go.Proofs.YtcphhojdfpedkaaDoor
open Go.ChangeShapes Go.WideShapes Go.ChangeAt Go.RowKit
theorem okay_is {e : Ending} {o : Option Int} (h : Okay e o) : ∃ x, e = .returned (.tuple #[.int .i64 x, .bool o.isSome]) ∧ (∀ y, o = some y → x = y) := by
  cases o with
  | none => obtain ⟨x, hx⟩ := h; exact ⟨x, hx, fun y hy => by cases hy⟩
  | some z => exact ⟨z, h, fun y hy => by cases hy; rfl⟩
theorem renc_no (op cond rd rn rm imm mode list : Int) (s it : Bool) (w : World) (hw : Nm.Wide list) (hok : Nm.okB ⟨op, cond, rd, rn, rm, imm, mode, list, s⟩ = false) :
    Calls Tryd.prog 13 #[.agg #[.int .i64 op, .int .i64 cond, .int .i64 rd, .int .i64 rn, .int .i64 rm, .int .i64 imm, .int .i64 mode, .int .i64 list, .bool s], .bool it] w fun e w' => e = .returned (optV none) ∧ Below w.heap.size w w' := by
  have hC := fun W => rcheck_c op cond rd rn rm imm mode list s W hw
  rw [hok] at hC
  have HC := Lib.hid hC
  clear hC hok hw
  have hI := Lib.hid (Held.start w #[.int .i64 op, .int .i64 cond, .int .i64 rd, .int .i64 rn, .int .i64 rm, .int .i64 imm, .int .i64 mode, .int .i64 list, .bool s] 23)
  unfold optV
  go_enter Tryd.func13, Tryd.ntmps13
  go_wp2_with fail
  refine (HC.out _).mono ?_
  rintro e w1 ⟨rfl, hb⟩
  replace hI := Lib.hid (hI.out.step hb)
  clear hb
  unfold Im.errI
  go_wp2
  go_ret2
  exact ⟨rfl, hI.out.bel⟩
set_option linter.unusedSimpArgs false in
set_option maxRecDepth 100000 in
set_option maxHeartbeats 4000000 in
theorem renc_sum5 (op cond rd rn rm imm mode list : Int) (s it : Bool) (w : World) (hw : Nm.Wide list) (hok : Nm.okB ⟨op, cond, rd, rn, rm, imm, mode, list, s⟩ = true) (g0 : (op == 5) = true) (o : Option Int)
    (hR : ∀ W, Calls Tryd.prog 21 #[.agg #[.int .i64 op, .int .i64 cond, .int .i64 rd, .int .i64 rn, .int .i64 rm, .int .i64 imm, .int .i64 mode, .int .i64 list, .bool s], .bool (s != it)] W fun e w' => Okay e o ∧ Below W.heap.size W w') :
    Calls Tryd.prog 13 #[.agg #[.int .i64 op, .int .i64 cond, .int .i64 rd, .int .i64 rn, .int .i64 rm, .int .i64 imm, .int .i64 mode, .int .i64 list, .bool s], .bool it] w fun e w' => e = .returned (optV o) ∧ Below w.heap.size w w' := by
  have hC := fun W => rcheck_c op cond rd rn rm imm mode list s W hw
  rw [hok] at hC
  have HC := Lib.hid hC
  have HR := Lib.hid hR
  clear hC hok hw hR
  have hI := Lib.hid (Held.start w #[.int .i64 op, .int .i64 cond, .int .i64 rd, .int .i64 rn, .int .i64 rm, .int .i64 imm, .int .i64 mode, .int .i64 list, .bool s] 23)
  cases o
  all_goals
    unfold optV
    go_enter Tryd.func13, Tryd.ntmps13
    go_wp2_with fail
    refine (HC.out _).mono ?_
    rintro e w1 ⟨rfl, hb⟩
    replace hI := Lib.hid (hI.out.step hb)
    clear hb
    have hc := hI.out.c
    have hlt := hI.out.lt
    unfold Im.errI
    go_wp2_with fail
    refine (HR.out _).mono ?_
    rintro e w2 ⟨hOk, hb⟩
    obtain ⟨x, rfl, hx⟩ := okay_is hOk
    replace hx := Lib.hid hx
    clear hOk hc hlt
    replace hI := Lib.hid (hI.out.step hb)
    clear hb
    go_wp2
    go_ret2
    exact ⟨by first | rfl | (rw [hx.out _ rfl]; rfl), hI.out.bel⟩
set_option linter.unusedSimpArgs false in
set_option maxRecDepth 100000 in
set_option maxHeartbeats 4000000 in
theorem renc_sum7 (op cond rd rn rm imm mode list : Int) (s it : Bool) (w : World) (hw : Nm.Wide list) (hok : Nm.okB ⟨op, cond, rd, rn, rm, imm, mode, list, s⟩ = true) (g0 : (op == 5) = false) (g1 : (op == 7) = true) (o : Option Int)
    (hR : ∀ W, Calls Tryd.prog 21 #[.agg #[.int .i64 op, .int .i64 cond, .int .i64 rd, .int .i64 rn, .int .i64 rm, .int .i64 imm, .int .i64 mode, .int .i64 list, .bool s], .bool (s != it)] W fun e w' => Okay e o ∧ Below W.heap.size W w') :
    Calls Tryd.prog 13 #[.agg #[.int .i64 op, .int .i64 cond, .int .i64 rd, .int .i64 rn, .int .i64 rm, .int .i64 imm, .int .i64 mode, .int .i64 list, .bool s], .bool it] w fun e w' => e = .returned (optV o) ∧ Below w.heap.size w w' := by
  have hC := fun W => rcheck_c op cond rd rn rm imm mode list s W hw
  rw [hok] at hC
  have HC := Lib.hid hC
  have HR := Lib.hid hR
  clear hC hok hw hR
  have hI := Lib.hid (Held.start w #[.int .i64 op, .int .i64 cond, .int .i64 rd, .int .i64 rn, .int .i64 rm, .int .i64 imm, .int .i64 mode, .int .i64 list, .bool s] 23)
  cases o
  all_goals
    unfold optV
    go_enter Tryd.func13, Tryd.ntmps13
    go_wp2_with fail
    refine (HC.out _).mono ?_
    rintro e w1 ⟨rfl, hb⟩
    replace hI := Lib.hid (hI.out.step hb)
    clear hb
    have hc := hI.out.c
    have hlt := hI.out.lt
    unfold Im.errI
    go_wp2_with fail
    refine (HR.out _).mono ?_
    rintro e w2 ⟨hOk, hb⟩
    obtain ⟨x, rfl, hx⟩ := okay_is hOk
    replace hx := Lib.hid hx
    clear hOk hc hlt
    replace hI := Lib.hid (hI.out.step hb)
    clear hb
    go_wp2
    go_ret2
    exact ⟨by first | rfl | (rw [hx.out _ rfl]; rfl), hI.out.bel⟩
set_option linter.unusedSimpArgs false in
set_option maxRecDepth 100000 in
set_option maxHeartbeats 4000000 in
theorem renc_move10 (op cond rd rn rm imm mode list : Int) (s it : Bool) (w : World) (hw : Nm.Wide list) (hok : Nm.okB ⟨op, cond, rd, rn, rm, imm, mode, list, s⟩ = true) (g0 : (op == 5) = false) (g1 : (op == 7) = false) (g2 : (op == 10) = true) (o : Option Int)
    (hR : ∀ W, Calls Tryd.prog 22 #[.agg #[.int .i64 op, .int .i64 cond, .int .i64 rd, .int .i64 rn, .int .i64 rm, .int .i64 imm, .int .i64 mode, .int .i64 list, .bool s], .bool (s != it), .bool it] W fun e w' => Okay e o ∧ Below W.heap.size W w') :
    Calls Tryd.prog 13 #[.agg #[.int .i64 op, .int .i64 cond, .int .i64 rd, .int .i64 rn, .int .i64 rm, .int .i64 imm, .int .i64 mode, .int .i64 list, .bool s], .bool it] w fun e w' => e = .returned (optV o) ∧ Below w.heap.size w w' := by
  have hC := fun W => rcheck_c op cond rd rn rm imm mode list s W hw
  rw [hok] at hC
  have HC := Lib.hid hC
  have HR := Lib.hid hR
  clear hC hok hw hR
  have hI := Lib.hid (Held.start w #[.int .i64 op, .int .i64 cond, .int .i64 rd, .int .i64 rn, .int .i64 rm, .int .i64 imm, .int .i64 mode, .int .i64 list, .bool s] 23)
  cases o
  all_goals
    unfold optV
    go_enter Tryd.func13, Tryd.ntmps13
    go_wp2_with fail
    refine (HC.out _).mono ?_
    rintro e w1 ⟨rfl, hb⟩
    replace hI := Lib.hid (hI.out.step hb)
    clear hb
    have hc := hI.out.c
    have hlt := hI.out.lt
    unfold Im.errI
    go_wp2_with fail
    refine (HR.out _).mono ?_
    rintro e w2 ⟨hOk, hb⟩
    obtain ⟨x, rfl, hx⟩ := okay_is hOk
    replace hx := Lib.hid hx
    clear hOk hc hlt
    replace hI := Lib.hid (hI.out.step hb)
    clear hb
    go_wp2
    go_ret2
    exact ⟨by first | rfl | (rw [hx.out _ rfl]; rfl), hI.out.bel⟩
set_option linter.unusedSimpArgs false in
set_option maxRecDepth 100000 in
set_option maxHeartbeats 4000000 in
theorem renc_move12 (op cond rd rn rm imm mode list : Int) (s it : Bool) (w : World) (hw : Nm.Wide list) (hok : Nm.okB ⟨op, cond, rd, rn, rm, imm, mode, list, s⟩ = true) (g0 : (op == 5) = false) (g1 : (op == 7) = false) (g2 : (op == 10) = false) (g3 : (op == 12) = true) (o : Option Int)
    (hR : ∀ W, Calls Tryd.prog 22 #[.agg #[.int .i64 op, .int .i64 cond, .int .i64 rd, .int .i64 rn, .int .i64 rm, .int .i64 imm, .int .i64 mode, .int .i64 list, .bool s], .bool (s != it), .bool it] W fun e w' => Okay e o ∧ Below W.heap.size W w') :
    Calls Tryd.prog 13 #[.agg #[.int .i64 op, .int .i64 cond, .int .i64 rd, .int .i64 rn, .int .i64 rm, .int .i64 imm, .int .i64 mode, .int .i64 list, .bool s], .bool it] w fun e w' => e = .returned (optV o) ∧ Below w.heap.size w w' := by
  have hC := fun W => rcheck_c op cond rd rn rm imm mode list s W hw
  rw [hok] at hC
  have HC := Lib.hid hC
  have HR := Lib.hid hR
  clear hC hok hw hR
  have hI := Lib.hid (Held.start w #[.int .i64 op, .int .i64 cond, .int .i64 rd, .int .i64 rn, .int .i64 rm, .int .i64 imm, .int .i64 mode, .int .i64 list, .bool s] 23)
  cases o
  all_goals
    unfold optV
    go_enter Tryd.func13, Tryd.ntmps13
    go_wp2_with fail
    refine (HC.out _).mono ?_
    rintro e w1 ⟨rfl, hb⟩
    replace hI := Lib.hid (hI.out.step hb)
    clear hb
    have hc := hI.out.c
    have hlt := hI.out.lt
    unfold Im.errI
    go_wp2_with fail
    refine (HR.out _).mono ?_
    rintro e w2 ⟨hOk, hb⟩
    obtain ⟨x, rfl, hx⟩ := okay_is hOk
    replace hx := Lib.hid hx
    clear hOk hc hlt
    replace hI := Lib.hid (hI.out.step hb)
    clear hb
    go_wp2
    go_ret2
    exact ⟨by first | rfl | (rw [hx.out _ rfl]; rfl), hI.out.bel⟩
set_option linter.unusedSimpArgs false in
set_option maxRecDepth 100000 in
set_option maxHeartbeats 4000000 in
theorem renc_two (op cond rd rn rm imm mode list : Int) (s it : Bool) (w : World) (hw : Nm.Wide list) (hok : Nm.okB ⟨op, cond, rd, rn, rm, imm, mode, list, s⟩ = true) (g0 : (op == 5) = false) (g1 : (op == 7) = false) (g2 : (op == 10) = false) (g3 : (op == 12) = false) (g4 : decide (op ≤ 14) = true) (o : Option Int)
    (hR : ∀ W, Calls Tryd.prog 23 #[.agg #[.int .i64 op, .int .i64 cond, .int .i64 rd, .int .i64 rn, .int .i64 rm, .int .i64 imm, .int .i64 mode, .int .i64 list, .bool s], .bool (s != it), .bool it] W fun e w' => Okay e o ∧ Below W.heap.size W w') :
    Calls Tryd.prog 13 #[.agg #[.int .i64 op, .int .i64 cond, .int .i64 rd, .int .i64 rn, .int .i64 rm, .int .i64 imm, .int .i64 mode, .int .i64 list, .bool s], .bool it] w fun e w' => e = .returned (optV o) ∧ Below w.heap.size w w' := by
  have hC := fun W => rcheck_c op cond rd rn rm imm mode list s W hw
  rw [hok] at hC
  have HC := Lib.hid hC
  have HR := Lib.hid hR
  clear hC hok hw hR
  have hI := Lib.hid (Held.start w #[.int .i64 op, .int .i64 cond, .int .i64 rd, .int .i64 rn, .int .i64 rm, .int .i64 imm, .int .i64 mode, .int .i64 list, .bool s] 23)
  cases o
  all_goals
    unfold optV
    go_enter Tryd.func13, Tryd.ntmps13
    go_wp2_with fail
    refine (HC.out _).mono ?_
    rintro e w1 ⟨rfl, hb⟩
    replace hI := Lib.hid (hI.out.step hb)
    clear hb
    have hc := hI.out.c
    have hlt := hI.out.lt
    unfold Im.errI
    go_wp2_with fail
    refine (HR.out _).mono ?_
    rintro e w2 ⟨hOk, hb⟩
    obtain ⟨x, rfl, hx⟩ := okay_is hOk
    replace hx := Lib.hid hx
    clear hOk hc hlt
    replace hI := Lib.hid (hI.out.step hb)
    clear hb
    go_wp2
    go_ret2
    exact ⟨by first | rfl | (rw [hx.out _ rfl]; rfl), hI.out.bel⟩
set_option linter.unusedSimpArgs false in
set_option maxRecDepth 100000 in
set_option maxHeartbeats 4000000 in
theorem renc_two20 (op cond rd rn rm imm mode list : Int) (s it : Bool) (w : World) (hw : Nm.Wide list) (hok : Nm.okB ⟨op, cond, rd, rn, rm, imm, mode, list, s⟩ = true) (g0 : (op == 5) = false) (g1 : (op == 7) = false) (g2 : (op == 10) = false) (g3 : (op == 12) = false) (g4 : decide (op ≤ 14) = false) (g5 : (op == 20) = true) (o : Option Int)
    (hR : ∀ W, Calls Tryd.prog 23 #[.agg #[.int .i64 op, .int .i64 cond, .int .i64 rd, .int .i64 rn, .int .i64 rm, .int .i64 imm, .int .i64 mode, .int .i64 list, .bool s], .bool (s != it), .bool it] W fun e w' => Okay e o ∧ Below W.heap.size W w') :
    Calls Tryd.prog 13 #[.agg #[.int .i64 op, .int .i64 cond, .int .i64 rd, .int .i64 rn, .int .i64 rm, .int .i64 imm, .int .i64 mode, .int .i64 list, .bool s], .bool it] w fun e w' => e = .returned (optV o) ∧ Below w.heap.size w w' := by
  have hC := fun W => rcheck_c op cond rd rn rm imm mode list s W hw
  rw [hok] at hC
  have HC := Lib.hid hC
  have HR := Lib.hid hR
  clear hC hok hw hR
  have hI := Lib.hid (Held.start w #[.int .i64 op, .int .i64 cond, .int .i64 rd, .int .i64 rn, .int .i64 rm, .int .i64 imm, .int .i64 mode, .int .i64 list, .bool s] 23)
  cases o
  all_goals
    unfold optV
    go_enter Tryd.func13, Tryd.ntmps13
    go_wp2_with fail
    refine (HC.out _).mono ?_
    rintro e w1 ⟨rfl, hb⟩
    replace hI := Lib.hid (hI.out.step hb)
    clear hb
    have hc := hI.out.c
    have hlt := hI.out.lt
    unfold Im.errI
    go_wp2_with fail
    refine (HR.out _).mono ?_
    rintro e w2 ⟨hOk, hb⟩
    obtain ⟨x, rfl, hx⟩ := okay_is hOk
    replace hx := Lib.hid hx
    clear hOk hc hlt
    replace hI := Lib.hid (hI.out.step hb)
    clear hb
    go_wp2
    go_ret2
    exact ⟨by first | rfl | (rw [hx.out _ rfl]; rfl), hI.out.bel⟩
set_option linter.unusedSimpArgs false in
set_option maxRecDepth 100000 in
set_option maxHeartbeats 4000000 in
theorem renc_shift (op cond rd rn rm imm mode list : Int) (s it : Bool) (w : World) (hw : Nm.Wide list) (hok : Nm.okB ⟨op, cond, rd, rn, rm, imm, mode, list, s⟩ = true) (g0 : (op == 5) = false) (g1 : (op == 7) = false) (g2 : (op == 10) = false) (g3 : (op == 12) = false) (g4 : decide (op ≤ 14) = false) (g5 : (op == 20) = false) (g6 : decide (16 ≤ op) = true) (g7 : decide (op ≤ 19) = true) (o : Option Int)
    (hR : ∀ W, Calls Tryd.prog 24 #[.agg #[.int .i64 op, .int .i64 cond, .int .i64 rd, .int .i64 rn, .int .i64 rm, .int .i64 imm, .int .i64 mode, .int .i64 list, .bool s], .bool (s != it)] W fun e w' => Okay e o ∧ Below W.heap.size W w') :
    Calls Tryd.prog 13 #[.agg #[.int .i64 op, .int .i64 cond, .int .i64 rd, .int .i64 rn, .int .i64 rm, .int .i64 imm, .int .i64 mode, .int .i64 list, .bool s], .bool it] w fun e w' => e = .returned (optV o) ∧ Below w.heap.size w w' := by
  have hC := fun W => rcheck_c op cond rd rn rm imm mode list s W hw
  rw [hok] at hC
  have HC := Lib.hid hC
  have HR := Lib.hid hR
  clear hC hok hw hR
  have hI := Lib.hid (Held.start w #[.int .i64 op, .int .i64 cond, .int .i64 rd, .int .i64 rn, .int .i64 rm, .int .i64 imm, .int .i64 mode, .int .i64 list, .bool s] 23)
  cases o
  all_goals
    unfold optV
    go_enter Tryd.func13, Tryd.ntmps13
    go_wp2_with fail
    refine (HC.out _).mono ?_
    rintro e w1 ⟨rfl, hb⟩
    replace hI := Lib.hid (hI.out.step hb)
    clear hb
    have hc := hI.out.c
    have hlt := hI.out.lt
    unfold Im.errI
    go_wp2_with fail
    refine (HR.out _).mono ?_
    rintro e w2 ⟨hOk, hb⟩
    obtain ⟨x, rfl, hx⟩ := okay_is hOk
    replace hx := Lib.hid hx
    clear hOk hc hlt
    replace hI := Lib.hid (hI.out.step hb)
    clear hb
    go_wp2
    go_ret2
    exact ⟨by first | rfl | (rw [hx.out _ rfl]; rfl), hI.out.bel⟩
set_option linter.unusedSimpArgs false in
set_option maxRecDepth 100000 in
set_option maxHeartbeats 4000000 in
theorem renc_load (op cond rd rn rm imm mode list : Int) (s it : Bool) (w : World) (hw : Nm.Wide list) (hok : Nm.okB ⟨op, cond, rd, rn, rm, imm, mode, list, s⟩ = true) (g0 : (op == 5) = false) (g1 : (op == 7) = false) (g2 : (op == 10) = false) (g3 : (op == 12) = false) (g4 : decide (op ≤ 14) = false) (g5 : (op == 20) = false) (g6 : decide (16 ≤ op) = true) (g7 : decide (op ≤ 19) = false) (g8 : decide (25 ≤ op) = true) (g9 : decide (op ≤ 30) = true) (o : Option Int)
    (hR : ∀ W, Calls Tryd.prog 25 #[.agg #[.int .i64 op, .int .i64 cond, .int .i64 rd, .int .i64 rn, .int .i64 rm, .int .i64 imm, .int .i64 mode, .int .i64 list, .bool s]] W fun e w' => Okay e o ∧ Below W.heap.size W w') :
    Calls Tryd.prog 13 #[.agg #[.int .i64 op, .int .i64 cond, .int .i64 rd, .int .i64 rn, .int .i64 rm, .int .i64 imm, .int .i64 mode, .int .i64 list, .bool s], .bool it] w fun e w' => e = .returned (optV o) ∧ Below w.heap.size w w' := by
  have hC := fun W => rcheck_c op cond rd rn rm imm mode list s W hw
  rw [hok] at hC
  have HC := Lib.hid hC
  have HR := Lib.hid hR
  clear hC hok hw hR
  have hI := Lib.hid (Held.start w #[.int .i64 op, .int .i64 cond, .int .i64 rd, .int .i64 rn, .int .i64 rm, .int .i64 imm, .int .i64 mode, .int .i64 list, .bool s] 23)
  cases o
  all_goals
    unfold optV
    go_enter Tryd.func13, Tryd.ntmps13
    go_wp2_with fail
    refine (HC.out _).mono ?_
    rintro e w1 ⟨rfl, hb⟩
    replace hI := Lib.hid (hI.out.step hb)
    clear hb
    have hc := hI.out.c
    have hlt := hI.out.lt
    unfold Im.errI
    go_wp2_with fail
    refine (HR.out _).mono ?_
    rintro e w2 ⟨hOk, hb⟩
    obtain ⟨x, rfl, hx⟩ := okay_is hOk
    replace hx := Lib.hid hx
    clear hOk hc hlt
    replace hI := Lib.hid (hI.out.step hb)
    clear hb
    go_wp2
    go_ret2
    exact ⟨by first | rfl | (rw [hx.out _ rfl]; rfl), hI.out.bel⟩
set_option linter.unusedSimpArgs false in
set_option maxRecDepth 100000 in
set_option maxHeartbeats 4000000 in
theorem renc_b35 (op cond rd rn rm imm mode list : Int) (s it : Bool) (w : World) (hw : Nm.Wide list) (hok : Nm.okB ⟨op, cond, rd, rn, rm, imm, mode, list, s⟩ = true) (g0 : (op == 5) = false) (g1 : (op == 7) = false) (g2 : (op == 10) = false) (g3 : (op == 12) = false) (g4 : decide (op ≤ 14) = false) (g5 : (op == 20) = false) (g6 : decide (16 ≤ op) = true) (g7 : decide (op ≤ 19) = false) (g8 : decide (25 ≤ op) = true) (g9 : decide (op ≤ 30) = false) (g10 : (op == 35) = true) (o : Option Int)
    (hR : ∀ W, Calls Tryd.prog 26 #[.agg #[.int .i64 op, .int .i64 cond, .int .i64 rd, .int .i64 rn, .int .i64 rm, .int .i64 imm, .int .i64 mode, .int .i64 list, .bool s], .bool it] W fun e w' => Okay e o ∧ Below W.heap.size W w') :
    Calls Tryd.prog 13 #[.agg #[.int .i64 op, .int .i64 cond, .int .i64 rd, .int .i64 rn, .int .i64 rm, .int .i64 imm, .int .i64 mode, .int .i64 list, .bool s], .bool it] w fun e w' => e = .returned (optV o) ∧ Below w.heap.size w w' := by
  have hC := fun W => rcheck_c op cond rd rn rm imm mode list s W hw
  rw [hok] at hC
  have HC := Lib.hid hC
  have HR := Lib.hid hR
  clear hC hok hw hR
  have hI := Lib.hid (Held.start w #[.int .i64 op, .int .i64 cond, .int .i64 rd, .int .i64 rn, .int .i64 rm, .int .i64 imm, .int .i64 mode, .int .i64 list, .bool s] 23)
  cases o
  all_goals
    unfold optV
    go_enter Tryd.func13, Tryd.ntmps13
    go_wp2_with fail
    refine (HC.out _).mono ?_
    rintro e w1 ⟨rfl, hb⟩
    replace hI := Lib.hid (hI.out.step hb)
    clear hb
    have hc := hI.out.c
    have hlt := hI.out.lt
    unfold Im.errI
    go_wp2_with fail
    refine (HR.out _).mono ?_
    rintro e w2 ⟨hOk, hb⟩
    obtain ⟨x, rfl, hx⟩ := okay_is hOk
    replace hx := Lib.hid hx
    clear hOk hc hlt
    replace hI := Lib.hid (hI.out.step hb)
    clear hb
    go_wp2
    go_ret2
    exact ⟨by first | rfl | (rw [hx.out _ rfl]; rfl), hI.out.bel⟩
set_option linter.unusedSimpArgs false in
set_option maxRecDepth 100000 in
set_option maxHeartbeats 4000000 in
theorem renc_b37 (op cond rd rn rm imm mode list : Int) (s it : Bool) (w : World) (hw : Nm.Wide list) (hok : Nm.okB ⟨op, cond, rd, rn, rm, imm, mode, list, s⟩ = true) (g0 : (op == 5) = false) (g1 : (op == 7) = false) (g2 : (op == 10) = false) (g3 : (op == 12) = false) (g4 : decide (op ≤ 14) = false) (g5 : (op == 20) = false) (g6 : decide (16 ≤ op) = true) (g7 : decide (op ≤ 19) = false) (g8 : decide (25 ≤ op) = true) (g9 : decide (op ≤ 30) = false) (g10 : (op == 35) = false) (g11 : (op == 37) = true) (o : Option Int)
    (hR : ∀ W, Calls Tryd.prog 26 #[.agg #[.int .i64 op, .int .i64 cond, .int .i64 rd, .int .i64 rn, .int .i64 rm, .int .i64 imm, .int .i64 mode, .int .i64 list, .bool s], .bool it] W fun e w' => Okay e o ∧ Below W.heap.size W w') :
    Calls Tryd.prog 13 #[.agg #[.int .i64 op, .int .i64 cond, .int .i64 rd, .int .i64 rn, .int .i64 rm, .int .i64 imm, .int .i64 mode, .int .i64 list, .bool s], .bool it] w fun e w' => e = .returned (optV o) ∧ Below w.heap.size w w' := by
  have hC := fun W => rcheck_c op cond rd rn rm imm mode list s W hw
  rw [hok] at hC
  have HC := Lib.hid hC
  have HR := Lib.hid hR
  clear hC hok hw hR
  have hI := Lib.hid (Held.start w #[.int .i64 op, .int .i64 cond, .int .i64 rd, .int .i64 rn, .int .i64 rm, .int .i64 imm, .int .i64 mode, .int .i64 list, .bool s] 23)
  cases o
  all_goals
    unfold optV
    go_enter Tryd.func13, Tryd.ntmps13
    go_wp2_with fail
    refine (HC.out _).mono ?_
    rintro e w1 ⟨rfl, hb⟩
    replace hI := Lib.hid (hI.out.step hb)
    clear hb
    have hc := hI.out.c
    have hlt := hI.out.lt
    unfold Im.errI
    go_wp2_with fail
    refine (HR.out _).mono ?_
    rintro e w2 ⟨hOk, hb⟩
    obtain ⟨x, rfl, hx⟩ := okay_is hOk
    replace hx := Lib.hid hx
    clear hOk hc hlt
    replace hI := Lib.hid (hI.out.step hb)
    clear hb
    go_wp2
    go_ret2
    exact ⟨by first | rfl | (rw [hx.out _ rfl]; rfl), hI.out.bel⟩
set_option linter.unusedSimpArgs false in
set_option maxRecDepth 100000 in
set_option maxHeartbeats 4000000 in
theorem renc_b38 (op cond rd rn rm imm mode list : Int) (s it : Bool) (w : World) (hw : Nm.Wide list) (hok : Nm.okB ⟨op, cond, rd, rn, rm, imm, mode, list, s⟩ = true) (g0 : (op == 5) = false) (g1 : (op == 7) = false) (g2 : (op == 10) = false) (g3 : (op == 12) = false) (g4 : decide (op ≤ 14) = false) (g5 : (op == 20) = false) (g6 : decide (16 ≤ op) = true) (g7 : decide (op ≤ 19) = false) (g8 : decide (25 ≤ op) = true) (g9 : decide (op ≤ 30) = false) (g10 : (op == 35) = false) (g11 : (op == 37) = false) (g12 : (op == 38) = true) (o : Option Int)
    (hR : ∀ W, Calls Tryd.prog 26 #[.agg #[.int .i64 op, .int .i64 cond, .int .i64 rd, .int .i64 rn, .int .i64 rm, .int .i64 imm, .int .i64 mode, .int .i64 list, .bool s], .bool it] W fun e w' => Okay e o ∧ Below W.heap.size W w') :
    Calls Tryd.prog 13 #[.agg #[.int .i64 op, .int .i64 cond, .int .i64 rd, .int .i64 rn, .int .i64 rm, .int .i64 imm, .int .i64 mode, .int .i64 list, .bool s], .bool it] w fun e w' => e = .returned (optV o) ∧ Below w.heap.size w w' := by
  have hC := fun W => rcheck_c op cond rd rn rm imm mode list s W hw
  rw [hok] at hC
  have HC := Lib.hid hC
  have HR := Lib.hid hR
  clear hC hok hw hR
  have hI := Lib.hid (Held.start w #[.int .i64 op, .int .i64 cond, .int .i64 rd, .int .i64 rn, .int .i64 rm, .int .i64 imm, .int .i64 mode, .int .i64 list, .bool s] 23)
  cases o
  all_goals
    unfold optV
    go_enter Tryd.func13, Tryd.ntmps13
    go_wp2_with fail
    refine (HC.out _).mono ?_
    rintro e w1 ⟨rfl, hb⟩
    replace hI := Lib.hid (hI.out.step hb)
    clear hb
    have hc := hI.out.c
    have hlt := hI.out.lt
    unfold Im.errI
    go_wp2_with fail
    refine (HR.out _).mono ?_
    rintro e w2 ⟨hOk, hb⟩
    obtain ⟨x, rfl, hx⟩ := okay_is hOk
    replace hx := Lib.hid hx
    clear hOk hc hlt
    replace hI := Lib.hid (hI.out.step hb)
    clear hb
    go_wp2
    go_ret2
    exact ⟨by first | rfl | (rw [hx.out _ rfl]; rfl), hI.out.bel⟩
set_option linter.unusedSimpArgs false in
set_option maxRecDepth 100000 in
set_option maxHeartbeats 4000000 in
theorem renc_r15 (op cond rd rn rm imm mode list : Int) (s it : Bool) (w : World) (hw : Nm.Wide list) (hok : Nm.okB ⟨op, cond, rd, rn, rm, imm, mode, list, s⟩ = true) (g0 : (op == 5) = false) (g1 : (op == 7) = false) (g2 : (op == 10) = false) (g3 : (op == 12) = false) (g4 : decide (op ≤ 14) = false) (g5 : (op == 20) = false) (g6 : decide (16 ≤ op) = false) (g7 : decide (25 ≤ op) = false) (g8 : (op == 35) = false) (g9 : (op == 37) = false) (g10 : (op == 38) = false) (o : Option Int)
    (hR : ∀ W, Calls Tryd.prog 27 #[.agg #[.int .i64 op, .int .i64 cond, .int .i64 rd, .int .i64 rn, .int .i64 rm, .int .i64 imm, .int .i64 mode, .int .i64 list, .bool s], .bool it] W fun e w' => Okay e o ∧ Below W.heap.size W w') :
    Calls Tryd.prog 13 #[.agg #[.int .i64 op, .int .i64 cond, .int .i64 rd, .int .i64 rn, .int .i64 rm, .int .i64 imm, .int .i64 mode, .int .i64 list, .bool s], .bool it] w fun e w' => e = .returned (optV o) ∧ Below w.heap.size w w' := by
  have hC := fun W => rcheck_c op cond rd rn rm imm mode list s W hw
  rw [hok] at hC
  have HC := Lib.hid hC
  have HR := Lib.hid hR
  clear hC hok hw hR
  have hI := Lib.hid (Held.start w #[.int .i64 op, .int .i64 cond, .int .i64 rd, .int .i64 rn, .int .i64 rm, .int .i64 imm, .int .i64 mode, .int .i64 list, .bool s] 23)
  cases o
  all_goals
    unfold optV
    go_enter Tryd.func13, Tryd.ntmps13
    go_wp2_with fail
    refine (HC.out _).mono ?_
    rintro e w1 ⟨rfl, hb⟩
    replace hI := Lib.hid (hI.out.step hb)
    clear hb
    have hc := hI.out.c
    have hlt := hI.out.lt
    unfold Im.errI
    go_wp2_with fail
    refine (HR.out _).mono ?_
    rintro e w2 ⟨hOk, hb⟩
    obtain ⟨x, rfl, hx⟩ := okay_is hOk
    replace hx := Lib.hid hx
    clear hOk hc hlt
    replace hI := Lib.hid (hI.out.step hb)
    clear hb
    go_wp2
    go_ret2
    exact ⟨by first | rfl | (rw [hx.out _ rfl]; rfl), hI.out.bel⟩
set_option linter.unusedSimpArgs false in
set_option maxRecDepth 100000 in
set_option maxHeartbeats 4000000 in
theorem renc_r21 (op cond rd rn rm imm mode list : Int) (s it : Bool) (w : World) (hw : Nm.Wide list) (hok : Nm.okB ⟨op, cond, rd, rn, rm, imm, mode, list, s⟩ = true) (g0 : (op == 5) = false) (g1 : (op == 7) = false) (g2 : (op == 10) = false) (g3 : (op == 12) = false) (g4 : decide (op ≤ 14) = false) (g5 : (op == 20) = false) (g6 : decide (16 ≤ op) = true) (g7 : decide (op ≤ 19) = false) (g8 : decide (25 ≤ op) = false) (g9 : (op == 35) = false) (g10 : (op == 37) = false) (g11 : (op == 38) = false) (o : Option Int)
    (hR : ∀ W, Calls Tryd.prog 27 #[.agg #[.int .i64 op, .int .i64 cond, .int .i64 rd, .int .i64 rn, .int .i64 rm, .int .i64 imm, .int .i64 mode, .int .i64 list, .bool s], .bool it] W fun e w' => Okay e o ∧ Below W.heap.size W w') :
    Calls Tryd.prog 13 #[.agg #[.int .i64 op, .int .i64 cond, .int .i64 rd, .int .i64 rn, .int .i64 rm, .int .i64 imm, .int .i64 mode, .int .i64 list, .bool s], .bool it] w fun e w' => e = .returned (optV o) ∧ Below w.heap.size w w' := by
  have hC := fun W => rcheck_c op cond rd rn rm imm mode list s W hw
  rw [hok] at hC
  have HC := Lib.hid hC
  have HR := Lib.hid hR
  clear hC hok hw hR
  have hI := Lib.hid (Held.start w #[.int .i64 op, .int .i64 cond, .int .i64 rd, .int .i64 rn, .int .i64 rm, .int .i64 imm, .int .i64 mode, .int .i64 list, .bool s] 23)
  cases o
  all_goals
    unfold optV
    go_enter Tryd.func13, Tryd.ntmps13
    go_wp2_with fail
    refine (HC.out _).mono ?_
    rintro e w1 ⟨rfl, hb⟩
    replace hI := Lib.hid (hI.out.step hb)
    clear hb
    have hc := hI.out.c
    have hlt := hI.out.lt
    unfold Im.errI
    go_wp2_with fail
    refine (HR.out _).mono ?_
    rintro e w2 ⟨hOk, hb⟩
    obtain ⟨x, rfl, hx⟩ := okay_is hOk
    replace hx := Lib.hid hx
    clear hOk hc hlt
    replace hI := Lib.hid (hI.out.step hb)
    clear hb
    go_wp2
    go_ret2
    exact ⟨by first | rfl | (rw [hx.out _ rfl]; rfl), hI.out.bel⟩
set_option linter.unusedSimpArgs false in
set_option maxRecDepth 100000 in
set_option maxHeartbeats 4000000 in
theorem renc_r31 (op cond rd rn rm imm mode list : Int) (s it : Bool) (w : World) (hw : Nm.Wide list) (hok : Nm.okB ⟨op, cond, rd, rn, rm, imm, mode, list, s⟩ = true) (g0 : (op == 5) = false) (g1 : (op == 7) = false) (g2 : (op == 10) = false) (g3 : (op == 12) = false) (g4 : decide (op ≤ 14) = false) (g5 : (op == 20) = false) (g6 : decide (16 ≤ op) = true) (g7 : decide (op ≤ 19) = false) (g8 : decide (25 ≤ op) = true) (g9 : decide (op ≤ 30) = false) (g10 : (op == 35) = false) (g11 : (op == 37) = false) (g12 : (op == 38) = false) (o : Option Int)
    (hR : ∀ W, Calls Tryd.prog 27 #[.agg #[.int .i64 op, .int .i64 cond, .int .i64 rd, .int .i64 rn, .int .i64 rm, .int .i64 imm, .int .i64 mode, .int .i64 list, .bool s], .bool it] W fun e w' => Okay e o ∧ Below W.heap.size W w') :
    Calls Tryd.prog 13 #[.agg #[.int .i64 op, .int .i64 cond, .int .i64 rd, .int .i64 rn, .int .i64 rm, .int .i64 imm, .int .i64 mode, .int .i64 list, .bool s], .bool it] w fun e w' => e = .returned (optV o) ∧ Below w.heap.size w w' := by
  have hC := fun W => rcheck_c op cond rd rn rm imm mode list s W hw
  rw [hok] at hC
  have HC := Lib.hid hC
  have HR := Lib.hid hR
  clear hC hok hw hR
  have hI := Lib.hid (Held.start w #[.int .i64 op, .int .i64 cond, .int .i64 rd, .int .i64 rn, .int .i64 rm, .int .i64 imm, .int .i64 mode, .int .i64 list, .bool s] 23)
  cases o
  all_goals
    unfold optV
    go_enter Tryd.func13, Tryd.ntmps13
    go_wp2_with fail
    refine (HC.out _).mono ?_
    rintro e w1 ⟨rfl, hb⟩
    replace hI := Lib.hid (hI.out.step hb)
    clear hb
    have hc := hI.out.c
    have hlt := hI.out.lt
    unfold Im.errI
    go_wp2_with fail
    refine (HR.out _).mono ?_
    rintro e w2 ⟨hOk, hb⟩
    obtain ⟨x, rfl, hx⟩ := okay_is hOk
    replace hx := Lib.hid hx
    clear hOk hc hlt
    replace hI := Lib.hid (hI.out.step hb)
    clear hb
    go_wp2
    go_ret2
    exact ⟨by first | rfl | (rw [hx.out _ rfl]; rfl), hI.out.bel⟩
end Go.Proofs.YtcphhojdfpedkaaDoor
