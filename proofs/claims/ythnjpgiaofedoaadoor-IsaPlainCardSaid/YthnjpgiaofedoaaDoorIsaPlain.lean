/- For every instruction IsaPlain returns true: neither sp nor pc may be where a plain register is asked. Conditions: none; the row lists the program's table of names, and the card ties it to the text of the program. -/
import Derived.Test.YthnjpgiaofedoaaDoorRows
import Derived.Test.YthnjpgiaofedoaaDoorTie
import Derived.Test.YthnjpgiaofedoaaDoorCards
import Derived.SevenTiedAt
import Derived.WalkKit
import Derived.ProofKit
import Derived.OpenShut
import Derived.ShutString
import Derived.Below
import Derived.Test.YthnjpgiaofedoaaDoorIp
import Derived.Test.YthnjpgiaofedoaaDoorIw
import Derived.Test.YthnjpgiaofedoaaDoorIz
namespace Go.Proofs.YthnjpgiaofedoaaDoor.isaPlain
open Go.ChangeShapes Go.WideShapes Go.ChangeAt Go.RowKit
open Go.ChangeMaps (open_string shut_string)

theorem own : ownKnob Tryd.prog.godebug = none := by kernel_rfl
theorem laidOut : laidOutB Tryd.prog = true := by kernel_rfl

set_option maxHeartbeats 2000000 in
theorem walk (op cond rd rn rm imm mode list : Int) (s : Bool) (_wl : (Lit.int .i64 list).wf = true) (w : World) (hT : Tabs w) :
    Calls Tryd.prog 6 #[.agg #[.int .i64 op, .int .i64 cond, .int .i64 rd, .int .i64 rn, .int .i64 rm, .int .i64 imm, .int .i64 mode, .int .i64 list, .bool s]] w fun e w' => e = .returned (.bool true) ∧ Below w.heap.size w w' := by
  have hI0 := Lib.hid (Ins.start hT op cond rd rn rm imm mode list s 29)
  clear hT
  have hC := fun W => check_c op cond rd rn rm imm mode list s W
  cases hq : Im.checkB op cond rd rn rm imm mode list s with
  | false =>
    rw [hq] at hC
    clear hq
    go_enter Tryd.func6, Tryd.ntmps6
    go_wp2_with fail
    refine (hC _).mono ?_
    rintro e w2 ⟨rfl, hb⟩
    have hI := Lib.hid (hI0.out.step hb)
    clear hb hI0 hC
    simp only [Im.errI, Bool.false_eq_true, if_false]
    go_wp2_with fail
    refine (awake_c _ hI.out.later.tabs).mono ?_
    rintro e w7 ⟨rfl, hb⟩
    go_wp2
    go_ret
    exact ⟨rfl, (hI.out.later.step hb).bel⟩
  | true =>
    rw [hq] at hC
    clear hq
    by_cases h9 : 9 < op
    · cases h20 : (op == 20) with
      | false =>
        have h20' : (op != 20) = true := by simp [bne, h20]
        go_enter Tryd.func6, Tryd.ntmps6
        go_wp2_with fail
        refine (hC _).mono ?_
        rintro e w2 ⟨rfl, hb⟩
        have hI := Lib.hid (hI0.out.step hb)
        clear hb hI0 hC
        simp only [Im.errI, if_true]
        have c0 : w2.cell? ⟨w.heap.size, 0, none⟩ = some (.int .i64 op) := hI.out.c 0
        have c1 : w2.cell? ⟨w.heap.size, 1, none⟩ = some (.int .i64 cond) := hI.out.c 1
        have c2 : w2.cell? ⟨w.heap.size, 2, none⟩ = some (.int .i64 rd) := hI.out.c 2
        have c3 : w2.cell? ⟨w.heap.size, 3, none⟩ = some (.int .i64 rn) := hI.out.c 3
        have c4 : w2.cell? ⟨w.heap.size, 4, none⟩ = some (.int .i64 rm) := hI.out.c 4
        have c5 : w2.cell? ⟨w.heap.size, 5, none⟩ = some (.int .i64 imm) := hI.out.c 5
        have c6 : w2.cell? ⟨w.heap.size, 6, none⟩ = some (.int .i64 mode) := hI.out.c 6
        have c7 : w2.cell? ⟨w.heap.size, 7, none⟩ = some (.int .i64 list) := hI.out.c 7
        have c8 : w2.cell? ⟨w.heap.size, 8, none⟩ = some (.bool s) := hI.out.c 8
        go_wp2_with fail
        clear c0 c1 c2 c3 c4 c5 c6 c7 c8
        refine (awake_c _ hI.out.later.tabs).mono ?_
        rintro e w7 ⟨rfl, hb⟩
        go_wp2
        go_ret
        exact ⟨rfl, (hI.out.later.step hb).bel⟩
      | true =>
        obtain rfl : op = 20 := eq_of_beq h20
        clear h9 h20
        have hX := fun W => check_c 20 cond 13 rn rm imm mode list s W
        have hY := fun W => check_c 20 cond rd 15 rm imm mode list s W
        rw [Im.plain_sp (.inr rfl)] at hX
        rw [Im.plain_pc (.inr rfl)] at hY
        go_enter Tryd.func6, Tryd.ntmps6
        go_wp2_with fail
        refine (hC _).mono ?_
        rintro e w2 ⟨rfl, hb⟩
        have hI := Lib.hid (hI0.out.step hb)
        clear hb hI0 hC
        simp only [Im.errI, if_true]
        have c0 : w2.cell? ⟨w.heap.size, 0, none⟩ = some (.int .i64 20) := hI.out.c 0
        have c1 : w2.cell? ⟨w.heap.size, 1, none⟩ = some (.int .i64 cond) := hI.out.c 1
        have c2 : w2.cell? ⟨w.heap.size, 2, none⟩ = some (.int .i64 rd) := hI.out.c 2
        have c3 : w2.cell? ⟨w.heap.size, 3, none⟩ = some (.int .i64 rn) := hI.out.c 3
        have c4 : w2.cell? ⟨w.heap.size, 4, none⟩ = some (.int .i64 rm) := hI.out.c 4
        have c5 : w2.cell? ⟨w.heap.size, 5, none⟩ = some (.int .i64 imm) := hI.out.c 5
        have c6 : w2.cell? ⟨w.heap.size, 6, none⟩ = some (.int .i64 mode) := hI.out.c 6
        have c7 : w2.cell? ⟨w.heap.size, 7, none⟩ = some (.int .i64 list) := hI.out.c 7
        have c8 : w2.cell? ⟨w.heap.size, 8, none⟩ = some (.bool s) := hI.out.c 8
        have hlt := hI.out.lt
        have hn0 : ¬ w.heap.size = w2.heap.size := by omega
        have hn1 : ¬ w.heap.size = w2.heap.size + 1 := by omega
        go_wp2_with fail
        clear c0 c1 c2 c3 c4 c5 c6 c7 c8 hlt hn0 hn1
        have hL := Lib.hid ((hI.out.later.step (one_below _ (.cells #[.int .i64 20, .int .i64 cond, .int .i64 (13), .int .i64 rn, .int .i64 rm, .int .i64 imm, .int .i64 mode, .int .i64 list, .bool s] 29))).step (one_below _ (.cells #[.int .i64 20, .int .i64 cond, .int .i64 rd, .int .i64 (15), .int .i64 rm, .int .i64 imm, .int .i64 mode, .int .i64 list, .bool s] 29)))
        have hY3 := Lib.hid (Lies.second w2 (.cells #[.int .i64 20, .int .i64 cond, .int .i64 (13), .int .i64 rn, .int .i64 rm, .int .i64 imm, .int .i64 mode, .int .i64 list, .bool s] 29) #[.int .i64 20, .int .i64 cond, .int .i64 rd, .int .i64 (15), .int .i64 rm, .int .i64 imm, .int .i64 mode, .int .i64 list, .bool s] 29)
        clear hI
        refine (hX _).mono ?_
        rintro e w4 ⟨rfl, hb⟩
        have hL4 := Lib.hid (hL.out.step hb)
        have hY4 := Lib.hid (hY3.out.step hb)
        clear hb hL hY3 hX
        simp only [Im.errI, Bool.false_eq_true, if_false]
        have c0 : w4.cell? ⟨w2.heap.size + 1, 0, none⟩ = some (.int .i64 20) := hY4.out.2 0
        have c1 : w4.cell? ⟨w2.heap.size + 1, 1, none⟩ = some (.int .i64 cond) := hY4.out.2 1
        have c2 : w4.cell? ⟨w2.heap.size + 1, 2, none⟩ = some (.int .i64 rd) := hY4.out.2 2
        have c3 : w4.cell? ⟨w2.heap.size + 1, 3, none⟩ = some (.int .i64 (15)) := hY4.out.2 3
        have c4 : w4.cell? ⟨w2.heap.size + 1, 4, none⟩ = some (.int .i64 rm) := hY4.out.2 4
        have c5 : w4.cell? ⟨w2.heap.size + 1, 5, none⟩ = some (.int .i64 imm) := hY4.out.2 5
        have c6 : w4.cell? ⟨w2.heap.size + 1, 6, none⟩ = some (.int .i64 mode) := hY4.out.2 6
        have c7 : w4.cell? ⟨w2.heap.size + 1, 7, none⟩ = some (.int .i64 list) := hY4.out.2 7
        have c8 : w4.cell? ⟨w2.heap.size + 1, 8, none⟩ = some (.bool s) := hY4.out.2 8
        go_wp2_with fail
        clear c0 c1 c2 c3 c4 c5 c6 c7 c8
        refine (hY _).mono ?_
        rintro e w5 ⟨rfl, hb⟩
        have hL5 := Lib.hid (hL4.out.step hb)
        clear hb hL4 hY4 hY
        simp only [Im.errI, Bool.false_eq_true, if_false]
        go_wp2_with fail
        refine (awake_c _ hL5.out.tabs).mono ?_
        rintro e w7 ⟨rfl, hb⟩
        go_wp2
        go_ret
        exact ⟨rfl, (hL5.out.step hb).bel⟩
    · have hX := fun W => check_c op cond 13 rn rm imm mode list s W
      have hY := fun W => check_c op cond rd 15 rm imm mode list s W
      rw [Im.plain_sp (.inl (by omega))] at hX
      rw [Im.plain_pc (.inl (by omega))] at hY
      go_enter Tryd.func6, Tryd.ntmps6
      go_wp2_with fail
      refine (hC _).mono ?_
      rintro e w2 ⟨rfl, hb⟩
      have hI := Lib.hid (hI0.out.step hb)
      clear hb hI0 hC
      simp only [Im.errI, if_true]
      have c0 : w2.cell? ⟨w.heap.size, 0, none⟩ = some (.int .i64 op) := hI.out.c 0
      have c1 : w2.cell? ⟨w.heap.size, 1, none⟩ = some (.int .i64 cond) := hI.out.c 1
      have c2 : w2.cell? ⟨w.heap.size, 2, none⟩ = some (.int .i64 rd) := hI.out.c 2
      have c3 : w2.cell? ⟨w.heap.size, 3, none⟩ = some (.int .i64 rn) := hI.out.c 3
      have c4 : w2.cell? ⟨w.heap.size, 4, none⟩ = some (.int .i64 rm) := hI.out.c 4
      have c5 : w2.cell? ⟨w.heap.size, 5, none⟩ = some (.int .i64 imm) := hI.out.c 5
      have c6 : w2.cell? ⟨w.heap.size, 6, none⟩ = some (.int .i64 mode) := hI.out.c 6
      have c7 : w2.cell? ⟨w.heap.size, 7, none⟩ = some (.int .i64 list) := hI.out.c 7
      have c8 : w2.cell? ⟨w.heap.size, 8, none⟩ = some (.bool s) := hI.out.c 8
      have hlt := hI.out.lt
      have hn0 : ¬ w.heap.size = w2.heap.size := by omega
      have hn1 : ¬ w.heap.size = w2.heap.size + 1 := by omega
      go_wp2_with fail
      clear c0 c1 c2 c3 c4 c5 c6 c7 c8 hlt hn0 hn1
      have hL := Lib.hid ((hI.out.later.step (one_below _ (.cells #[.int .i64 op, .int .i64 cond, .int .i64 (13), .int .i64 rn, .int .i64 rm, .int .i64 imm, .int .i64 mode, .int .i64 list, .bool s] 29))).step (one_below _ (.cells #[.int .i64 op, .int .i64 cond, .int .i64 rd, .int .i64 (15), .int .i64 rm, .int .i64 imm, .int .i64 mode, .int .i64 list, .bool s] 29)))
      have hY3 := Lib.hid (Lies.second w2 (.cells #[.int .i64 op, .int .i64 cond, .int .i64 (13), .int .i64 rn, .int .i64 rm, .int .i64 imm, .int .i64 mode, .int .i64 list, .bool s] 29) #[.int .i64 op, .int .i64 cond, .int .i64 rd, .int .i64 (15), .int .i64 rm, .int .i64 imm, .int .i64 mode, .int .i64 list, .bool s] 29)
      clear hI
      refine (hX _).mono ?_
      rintro e w4 ⟨rfl, hb⟩
      have hL4 := Lib.hid (hL.out.step hb)
      have hY4 := Lib.hid (hY3.out.step hb)
      clear hb hL hY3 hX
      simp only [Im.errI, Bool.false_eq_true, if_false]
      have c0 : w4.cell? ⟨w2.heap.size + 1, 0, none⟩ = some (.int .i64 op) := hY4.out.2 0
      have c1 : w4.cell? ⟨w2.heap.size + 1, 1, none⟩ = some (.int .i64 cond) := hY4.out.2 1
      have c2 : w4.cell? ⟨w2.heap.size + 1, 2, none⟩ = some (.int .i64 rd) := hY4.out.2 2
      have c3 : w4.cell? ⟨w2.heap.size + 1, 3, none⟩ = some (.int .i64 (15)) := hY4.out.2 3
      have c4 : w4.cell? ⟨w2.heap.size + 1, 4, none⟩ = some (.int .i64 rm) := hY4.out.2 4
      have c5 : w4.cell? ⟨w2.heap.size + 1, 5, none⟩ = some (.int .i64 imm) := hY4.out.2 5
      have c6 : w4.cell? ⟨w2.heap.size + 1, 6, none⟩ = some (.int .i64 mode) := hY4.out.2 6
      have c7 : w4.cell? ⟨w2.heap.size + 1, 7, none⟩ = some (.int .i64 list) := hY4.out.2 7
      have c8 : w4.cell? ⟨w2.heap.size + 1, 8, none⟩ = some (.bool s) := hY4.out.2 8
      go_wp2_with fail
      clear c0 c1 c2 c3 c4 c5 c6 c7 c8
      refine (hY _).mono ?_
      rintro e w5 ⟨rfl, hb⟩
      have hL5 := Lib.hid (hL4.out.step hb)
      clear hb hL4 hY4 hY
      simp only [Im.errI, Bool.false_eq_true, if_false]
      go_wp2_with fail
      refine (awake_c _ hL5.out.tabs).mono ?_
      rintro e w7 ⟨rfl, hb⟩
      go_wp2
      go_ret
      exact ⟨rfl, (hL5.out.step hb).bel⟩

set_option maxRecDepth 100000 in
theorem lifted (os : Os) (started : os.Started) (H : Type) (enc : TypeId × Value → H) :
    ReturnsInHanded {} Tryd.checked os 6 .any (fun w args => (Rows.isaPlainSpec.pre enc Tryd.prog Tryd.f6 [] false w args ∧ laidMetH Tryd.prog laidL w) ∧ sizedMet enc Tryd.prog Tryd.f6 (OpenSpec.ofChange Rows.isaPlainSpec) false w args)
      (Rows.isaPlainSpec.post enc Tryd.prog Tryd.f6 false true false false) := by
  refine returnsInHanded_of_change_and (C := Tryd.checked) (X := fun w _ => laidMetH Tryd.prog laidL w) (fun _ _ _ hh h => h.of_heap hh) own started (by kernel_rfl) Tryd.func6
    (ChangeSpec.witness_shaped (enc := enc) (C := Tryd.checked) (os := os) (X := fun w _ => laidMetH Tryd.prog laidL w) false (World.doorLaid Tryd.prog 400 os) #[.agg #[.int .i64 0, .int .i64 0, .int .i64 0, .int .i64 0, .int .i64 0, .int .i64 0, .int .i64 0, .int .i64 0, .bool false]] 8 rfl (World.shaped_of_RefB (by kernel_rfl) (by kernel_rfl)) (by kernel_rfl) (by kernel_rfl) (by kernel_rfl) (door_met os _)) ?_
  intro W base args ds gs before hval0 hW _ _ hL _
  have hval : ∀ (j : Nat) t v, Tryd.f6.params[j]? = some t → args[j]? = some v → Value.okWide Tryd.prog W .any base t v := hval0
  have hW' := hW
  obtain ⟨p, q, hA0, hV, rfl, _, _⟩ := hW
  have hA : DataW.TrodAll enc Tryd.prog W 0 (fun _ => true) true Tryd.f6.params.toList args.toList ds p := hA0
  rw [Tryd.params6] at hA hval
  obtain ⟨v0, vs0, d0, ds0, p0, q0, hargs, rfl, rfl, h0, r0⟩ := trodAll_cons hA
  obtain ⟨rfl, rfl, rfl⟩ := trodAll_nil r0
  obtain rfl : args = #[v0] := by cases args; simp_all
  obtain ⟨rfl, rfl⟩ := trodVars_none hV
  have k0 := h0
  have lt0 : ∀ x ∈ p0, x.block < W.heap.size := by obtain ⟨m, hm⟩ := k0; exact DataW.trod_lt m _ _ _ hm
  obtain ⟨ia0, ib0, ic0, id0, ie0, if0, ig0, ih0, ii0, rfl, w0⟩ := open_ins Tryd.underlying29 (by kernel_rfl) ⟨by kernel_rfl, by kernel_rfl, by kernel_rfl⟩ ⟨by kernel_rfl, by kernel_rfl, by kernel_rfl⟩ ⟨by kernel_rfl, by kernel_rfl, by kernel_rfl⟩ ⟨by kernel_rfl, by kernel_rfl, by kernel_rfl⟩ ⟨by kernel_rfl, by kernel_rfl, by kernel_rfl⟩ ⟨by kernel_rfl, by kernel_rfl, by kernel_rfl⟩ ⟨by kernel_rfl, by kernel_rfl, by kernel_rfl⟩ ⟨by kernel_rfl, by kernel_rfl, by kernel_rfl⟩ ⟨by kernel_rfl, by kernel_rfl, by kernel_rfl⟩ (hval 0 29 v0 rfl rfl) h0
  clear hA0 hval0
  refine (walk ia0 ib0 ic0 id0 ie0 if0 ig0 ih0 ii0 w0 W (tabs_of hL)).mono fun e W' ⟨he, bel⟩ => ?_
  subst he
  exact ⟨_, rfl, _, _, _, [], _, [], hW', trodAll_mk1 (shut_bool Tryd.underlying4 _), (trodAll_cons_mk (Below.trod laidOut (by kernel_rfl) (of_decide_eq_true (by kernel_rfl)) k0 bel lt0) trodAll_mk0), rfl, bel.frame _, fun h => by cases h⟩

theorem over : Rows.isaPlainRow.holds Tryd.pinned (OpenSpec.ofChange Rows.isaPlainSpec) :=
  OpenClaim.holds_of_wide 6 Tryd.f6 rfl rfl rfl rfl rfl rfl rfl ⟨rfl, rfl, rfl, rfl, rfl⟩ rfl rfl rfl rfl rfl (by kernel_rfl) Tryd.func6 (by kernel_rfl)
    (of_decide_eq_true (by kernel_rfl)) (by unfold Func.isWrapper; first | (rw [if_pos (by decide +kernel)]; kernel_rfl) | (rw [if_neg (by decide +kernel)]; exact ⟨rfl, rfl⟩))
    (fun os started H enc _ => lifted os started H enc)

theorem proved : Rows.IsaPlainCardSaid :=
  Claim7.holds_tied_plain_at .later [] [.data] true Rows.isaPlainCard.stood.harness false
    over (fun _ h => by cases h) (by kernel_rfl) (fun _ h => by cases h) isaPlain_row_tie rfl ⟨rfl, rfl⟩ (by kernel_rfl) rfl
    (fun f fn hf hfn => by
      obtain rfl : f = 6 := Option.some.inj ((show Tryd.prog.funcNamed Rows.isaPlainRow.func = some 6 by kernel_rfl).symm.trans hf) |>.symm
      obtain rfl : fn = Tryd.f6 := (Option.some.inj (Tryd.func6.symm.trans hfn)).symm
      exact ⟨by kernel_rfl, fun j t ht => by
        rw [Tryd.params6] at ht
        have hm : t ∈ [29] := by simpa using Array.mem_of_getElem? ht
        have hall : ([29].all fun u => !Tryd.prog.wantsStandIn u) = true := by kernel_rfl
        exact (show Tryd.prog.wantsStandIn t = false by simpa using List.all_eq_true.1 hall t hm)⟩)
    (by kernel_rfl)
end Go.Proofs.YthnjpgiaofedoaaDoor.isaPlain
