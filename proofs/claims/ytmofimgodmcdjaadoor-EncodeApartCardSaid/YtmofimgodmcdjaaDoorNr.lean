/- The contract of narrow's Encode: a search over the forms, and over what each is of. No conditions but those that each fact names. -/
import Derived.Test.YtmofimgodmcdjaaDoorRows
import Derived.Test.YtmofimgodmcdjaaDoorNx
import Derived.WalkMore
import Derived.Deep.LoopGhost
namespace Go.Proofs.YtmofimgodmcdjaaDoor
open Go.ChangeShapes Go.WideShapes Go.ChangeAt Go.RowKit

set_option maxRecDepth 100000 in
theorem enc_no (op cond rd rn rm imm mode list : Int) (s it : Bool) (w : World) (hc : Im.checkB op cond rd rn rm imm mode list s = false) :
    Calls Tryd.prog 12 #[.agg #[.int .i64 op, .int .i64 cond, .int .i64 rd, .int .i64 rn, .int .i64 rm, .int .i64 imm, .int .i64 mode, .int .i64 list, .bool s], .bool it] w fun e w' => e = .returned (optV (encP op cond rd rn rm imm mode list s it)) ∧ Below w.heap.size w w' := by
  have hE : encP op cond rd rn rm imm mode list s it = none := by unfold encP; rw [hc]; rfl
  rw [hE]
  clear hE
  have h := fun w => check_c op cond rd rn rm imm mode list s w
  rw [hc] at h
  have HC := Lib.hid h
  clear h hc
  go_enter Tryd.func12, Tryd.ntmps12
  go_wp2
  go_step3
  go_wp2_with fail
  refine (HC.out _).mono ?_
  rintro e w1 ⟨rfl, hb⟩
  have hbel := (one_below w _).trans (hb.mono (by simp))
  clear hb
  unfold Im.errI
  go_wp2
  try rw [Exit.noGoto_ret]
  go_ret2
  exact ⟨rfl, hbel⟩

theorem boxed {w w1 : World} {A : Array Value} {tA : TypeId} (hb : Below (w.alloc (.cells A tA)).heap.size (w.alloc (.cells A tA)) w1) :
    (∀ j, w1.cell? ⟨w.heap.size, j, none⟩ = A[j]?) ∧ w.heap.size < w1.heap.size ∧ Below w.heap.size w w1 := by
  have hs := hb.size
  simp at hs
  refine ⟨fun j => ?_, by omega, ((Below.refl _ _).alloc (Nat.le_refl _) _).trans (hb.mono (by simp))⟩
  exact (hb.cell (p := ⟨w.heap.size, j, none⟩) (by simp)).trans (World.cell?_alloc_new w A tA j)

set_option linter.unusedSimpArgs false in
set_option maxRecDepth 100000 in
set_option maxHeartbeats 4000000 in
theorem enc_yes (op cond rd rn rm imm mode list : Int) (s it : Bool) (w : World) (hT : Tabs w) (hc : Im.checkB op cond rd rn rm imm mode list s = true) :
    Calls Tryd.prog 12 #[.agg #[.int .i64 op, .int .i64 cond, .int .i64 rd, .int .i64 rn, .int .i64 rm, .int .i64 imm, .int .i64 mode, .int .i64 list, .bool s], .bool it] w fun e w' => e = .returned (optV (encP op cond rd rn rm imm mode list s it)) ∧ Below w.heap.size w w' := by
  obtain ⟨R, hR⟩ : ∃ R, searchP (traitsI cond rd rn rm mode s it) op cond rd rn rm imm list formTab = R := ⟨_, rfl⟩
  have hE : encP op cond rd rn rm imm mode list s it = R := by unfold encP; rw [if_pos hc]; exact hR
  rw [hE]
  clear hE
  have h := fun w => check_c op cond rd rn rm imm mode list s w
  rw [hc] at h
  have HC := Lib.hid h
  have HT := Lib.hid (fun w => traits_c op cond rd rn rm imm mode list s it w)
  clear h hc
  generalize traitsI cond rd rn rm mode s it = T at *
  have HR := Lib.hid hR
  clear hR
  have HK := Lib.hid hT
  clear hT
  go_enter Tryd.func12, Tryd.ntmps12
  go_wp2
  go_step3
  go_wp2_with fail
  refine (HC.out _).mono ?_
  rintro e w1 ⟨rfl, hb1⟩
  obtain ⟨hA1, hz1, hbel1⟩ := boxed hb1
  clear hb1
  unfold Im.errI
  go_wp2_with fail
  refine (HT.out _).mono ?_
  rintro e w2 ⟨rfl, hb2⟩
  have hA2 : ∀ j, w2.cell? ⟨w.heap.size, j, none⟩ = (#[.int .i64 op, .int .i64 cond, .int .i64 rd, .int .i64 rn, .int .i64 rm, .int .i64 imm, .int .i64 mode, .int .i64 list, .bool s] : Array Value)[j]? := fun j => (hb2.cell (p := ⟨w.heap.size, j, none⟩) hz1).trans (hA1 j)
  have hz2 : w.heap.size < w2.heap.size := Nat.lt_of_lt_of_le hz1 hb2.size
  have hbel2 := hbel1.trans (hb2.mono (Nat.le_of_lt hz1))
  clear hA1 hb2 hbel1 hz1
  go_wp2
  go_step3
  go_wp2_with fail
  refine (forms_c _).mono ?_
  rintro e w3 ⟨rfl, hb3⟩
  have hA3 : ∀ j, w3.cell? ⟨w.heap.size, j, none⟩ = (#[.int .i64 op, .int .i64 cond, .int .i64 rd, .int .i64 rn, .int .i64 rm, .int .i64 imm, .int .i64 mode, .int .i64 list, .bool s] : Array Value)[j]? := fun j => (hb3.cell (p := ⟨w.heap.size, j, none⟩) hz2).trans (hA2 j)
  have hz3 : w.heap.size < w3.heap.size := Nat.lt_of_lt_of_le hz2 hb3.size
  have hbel3 := hbel2.trans (hb3.mono (Nat.le_of_lt hz2))
  clear hA2 hb3 hbel2 hz2
  replace hA3 := Lib.hid hA3
  go_wp2
  go_loopw [7, 8, 20] (fun h7 h8 iv wr => ∃ k : Nat, k ≤ 33 ∧ iv = .int .i64 (k : Int) ∧ h7 = .int .i64 0 ∧ h8 = .bool false ∧ RowKit.Hid (searchP T op cond rd rn rm imm list (formTab.drop k) = R) ∧
    RowKit.Hid (∀ j, wr.cell? ⟨w.heap.size, j, none⟩ = (#[.int .i64 op, .int .i64 cond, .int .i64 rd, .int .i64 rn, .int .i64 rm, .int .i64 imm, .int .i64 mode, .int .i64 list, .bool s] : Array Value)[j]?) ∧ w.heap.size < wr.heap.size ∧ Below w.heap.size w wr) (fun _ _ iv _ => (33 - intOf iv).toNat)
  case atStart => exact ⟨0, by omega, rfl, rfl, rfl, HR, hA3, hz3, hbel3⟩
  case round =>
    obtain ⟨k, hk33, rfl, rfl, rfl, HX, HA, hz, hbel⟩ := hrel
    by_cases hi : k < 33
    · have hidx := fun W => index_form k hi W
      have hkl : k < formTab.length := by rw [forms_len]; exact hi
      have hfm : fmOkB (formTab.getD k ⟨[], 0, [], 0⟩) = true := by
        refine List.all_eq_true.1 forms_ok _ ?_
        rw [List.getD_eq_getElem?_getD, List.getElem?_eq_getElem hkl]
        exact List.getElem_mem _
      have hN : searchP T op cond rd rn rm imm list (formTab.getD k ⟨[], 0, [], 0⟩ :: formTab.drop (k + 1)) = R := by
        rw [← HX.out, List.drop_eq_getElem_cons hkl, List.getD_eq_getElem?_getD, List.getElem?_eq_getElem hkl]; rfl
      clear HX hkl
      generalize formTab.getD k ⟨[], 0, [], 0⟩ = fm at *
      have HF := Lib.hid (fun hw w hT h0 h1 => fill_f fm hfm hw op cond rd rn rm imm mode list s w hT h0 h1)
      obtain ⟨o0, o1, o2, o3, o4, o5, o6, o7, o8, o9, o10, o11, asks, f0, t0, l0, a0, f1, t1, l1, a1, f2, t2, l2, a2, f3, t3, l3, a3, kd, rfl, hbs, _⟩ := form_open fm hfm
      have hidx2 : ∀ W : World, (Instr.index 66 (.agg formCells.toArray) (.int .i64 (k : Int))).run Tryd.prog W = .ok (.agg #[.int .i64 o0, .int .i64 o1, .int .i64 o2, .int .i64 o3, .int .i64 o4, .int .i64 o5, .int .i64 o6, .int .i64 o7, .int .i64 o8, .int .i64 o9, .int .i64 o10, .int .i64 o11, .int .i64 asks, .int .i64 f0, .int .i64 t0, .int .i64 l0, .int .i64 a0, .int .i64 f1, .int .i64 t1, .int .i64 l1, .int .i64 a1, .int .i64 f2, .int .i64 t2, .int .i64 l2, .int .i64 a2, .int .i64 f3, .int .i64 t3, .int .i64 l3, .int .i64 a3, .int .i64 kd]) W := hidx
      have HBS := Lib.hid hbs
      have hfl : ∀ (hw : Int) (W : World), Tabs W → 0 ≤ hw → hw < 65536 → Calls Tryd.prog 19 #[.agg #[.int .i64 o0, .int .i64 o1, .int .i64 o2, .int .i64 o3, .int .i64 o4, .int .i64 o5, .int .i64 o6, .int .i64 o7, .int .i64 o8, .int .i64 o9, .int .i64 o10, .int .i64 o11, .int .i64 asks, .int .i64 f0, .int .i64 t0, .int .i64 l0, .int .i64 a0, .int .i64 f1, .int .i64 t1, .int .i64 l1, .int .i64 a1, .int .i64 f2, .int .i64 t2, .int .i64 l2, .int .i64 a2, .int .i64 f3, .int .i64 t3, .int .i64 l3, .int .i64 a3, .int .i64 kd], .int .i64 hw, .agg #[.int .i64 op, .int .i64 cond, .int .i64 rd, .int .i64 rn, .int .i64 rm, .int .i64 imm, .int .i64 mode, .int .i64 list, .bool s]] W fun e w' => e = .returned (optV (fillP ⟨[(o0, o1), (o2, o3), (o4, o5), (o6, o7), (o8, o9), (o10, o11)], asks, [⟨f0, t0, l0, a0⟩, ⟨f1, t1, l1, a1⟩, ⟨f2, t2, l2, a2⟩, ⟨f3, t3, l3, a3⟩], kd⟩ hw cond rd rn rm imm list)) ∧ Below W.heap.size W w' := HF.out
      replace HF := Lib.hid hfl
      clear hidx hbs hfm hfl
      by_cases hB : bits .andNot .i64 asks T = 0
      · have hB1 : (bits .andNot .i64 asks T == 0) = true := by rw [hB]; rfl
        have hB2 : (bits .andNot .i64 asks T != 0) = false := by rw [hB]; rfl
        have hdk : decide ((k : Int) < 33) = true := by simp; omega
        unfold searchP at hN
        rw [if_pos hB] at hN
        obtain ⟨RI, hRI⟩ : ∃ RI, innerP ⟨[(o0, o1), (o2, o3), (o4, o5), (o6, o7), (o8, o9), (o10, o11)], asks, [⟨f0, t0, l0, a0⟩, ⟨f1, t1, l1, a1⟩, ⟨f2, t2, l2, a2⟩, ⟨f3, t3, l3, a3⟩], kd⟩ op cond rd rn rm imm list [(o0, o1), (o2, o3), (o4, o5), (o6, o7), (o8, o9), (o10, o11)] = RI := ⟨_, rfl⟩
        simp only [hRI] at hN
        have HN := Lib.hid hN
        have HRI := Lib.hid hRI
        clear hN hRI
        replace hB := Lib.hid hB
        have hA := HA.out
        obtain ⟨wo, rfl⟩ : ∃ wo : World, wo = wr := ⟨_, rfl⟩
        go_wp2_with ((refine wpList_store_new rfl rfl 65 (.tmp 10) (.tmp 22) rfl _ [.int .i64 o0, .int .i64 o1, .int .i64 o2, .int .i64 o3, .int .i64 o4, .int .i64 o5, .int .i64 o6, .int .i64 o7, .int .i64 o8, .int .i64 o9, .int .i64 o10, .int .i64 o11, .int .i64 asks, .int .i64 f0, .int .i64 t0, .int .i64 l0, .int .i64 a0, .int .i64 f1, .int .i64 t1, .int .i64 l1, .int .i64 a1, .int .i64 f2, .int .i64 t2, .int .i64 l2, .int .i64 a2, .int .i64 f3, .int .i64 t3, .int .i64 l3, .int .i64 a3, .int .i64 kd] rfl rfl rfl (by kernel_rfl) (by kernel_rfl) ?_))
        have hbg := fun k hk W => index_bg o0 o1 o2 o3 o4 o5 o6 o7 o8 o9 o10 o11 k hk W
        have HI := Lib.hid hbg
        clear hbg
        have hlen : ([(o0, o1), (o2, o3), (o4, o5), (o6, o7), (o8, o9), (o10, o11)] : List (Int × Int)).length = 6 := rfl
        generalize eof : ([(o0, o1), (o2, o3), (o4, o5), (o6, o7), (o8, o9), (o10, o11)] : List (Int × Int)) = of_ at *
        have HL := Lib.hid hlen
        replace eof := Lib.hid eof
        have hA2 : ∀ j, (wo.alloc (.cells #[.int .i64 o0, .int .i64 o1, .int .i64 o2, .int .i64 o3, .int .i64 o4, .int .i64 o5, .int .i64 o6, .int .i64 o7, .int .i64 o8, .int .i64 o9, .int .i64 o10, .int .i64 o11, .int .i64 asks, .int .i64 f0, .int .i64 t0, .int .i64 l0, .int .i64 a0, .int .i64 f1, .int .i64 t1, .int .i64 l1, .int .i64 a1, .int .i64 f2, .int .i64 t2, .int .i64 l2, .int .i64 a2, .int .i64 f3, .int .i64 t3, .int .i64 l3, .int .i64 a3, .int .i64 kd] 65)).cell? ⟨w.heap.size, j, none⟩ = (#[.int .i64 op, .int .i64 cond, .int .i64 rd, .int .i64 rn, .int .i64 rm, .int .i64 imm, .int .i64 mode, .int .i64 list, .bool s] : Array Value)[j]? := fun j => (World.cell?_alloc_lt wo _ ⟨w.heap.size, j, none⟩ hz).trans (hA j)
        have hF2 : ∀ j, (wo.alloc (.cells #[.int .i64 o0, .int .i64 o1, .int .i64 o2, .int .i64 o3, .int .i64 o4, .int .i64 o5, .int .i64 o6, .int .i64 o7, .int .i64 o8, .int .i64 o9, .int .i64 o10, .int .i64 o11, .int .i64 asks, .int .i64 f0, .int .i64 t0, .int .i64 l0, .int .i64 a0, .int .i64 f1, .int .i64 t1, .int .i64 l1, .int .i64 a1, .int .i64 f2, .int .i64 t2, .int .i64 l2, .int .i64 a2, .int .i64 f3, .int .i64 t3, .int .i64 l3, .int .i64 a3, .int .i64 kd] 65)).cell? ⟨wo.heap.size, j, none⟩ = (#[.int .i64 o0, .int .i64 o1, .int .i64 o2, .int .i64 o3, .int .i64 o4, .int .i64 o5, .int .i64 o6, .int .i64 o7, .int .i64 o8, .int .i64 o9, .int .i64 o10, .int .i64 o11, .int .i64 asks, .int .i64 f0, .int .i64 t0, .int .i64 l0, .int .i64 a0, .int .i64 f1, .int .i64 t1, .int .i64 l1, .int .i64 a1, .int .i64 f2, .int .i64 t2, .int .i64 l2, .int .i64 a2, .int .i64 f3, .int .i64 t3, .int .i64 l3, .int .i64 a3, .int .i64 kd] : Array Value)[j]? := fun j => World.cell?_alloc_new wo _ _ j
        replace hA2 := Lib.hid hA2
        replace hF2 := Lib.hid hF2
        clear hA hlen
        go_loopw [7, 8, 30] (fun h7 h8 iv wr => ∃ m : Nat, m ≤ 6 ∧ iv = .int .i64 (m : Int) ∧ h7 = .int .i64 0 ∧ h8 = .bool false ∧ RowKit.Hid (innerP ⟨of_, asks, [⟨f0, t0, l0, a0⟩, ⟨f1, t1, l1, a1⟩, ⟨f2, t2, l2, a2⟩, ⟨f3, t3, l3, a3⟩], kd⟩ op cond rd rn rm imm list (of_.drop m) = RI) ∧
          RowKit.Hid (∀ j, wr.cell? ⟨w.heap.size, j, none⟩ = (#[.int .i64 op, .int .i64 cond, .int .i64 rd, .int .i64 rn, .int .i64 rm, .int .i64 imm, .int .i64 mode, .int .i64 list, .bool s] : Array Value)[j]?) ∧ RowKit.Hid (∀ j, wr.cell? ⟨wo.heap.size, j, none⟩ = (#[.int .i64 o0, .int .i64 o1, .int .i64 o2, .int .i64 o3, .int .i64 o4, .int .i64 o5, .int .i64 o6, .int .i64 o7, .int .i64 o8, .int .i64 o9, .int .i64 o10, .int .i64 o11, .int .i64 asks, .int .i64 f0, .int .i64 t0, .int .i64 l0, .int .i64 a0, .int .i64 f1, .int .i64 t1, .int .i64 l1, .int .i64 a1, .int .i64 f2, .int .i64 t2, .int .i64 l2, .int .i64 a2, .int .i64 f3, .int .i64 t3, .int .i64 l3, .int .i64 a3, .int .i64 kd] : Array Value)[j]?) ∧ w.heap.size < wr.heap.size ∧ wo.heap.size < wr.heap.size ∧ Below w.heap.size w wr) (fun _ _ iv _ => (6 - intOf iv).toNat)
        case atStart => exact ⟨0, by omega, rfl, rfl, rfl, HRI, hA2, hF2, by simp; omega, by simp, hbel.alloc (Nat.le_of_lt hz) _⟩
        case round =>
          obtain ⟨m, hm6, rfl, rfl, rfl, HY, HA2, HF2, hzi, hzo, hbeli⟩ := hrel
          by_cases hm : m < 6
          · have hml : m < of_.length := by rw [HL.out]; exact hm
            have hidx3 : ∀ W : World, (Instr.index 59 (.agg #[.int .i64 o0, .int .i64 o1, .int .i64 o2, .int .i64 o3, .int .i64 o4, .int .i64 o5, .int .i64 o6, .int .i64 o7, .int .i64 o8, .int .i64 o9, .int .i64 o10, .int .i64 o11]) (.int .i64 (m : Int))).run Tryd.prog W = .ok (.agg (bgC (of_.getD m (0, 0))).toArray) W := fun W => HI.out m hm W
            have hbd := HBS.out (of_.getD m (0, 0)) (by rw [List.getD_eq_getElem?_getD, List.getElem?_eq_getElem hml]; exact List.getElem_mem _)
            have hN2 : innerP ⟨of_, asks, [⟨f0, t0, l0, a0⟩, ⟨f1, t1, l1, a1⟩, ⟨f2, t2, l2, a2⟩, ⟨f3, t3, l3, a3⟩], kd⟩ op cond rd rn rm imm list (of_.getD m (0, 0) :: of_.drop (m + 1)) = RI := by
              rw [← HY.out, List.drop_eq_getElem_cons hml, List.getD_eq_getElem?_getD, List.getElem?_eq_getElem hml]; rfl
            clear HY hml
            generalize of_.getD m (0, 0) = bg at *
            obtain ⟨b0, b1⟩ := bg
            unfold bgC at hidx3
            dsimp only at hidx3 hbd
            obtain ⟨hb0, hb1⟩ := hbd
            unfold innerP at hN2
            have hA := HA2.out
            by_cases hop : b0 = op
            · subst hop
              rw [if_pos rfl] at hN2
              have hT0 : Tabs wr := HK.out.below hbeli HK.out.big
              have hT4 : Tabs (wr.alloc (.cells #[.int .i64 b0, .int .i64 b1] 57)) := hT0.below (n := wr.heap.size) ((Below.refl _ _).alloc (Nat.le_refl _) _) hT0.big
              have hf4 := HF.out b1 _ hT4 hb0 hb1
              clear hT0 hT4
              have hrng : (wr.alloc (.cells #[.int .i64 b0, .int .i64 b1] 57)).rangeAt wo.heap.size 0 [.int .i64 o0, .int .i64 o1, .int .i64 o2, .int .i64 o3, .int .i64 o4, .int .i64 o5, .int .i64 o6, .int .i64 o7, .int .i64 o8, .int .i64 o9, .int .i64 o10, .int .i64 o11, .int .i64 asks, .int .i64 f0, .int .i64 t0, .int .i64 l0, .int .i64 a0, .int .i64 f1, .int .i64 t1, .int .i64 l1, .int .i64 a1, .int .i64 f2, .int .i64 t2, .int .i64 l2, .int .i64 a2, .int .i64 f3, .int .i64 t3, .int .i64 l3, .int .i64 a3, .int .i64 kd] := fun j v hv => by
                rw [Nat.zero_add]
                exact (World.cell?_alloc_lt wr _ ⟨wo.heap.size, j, none⟩ hzo).trans ((HF2.out j).trans (by simpa using hv))
              replace hrng := Lib.hid hrng
              cases hfp : fillP ⟨of_, asks, [⟨f0, t0, l0, a0⟩, ⟨f1, t1, l1, a1⟩, ⟨f2, t2, l2, a2⟩, ⟨f3, t3, l3, a3⟩], kd⟩ b1 cond rd rn rm imm list with
              | some h =>
                simp only [hfp] at hN2
                subst hN2
                dsimp only at HN
                obtain rfl : R = some h := HN.out.symm
                rw [hfp] at hf4
                unfold optV at hf4
                have HF4 := Lib.hid hf4
                clear hf4 hfp
                go_wp2_with (first
                  | (refine wpList_load_mid rfl 65 (.tmp 10) rfl wo.heap.size 0 rfl [.int .i64 o0, .int .i64 o1, .int .i64 o2, .int .i64 o3, .int .i64 o4, .int .i64 o5, .int .i64 o6, .int .i64 o7, .int .i64 o8, .int .i64 o9, .int .i64 o10, .int .i64 o11, .int .i64 asks, .int .i64 f0, .int .i64 t0, .int .i64 l0, .int .i64 a0, .int .i64 f1, .int .i64 t1, .int .i64 l1, .int .i64 a1, .int .i64 f2, .int .i64 t2, .int .i64 l2, .int .i64 a2, .int .i64 f3, .int .i64 t3, .int .i64 l3, .int .i64 a3, .int .i64 kd] _ hrng.out underFm rfl infoFm ?_)
                  | (go_at_call 19; refine (HF4.out).mono ?_; rintro e w4 ⟨rfl, hb4⟩))
                try rw [Exit.noGoto_ret]
                go_ret2
                exact ⟨rfl, (hbeli.alloc (Nat.le_of_lt hzi) _).trans (hb4.mono (by simp; omega))⟩
              | none =>
                simp only [hfp] at hN2
                have HN2 := Lib.hid hN2
                clear hN2
                rw [hfp] at hf4
                unfold optV at hf4
                have HF4 := Lib.hid hf4
                clear hf4 hfp
                go_wp2_with (first
                  | (refine wpList_load_mid rfl 65 (.tmp 10) rfl wo.heap.size 0 rfl [.int .i64 o0, .int .i64 o1, .int .i64 o2, .int .i64 o3, .int .i64 o4, .int .i64 o5, .int .i64 o6, .int .i64 o7, .int .i64 o8, .int .i64 o9, .int .i64 o10, .int .i64 o11, .int .i64 asks, .int .i64 f0, .int .i64 t0, .int .i64 l0, .int .i64 a0, .int .i64 f1, .int .i64 t1, .int .i64 l1, .int .i64 a1, .int .i64 f2, .int .i64 t2, .int .i64 l2, .int .i64 a2, .int .i64 f3, .int .i64 t3, .int .i64 l3, .int .i64 a3, .int .i64 kd] _ hrng.out underFm rfl infoFm ?_)
                  | (go_at_call 19; refine (HF4.out).mono ?_; rintro e w4 ⟨rfl, hb4⟩))
                go_roundw
                case rel =>
                  have hs4 := hb4.size
                  simp at hs4
                  refine ⟨m + 1, by omega, rfl, rfl, rfl, HN2, Lib.hid (fun j => ?_), Lib.hid (fun j => ?_), ?_, ?_, ?_⟩
                  · exact (hb4.cell (p := ⟨w.heap.size, j, none⟩) (by simp; omega)).trans ((World.cell?_alloc_lt wr _ ⟨w.heap.size, j, none⟩ hzi).trans (HA2.out j))
                  · exact (hb4.cell (p := ⟨wo.heap.size, j, none⟩) (by simp; omega)).trans ((World.cell?_alloc_lt wr _ ⟨wo.heap.size, j, none⟩ hzo).trans (HF2.out j))
                  · omega
                  · omega
                  · exact (hbeli.alloc (Nat.le_of_lt hzi) _).trans (hb4.mono (by simp; omega))
                case measure => simp [intOf]; omega
            · rw [if_neg hop] at hN2
              have hopB : (b0 == op) = false := by simp [hop]
              have HN2 := Lib.hid hN2
              clear hN2
              replace hop := Lib.hid hop
              go_wp2
              go_roundw
              case rel =>
                refine ⟨m + 1, by omega, rfl, rfl, rfl, HN2, Lib.hid (fun j => ?_), Lib.hid (fun j => ?_), ?_, ?_, ?_⟩
                · exact (World.cell?_alloc_lt wr _ ⟨w.heap.size, j, none⟩ hzi).trans (HA2.out j)
                · exact (World.cell?_alloc_lt wr _ ⟨wo.heap.size, j, none⟩ hzo).trans (HF2.out j)
                · simp; omega
                · simp; omega
                · exact hbeli.alloc (Nat.le_of_lt hzi) _
              case measure => simp [intOf]; omega
          · have hm' : m = 6 := by omega
            subst hm'
            have hRI : RI = none := by rw [← HY.out, List.drop_of_length_le (by rw [HL.out]; exact Nat.le_refl _)]; rfl
            subst hRI
            go_wp2
            go_roundw
            case rel => exact ⟨k + 1, by omega, rfl, rfl, rfl, HN, HA2, hzi, hbeli⟩
            case measure => simp [intOf]; omega
      · have hB1 : (bits .andNot .i64 asks T == 0) = false := by simp [hB]
        unfold searchP at hN
        rw [if_neg hB] at hN
        have HN := Lib.hid hN
        clear hN
        replace hB := Lib.hid hB
        go_wp2_with ((refine wpList_store_new rfl rfl 65 (.tmp 10) (.tmp 22) rfl _ [.int .i64 o0, .int .i64 o1, .int .i64 o2, .int .i64 o3, .int .i64 o4, .int .i64 o5, .int .i64 o6, .int .i64 o7, .int .i64 o8, .int .i64 o9, .int .i64 o10, .int .i64 o11, .int .i64 asks, .int .i64 f0, .int .i64 t0, .int .i64 l0, .int .i64 a0, .int .i64 f1, .int .i64 t1, .int .i64 l1, .int .i64 a1, .int .i64 f2, .int .i64 t2, .int .i64 l2, .int .i64 a2, .int .i64 f3, .int .i64 t3, .int .i64 l3, .int .i64 a3, .int .i64 kd] rfl rfl rfl (by kernel_rfl) (by kernel_rfl) ?_))
        go_roundw
        case rel =>
          refine ⟨k + 1, by omega, rfl, rfl, rfl, HN, Lib.hid (fun j => ?_), ?_, ?_⟩
          · exact (World.cell?_alloc_lt wr _ ⟨w.heap.size, j, none⟩ hz).trans (HA.out j)
          · simp; omega
          · exact hbel.alloc (Nat.le_of_lt hz) _
        case measure => simp [intOf]; omega
    · have hk : k = 33 := by omega
      subst hk
      have hO : R = none := by rw [← HX.out]; rfl
      clear HX
      subst hO
      go_wp2
      try rw [Exit.noGoto_ret]
      go_ret2
      exact ⟨rfl, hbel⟩

theorem enc_c (op cond rd rn rm imm mode list : Int) (s it : Bool) (w : World) (hT : Tabs w) :
    Calls Tryd.prog 12 #[.agg #[.int .i64 op, .int .i64 cond, .int .i64 rd, .int .i64 rn, .int .i64 rm, .int .i64 imm, .int .i64 mode, .int .i64 list, .bool s], .bool it] w fun e w' => e = .returned (optV (encP op cond rd rn rm imm mode list s it)) ∧ Below w.heap.size w w' := by
  cases hc : Im.checkB op cond rd rn rm imm mode list s with
  | true => exact enc_yes op cond rd rn rm imm mode list s it w hT hc
  | false => exact enc_no op cond rd rn rm imm mode list s it w hc

end Go.Proofs.YtmofimgodmcdjaaDoor
