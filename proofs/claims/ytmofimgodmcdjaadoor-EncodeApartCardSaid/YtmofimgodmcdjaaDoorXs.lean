/- The contracts of wide's Encode and Can: a search over the forms. No conditions but those that each fact names. -/
import Derived.Test.YtmofimgodmcdjaaDoorRows
import Derived.Test.YtmofimgodmcdjaaDoorGf
import Derived.Test.YtmofimgodmcdjaaDoorGi
import Derived.Test.YtmofimgodmcdjaaDoorIc
import Derived.WalkMore
import Derived.Deep.LoopGhost
namespace Go.Proofs.YtmofimgodmcdjaaDoor
open Go.ChangeShapes Go.WideShapes Go.ChangeAt Go.RowKit
namespace Xw

def searchP (op cond rd rn rm imm mode list : Int) (s it : Bool) : List Fw → Option Int
  | [] => none
  | f :: r => match findP op f.of_ with
    | some b => if takesP f.tk cond rd rm imm mode list s it = true then some (bits .or .u32 b (fieldsP f.fd cond rd rn rm imm list s)) else searchP op cond rd rn rm imm mode list s it r
    | none => searchP op cond rd rn rm imm mode list s it r
def encP (op cond rd rn rm imm mode list : Int) (s it : Bool) : Option Int :=
  if Im.checkB op cond rd rn rm imm mode list s = true then searchP op cond rd rn rm imm mode list s it formT else none
def optW : Option Int → Value
  | some x => .tuple #[.int .i64 (getI x 31 16), .int .i64 (getI x 15 0), .bool true]
  | none => .tuple #[.int .i64 0, .int .i64 0, .bool false]

theorem or_bd (a b : Int) : 0 ≤ bits .or .u32 a b ∧ bits .or .u32 a b < 4294967296 := by
  have h : bits .or .u32 a b = IntKind.u32.wrap (((BitVec.ofInt 32 a ||| BitVec.ofInt 32 b).toNat : Nat) : Int) := rfl
  rw [h, IntKind.wrap_u32]
  omega
/-- what the walk asks of a form -/
def fmOkB (f : Fw) : Bool := f.of_.length == 15 && (decide (f.tk < 11) && decide (f.fd < 9))
theorem forms_ok : (formT.all fmOkB) = true := by decide +kernel
theorem forms_len : formT.length = 21 := rfl
theorem bg_len : ∀ l : List (Int × Int), (l.flatMap bgC).length = 2 * l.length
  | [] => rfl
  | b :: r => by
    rw [List.flatMap_cons, List.length_append, bg_len r, List.length_cons]
    show 2 + _ = _
    omega
theorem bg_one (l : List (Int × Int)) : ∀ v ∈ l.flatMap bgC, v.oneCell' = true := fun v hv => by
  obtain ⟨b, _, hb⟩ := List.mem_flatMap.1 hv
  unfold bgC at hb
  simp only [List.mem_cons, List.not_mem_nil, or_false] at hb
  rcases hb with rfl | rfl <;> rfl
theorem fm_one (f : Fw) : (fmC f).toArray.all (·.oneCell') = true := by
  rw [List.all_toArray]
  refine List.all_eq_true.2 fun v hv => ?_
  unfold fmC at hv
  rcases List.mem_append.1 hv with h | h
  · exact bg_one _ v h
  · simp only [List.mem_cons, List.not_mem_nil, or_false] at h
    rcases h with rfl | rfl <;> rfl
theorem boxed {w w1 : World} {A : Array Value} {tA : TypeId} (hb : Below (w.alloc (.cells A tA)).heap.size (w.alloc (.cells A tA)) w1) :
    (∀ j, w1.cell? ⟨w.heap.size, j, none⟩ = A[j]?) ∧ w.heap.size < w1.heap.size ∧ Below w.heap.size w w1 := by
  have hs := hb.size
  simp at hs
  refine ⟨fun j => ?_, by omega, ((Below.refl _ _).alloc (Nat.le_refl _) _).trans (hb.mono (by simp))⟩
  exact (hb.cell (p := ⟨w.heap.size, j, none⟩) (by simp)).trans (World.cell?_alloc_new w A tA j)

set_option maxRecDepth 100000 in
theorem enc_no (op cond rd rn rm imm mode list : Int) (s it : Bool) (w : World) (hc : Im.checkB op cond rd rn rm imm mode list s = false) :
    Calls Tryd.prog 11 #[.agg #[.int .i64 op, .int .i64 cond, .int .i64 rd, .int .i64 rn, .int .i64 rm, .int .i64 imm, .int .i64 mode, .int .i64 list, .bool s], .bool it] w fun e w' => e = .returned (optW (encP op cond rd rn rm imm mode list s it)) ∧ Below w.heap.size w w' := by
  have hE : encP op cond rd rn rm imm mode list s it = none := by unfold encP; rw [hc]; exact if_neg Bool.false_ne_true
  rw [hE]
  clear hE
  have h := fun w => check_c op cond rd rn rm imm mode list s w
  rw [hc] at h
  have HC := Lib.hid h
  clear h hc
  go_enter Tryd.func11, Tryd.ntmps11
  go_wp2_with fail
  refine (HC.out _).mono ?_
  rintro e w1 ⟨rfl, hb⟩
  have hbel := (one_b w _).trans (hb.mono (by simp))
  clear hb
  unfold Im.errI
  go_wp2
  try rw [Exit.noGoto_ret]
  refine bodyPost_ret (v := .tuple #[.int .i64 0, .int .i64 0, .bool false]) (by simp [results, Tryd.results11, go_sem]) rfl ⟨rfl, hbel⟩

set_option linter.unusedSimpArgs false in
set_option maxRecDepth 100000 in
set_option maxHeartbeats 4000000 in
theorem enc_yes (op cond rd rn rm imm mode list : Int) (s it : Bool) (w : World) (hT : Tabs w) (hc : Im.checkB op cond rd rn rm imm mode list s = true) :
    Calls Tryd.prog 11 #[.agg #[.int .i64 op, .int .i64 cond, .int .i64 rd, .int .i64 rn, .int .i64 rm, .int .i64 imm, .int .i64 mode, .int .i64 list, .bool s], .bool it] w fun e w' => e = .returned (optW (encP op cond rd rn rm imm mode list s it)) ∧ Below w.heap.size w w' := by
  obtain ⟨R, hR⟩ : ∃ R, searchP op cond rd rn rm imm mode list s it formT = R := ⟨_, rfl⟩
  have hE : encP op cond rd rn rm imm mode list s it = R := by unfold encP; rw [if_pos hc]; exact hR
  rw [hE]
  clear hE
  have h := fun w => check_c op cond rd rn rm imm mode list s w
  rw [hc] at h
  have HC := Lib.hid h
  clear h hc
  have HR := Lib.hid hR
  clear hR
  have HK := Lib.hid hT
  clear hT
  go_enter Tryd.func11, Tryd.ntmps11
  go_wp2_with fail
  refine (HC.out _).mono ?_
  rintro e w1 ⟨rfl, hb1⟩
  obtain ⟨hA1, hz1, hbel1⟩ := boxed hb1
  clear hb1
  unfold Im.errI
  go_wp2_with fail
  refine (forms_c _).mono ?_
  rintro e w3 ⟨rfl, hb3⟩
  have hA3 : ∀ j, w3.cell? ⟨w.heap.size, j, none⟩ = (#[.int .i64 op, .int .i64 cond, .int .i64 rd, .int .i64 rn, .int .i64 rm, .int .i64 imm, .int .i64 mode, .int .i64 list, .bool s] : Array Value)[j]? := fun j => (hb3.cell (p := ⟨w.heap.size, j, none⟩) hz1).trans (hA1 j)
  have hz3 : w.heap.size < w3.heap.size := Nat.lt_of_lt_of_le hz1 hb3.size
  have hbel3 := hbel1.trans (hb3.mono (Nat.le_of_lt hz1))
  clear hA1 hb3 hbel1 hz1
  replace hA3 := Lib.hid hA3
  go_wp2
  go_loopw [15] (fun iv wr => ∃ k : Nat, k ≤ 21 ∧ iv = .int .i64 (k : Int) ∧ RowKit.Hid (searchP op cond rd rn rm imm mode list s it (formT.drop k) = R) ∧
    RowKit.Hid (∀ j, wr.cell? ⟨w.heap.size, j, none⟩ = (#[.int .i64 op, .int .i64 cond, .int .i64 rd, .int .i64 rn, .int .i64 rm, .int .i64 imm, .int .i64 mode, .int .i64 list, .bool s] : Array Value)[j]?) ∧ w.heap.size < wr.heap.size ∧ Below w.heap.size w wr) (fun iv _ => (21 - intOf iv).toNat)
  case atStart => exact ⟨0, by omega, rfl, HR, hA3, hz3, hbel3⟩
  case round =>
    obtain ⟨k, hk21, rfl, HX, HA, hz, hbel⟩ := hrel
    by_cases hi : k < 21
    · have hidx := fun W => index_form k hi W
      have hkl : k < formT.length := by rw [forms_len]; exact hi
      have hfm : fmOkB (formT.getD k ⟨[], 0, 0⟩) = true := by
        refine List.all_eq_true.1 forms_ok _ ?_
        rw [List.getD_eq_getElem?_getD, List.getElem?_eq_getElem hkl]
        exact List.getElem_mem _
      have hN : searchP op cond rd rn rm imm mode list s it (formT.getD k ⟨[], 0, 0⟩ :: formT.drop (k + 1)) = R := by
        rw [← HX.out, List.drop_eq_getElem_cons hkl, List.getD_eq_getElem?_getD, List.getElem?_eq_getElem hkl]; rfl
      clear HX hkl
      unfold row at hidx
      generalize formT.getD k ⟨[], 0, 0⟩ = fm at *
      obtain ⟨l, tk, fd⟩ := fm
      have hone := fm_one ⟨l, tk, fd⟩
      unfold fmOkB at hfm
      simp only [Bool.and_eq_true, beq_iff_eq, decide_eq_true_eq] at hfm
      obtain ⟨hl, htk, hfd⟩ := hfm
      have hlen : (fmC ⟨l, tk, fd⟩).length = 32 := by
        unfold fmC
        rw [List.length_append, bg_len, hl]; rfl
      have hbl := bg_len l
      rw [hl] at hbl
      have hlo : ∀ j v, (l.flatMap bgC)[j]? = some v → (fmC ⟨l, tk, fd⟩)[j]? = some v := fun j v h => by
        unfold fmC
        rw [List.getElem?_append_left (by exact (List.getElem?_eq_some_iff.1 h).1)]
        exact h
      have h30 : (fmC ⟨l, tk, fd⟩)[30]? = some (.func (.func (tkF tk)) #[] #[]) := by
        unfold fmC
        rw [List.getElem?_append_right (by rw [hbl]; decide), hbl]; rfl
      have h31 : (fmC ⟨l, tk, fd⟩)[31]? = some (.func (.func (fdF fd)) #[] #[]) := by
        unfold fmC
        rw [List.getElem?_append_right (by rw [hbl]; decide), hbl]; rfl
      have HFI := Lib.hid (fun W => find_w l hl op W)
      have HTK := Lib.hid (fun W hT => takes_c tk htk op cond rd rn rm imm mode list s it W hT)
      have HFD := Lib.hid (fun W hT => fields_c fd hfd op cond rd rn rm imm mode list s W hT)
      have het := Lib.hid (fun xs W => takes_enter tk htk xs W)
      have hef := Lib.hid (fun xs W => fields_enter fd hfd xs W)
      unfold searchP at hN
      dsimp only at hN
      generalize fmC ⟨l, tk, fd⟩ = cs at *
      have hib : (Tryd.prog.info? 45).map (·.size) = some (l.flatMap bgC).length := by rw [infoB, hbl]
      generalize findP op l = fo at *
      generalize l.flatMap bgC = bl at *
      generalize takesP tk cond rd rm imm mode list s it = tv at *
      generalize fieldsP fd cond rd rn rm imm list s = fv at *
      generalize tkF tk = tf at *
      generalize fdF fd = ff at *
      clear hl htk hfd hbl l tk fd
      have hdk : decide ((k : Int) < 21) = true := by simp; omega
      have hA := HA.out
      obtain ⟨wo, rfl⟩ : ∃ wo : World, wo = wr := ⟨_, rfl⟩
      have hnew : ∀ j, (wo.alloc (.cells cs.toArray 49)).cell? ⟨wo.heap.size, j, none⟩ = cs[j]? := fun j => (World.cell?_alloc_new wo _ _ j).trans (by simp)
      have hrng : (wo.alloc (.cells cs.toArray 49)).rangeAt wo.heap.size 0 bl := fun j v hv => by
        rw [Nat.zero_add]
        exact (hnew j).trans (hlo j v hv)
      have hA2 : ∀ j, (wo.alloc (.cells cs.toArray 49)).cell? ⟨w.heap.size, j, none⟩ = (#[.int .i64 op, .int .i64 cond, .int .i64 rd, .int .i64 rn, .int .i64 rm, .int .i64 imm, .int .i64 mode, .int .i64 list, .bool s] : Array Value)[j]? := fun j => (World.cell?_alloc_lt wo _ ⟨w.heap.size, j, none⟩ hz).trans (hA j)
      have hz2 : w.heap.size < (wo.alloc (.cells cs.toArray 49)).heap.size := by simp; omega
      have hzo2 : wo.heap.size < (wo.alloc (.cells cs.toArray 49)).heap.size := by simp
      have hbel2 : Below w.heap.size w (wo.alloc (.cells cs.toArray 49)) := hbel.alloc (Nat.le_of_lt hz) _
      have hc30 := (hnew 30).trans h30
      have hc31 := (hnew 31).trans h31
      clear hA hnew hlo h30 h31
      go_wp2_with (first
        | (refine wpList_store_new rfl rfl 49 (.tmp 8) (.tmp 17) rfl _ cs rfl rfl (by simp [hlen]) (by rw [sizeF]; simp [hlen]) hone ?_)
        | (refine wpList_load_mid rfl 45 (.tmp 19) rfl wo.heap.size 0 rfl bl _ hrng underB rfl hib ?_))
      refine (HFI.out _).mono ?_
      rintro e w4 ⟨rfl, hb4⟩
      have hA4 : ∀ j, w4.cell? ⟨w.heap.size, j, none⟩ = (#[.int .i64 op, .int .i64 cond, .int .i64 rd, .int .i64 rn, .int .i64 rm, .int .i64 imm, .int .i64 mode, .int .i64 list, .bool s] : Array Value)[j]? := fun j => (hb4.cell (p := ⟨w.heap.size, j, none⟩) hz2).trans (hA2 j)
      have hz4 : w.heap.size < w4.heap.size := Nat.lt_of_lt_of_le hz2 hb4.size
      have hzo4 : wo.heap.size < w4.heap.size := Nat.lt_of_lt_of_le hzo2 hb4.size
      have hbel4 : Below w.heap.size w w4 := hbel2.trans (hb4.mono (Nat.le_of_lt hz2))
      have hc30' := (hb4.cell (p := ⟨wo.heap.size, 30, none⟩) hzo2).trans hc30
      have hc31' := (hb4.cell (p := ⟨wo.heap.size, 31, none⟩) hzo2).trans hc31
      have hT4 : Tabs w4 := HK.out.below hbel4 HK.out.big
      clear hA2 hz2 hzo2 hbel2 hc30 hc31 hb4 hrng hib
      unfold findV
      cases fo with
      | none =>
        dsimp only at hN
        have HN := Lib.hid hN
        clear hN
        replace hA4 := Lib.hid hA4
        clear hc30' hc31' hT4
        go_wp2
        go_roundw
        case rel => exact ⟨k + 1, by omega, rfl, HN, hA4, hz4, hbel4⟩
        case measure => simp [intOf]; omega
      | some b =>
        dsimp only at hN
        have hct := HTK.out w4 hT4
        replace hct := Lib.hid hct
        clear hT4
        go_wp2_with fail
        rw [het.out, Oper.upon_enter]
        refine hct.out.mono ?_
        rintro e w5 ⟨rfl, hb5⟩
        have hA5 : ∀ j, w5.cell? ⟨w.heap.size, j, none⟩ = (#[.int .i64 op, .int .i64 cond, .int .i64 rd, .int .i64 rn, .int .i64 rm, .int .i64 imm, .int .i64 mode, .int .i64 list, .bool s] : Array Value)[j]? := fun j => (hb5.cell (p := ⟨w.heap.size, j, none⟩) hz4).trans (hA4 j)
        have hz5 : w.heap.size < w5.heap.size := Nat.lt_of_lt_of_le hz4 hb5.size
        have hbel5 : Below w.heap.size w w5 := hbel4.trans (hb5.mono (Nat.le_of_lt hz4))
        have hc31 := (hb5.cell (p := ⟨wo.heap.size, 31, none⟩) hzo4).trans hc31'
        clear hA4 hz4 hbel4 hc30' hc31' hb5 hzo4
        cases tv with
        | false =>
          rw [if_neg Bool.false_ne_true] at hN
          have HN := Lib.hid hN
          clear hN
          replace hA5 := Lib.hid hA5
          clear hc31
          go_wp2
          go_roundw
          case rel => exact ⟨k + 1, by omega, rfl, HN, hA5, hz5, hbel5⟩
          case measure => simp [intOf]; omega
        | true =>
          rw [if_pos rfl] at hN
          obtain ⟨hx0, hx1⟩ := or_bd b fv
          have hcf := Lib.hid (HFD.out w5 (HK.out.below hbel5 HK.out.big))
          obtain ⟨x, hx⟩ : ∃ x, bits .or .u32 b fv = x := ⟨_, rfl⟩
          rw [hx] at hx0 hx1 hN
          have HXE := Lib.hid hx
          clear hx
          go_wp2_with fail
          rw [hef.out, Oper.upon_enter]
          refine hcf.out.mono ?_
          rintro e w6 ⟨rfl, hb6⟩
          have hbel6 : Below w.heap.size w w6 := hbel5.trans (hb6.mono (Nat.le_of_lt hz5))
          have hge := Lib.hid (fun W => get_c x 31 16 W hx0 hx1)
          have hgl := Lib.hid (fun W => get_c x 15 0 W hx0 hx1)
          have hg1 := getI_bd x 31 16 hx0 hx1
          have hg2 := getI_bd x 15 0 hx0 hx1
          subst hN
          obtain ⟨g1, G1⟩ : ∃ g, getI x 31 16 = g := ⟨_, rfl⟩
          obtain ⟨g2, G2⟩ : ∃ g, getI x 15 0 = g := ⟨_, rfl⟩
          rw [G1] at hge hg1
          rw [G2] at hgl hg2
          replace G1 := Lib.hid G1
          replace G2 := Lib.hid G2
          obtain ⟨p1, p2⟩ := hg1
          obtain ⟨p3, p4⟩ := hg2
          clear hA5 hc31 hb6
          go_wp2_with fail
          rw [HXE.out]
          refine (hge.out _).mono ?_
          rintro e w7 ⟨rfl, n1, rfl⟩
          go_wp2_with fail
          refine (hgl.out _).mono ?_
          rintro e w8 ⟨rfl, n2, rfl⟩
          go_wp2
          try rw [Exit.noGoto_ret]
          refine bodyPost_ret (v := .tuple #[.int .i64 g1, .int .i64 g2, .bool true]) (by simp [results, Tryd.results11, go_sem]) rfl ⟨by rw [← G1.out, ← G2.out]; rfl, below_drewN hbel6 _⟩
    · have hk' : k = 21 := by omega
      subst hk'
      have hRn : R = none := by rw [← HX.out, List.drop_of_length_le (by rw [forms_len]; exact Nat.le_refl _)]; rfl
      subst hRn
      go_wp2
      try rw [Exit.noGoto_ret]
      refine bodyPost_ret (v := .tuple #[.int .i64 0, .int .i64 0, .bool false]) (by simp [results, Tryd.results11, go_sem]) rfl ⟨rfl, hbel⟩
theorem enc_c (op cond rd rn rm imm mode list : Int) (s it : Bool) (w : World) (hT : Tabs w) :
    Calls Tryd.prog 11 #[.agg #[.int .i64 op, .int .i64 cond, .int .i64 rd, .int .i64 rn, .int .i64 rm, .int .i64 imm, .int .i64 mode, .int .i64 list, .bool s], .bool it] w fun e w' => e = .returned (optW (encP op cond rd rn rm imm mode list s it)) ∧ Below w.heap.size w w' := by
  cases hc : Im.checkB op cond rd rn rm imm mode list s with
  | true => exact enc_yes op cond rd rn rm imm mode list s it w hT hc
  | false => exact enc_no op cond rd rn rm imm mode list s it w hc

end Xw
end Go.Proofs.YtmofimgodmcdjaaDoor
