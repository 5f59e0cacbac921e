/- wide's Encode and Can as the document's rows tell them; the chapter's examples (awake). No conditions but those that each fact names. -/
import Derived.Test.YtgjipmlegpbaaaaDoorXd
import Derived.Test.YtgjipmlegpbaaaaDoorXe
import Derived.Test.YtgjipmlegpbaaaaDoorXg
import Derived.Test.YtgjipmlegpbaaaaDoorXh
import Derived.Test.YtgjipmlegpbaaaaDoorXi
import Derived.Test.YtgjipmlegpbaaaaDoorXj
import Derived.Test.YtgjipmlegpbaaaaDoorXk
namespace Go.Proofs.YtgjipmlegpbaaaaDoor
open Go.ChangeShapes Go.WideShapes Go.ChangeAt Go.RowKit
namespace Xw

theorem we_all (op cond rd rn rm imm mode list : Int) (s it : Bool) (hok : Nm.okB ⟨op, cond, rd, rn, rm, imm, mode, list, s⟩ = true) (hw : Nm.Wide list) : (searchP op cond rd rn rm imm mode list s it formT).map splitW = Wm.rowW Wm.findF ⟨op, cond, rd, rn, rm, imm, mode, list, s⟩ it := by
  have hop : 1 ≤ op ∧ op ≤ 45 := (Nm.ok_parts hok).1
  rcases (by omega : op = 1 ∨ op = 2 ∨ op = 3 ∨ op = 4 ∨ op = 5 ∨ op = 6 ∨ op = 7 ∨ op = 8 ∨ op = 9 ∨ op = 10 ∨ op = 11 ∨ op = 12 ∨ op = 13 ∨ op = 14 ∨ op = 15 ∨ op = 16 ∨ op = 17 ∨ op = 18 ∨ op = 19 ∨ op = 20 ∨ op = 21 ∨ op = 22 ∨ op = 23 ∨ op = 24 ∨ op = 25 ∨ op = 26 ∨ op = 27 ∨ op = 28 ∨ op = 29 ∨ op = 30 ∨ op = 31 ∨ op = 32 ∨ op = 33 ∨ op = 34 ∨ op = 35 ∨ op = 36 ∨ op = 37 ∨ op = 38 ∨ op = 39 ∨ op = 40 ∨ op = 41 ∨ op = 42 ∨ op = 43 ∨ op = 44 ∨ op = 45) with rfl | rfl | rfl | rfl | rfl | rfl | rfl | rfl | rfl | rfl | rfl | rfl | rfl | rfl | rfl | rfl | rfl | rfl | rfl | rfl | rfl | rfl | rfl | rfl | rfl | rfl | rfl | rfl | rfl | rfl | rfl | rfl | rfl | rfl | rfl | rfl | rfl | rfl | rfl | rfl | rfl | rfl | rfl | rfl | rfl
  · exact we_1 cond rd rn rm imm mode list s it hok hw
  · exact we_2 cond rd rn rm imm mode list s it hok hw
  · exact we_3 cond rd rn rm imm mode list s it hok hw
  · exact we_4 cond rd rn rm imm mode list s it hok hw
  · exact we_5 cond rd rn rm imm mode list s it hok hw
  · exact we_6 cond rd rn rm imm mode list s it hok hw
  · exact we_7 cond rd rn rm imm mode list s it hok hw
  · exact we_8 cond rd rn rm imm mode list s it hok hw
  · exact we_9 cond rd rn rm imm mode list s it hok hw
  · exact we_10 cond rd rn rm imm mode list s it hok hw
  · exact we_11 cond rd rn rm imm mode list s it hok hw
  · exact we_12 cond rd rn rm imm mode list s it hok hw
  · exact we_13 cond rd rn rm imm mode list s it hok hw
  · exact we_14 cond rd rn rm imm mode list s it hok hw
  · exact we_15 cond rd rn rm imm mode list s it hok hw
  · exact we_16 cond rd rn rm imm mode list s it hok hw
  · exact we_17 cond rd rn rm imm mode list s it hok hw
  · exact we_18 cond rd rn rm imm mode list s it hok hw
  · exact we_19 cond rd rn rm imm mode list s it hok hw
  · exact we_20 cond rd rn rm imm mode list s it hok hw
  · exact we_21 cond rd rn rm imm mode list s it hok hw
  · exact we_22 cond rd rn rm imm mode list s it hok hw
  · exact we_23 cond rd rn rm imm mode list s it hok hw
  · exact we_24 cond rd rn rm imm mode list s it hok hw
  · exact we_25 cond rd rn rm imm mode list s it hok hw
  · exact we_26 cond rd rn rm imm mode list s it hok hw
  · exact we_27 cond rd rn rm imm mode list s it hok hw
  · exact we_28 cond rd rn rm imm mode list s it hok hw
  · exact we_29 cond rd rn rm imm mode list s it hok hw
  · exact we_30 cond rd rn rm imm mode list s it hok hw
  · exact we_31 cond rd rn rm imm mode list s it hok hw
  · exact we_32 cond rd rn rm imm mode list s it hok hw
  · exact we_33 cond rd rn rm imm mode list s it hok hw
  · exact we_34 cond rd rn rm imm mode list s it hok hw
  · exact we_35 cond rd rn rm imm mode list s it hok hw
  · exact we_36 cond rd rn rm imm mode list s it hok hw
  · exact we_37 cond rd rn rm imm mode list s it
  · exact we_38 cond rd rn rm imm mode list s it
  · exact we_39 cond rd rn rm imm mode list s it
  · exact we_40 cond rd rn rm imm mode list s it hok hw
  · exact we_41 cond rd rn rm imm mode list s it hok hw
  · exact we_42 cond rd rn rm imm mode list s it
  · exact we_43 cond rd rn rm imm mode list s it hok hw
  · exact we_44 cond rd rn rm imm mode list s it
  · exact we_45 cond rd rn rm imm mode list s it hok hw
theorem enc_is (op cond rd rn rm imm mode list : Int) (s it : Bool) (hw : Nm.Wide list) : (encP op cond rd rn rm imm mode list s it).map splitW = Wm.encW Wm.findF ⟨op, cond, rd, rn, rm, imm, mode, list, s⟩ it := by
  unfold encP Wm.encW
  cases hc : Nm.okB ⟨op, cond, rd, rn, rm, imm, mode, list, s⟩ with
  | true =>
    have hc' : Im.checkB op cond rd rn rm imm mode list s = true := hc
    rw [hc', if_pos rfl, if_pos rfl]; exact we_all op cond rd rn rm imm mode list s it hc hw
  | false =>
    have hc' : Im.checkB op cond rd rn rm imm mode list s = false := hc
    rw [hc', if_neg Bool.false_ne_true, if_neg Bool.false_ne_true]
    rfl
def optP : Option (Int × Int) → Value
  | some p => .tuple #[.int .i64 p.1, .int .i64 p.2, .bool true]
  | none => .tuple #[.int .i64 0, .int .i64 0, .bool false]
theorem search_bd (op cond rd rn rm imm mode list : Int) (s it : Bool) : ∀ l x, searchP op cond rd rn rm imm mode list s it l = some x → 0 ≤ x ∧ x < 4294967296
  | [], _, h => by cases h
  | f :: r, x, h => by
    unfold searchP at h
    cases hf : findP op f.of_ with
    | none => rw [hf] at h; exact search_bd op cond rd rn rm imm mode list s it r x h
    | some b =>
      rw [hf] at h
      dsimp only at h
      split at h
      · cases h; exact or_bd _ _
      · exact search_bd op cond rd rn rm imm mode list s it r x h
theorem opt_is (op cond rd rn rm imm mode list : Int) (s it : Bool) : optW (encP op cond rd rn rm imm mode list s it) = optP ((encP op cond rd rn rm imm mode list s it).map splitW) := by
  cases h : encP op cond rd rn rm imm mode list s it with
  | none => rfl
  | some x =>
    have hb : 0 ≤ x ∧ x < 4294967296 := by
      unfold encP at h
      split at h
      · exact search_bd _ _ _ _ _ _ _ _ _ _ _ _ h
      · cases h
    rw [Option.map_some]
    unfold optW optP splitW
    dsimp only
    rw [(Om.get_n x 31 16 65536 65536 rfl rfl (by decide) (by decide) (by decide) (by decide) hb.1 : getI x 31 16 = _), (Om.get_n x 15 0 1 65536 rfl rfl (by decide) (by decide) (by decide) (by decide) hb.1 : getI x 15 0 = _)]
    rw [show x / 65536 % 65536 = x / 65536 by omega, show x / 1 % 65536 = x % 65536 by omega]
theorem penc_c (op cond rd rn rm imm mode list : Int) (s it : Bool) (hw : Nm.Wide list) (w : World) (hT : Tabs w) :
    Calls Tryd.prog 7 #[.agg #[.int .i64 op, .int .i64 cond, .int .i64 rd, .int .i64 rn, .int .i64 rm, .int .i64 imm, .int .i64 mode, .int .i64 list, .bool s], .bool it] w fun e w' => e = .returned (optP (Wm.encW Wm.findF ⟨op, cond, rd, rn, rm, imm, mode, list, s⟩ it)) ∧ Below w.heap.size w w' := by
  rw [← enc_is op cond rd rn rm imm mode list s it hw, ← opt_is]
  exact enc_c op cond rd rn rm imm mode list s it w hT
theorem pcan_c (op cond rd rn rm imm mode list : Int) (s it : Bool) (hw : Nm.Wide list) (w : World) (hT : Tabs w) :
    Calls Tryd.prog 11 #[.agg #[.int .i64 op, .int .i64 cond, .int .i64 rd, .int .i64 rn, .int .i64 rm, .int .i64 imm, .int .i64 mode, .int .i64 list, .bool s], .bool it] w fun e w' => e = .returned (.bool (Wm.encW Wm.findF ⟨op, cond, rd, rn, rm, imm, mode, list, s⟩ it).isSome) ∧ Below w.heap.size w w' := by
  rw [← enc_is op cond rd rn rm imm mode list s it hw, Option.isSome_map]
  exact can_c op cond rd rn rm imm mode list s it w hT

/-- W is a world behind w: both tables lie there still, and all that was there at w -/
structure Later (w W : World) : Prop where
  tabs : Tabs W
  bel : Below w.heap.size w W
theorem Later.refl {w : World} (h : Tabs w) : Later w w := ⟨h, Below.refl _ _⟩
theorem Later.step {w W W' : World} (h : Later w W) (hb : Below W.heap.size W W') : Later w W' := ⟨h.tabs.below hb h.tabs.big, h.bel.trans (hb.mono h.bel.size)⟩
theorem Later.drewn {w W : World} (h : Later w W) (n : Nat) : Later w (W.drewN n) := ⟨h.tabs.drew n, below_drewN h.bel n⟩

theorem wide0 : Nm.Wide 0 := ⟨by decide, by decide⟩
theorem f1 : Wm.findF 1 = some 1 := by decide +kernel
theorem aw1 : Wm.encW Wm.findF ⟨10, 0, 0, 0, 0, 1, 1, 0, false⟩ false = some (61519, 1) := by
  unfold Wm.encW
  rw [if_pos (by decide +kernel)]
  unfold Wm.rowW Wm.dataW
  dsimp only
  rw [if_pos (by decide), if_neg (by decide), f1]
  rfl
theorem aw2 : Wm.encW Wm.findF ⟨36, 0, 0, 0, 0, 0, 1, 0, false⟩ false = some (61440, 63488) := by
  unfold Wm.encW
  rw [if_pos (by decide +kernel)]
  rfl
theorem aw3 : (Wm.encW Wm.findF ⟨39, 0, 0, 0, 0, 0, 2, 0, false⟩ false).isSome = false := by
  unfold Wm.encW
  rw [if_pos (by decide +kernel)]
  rfl
theorem aw4 : (Wm.encW Wm.findF ⟨43, 0, 0, 0, 0, 0, 0, 0, false⟩ true).isSome = true := by
  unfold Wm.encW
  rw [if_pos (by decide +kernel)]
  rfl
theorem awake_c (w : World) (hT : Tabs w) :
    Calls Tryd.prog 8 #[] w fun e w' => e = .returned (.bool true) ∧ Below w.heap.size w w' := by
  have hL := Lib.hid (Later.refl hT)
  clear hT
  have h1 := fun W hT => penc_c 10 0 0 0 0 1 1 0 false false wide0 W hT
  rw [aw1] at h1
  have h2 := fun W hT => penc_c 36 0 0 0 0 0 1 0 false false wide0 W hT
  rw [aw2] at h2
  have h3 := fun W hT => pcan_c 39 0 0 0 0 0 2 0 false false wide0 W hT
  rw [aw3] at h3
  have h4 := fun W hT => pcan_c 43 0 0 0 0 0 0 0 false true wide0 W hT
  rw [aw4] at h4
  replace h1 := Lib.hid h1
  replace h2 := Lib.hid h2
  replace h3 := Lib.hid h3
  replace h4 := Lib.hid h4
  go_enter Tryd.func8, Tryd.ntmps8
  go_wp2_with fail
  refine (h1.out _ hL.out.tabs).mono ?_
  rintro e w2 ⟨rfl, hb⟩
  replace hL := Lib.hid (hL.out.step hb)
  clear hb
  unfold optP
  go_wp2_with fail
  refine (h2.out _ hL.out.tabs).mono ?_
  rintro e w3 ⟨rfl, hb⟩
  replace hL := Lib.hid (hL.out.step hb)
  clear hb
  unfold optP
  go_wp2_with fail
  refine (h3.out _ hL.out.tabs).mono ?_
  rintro e w4 ⟨rfl, hb⟩
  replace hL := Lib.hid (hL.out.step hb)
  clear hb
  go_wp2_with fail
  refine (h4.out _ hL.out.tabs).mono ?_
  rintro e w5 ⟨rfl, hb⟩
  replace hL := Lib.hid (hL.out.step hb)
  clear hb
  go_wp2
  go_ret
  exact ⟨rfl, hL.out.bel⟩
end Xw
end Go.Proofs.YtgjipmlegpbaaaaDoor
