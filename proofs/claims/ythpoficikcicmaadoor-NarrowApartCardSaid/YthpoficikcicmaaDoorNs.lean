/- narrow's Encode and Can as the document's rows tell them; the chapter's examples (awake). No conditions but those that each fact names. -/
import Derived.Test.YthpoficikcicmaaDoorRows
import Derived.Test.YthpoficikcicmaaDoorNr
import Derived.Test.YthpoficikcicmaaDoorPi
namespace Go.Proofs.YthpoficikcicmaaDoor
open Go.ChangeShapes Go.WideShapes Go.ChangeAt Go.RowKit

theorem penc_c (op cond rd rn rm imm mode list : Int) (s it : Bool) (hw : Nm.Wide list) (w : World) (hT : Tabs w) :
    Calls Tryd.prog 7 #[.agg #[.int .i64 op, .int .i64 cond, .int .i64 rd, .int .i64 rn, .int .i64 rm, .int .i64 imm, .int .i64 mode, .int .i64 list, .bool s], .bool it] w fun e w' => e = .returned (optV (Nm.encI ⟨op, cond, rd, rn, rm, imm, mode, list, s⟩ it)) ∧ Below w.heap.size w w' := by
  rw [← Pl.enc_is op cond rd rn rm imm mode list s it hw]
  exact enc_c op cond rd rn rm imm mode list s it w hT
theorem pcan_c (op cond rd rn rm imm mode list : Int) (s it : Bool) (hw : Nm.Wide list) (w : World) (hT : Tabs w) :
    Calls Tryd.prog 9 #[.agg #[.int .i64 op, .int .i64 cond, .int .i64 rd, .int .i64 rn, .int .i64 rm, .int .i64 imm, .int .i64 mode, .int .i64 list, .bool s], .bool it] w fun e w' => e = .returned (.bool (Nm.encI ⟨op, cond, rd, rn, rm, imm, mode, list, s⟩ it).isSome) ∧ Below w.heap.size w w' := by
  rw [← Pl.enc_is op cond rd rn rm imm mode list s it hw]
  exact can_c op cond rd rn rm imm mode list s it w hT

/-- W is a world behind w: both tables lie there still, and all that was there at w -/
structure Later (w W : World) : Prop where
  tabs : Tabs W
  bel : Below w.heap.size w W
theorem Later.refl {w : World} (h : Tabs w) : Later w w := ⟨h, Below.refl _ _⟩
theorem Later.step {w W W' : World} (h : Later w W) (hb : Below W.heap.size W W') : Later w W' := ⟨h.tabs.below hb h.tabs.big, h.bel.trans (hb.mono h.bel.size)⟩
theorem Later.drewn {w W : World} (h : Later w W) (n : Nat) : Later w (W.drewN n) := ⟨h.tabs.drew n, below_drewN h.bel n⟩

theorem wide0 : Nm.Wide 0 := ⟨by decide, by decide⟩
theorem aw1 : optV (Nm.encI ⟨5, 0, 0, 0, 1, 0, 2, 0, true⟩ false) = .tuple #[.int .i64 6208, .bool true] := by rw [show Nm.encI ⟨5, 0, 0, 0, 1, 0, 2, 0, true⟩ false = some 6208 by decide +kernel]; rfl
theorem aw2 : optV (Nm.encI ⟨5, 0, 8, 8, 1, 0, 2, 0, false⟩ false) = .tuple #[.int .i64 17544, .bool true] := by rw [show Nm.encI ⟨5, 0, 8, 8, 1, 0, 2, 0, false⟩ false = some 17544 by decide +kernel]; rfl
theorem aw3 : (Nm.encI ⟨43, 0, 0, 0, 0, 0, 0, 0, false⟩ true).isSome = true := by decide +kernel
theorem aw4 : (Nm.encI ⟨36, 0, 0, 0, 0, 0, 1, 0, false⟩ false).isSome = false := by decide +kernel
theorem enc1_c (w : World) (hT : Tabs w) :
    Calls Tryd.prog 7 #[.agg #[.int .i64 5, .int .i64 0, .int .i64 0, .int .i64 0, .int .i64 1, .int .i64 0, .int .i64 2, .int .i64 0, .bool true], .bool false] w fun e w' => e = .returned (.tuple #[.int .i64 6208, .bool true]) ∧ Below w.heap.size w w' := by
  have h := penc_c 5 0 0 0 1 0 2 0 true false wide0 w hT
  rwa [aw1] at h
theorem enc2_c (w : World) (hT : Tabs w) :
    Calls Tryd.prog 7 #[.agg #[.int .i64 5, .int .i64 0, .int .i64 8, .int .i64 8, .int .i64 1, .int .i64 0, .int .i64 2, .int .i64 0, .bool false], .bool false] w fun e w' => e = .returned (.tuple #[.int .i64 17544, .bool true]) ∧ Below w.heap.size w w' := by
  have h := penc_c 5 0 8 8 1 0 2 0 false false wide0 w hT
  rwa [aw2] at h
theorem can3_c (w : World) (hT : Tabs w) :
    Calls Tryd.prog 9 #[.agg #[.int .i64 43, .int .i64 0, .int .i64 0, .int .i64 0, .int .i64 0, .int .i64 0, .int .i64 0, .int .i64 0, .bool false], .bool true] w fun e w' => e = .returned (.bool true) ∧ Below w.heap.size w w' := by
  have h := pcan_c 43 0 0 0 0 0 0 0 false true wide0 w hT
  rwa [aw3] at h
theorem can4_c (w : World) (hT : Tabs w) :
    Calls Tryd.prog 9 #[.agg #[.int .i64 36, .int .i64 0, .int .i64 0, .int .i64 0, .int .i64 0, .int .i64 0, .int .i64 1, .int .i64 0, .bool false], .bool false] w fun e w' => e = .returned (.bool false) ∧ Below w.heap.size w w' := by
  have h := pcan_c 36 0 0 0 0 0 1 0 false false wide0 w hT
  rwa [aw4] at h

theorem awake_c (w : World) (hT : Tabs w) :
    Calls Tryd.prog 10 #[] w fun e w' => e = .returned (.bool true) ∧ Below w.heap.size w w' := by
  have hL := Lib.hid (Later.refl hT)
  clear hT
  go_enter Tryd.func10, Tryd.ntmps10
  go_wp2_with fail
  refine (enc1_c _ hL.out.tabs).mono ?_
  rintro e w2 ⟨rfl, hb⟩
  replace hL := Lib.hid (hL.out.step hb)
  clear hb
  go_wp2_with fail
  refine (enc2_c _ hL.out.tabs).mono ?_
  rintro e w3 ⟨rfl, hb⟩
  replace hL := Lib.hid (hL.out.step hb)
  clear hb
  go_wp2_with fail
  refine (can3_c _ hL.out.tabs).mono ?_
  rintro e w4 ⟨rfl, hb⟩
  replace hL := Lib.hid (hL.out.step hb)
  clear hb
  go_wp2_with fail
  refine (can4_c _ hL.out.tabs).mono ?_
  rintro e w5 ⟨rfl, hb⟩
  replace hL := Lib.hid (hL.out.step hb)
  clear hb
  go_wp2
  go_ret
  exact ⟨rfl, hL.out.bel⟩
end Go.Proofs.YthpoficikcicmaaDoor
