/- wide's Encode and Can as the document's rows tell them; the chapter's examples (awake). No conditions but those that each fact names. -/
import Derived.Test.YtmofimgodmcdjaaDoorGk
import Derived.Test.YtmofimgodmcdjaaDoorGl
import Derived.Test.YtmofimgodmcdjaaDoorXi
import Derived.Test.YtmofimgodmcdjaaDoorXj
import Derived.Test.YtmofimgodmcdjaaDoorXk
namespace Go.Proofs.YtmofimgodmcdjaaDoor
open Go.ChangeShapes Go.WideShapes Go.ChangeAt Go.RowKit
namespace Xw

theorem we_all (op cond rd rn rm imm mode list : Int) (s it : Bool) (hok : Nm.okB ⟨op, cond, rd, rn, rm, imm, mode, list, s⟩ = true) (hw : Nm.Wide list) : (searchP op cond rd rn rm imm mode list s it formT).map splitW = Wm.rowW Wm.findF ⟨op, cond, rd, rn, rm, imm, mode, list, s⟩ it := by
  have hop : 1 ≤ op ∧ op ≤ 45 := (Nm.ok_parts hok).1
  rcases (by omega : op = 1 ∨ op = 2 ∨ op = 3 ∨ op = 4 ∨ op = 5 ∨ op = 6 ∨ op = 7 ∨ op = 8 ∨ op = 9 ∨ op = 10 ∨ op = 11 ∨ op = 12 ∨ op = 13 ∨ op = 14 ∨ op = 15 ∨ op = 16 ∨ op = 17 ∨ op = 18 ∨ op = 19 ∨ op = 20 ∨ op = 21 ∨ op = 22 ∨ op = 23 ∨ op = 24 ∨ op = 25 ∨ op = 26 ∨ op = 27 ∨ op = 28 ∨ op = 29 ∨ op = 30 ∨ op = 31 ∨ op = 32 ∨ op = 33 ∨ op = 34 ∨ op = 35 ∨ op = 36 ∨ op = 37 ∨ op = 38 ∨ op = 39 ∨ op = 40 ∨ op = 41 ∨ op = 42 ∨ op = 43 ∨ op = 44 ∨ op = 45) with rfl | rfl | rfl | rfl | rfl | rfl | rfl | rfl | rfl | rfl | rfl | rfl | rfl | rfl | rfl | rfl | rfl | rfl | rfl | rfl | rfl | rfl | rfl | rfl | rfl | rfl | rfl | rfl | rfl | rfl | rfl | rfl | rfl | rfl | rfl | rfl | rfl | rfl | rfl | rfl | rfl | rfl | rfl | rfl | rfl
  · exact we_1 cond rd rn rm imm mode list s it hok hw
  · exact we_2 cond rd rn rm imm mode list s it hok hw
  · exact we_3 cond rd rn rm imm mode list s it hok hw
  · exact we_4 cond rd rn rm imm mode list s it hok hw
  · exact we_5 cond rd rn rm imm mode list s it hok hw
  · exact we_6 cond rd rn rm imm mode list s it hok hw
  · exact we_7 cond rd rn rm imm mode list s it hok hw
  · exact we_8 cond rd rn rm imm mode list s it hok hw
  · exact we_9 cond rd rn rm imm mode list s it hok hw
  · exact we_10 cond rd rn rm imm mode list s it hok hw
  · exact we_11 cond rd rn rm imm mode list s it hok hw
  · exact we_12 cond rd rn rm imm mode list s it hok hw
  · exact we_13 cond rd rn rm imm mode list s it hok hw
  · exact we_14 cond rd rn rm imm mode list s it hok hw
  · exact we_15 cond rd rn rm imm mode list s it hok hw
  · exact we_16 cond rd rn rm imm mode list s it hok hw
  · exact we_17 cond rd rn rm imm mode list s it hok hw
  · exact we_18 cond rd rn rm imm mode list s it hok hw
  · exact we_19 cond rd rn rm imm mode list s it hok hw
  · exact we_20 cond rd rn rm imm mode list s it hok hw
  · exact we_21 cond rd rn rm imm mode list s it hok hw
  · exact we_22 cond rd rn rm imm mode list s it hok hw
  · exact we_23 cond rd rn rm imm mode list s it hok hw
  · exact we_24 cond rd rn rm imm mode list s it hok hw
  · exact we_25 cond rd rn rm imm mode list s it hok hw
  · exact we_26 cond rd rn rm imm mode list s it hok hw
  · exact we_27 cond rd rn rm imm mode list s it hok hw
  · exact we_28 cond rd rn rm imm mode list s it hok hw
  · exact we_29 cond rd rn rm imm mode list s it hok hw
  · exact we_30 cond rd rn rm imm mode list s it hok hw
  · exact we_31 cond rd rn rm imm mode list s it hok hw
  · exact we_32 cond rd rn rm imm mode list s it hok hw
  · exact we_33 cond rd rn rm imm mode list s it hok hw
  · exact we_34 cond rd rn rm imm mode list s it hok hw
  · exact we_35 cond rd rn rm imm mode list s it hok hw
  · exact we_36 cond rd rn rm imm mode list s it hok hw
  · exact we_37 cond rd rn rm imm mode list s it
  · exact we_38 cond rd rn rm imm mode list s it
  · exact we_39 cond rd rn rm imm mode list s it
  · exact we_40 cond rd rn rm imm mode list s it hok hw
  · exact we_41 cond rd rn rm imm mode list s it hok hw
  · exact we_42 cond rd rn rm imm mode list s it
  · exact we_43 cond rd rn rm imm mode list s it hok hw
  · exact we_44 cond rd rn rm imm mode list s it
  · exact we_45 cond rd rn rm imm mode list s it hok hw
theorem enc_is (op cond rd rn rm imm mode list : Int) (s it : Bool) (hw : Nm.Wide list) : (encP op cond rd rn rm imm mode list s it).map splitW = Wm.encW Wm.findF ⟨op, cond, rd, rn, rm, imm, mode, list, s⟩ it := by
  unfold encP Wm.encW
  cases hc : Nm.okB ⟨op, cond, rd, rn, rm, imm, mode, list, s⟩ with
  | true =>
    have hc' : Im.checkB op cond rd rn rm imm mode list s = true := hc
    rw [hc', if_pos rfl, if_pos rfl]; exact we_all op cond rd rn rm imm mode list s it hc hw
  | false =>
    have hc' : Im.checkB op cond rd rn rm imm mode list s = false := hc
    rw [hc', if_neg Bool.false_ne_true, if_neg Bool.false_ne_true]
    rfl
def optP : Option (Int × Int) → Value
  | some p => .tuple #[.int .i64 p.1, .int .i64 p.2, .bool true]
  | none => .tuple #[.int .i64 0, .int .i64 0, .bool false]
theorem search_bd (op cond rd rn rm imm mode list : Int) (s it : Bool) : ∀ l x, searchP op cond rd rn rm imm mode list s it l = some x → 0 ≤ x ∧ x < 4294967296
  | [], _, h => by cases h
  | f :: r, x, h => by
    unfold searchP at h
    cases hf : findP op f.of_ with
    | none => rw [hf] at h; exact search_bd op cond rd rn rm imm mode list s it r x h
    | some b =>
      rw [hf] at h
      dsimp only at h
      split at h
      · cases h; exact or_bd _ _
      · exact search_bd op cond rd rn rm imm mode list s it r x h
theorem opt_is (op cond rd rn rm imm mode list : Int) (s it : Bool) : optW (encP op cond rd rn rm imm mode list s it) = optP ((encP op cond rd rn rm imm mode list s it).map splitW) := by
  cases h : encP op cond rd rn rm imm mode list s it with
  | none => rfl
  | some x =>
    have hb : 0 ≤ x ∧ x < 4294967296 := by
      unfold encP at h
      split at h
      · exact search_bd _ _ _ _ _ _ _ _ _ _ _ _ h
      · cases h
    rw [Option.map_some]
    unfold optW optP splitW
    dsimp only
    rw [(Om.get_n x 31 16 65536 65536 rfl rfl (by decide) (by decide) (by decide) (by decide) hb.1 : getI x 31 16 = _), (Om.get_n x 15 0 1 65536 rfl rfl (by decide) (by decide) (by decide) (by decide) hb.1 : getI x 15 0 = _)]
    rw [show x / 65536 % 65536 = x / 65536 by omega, show x / 1 % 65536 = x % 65536 by omega]
theorem penc_c (op cond rd rn rm imm mode list : Int) (s it : Bool) (hw : Nm.Wide list) (w : World) (hT : Tabs w) :
    Calls Tryd.prog 11 #[.agg #[.int .i64 op, .int .i64 cond, .int .i64 rd, .int .i64 rn, .int .i64 rm, .int .i64 imm, .int .i64 mode, .int .i64 list, .bool s], .bool it] w fun e w' => e = .returned (optP (Wm.encW Wm.findF ⟨op, cond, rd, rn, rm, imm, mode, list, s⟩ it)) ∧ Below w.heap.size w w' := by
  rw [← enc_is op cond rd rn rm imm mode list s it hw, ← opt_is]
  exact enc_c op cond rd rn rm imm mode list s it w hT

/-- W is a world behind w: both tables lie there still, and all that was there at w -/
structure Later (w W : World) : Prop where
  tabs : Tabs W
  bel : Below w.heap.size w W
theorem Later.refl {w : World} (h : Tabs w) : Later w w := ⟨h, Below.refl _ _⟩
theorem Later.step {w W W' : World} (h : Later w W) (hb : Below W.heap.size W W') : Later w W' := ⟨h.tabs.below hb h.tabs.big, h.bel.trans (hb.mono h.bel.size)⟩
theorem Later.drewn {w W : World} (h : Later w W) (n : Nat) : Later w (W.drewN n) := ⟨h.tabs.drew n, below_drewN h.bel n⟩

theorem wide0 : Nm.Wide 0 := ⟨by decide, by decide⟩
end Xw
end Go.Proofs.YtmofimgodmcdjaaDoor
