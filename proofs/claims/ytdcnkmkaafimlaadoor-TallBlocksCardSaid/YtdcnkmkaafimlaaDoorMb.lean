/- TallBlocks: but for branches by a condition two halfwords are read the same in a block and out. Conditions: those that TallOk names. -/
import Derived.Test.YtdcnkmkaafimlaaDoorRows
import Derived.Test.YtdcnkmkaafimlaaDoorGu
namespace Go.Proofs.YtdcnkmkaafimlaaDoor
open Go.ChangeShapes Go.WideShapes Go.ChangeAt Go.RowKit

theorem tblk_none (P : TallOk) (a b : Int) (hq : Tm.tallP Wm.tellF Tm.validI (a % 65536) (b % 65536) false = none) (hk : Tm.tallP Wm.tellF Tm.validI (a % 65536) (b % 65536) true = none) (w : World) (hT : Tabs w) :
    Calls Tryd.prog 4 #[.int .i64 a, .int .i64 b] w fun e w' => e = .returned (.bool true) ∧ Below w.heap.size w w' := by
  have hA := Lib.hid (fun W hT => tawake_c P W hT)
  have h1 := fun W hT => P.tall a b false W hT
  have h2 := fun W hT => P.tall a b true W hT
  rw [hq] at h1
  rw [hk] at h2
  replace h1 := Lib.hid h1
  replace h2 := Lib.hid h2
  clear hq hk P
  have hL := Lib.hid (Later.refl hT)
  clear hT
  go_enter Tryd.func4, Tryd.ntmps4
  go_wp2_with fail
  refine (h1.out _ hL.out.tabs).mono ?_
  rintro e w1 ⟨rfl, hb⟩
  replace hL := Lib.hid ((hL.out.step hb).step (tone_b w1 (.cells #[.int .i64 0, .int .i64 0, .int .i64 0, .int .i64 0, .int .i64 0, .int .i64 0, .int .i64 0, .int .i64 0, .bool false] 23)))
  clear hb
  unfold Tl.decV
  dsimp only
  unfold Tl.IV Tm.Z
  dsimp only
  go_wp2_with fail
  refine (h2.out _ hL.out.tabs).mono ?_
  rintro e w2 ⟨rfl, hb⟩
  obtain ⟨c1, l1⟩ := tnew_cells hb
  replace hL := Lib.hid ((hL.out.step hb).step (tone_b w2 (.cells #[.int .i64 0, .int .i64 0, .int .i64 0, .int .i64 0, .int .i64 0, .int .i64 0, .int .i64 0, .int .i64 0, .bool false] 23)))
  clear hb
  unfold Tl.decV
  dsimp only
  unfold Tl.IV Tm.Z
  dsimp only
  go_wp2_with fail
  refine (hA.out _ hL.out.tabs).mono ?_
  rintro e w9 ⟨rfl, hb⟩
  go_wp2
  go_ret
  exact ⟨rfl, (hL.out.step hb).bel⟩
theorem tblk_branch (P : TallOk) (a b : Int) (op cond rd rn rm imm mode list : Int) (s : Bool) (ho : (op == 35) = true) (hc : (cond != 14) = true) (hq : Tm.tallP Wm.tellF Tm.validI (a % 65536) (b % 65536) false = some ⟨op, cond, rd, rn, rm, imm, mode, list, s⟩) (hk : Tm.tallP Wm.tellF Tm.validI (a % 65536) (b % 65536) true = none) (w : World) (hT : Tabs w) :
    Calls Tryd.prog 4 #[.int .i64 a, .int .i64 b] w fun e w' => e = .returned (.bool true) ∧ Below w.heap.size w w' := by
  have hA := Lib.hid (fun W hT => tawake_c P W hT)
  have h1 := fun W hT => P.tall a b false W hT
  have h2 := fun W hT => P.tall a b true W hT
  rw [hq] at h1
  rw [hk] at h2
  replace h1 := Lib.hid h1
  replace h2 := Lib.hid h2
  clear hq hk P
  have hL := Lib.hid (Later.refl hT)
  clear hT
  go_enter Tryd.func4, Tryd.ntmps4
  go_wp2_with fail
  refine (h1.out _ hL.out.tabs).mono ?_
  rintro e w1 ⟨rfl, hb⟩
  replace hL := Lib.hid ((hL.out.step hb).step (tone_b w1 (.cells #[.int .i64 op, .int .i64 cond, .int .i64 rd, .int .i64 rn, .int .i64 rm, .int .i64 imm, .int .i64 mode, .int .i64 list, .bool s] 23)))
  clear hb
  unfold Tl.decV
  dsimp only
  unfold Tl.IV
  dsimp only
  go_wp2_with fail
  refine (h2.out _ hL.out.tabs).mono ?_
  rintro e w2 ⟨rfl, hb⟩
  obtain ⟨c1, l1⟩ := tnew_cells hb
  replace hL := Lib.hid ((hL.out.step hb).step (tone_b w2 (.cells #[.int .i64 0, .int .i64 0, .int .i64 0, .int .i64 0, .int .i64 0, .int .i64 0, .int .i64 0, .int .i64 0, .bool false] 23)))
  clear hb
  unfold Tl.decV
  dsimp only
  unfold Tl.IV Tm.Z
  dsimp only
  go_wp2_with fail
  refine (hA.out _ hL.out.tabs).mono ?_
  rintro e w9 ⟨rfl, hb⟩
  go_wp2
  go_ret
  exact ⟨rfl, (hL.out.step hb).bel⟩
theorem tblk_op (P : TallOk) (a b : Int) (op cond rd rn rm imm mode list : Int) (s : Bool) (ho : (op == 35) = false) (hq : Tm.tallP Wm.tellF Tm.validI (a % 65536) (b % 65536) false = some ⟨op, cond, rd, rn, rm, imm, mode, list, s⟩) (hk : Tm.tallP Wm.tellF Tm.validI (a % 65536) (b % 65536) true = some ⟨op, cond, rd, rn, rm, imm, mode, list, s⟩) (w : World) (hT : Tabs w) :
    Calls Tryd.prog 4 #[.int .i64 a, .int .i64 b] w fun e w' => e = .returned (.bool true) ∧ Below w.heap.size w w' := by
  have hA := Lib.hid (fun W hT => tawake_c P W hT)
  have h1 := fun W hT => P.tall a b false W hT
  have h2 := fun W hT => P.tall a b true W hT
  rw [hq] at h1
  rw [hk] at h2
  replace h1 := Lib.hid h1
  replace h2 := Lib.hid h2
  clear hq hk P
  have hL := Lib.hid (Later.refl hT)
  clear hT
  go_enter Tryd.func4, Tryd.ntmps4
  go_wp2_with fail
  refine (h1.out _ hL.out.tabs).mono ?_
  rintro e w1 ⟨rfl, hb⟩
  replace hL := Lib.hid ((hL.out.step hb).step (tone_b w1 (.cells #[.int .i64 op, .int .i64 cond, .int .i64 rd, .int .i64 rn, .int .i64 rm, .int .i64 imm, .int .i64 mode, .int .i64 list, .bool s] 23)))
  clear hb
  unfold Tl.decV
  dsimp only
  unfold Tl.IV
  dsimp only
  go_wp2_with fail
  refine (h2.out _ hL.out.tabs).mono ?_
  rintro e w2 ⟨rfl, hb⟩
  obtain ⟨c1, l1⟩ := tnew_cells hb
  replace hL := Lib.hid ((hL.out.step hb).step (tone_b w2 (.cells #[.int .i64 op, .int .i64 cond, .int .i64 rd, .int .i64 rn, .int .i64 rm, .int .i64 imm, .int .i64 mode, .int .i64 list, .bool s] 23)))
  clear hb
  unfold Tl.decV
  dsimp only
  unfold Tl.IV
  dsimp only
  go_wp2_with fail
  refine (hA.out _ hL.out.tabs).mono ?_
  rintro e w9 ⟨rfl, hb⟩
  go_wp2
  go_ret
  exact ⟨rfl, (hL.out.step hb).bel⟩
theorem tblk_al (P : TallOk) (a b : Int) (op cond rd rn rm imm mode list : Int) (s : Bool) (ho : (op == 35) = true) (hc : (cond != 14) = false) (hq : Tm.tallP Wm.tellF Tm.validI (a % 65536) (b % 65536) false = some ⟨op, cond, rd, rn, rm, imm, mode, list, s⟩) (hk : Tm.tallP Wm.tellF Tm.validI (a % 65536) (b % 65536) true = some ⟨op, cond, rd, rn, rm, imm, mode, list, s⟩) (w : World) (hT : Tabs w) :
    Calls Tryd.prog 4 #[.int .i64 a, .int .i64 b] w fun e w' => e = .returned (.bool true) ∧ Below w.heap.size w w' := by
  have hA := Lib.hid (fun W hT => tawake_c P W hT)
  have h1 := fun W hT => P.tall a b false W hT
  have h2 := fun W hT => P.tall a b true W hT
  rw [hq] at h1
  rw [hk] at h2
  replace h1 := Lib.hid h1
  replace h2 := Lib.hid h2
  clear hq hk P
  have hL := Lib.hid (Later.refl hT)
  clear hT
  go_enter Tryd.func4, Tryd.ntmps4
  go_wp2_with fail
  refine (h1.out _ hL.out.tabs).mono ?_
  rintro e w1 ⟨rfl, hb⟩
  replace hL := Lib.hid ((hL.out.step hb).step (tone_b w1 (.cells #[.int .i64 op, .int .i64 cond, .int .i64 rd, .int .i64 rn, .int .i64 rm, .int .i64 imm, .int .i64 mode, .int .i64 list, .bool s] 23)))
  clear hb
  unfold Tl.decV
  dsimp only
  unfold Tl.IV
  dsimp only
  go_wp2_with fail
  refine (h2.out _ hL.out.tabs).mono ?_
  rintro e w2 ⟨rfl, hb⟩
  obtain ⟨c1, l1⟩ := tnew_cells hb
  replace hL := Lib.hid ((hL.out.step hb).step (tone_b w2 (.cells #[.int .i64 op, .int .i64 cond, .int .i64 rd, .int .i64 rn, .int .i64 rm, .int .i64 imm, .int .i64 mode, .int .i64 list, .bool s] 23)))
  clear hb
  unfold Tl.decV
  dsimp only
  unfold Tl.IV
  dsimp only
  go_wp2_with fail
  refine (hA.out _ hL.out.tabs).mono ?_
  rintro e w9 ⟨rfl, hb⟩
  go_wp2
  go_ret
  exact ⟨rfl, (hL.out.step hb).bel⟩
theorem tallBlocks_c (P : TallOk) (a b : Int) (w : World) (hT : Tabs w) :
    Calls Tryd.prog 4 #[.int .i64 a, .int .i64 b] w fun e w' => e = .returned (.bool true) ∧ Below w.heap.size w w' := by
  rcases Tm.blocks Wm.tellF Tm.validI (a % 65536) (b % 65536) with ⟨x, hx, h35, h14, hk⟩ | ⟨hs, hn⟩
  · cases hq : Tm.tallP Wm.tellF Tm.validI (a % 65536) (b % 65536) false with
    | none => exact tblk_none P a b hq hk w hT
    | some i =>
      have e : i = x := by
        unfold Tm.tallP at hq
        split at hq
        · exact (Option.some.inj hq).symm.trans hx
        · cases hq
      subst e
      exact tblk_branch P a b _ _ _ _ _ _ _ _ _ (by simpa using h35) (by simpa using h14) hq hk w hT
  · cases hq : Tm.tallP Wm.tellF Tm.validI (a % 65536) (b % 65536) false with
    | none => exact tblk_none P a b hq (hs.trans hq) w hT
    | some i =>
      have hi := hn i hq
      cases ho : (i.op == 35) with
      | false => exact tblk_op P a b _ _ _ _ _ _ _ _ _ ho hq (hs.trans hq) w hT
      | true =>
        cases hc : (i.cond != 14) with
        | false => exact tblk_al P a b _ _ _ _ _ _ _ _ _ ho hc hq (hs.trans hq) w hT
        | true => exact absurd ⟨by simpa using ho, by simpa using hc⟩ hi
end Go.Proofs.YtdcnkmkaafimlaaDoor
