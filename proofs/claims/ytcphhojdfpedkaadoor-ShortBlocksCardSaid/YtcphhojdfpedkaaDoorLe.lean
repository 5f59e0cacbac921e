/- ShortBlocks: what sets no flags by its word is read the same in a block and out, but for branches by a condition, blocks, and products. Conditions: those that ProgOk names. -/
import Derived.Test.YtcphhojdfpedkaaDoorSh
import Derived.Test.YtcphhojdfpedkaaDoorSo
namespace Go.Proofs.YtcphhojdfpedkaaDoor
open Go.ChangeShapes Go.WideShapes Go.ChangeAt Go.RowKit
open Rd (IV decV)
open Sm (shortP noneI)
theorem blocks_none (P : ProgOk) (h : Int) (hq : shortP (h % 65536) false = none) (w : World) (hT : Tabs w) :
    Calls Tryd.prog 7 #[.int .i64 h] w fun e w' => e = .returned (.bool true) ∧ Below w.heap.size w w' := by
  have hA := Lib.hid (fun W hT => awake_c P W hT)
  have hS := fun W hT => P.short h false W hT
  rw [hq] at hS
  replace hS := Lib.hid hS
  clear hq P
  have hL := Lib.hid (Later.refl hT)
  clear hT
  go_enter Tryd.func7, Tryd.ntmps7
  go_wp2_with fail
  refine (hS.out _ hL.out.tabs).mono ?_
  rintro e w1 ⟨rfl, hb⟩
  replace hL := Lib.hid ((hL.out.step hb).step (one_b w1 (.cells #[.int .i64 0, .int .i64 0, .int .i64 0, .int .i64 0, .int .i64 0, .int .i64 0, .int .i64 0, .int .i64 0, .bool false] 23)))
  clear hb
  unfold Rd.decV
  dsimp only
  unfold Rd.IV noneI
  dsimp only
  go_wp2_with fail
  refine (hA.out _ hL.out.tabs).mono ?_
  rintro e w9 ⟨rfl, hb⟩
  go_wp2
  go_ret
  exact ⟨rfl, (hL.out.step hb).bel⟩
theorem blocks_s (P : ProgOk) (h : Int) (op cond rd rn rm imm mode list : Int) (hq : shortP (h % 65536) false = some ⟨op, cond, rd, rn, rm, imm, mode, list, true⟩) (w : World) (hT : Tabs w) :
    Calls Tryd.prog 7 #[.int .i64 h] w fun e w' => e = .returned (.bool true) ∧ Below w.heap.size w w' := by
  have hA := Lib.hid (fun W hT => awake_c P W hT)
  have hS := fun W hT => P.short h false W hT
  rw [hq] at hS
  replace hS := Lib.hid hS
  clear hq P
  have hL := Lib.hid (Later.refl hT)
  clear hT
  go_enter Tryd.func7, Tryd.ntmps7
  go_wp2_with fail
  refine (hS.out _ hL.out.tabs).mono ?_
  rintro e w1 ⟨rfl, hb⟩
  replace hL := Lib.hid ((hL.out.step hb).step (one_b w1 (.cells #[.int .i64 op, .int .i64 cond, .int .i64 rd, .int .i64 rn, .int .i64 rm, .int .i64 imm, .int .i64 mode, .int .i64 list, .bool true] 23)))
  clear hb
  unfold Rd.decV
  dsimp only
  unfold Rd.IV
  dsimp only
  go_wp2_with fail
  refine (hA.out _ hL.out.tabs).mono ?_
  rintro e w9 ⟨rfl, hb⟩
  go_wp2
  go_ret
  exact ⟨rfl, (hL.out.step hb).bel⟩
theorem blocks_b (P : ProgOk) (h : Int) (op cond rd rn rm imm mode list : Int) (ho : (op == 35) = true) (hc : (cond != 14) = true) (hq : shortP (h % 65536) false = some ⟨op, cond, rd, rn, rm, imm, mode, list, false⟩) (w : World) (hT : Tabs w) :
    Calls Tryd.prog 7 #[.int .i64 h] w fun e w' => e = .returned (.bool true) ∧ Below w.heap.size w w' := by
  have hA := Lib.hid (fun W hT => awake_c P W hT)
  have hS := fun W hT => P.short h false W hT
  rw [hq] at hS
  replace hS := Lib.hid hS
  clear hq P
  have hL := Lib.hid (Later.refl hT)
  clear hT
  go_enter Tryd.func7, Tryd.ntmps7
  go_wp2_with fail
  refine (hS.out _ hL.out.tabs).mono ?_
  rintro e w1 ⟨rfl, hb⟩
  replace hL := Lib.hid ((hL.out.step hb).step (one_b w1 (.cells #[.int .i64 op, .int .i64 cond, .int .i64 rd, .int .i64 rn, .int .i64 rm, .int .i64 imm, .int .i64 mode, .int .i64 list, .bool false] 23)))
  clear hb
  unfold Rd.decV
  dsimp only
  unfold Rd.IV
  dsimp only
  go_wp2_with fail
  refine (hA.out _ hL.out.tabs).mono ?_
  rintro e w9 ⟨rfl, hb⟩
  go_wp2
  go_ret
  exact ⟨rfl, (hL.out.step hb).bel⟩
theorem blocks_37x (P : ProgOk) (h : Int) (op cond rd rn rm imm mode list : Int) (ho : (op == 35) = false) (h37 : (op == 37) = true) (hq : shortP (h % 65536) false = some ⟨op, cond, rd, rn, rm, imm, mode, list, false⟩) (w : World) (hT : Tabs w) :
    Calls Tryd.prog 7 #[.int .i64 h] w fun e w' => e = .returned (.bool true) ∧ Below w.heap.size w w' := by
  have hA := Lib.hid (fun W hT => awake_c P W hT)
  have hS := fun W hT => P.short h false W hT
  rw [hq] at hS
  replace hS := Lib.hid hS
  clear hq P
  have hL := Lib.hid (Later.refl hT)
  clear hT
  go_enter Tryd.func7, Tryd.ntmps7
  go_wp2_with fail
  refine (hS.out _ hL.out.tabs).mono ?_
  rintro e w1 ⟨rfl, hb⟩
  replace hL := Lib.hid ((hL.out.step hb).step (one_b w1 (.cells #[.int .i64 op, .int .i64 cond, .int .i64 rd, .int .i64 rn, .int .i64 rm, .int .i64 imm, .int .i64 mode, .int .i64 list, .bool false] 23)))
  clear hb
  unfold Rd.decV
  dsimp only
  unfold Rd.IV
  dsimp only
  go_wp2_with fail
  refine (hA.out _ hL.out.tabs).mono ?_
  rintro e w9 ⟨rfl, hb⟩
  go_wp2
  go_ret
  exact ⟨rfl, (hL.out.step hb).bel⟩
theorem blocks_38x (P : ProgOk) (h : Int) (op cond rd rn rm imm mode list : Int) (ho : (op == 35) = false) (h37 : (op == 37) = false) (h38 : (op == 38) = true) (hq : shortP (h % 65536) false = some ⟨op, cond, rd, rn, rm, imm, mode, list, false⟩) (w : World) (hT : Tabs w) :
    Calls Tryd.prog 7 #[.int .i64 h] w fun e w' => e = .returned (.bool true) ∧ Below w.heap.size w w' := by
  have hA := Lib.hid (fun W hT => awake_c P W hT)
  have hS := fun W hT => P.short h false W hT
  rw [hq] at hS
  replace hS := Lib.hid hS
  clear hq P
  have hL := Lib.hid (Later.refl hT)
  clear hT
  go_enter Tryd.func7, Tryd.ntmps7
  go_wp2_with fail
  refine (hS.out _ hL.out.tabs).mono ?_
  rintro e w1 ⟨rfl, hb⟩
  replace hL := Lib.hid ((hL.out.step hb).step (one_b w1 (.cells #[.int .i64 op, .int .i64 cond, .int .i64 rd, .int .i64 rn, .int .i64 rm, .int .i64 imm, .int .i64 mode, .int .i64 list, .bool false] 23)))
  clear hb
  unfold Rd.decV
  dsimp only
  unfold Rd.IV
  dsimp only
  go_wp2_with fail
  refine (hA.out _ hL.out.tabs).mono ?_
  rintro e w9 ⟨rfl, hb⟩
  go_wp2
  go_ret
  exact ⟨rfl, (hL.out.step hb).bel⟩
theorem blocks_42x (P : ProgOk) (h : Int) (op cond rd rn rm imm mode list : Int) (ho : (op == 35) = false) (h37 : (op == 37) = false) (h38 : (op == 38) = false) (h42 : (op == 42) = true) (hq : shortP (h % 65536) false = some ⟨op, cond, rd, rn, rm, imm, mode, list, false⟩) (w : World) (hT : Tabs w) :
    Calls Tryd.prog 7 #[.int .i64 h] w fun e w' => e = .returned (.bool true) ∧ Below w.heap.size w w' := by
  have hA := Lib.hid (fun W hT => awake_c P W hT)
  have hS := fun W hT => P.short h false W hT
  rw [hq] at hS
  replace hS := Lib.hid hS
  clear hq P
  have hL := Lib.hid (Later.refl hT)
  clear hT
  go_enter Tryd.func7, Tryd.ntmps7
  go_wp2_with fail
  refine (hS.out _ hL.out.tabs).mono ?_
  rintro e w1 ⟨rfl, hb⟩
  replace hL := Lib.hid ((hL.out.step hb).step (one_b w1 (.cells #[.int .i64 op, .int .i64 cond, .int .i64 rd, .int .i64 rn, .int .i64 rm, .int .i64 imm, .int .i64 mode, .int .i64 list, .bool false] 23)))
  clear hb
  unfold Rd.decV
  dsimp only
  unfold Rd.IV
  dsimp only
  go_wp2_with fail
  refine (hA.out _ hL.out.tabs).mono ?_
  rintro e w9 ⟨rfl, hb⟩
  go_wp2
  go_ret
  exact ⟨rfl, (hL.out.step hb).bel⟩
theorem blocks_samex (P : ProgOk) (h : Int) (op cond rd rn rm imm mode list : Int) (ho : (op == 35) = false) (h37 : (op == 37) = false) (h38 : (op == 38) = false) (h42 : (op == 42) = false) (hq : shortP (h % 65536) false = some ⟨op, cond, rd, rn, rm, imm, mode, list, false⟩) (hk : shortP (h % 65536) true = some ⟨op, cond, rd, rn, rm, imm, mode, list, false⟩) (w : World) (hT : Tabs w) :
    Calls Tryd.prog 7 #[.int .i64 h] w fun e w' => e = .returned (.bool true) ∧ Below w.heap.size w w' := by
  have hA := Lib.hid (fun W hT => awake_c P W hT)
  have hS := fun W hT => P.short h false W hT
  rw [hq] at hS
  have hD := fun W hT => P.short h true W hT
  rw [hk] at hD
  replace hD := Lib.hid hD
  clear hk
  replace hS := Lib.hid hS
  clear hq P
  have hL := Lib.hid (Later.refl hT)
  clear hT
  go_enter Tryd.func7, Tryd.ntmps7
  go_wp2_with fail
  refine (hS.out _ hL.out.tabs).mono ?_
  rintro e w1 ⟨rfl, hb⟩
  replace hL := Lib.hid ((hL.out.step hb).step (one_b w1 (.cells #[.int .i64 op, .int .i64 cond, .int .i64 rd, .int .i64 rn, .int .i64 rm, .int .i64 imm, .int .i64 mode, .int .i64 list, .bool false] 23)))
  clear hb
  unfold Rd.decV
  dsimp only
  unfold Rd.IV
  dsimp only
  go_wp2_with fail
  refine (hD.out _ hL.out.tabs).mono ?_
  rintro e w2 ⟨rfl, hb⟩
  obtain ⟨c1, l1⟩ := new_cells hb
  replace hL := Lib.hid ((hL.out.step hb).step (one_b w2 (.cells #[.int .i64 op, .int .i64 cond, .int .i64 rd, .int .i64 rn, .int .i64 rm, .int .i64 imm, .int .i64 mode, .int .i64 list, .bool false] 23)))
  clear hb
  unfold Rd.decV
  dsimp only
  unfold Rd.IV
  dsimp only
  go_wp2_with fail
  refine (hA.out _ hL.out.tabs).mono ?_
  rintro e w9 ⟨rfl, hb⟩
  go_wp2
  go_ret
  exact ⟨rfl, (hL.out.step hb).bel⟩
theorem blocks_samey (P : ProgOk) (h : Int) (op cond rd rn rm imm mode list : Int) (ho : (op == 35) = true) (hc : (cond != 14) = false) (h37 : (op == 37) = false) (h38 : (op == 38) = false) (h42 : (op == 42) = false) (hq : shortP (h % 65536) false = some ⟨op, cond, rd, rn, rm, imm, mode, list, false⟩) (hk : shortP (h % 65536) true = some ⟨op, cond, rd, rn, rm, imm, mode, list, false⟩) (w : World) (hT : Tabs w) :
    Calls Tryd.prog 7 #[.int .i64 h] w fun e w' => e = .returned (.bool true) ∧ Below w.heap.size w w' := by
  have hA := Lib.hid (fun W hT => awake_c P W hT)
  have hS := fun W hT => P.short h false W hT
  rw [hq] at hS
  have hD := fun W hT => P.short h true W hT
  rw [hk] at hD
  replace hD := Lib.hid hD
  clear hk
  replace hS := Lib.hid hS
  clear hq P
  have hL := Lib.hid (Later.refl hT)
  clear hT
  go_enter Tryd.func7, Tryd.ntmps7
  go_wp2_with fail
  refine (hS.out _ hL.out.tabs).mono ?_
  rintro e w1 ⟨rfl, hb⟩
  replace hL := Lib.hid ((hL.out.step hb).step (one_b w1 (.cells #[.int .i64 op, .int .i64 cond, .int .i64 rd, .int .i64 rn, .int .i64 rm, .int .i64 imm, .int .i64 mode, .int .i64 list, .bool false] 23)))
  clear hb
  unfold Rd.decV
  dsimp only
  unfold Rd.IV
  dsimp only
  go_wp2_with fail
  refine (hD.out _ hL.out.tabs).mono ?_
  rintro e w2 ⟨rfl, hb⟩
  obtain ⟨c1, l1⟩ := new_cells hb
  replace hL := Lib.hid ((hL.out.step hb).step (one_b w2 (.cells #[.int .i64 op, .int .i64 cond, .int .i64 rd, .int .i64 rn, .int .i64 rm, .int .i64 imm, .int .i64 mode, .int .i64 list, .bool false] 23)))
  clear hb
  unfold Rd.decV
  dsimp only
  unfold Rd.IV
  dsimp only
  go_wp2_with fail
  refine (hA.out _ hL.out.tabs).mono ?_
  rintro e w9 ⟨rfl, hb⟩
  go_wp2
  go_ret
  exact ⟨rfl, (hL.out.step hb).bel⟩
theorem shortBlocks_c (P : ProgOk) (h : Int) (w : World) (hT : Tabs w) :
    Calls Tryd.prog 7 #[.int .i64 h] w fun e w' => e = .returned (.bool true) ∧ Below w.heap.size w w' := by
  cases hq : shortP (h % 65536) false with
  | none => exact blocks_none P h hq w hT
  | some i =>
    obtain ⟨op, cond, rd, rn, rm, imm, mode, list, s⟩ := i
    cases s with
    | true => exact blocks_s P h _ _ _ _ _ _ _ _ hq w hT
    | false =>
      cases ho : (op == 35) with
      | true =>
        cases hc : (cond != 14) with
        | true => exact blocks_b P h _ _ _ _ _ _ _ _ ho hc hq w hT
        | false =>
          have e35 : op = 35 := by simpa using ho
          subst e35
          exact blocks_samey P h _ _ _ _ _ _ _ _ rfl hc rfl rfl rfl hq (Sm.blocks _ _ (by omega) hq rfl (fun q => by simp at hc; exact q.2 hc) (by dsimp only; omega) (by dsimp only; omega) (by dsimp only; omega)) w hT
      | false =>
        cases h37 : (op == 37) with
        | true => exact blocks_37x P h _ _ _ _ _ _ _ _ ho h37 hq w hT
        | false =>
          cases h38 : (op == 38) with
          | true => exact blocks_38x P h _ _ _ _ _ _ _ _ ho h37 h38 hq w hT
          | false =>
            cases h42 : (op == 42) with
            | true => exact blocks_42x P h _ _ _ _ _ _ _ _ ho h37 h38 h42 hq w hT
            | false =>
              exact blocks_samex P h _ _ _ _ _ _ _ _ ho h37 h38 h42 hq (Sm.blocks _ _ (by omega) hq rfl (fun q => by simp at ho; exact ho q.1) (by simpa using h37) (by simpa using h38) (by simpa using h42)) w hT
end Go.Proofs.YtcphhojdfpedkaaDoor
