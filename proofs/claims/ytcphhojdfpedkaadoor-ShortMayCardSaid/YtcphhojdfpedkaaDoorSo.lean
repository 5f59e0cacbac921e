/- What is read has a halfword (text by gen_sm.py). -/
import Derived.Test.YtcphhojdfpedkaaDoorGs
namespace Go.Proofs.YtcphhojdfpedkaaDoor
namespace Sm
open Nm (I)
theorem opt_yes {b : Bool} {h : Int} (hb : b = true) : (Nm.opt b h).isSome = true := by subst hb; rfl
theorem if_yes {p : Prop} [Decidable p] {a b : Option Int} (ha : p → a.isSome = true) (hb : ¬ p → b.isSome = true) : (if p then a else b).isSome = true := by
  split
  · exact ha (by assumption)
  · exact hb (by assumption)
theorem may_0 (h : Int) (it : Bool) (h0 : 0 ≤ h) (h1 : h < 64) (ex : it = false) : (Nm.rowI (Nm.decI h it) it).isSome = true := by
  have e : Nm.decI h it = ⟨10, 0, h % 8, 0, h / 8 % 8, 0, 2, 0, true⟩ := by
    unfold Nm.decI Nm.dec0
    repeat (first | rw [if_neg (by omega)] | rw [if_pos (by omega)])
  rw [e]
  clear e
  subst ex
  unfold Nm.rowI Nm.moveI
  dsimp only
  repeat (first | rw [if_neg (by omega)] | rw [if_pos (by omega)] | rw [if_pos rfl])
  all_goals (first | rfl | (apply opt_yes; simp [Nm.low]; done) | (apply opt_yes; simp [Nm.low]; omega) | (apply if_yes <;> intro hq <;> first | rfl | (apply opt_yes; simp [Nm.low]; omega)))
theorem may_64 (h : Int) (it : Bool) (h0 : 64 ≤ h) (h1 : h < 2048) : (Nm.rowI (Nm.decI h it) it).isSome = true := by
  have e : Nm.decI h it = ⟨16, 0, h % 8, h / 8 % 8, 0, h / 64 % 32, 1, 0, !it⟩ := by
    unfold Nm.decI Nm.dec0
    repeat (first | rw [if_neg (by omega)] | rw [if_pos (by omega)])
  rw [e]
  clear e
  unfold Nm.rowI Nm.shiftI
  dsimp only
  repeat (first | rw [if_neg (by omega)] | rw [if_pos (by omega)] | rw [if_pos rfl])
  all_goals cases it
  all_goals (first | rfl | (apply opt_yes; simp [Nm.low]; done) | (apply opt_yes; simp [Nm.low]; omega) | (apply if_yes <;> intro hq <;> first | rfl | (apply opt_yes; simp [Nm.low]; omega)))
theorem may_2048 (h : Int) (it : Bool) (h0 : 2048 ≤ h) (h1 : h < 4096) : (Nm.rowI (Nm.decI h it) it).isSome = true := by
  have e : Nm.decI h it = ⟨17, 0, h % 8, h / 8 % 8, 0, if h / 64 % 32 = 0 then 32 else h / 64 % 32, 1, 0, !it⟩ := by
    unfold Nm.decI Nm.dec0
    repeat (first | rw [if_neg (by omega)] | rw [if_pos (by omega)])
  rw [e]
  clear e
  unfold Nm.rowI Nm.shiftI
  dsimp only
  repeat (first | rw [if_neg (by omega)] | rw [if_pos (by omega)] | rw [if_pos rfl])
  all_goals cases it
  all_goals (first | rfl | (apply opt_yes; simp [Nm.low]; done) | (apply opt_yes; simp [Nm.low]; omega) | (apply if_yes <;> intro hq <;> first | rfl | (apply opt_yes; simp [Nm.low]; omega)))
theorem may_4096 (h : Int) (it : Bool) (h0 : 4096 ≤ h) (h1 : h < 6144) : (Nm.rowI (Nm.decI h it) it).isSome = true := by
  have e : Nm.decI h it = ⟨18, 0, h % 8, h / 8 % 8, 0, if h / 64 % 32 = 0 then 32 else h / 64 % 32, 1, 0, !it⟩ := by
    unfold Nm.decI Nm.dec0
    repeat (first | rw [if_neg (by omega)] | rw [if_pos (by omega)])
  rw [e]
  clear e
  unfold Nm.rowI Nm.shiftI
  dsimp only
  repeat (first | rw [if_neg (by omega)] | rw [if_pos (by omega)] | rw [if_pos rfl])
  all_goals cases it
  all_goals (first | rfl | (apply opt_yes; simp [Nm.low]; done) | (apply opt_yes; simp [Nm.low]; omega) | (apply if_yes <;> intro hq <;> first | rfl | (apply opt_yes; simp [Nm.low]; omega)))
theorem may_6144 (h : Int) (it : Bool) (h0 : 6144 ≤ h) (h1 : h < 6656) : (Nm.rowI (Nm.decI h it) it).isSome = true := by
  have e : Nm.decI h it = ⟨5, 0, h % 8, h / 8 % 8, h / 64 % 8, 0, 2, 0, !it⟩ := by
    unfold Nm.decI Nm.dec0
    repeat (first | rw [if_neg (by omega)] | rw [if_pos (by omega)])
  rw [e]
  clear e
  unfold Nm.rowI Nm.sumI
  dsimp only
  repeat (first | rw [if_neg (by omega)] | rw [if_pos (by omega)] | rw [if_pos rfl])
  all_goals cases it
  all_goals
    rw [if_pos (by simp [Nm.low]; omega)]
    rfl
theorem may_6656 (h : Int) (it : Bool) (h0 : 6656 ≤ h) (h1 : h < 7168) : (Nm.rowI (Nm.decI h it) it).isSome = true := by
  have e : Nm.decI h it = ⟨7, 0, h % 8, h / 8 % 8, h / 64 % 8, 0, 2, 0, !it⟩ := by
    unfold Nm.decI Nm.dec0
    repeat (first | rw [if_neg (by omega)] | rw [if_pos (by omega)])
  rw [e]
  clear e
  unfold Nm.rowI Nm.sumI
  dsimp only
  repeat (first | rw [if_neg (by omega)] | rw [if_pos (by omega)] | rw [if_pos rfl])
  all_goals cases it
  all_goals
    rw [if_pos (by simp [Nm.low]; omega)]
    rfl
theorem may_7168 (h : Int) (it : Bool) (h0 : 7168 ≤ h) (h1 : h < 7680) : (Nm.rowI (Nm.decI h it) it).isSome = true := by
  have e : Nm.decI h it = ⟨5, 0, h % 8, h / 8 % 8, 0, h / 64 % 8, 1, 0, !it⟩ := by
    unfold Nm.decI Nm.dec0
    repeat (first | rw [if_neg (by omega)] | rw [if_pos (by omega)])
  rw [e]
  clear e
  unfold Nm.rowI Nm.sumI
  dsimp only
  repeat (first | rw [if_neg (by omega)] | rw [if_pos (by omega)] | rw [if_pos rfl])
  all_goals cases it
  all_goals
    rw [if_pos (by simp [Nm.low]; omega)]
    rfl
theorem may_7680 (h : Int) (it : Bool) (h0 : 7680 ≤ h) (h1 : h < 8192) : (Nm.rowI (Nm.decI h it) it).isSome = true := by
  have e : Nm.decI h it = ⟨7, 0, h % 8, h / 8 % 8, 0, h / 64 % 8, 1, 0, !it⟩ := by
    unfold Nm.decI Nm.dec0
    repeat (first | rw [if_neg (by omega)] | rw [if_pos (by omega)])
  rw [e]
  clear e
  unfold Nm.rowI Nm.sumI
  dsimp only
  repeat (first | rw [if_neg (by omega)] | rw [if_pos (by omega)] | rw [if_pos rfl])
  all_goals cases it
  all_goals
    rw [if_pos (by simp [Nm.low]; omega)]
    rfl
theorem may_8192 (h : Int) (it : Bool) (h0 : 8192 ≤ h) (h1 : h < 10240) : (Nm.rowI (Nm.decI h it) it).isSome = true := by
  have e : Nm.decI h it = ⟨10, 0, h / 256 % 8, 0, 0, h % 256, 1, 0, !it⟩ := by
    unfold Nm.decI Nm.dec0
    repeat (first | rw [if_neg (by omega)] | rw [if_pos (by omega)])
  rw [e]
  clear e
  unfold Nm.rowI Nm.moveI
  dsimp only
  repeat (first | rw [if_neg (by omega)] | rw [if_pos (by omega)] | rw [if_pos rfl])
  all_goals cases it
  all_goals (first | rfl | (apply opt_yes; simp [Nm.low]; done) | (apply opt_yes; simp [Nm.low]; omega) | (apply if_yes <;> intro hq <;> first | rfl | (apply opt_yes; simp [Nm.low]; omega)))
theorem may_10240 (h : Int) (it : Bool) (h0 : 10240 ≤ h) (h1 : h < 12288) : (Nm.rowI (Nm.decI h it) it).isSome = true := by
  have e : Nm.decI h it = ⟨12, 0, 0, h / 256 % 8, 0, h % 256, 1, 0, false⟩ := by
    unfold Nm.decI Nm.dec0
    repeat (first | rw [if_neg (by omega)] | rw [if_pos (by omega)])
  rw [e]
  clear e
  unfold Nm.rowI Nm.moveI
  dsimp only
  repeat (first | rw [if_neg (by omega)] | rw [if_pos (by omega)] | rw [if_pos rfl])
  all_goals (first | rfl | (apply opt_yes; simp [Nm.low]; done) | (apply opt_yes; simp [Nm.low]; omega) | (apply if_yes <;> intro hq <;> first | rfl | (apply opt_yes; simp [Nm.low]; omega)))
theorem may_12288 (h : Int) (it : Bool) (h0 : 12288 ≤ h) (h1 : h < 14336) : (Nm.rowI (Nm.decI h it) it).isSome = true := by
  have e : Nm.decI h it = ⟨5, 0, h / 256 % 8, h / 256 % 8, 0, h % 256, 1, 0, !it⟩ := by
    unfold Nm.decI Nm.dec0
    repeat (first | rw [if_neg (by omega)] | rw [if_pos (by omega)])
  rw [e]
  clear e
  unfold Nm.rowI Nm.sumI
  dsimp only
  repeat (first | rw [if_neg (by omega)] | rw [if_pos (by omega)] | rw [if_pos rfl])
  all_goals cases it
  all_goals (first | rfl | (apply opt_yes; simp [Nm.low]; done) | (apply opt_yes; simp [Nm.low]; omega) | (apply if_yes <;> intro hq <;> first | rfl | (apply opt_yes; simp [Nm.low]; omega)))
theorem may_14336 (h : Int) (it : Bool) (h0 : 14336 ≤ h) (h1 : h < 16384) : (Nm.rowI (Nm.decI h it) it).isSome = true := by
  have e : Nm.decI h it = ⟨7, 0, h / 256 % 8, h / 256 % 8, 0, h % 256, 1, 0, !it⟩ := by
    unfold Nm.decI Nm.dec0
    repeat (first | rw [if_neg (by omega)] | rw [if_pos (by omega)])
  rw [e]
  clear e
  unfold Nm.rowI Nm.sumI
  dsimp only
  repeat (first | rw [if_neg (by omega)] | rw [if_pos (by omega)] | rw [if_pos rfl])
  all_goals cases it
  all_goals (first | rfl | (apply opt_yes; simp [Nm.low]; done) | (apply opt_yes; simp [Nm.low]; omega) | (apply if_yes <;> intro hq <;> first | rfl | (apply opt_yes; simp [Nm.low]; omega)))
theorem may_16384 (h : Int) (it : Bool) (h0 : 16384 ≤ h) (h1 : h < 16448) : (Nm.rowI (Nm.decI h it) it).isSome = true := by
  have e : Nm.decI h it = ⟨1, 0, h % 8, h % 8, h / 8 % 8, 0, 2, 0, !it⟩ := by
    unfold Nm.decI Nm.dec1
    repeat (first | rw [if_neg (by omega)] | rw [if_pos (by omega)])
  rw [e]
  clear e
  unfold Nm.rowI Nm.twoI
  dsimp only
  repeat (first | rw [if_neg (by omega)] | rw [if_pos (by omega)] | rw [if_pos rfl])
  all_goals cases it
  all_goals (first | rfl | (apply opt_yes; simp [Nm.low]; done) | (apply opt_yes; simp [Nm.low]; omega) | (apply if_yes <;> intro hq <;> first | rfl | (apply opt_yes; simp [Nm.low]; omega)))
theorem may_16448 (h : Int) (it : Bool) (h0 : 16448 ≤ h) (h1 : h < 16512) : (Nm.rowI (Nm.decI h it) it).isSome = true := by
  have e : Nm.decI h it = ⟨2, 0, h % 8, h % 8, h / 8 % 8, 0, 2, 0, !it⟩ := by
    unfold Nm.decI Nm.dec1
    repeat (first | rw [if_neg (by omega)] | rw [if_pos (by omega)])
  rw [e]
  clear e
  unfold Nm.rowI Nm.twoI
  dsimp only
  repeat (first | rw [if_neg (by omega)] | rw [if_pos (by omega)] | rw [if_pos rfl])
  all_goals cases it
  all_goals (first | rfl | (apply opt_yes; simp [Nm.low]; done) | (apply opt_yes; simp [Nm.low]; omega) | (apply if_yes <;> intro hq <;> first | rfl | (apply opt_yes; simp [Nm.low]; omega)))
theorem may_16512 (h : Int) (it : Bool) (h0 : 16512 ≤ h) (h1 : h < 16576) : (Nm.rowI (Nm.decI h it) it).isSome = true := by
  have e : Nm.decI h it = ⟨16, 0, h % 8, h % 8, h / 8 % 8, 0, 2, 0, !it⟩ := by
    unfold Nm.decI Nm.dec1
    repeat (first | rw [if_neg (by omega)] | rw [if_pos (by omega)])
  rw [e]
  clear e
  unfold Nm.rowI Nm.shiftI
  dsimp only
  repeat (first | rw [if_neg (by omega)] | rw [if_pos (by omega)] | rw [if_pos rfl])
  all_goals cases it
  all_goals (first | rfl | (apply opt_yes; simp [Nm.low]; done) | (apply opt_yes; simp [Nm.low]; omega) | (apply if_yes <;> intro hq <;> first | rfl | (apply opt_yes; simp [Nm.low]; omega)))
theorem may_16576 (h : Int) (it : Bool) (h0 : 16576 ≤ h) (h1 : h < 16640) : (Nm.rowI (Nm.decI h it) it).isSome = true := by
  have e : Nm.decI h it = ⟨17, 0, h % 8, h % 8, h / 8 % 8, 0, 2, 0, !it⟩ := by
    unfold Nm.decI Nm.dec1
    repeat (first | rw [if_neg (by omega)] | rw [if_pos (by omega)])
  rw [e]
  clear e
  unfold Nm.rowI Nm.shiftI
  dsimp only
  repeat (first | rw [if_neg (by omega)] | rw [if_pos (by omega)] | rw [if_pos rfl])
  all_goals cases it
  all_goals (first | rfl | (apply opt_yes; simp [Nm.low]; done) | (apply opt_yes; simp [Nm.low]; omega) | (apply if_yes <;> intro hq <;> first | rfl | (apply opt_yes; simp [Nm.low]; omega)))
theorem may_16640 (h : Int) (it : Bool) (h0 : 16640 ≤ h) (h1 : h < 16704) : (Nm.rowI (Nm.decI h it) it).isSome = true := by
  have e : Nm.decI h it = ⟨18, 0, h % 8, h % 8, h / 8 % 8, 0, 2, 0, !it⟩ := by
    unfold Nm.decI Nm.dec1
    repeat (first | rw [if_neg (by omega)] | rw [if_pos (by omega)])
  rw [e]
  clear e
  unfold Nm.rowI Nm.shiftI
  dsimp only
  repeat (first | rw [if_neg (by omega)] | rw [if_pos (by omega)] | rw [if_pos rfl])
  all_goals cases it
  all_goals (first | rfl | (apply opt_yes; simp [Nm.low]; done) | (apply opt_yes; simp [Nm.low]; omega) | (apply if_yes <;> intro hq <;> first | rfl | (apply opt_yes; simp [Nm.low]; omega)))
theorem may_16704 (h : Int) (it : Bool) (h0 : 16704 ≤ h) (h1 : h < 16768) : (Nm.rowI (Nm.decI h it) it).isSome = true := by
  have e : Nm.decI h it = ⟨6, 0, h % 8, h % 8, h / 8 % 8, 0, 2, 0, !it⟩ := by
    unfold Nm.decI Nm.dec1
    repeat (first | rw [if_neg (by omega)] | rw [if_pos (by omega)])
  rw [e]
  clear e
  unfold Nm.rowI Nm.twoI
  dsimp only
  repeat (first | rw [if_neg (by omega)] | rw [if_pos (by omega)] | rw [if_pos rfl])
  all_goals cases it
  all_goals (first | rfl | (apply opt_yes; simp [Nm.low]; done) | (apply opt_yes; simp [Nm.low]; omega) | (apply if_yes <;> intro hq <;> first | rfl | (apply opt_yes; simp [Nm.low]; omega)))
theorem may_16768 (h : Int) (it : Bool) (h0 : 16768 ≤ h) (h1 : h < 16832) : (Nm.rowI (Nm.decI h it) it).isSome = true := by
  have e : Nm.decI h it = ⟨8, 0, h % 8, h % 8, h / 8 % 8, 0, 2, 0, !it⟩ := by
    unfold Nm.decI Nm.dec1
    repeat (first | rw [if_neg (by omega)] | rw [if_pos (by omega)])
  rw [e]
  clear e
  unfold Nm.rowI Nm.twoI
  dsimp only
  repeat (first | rw [if_neg (by omega)] | rw [if_pos (by omega)] | rw [if_pos rfl])
  all_goals cases it
  all_goals (first | rfl | (apply opt_yes; simp [Nm.low]; done) | (apply opt_yes; simp [Nm.low]; omega) | (apply if_yes <;> intro hq <;> first | rfl | (apply opt_yes; simp [Nm.low]; omega)))
theorem may_16832 (h : Int) (it : Bool) (h0 : 16832 ≤ h) (h1 : h < 16896) : (Nm.rowI (Nm.decI h it) it).isSome = true := by
  have e : Nm.decI h it = ⟨19, 0, h % 8, h % 8, h / 8 % 8, 0, 2, 0, !it⟩ := by
    unfold Nm.decI Nm.dec1
    repeat (first | rw [if_neg (by omega)] | rw [if_pos (by omega)])
  rw [e]
  clear e
  unfold Nm.rowI Nm.shiftI
  dsimp only
  repeat (first | rw [if_neg (by omega)] | rw [if_pos (by omega)] | rw [if_pos rfl])
  all_goals cases it
  all_goals (first | rfl | (apply opt_yes; simp [Nm.low]; done) | (apply opt_yes; simp [Nm.low]; omega) | (apply if_yes <;> intro hq <;> first | rfl | (apply opt_yes; simp [Nm.low]; omega)))
theorem may_16896 (h : Int) (it : Bool) (h0 : 16896 ≤ h) (h1 : h < 16960) : (Nm.rowI (Nm.decI h it) it).isSome = true := by
  have e : Nm.decI h it = ⟨14, 0, 0, h % 8, h / 8 % 8, 0, 2, 0, false⟩ := by
    unfold Nm.decI Nm.dec1
    repeat (first | rw [if_neg (by omega)] | rw [if_pos (by omega)])
  rw [e]
  clear e
  unfold Nm.rowI Nm.twoI
  dsimp only
  repeat (first | rw [if_neg (by omega)] | rw [if_pos (by omega)] | rw [if_pos rfl])
  all_goals (first | rfl | (apply opt_yes; simp [Nm.low]; done) | (apply opt_yes; simp [Nm.low]; omega) | (apply if_yes <;> intro hq <;> first | rfl | (apply opt_yes; simp [Nm.low]; omega)))
theorem may_16960 (h : Int) (it : Bool) (h0 : 16960 ≤ h) (h1 : h < 17024) : (Nm.rowI (Nm.decI h it) it).isSome = true := by
  have e : Nm.decI h it = ⟨9, 0, h % 8, h / 8 % 8, 0, 0, 1, 0, !it⟩ := by
    unfold Nm.decI Nm.dec1
    repeat (first | rw [if_neg (by omega)] | rw [if_pos (by omega)])
  rw [e]
  clear e
  unfold Nm.rowI Nm.twoI
  dsimp only
  repeat (first | rw [if_neg (by omega)] | rw [if_pos (by omega)] | rw [if_pos rfl])
  all_goals cases it
  all_goals (first | rfl | (apply opt_yes; simp [Nm.low]; done) | (apply opt_yes; simp [Nm.low]; omega) | (apply if_yes <;> intro hq <;> first | rfl | (apply opt_yes; simp [Nm.low]; omega)))
theorem may_17024 (h : Int) (it : Bool) (h0 : 17024 ≤ h) (h1 : h < 17088) : (Nm.rowI (Nm.decI h it) it).isSome = true := by
  have e : Nm.decI h it = ⟨12, 0, 0, h % 8, h / 8 % 8, 0, 2, 0, false⟩ := by
    unfold Nm.decI Nm.dec1
    repeat (first | rw [if_neg (by omega)] | rw [if_pos (by omega)])
  rw [e]
  clear e
  unfold Nm.rowI Nm.moveI
  dsimp only
  repeat (first | rw [if_neg (by omega)] | rw [if_pos (by omega)] | rw [if_pos rfl])
  all_goals (first | rfl | (apply opt_yes; simp [Nm.low]; done) | (apply opt_yes; simp [Nm.low]; omega) | (apply if_yes <;> intro hq <;> first | rfl | (apply opt_yes; simp [Nm.low]; omega)))
theorem may_17088 (h : Int) (it : Bool) (h0 : 17088 ≤ h) (h1 : h < 17152) : (Nm.rowI (Nm.decI h it) it).isSome = true := by
  have e : Nm.decI h it = ⟨13, 0, 0, h % 8, h / 8 % 8, 0, 2, 0, false⟩ := by
    unfold Nm.decI Nm.dec1
    repeat (first | rw [if_neg (by omega)] | rw [if_pos (by omega)])
  rw [e]
  clear e
  unfold Nm.rowI Nm.twoI
  dsimp only
  repeat (first | rw [if_neg (by omega)] | rw [if_pos (by omega)] | rw [if_pos rfl])
  all_goals (first | rfl | (apply opt_yes; simp [Nm.low]; done) | (apply opt_yes; simp [Nm.low]; omega) | (apply if_yes <;> intro hq <;> first | rfl | (apply opt_yes; simp [Nm.low]; omega)))
theorem may_17152 (h : Int) (it : Bool) (h0 : 17152 ≤ h) (h1 : h < 17216) : (Nm.rowI (Nm.decI h it) it).isSome = true := by
  have e : Nm.decI h it = ⟨3, 0, h % 8, h % 8, h / 8 % 8, 0, 2, 0, !it⟩ := by
    unfold Nm.decI Nm.dec1
    repeat (first | rw [if_neg (by omega)] | rw [if_pos (by omega)])
  rw [e]
  clear e
  unfold Nm.rowI Nm.twoI
  dsimp only
  repeat (first | rw [if_neg (by omega)] | rw [if_pos (by omega)] | rw [if_pos rfl])
  all_goals cases it
  all_goals (first | rfl | (apply opt_yes; simp [Nm.low]; done) | (apply opt_yes; simp [Nm.low]; omega) | (apply if_yes <;> intro hq <;> first | rfl | (apply opt_yes; simp [Nm.low]; omega)))
theorem may_17216 (h : Int) (it : Bool) (h0 : 17216 ≤ h) (h1 : h < 17280) (ex : it = true) : (Nm.rowI (Nm.decI h it) it).isSome = true := by
  have e : Nm.decI h it = ⟨20, 0, h % 8, h / 8 % 8, h % 8, 0, 2, 0, false⟩ := by
    unfold Nm.decI Nm.dec1
    repeat (first | rw [if_neg (by omega)] | rw [if_pos (by omega)])
  rw [e]
  clear e
  subst ex
  unfold Nm.rowI Nm.twoI
  dsimp only
  repeat (first | rw [if_neg (by omega)] | rw [if_pos (by omega)] | rw [if_pos rfl])
  all_goals (first | rfl | (apply opt_yes; simp [Nm.low]; done) | (apply opt_yes; simp [Nm.low]; omega) | (apply if_yes <;> intro hq <;> first | rfl | (apply opt_yes; simp [Nm.low]; omega)))
theorem may_17280 (h : Int) (it : Bool) (h0 : 17280 ≤ h) (h1 : h < 17344) : (Nm.rowI (Nm.decI h it) it).isSome = true := by
  have e : Nm.decI h it = ⟨4, 0, h % 8, h % 8, h / 8 % 8, 0, 2, 0, !it⟩ := by
    unfold Nm.decI Nm.dec1
    repeat (first | rw [if_neg (by omega)] | rw [if_pos (by omega)])
  rw [e]
  clear e
  unfold Nm.rowI Nm.twoI
  dsimp only
  repeat (first | rw [if_neg (by omega)] | rw [if_pos (by omega)] | rw [if_pos rfl])
  all_goals cases it
  all_goals (first | rfl | (apply opt_yes; simp [Nm.low]; done) | (apply opt_yes; simp [Nm.low]; omega) | (apply if_yes <;> intro hq <;> first | rfl | (apply opt_yes; simp [Nm.low]; omega)))
theorem may_17344 (h : Int) (it : Bool) (h0 : 17344 ≤ h) (h1 : h < 17408) : (Nm.rowI (Nm.decI h it) it).isSome = true := by
  have e : Nm.decI h it = ⟨11, 0, h % 8, 0, h / 8 % 8, 0, 2, 0, !it⟩ := by
    unfold Nm.decI Nm.dec1
    repeat (first | rw [if_neg (by omega)] | rw [if_pos (by omega)])
  rw [e]
  clear e
  unfold Nm.rowI Nm.twoI
  dsimp only
  repeat (first | rw [if_neg (by omega)] | rw [if_pos (by omega)] | rw [if_pos rfl])
  all_goals cases it
  all_goals (first | rfl | (apply opt_yes; simp [Nm.low]; done) | (apply opt_yes; simp [Nm.low]; omega) | (apply if_yes <;> intro hq <;> first | rfl | (apply opt_yes; simp [Nm.low]; omega)))
theorem may_17408 (h : Int) (it : Bool) (h0 : 17408 ≤ h) (h1 : h < 17664) : (Nm.rowI (Nm.decI h it) it).isSome = true := by
  have e : Nm.decI h it = ⟨5, 0, Nm.hi4 h, Nm.hi4 h, h / 8 % 16, 0, 2, 0, false⟩ := by
    unfold Nm.decI Nm.dec2
    repeat (first | rw [if_neg (by omega)] | rw [if_pos (by omega)])
  rw [e]
  clear e
  unfold Nm.rowI Nm.sumI
  dsimp only
  repeat (first | rw [if_neg (by omega)] | rw [if_pos (by omega)] | rw [if_pos rfl])
  refine if_yes (fun _ => rfl) (fun _ => opt_yes ?_)
  simp
theorem may_17664 (h : Int) (it : Bool) (h0 : 17664 ≤ h) (h1 : h < 17920) (_ex : ¬ (Nm.hi4 h ≤ 7 ∧ h / 8 % 16 ≤ 7)) : (Nm.rowI (Nm.decI h it) it).isSome = true := by
  have e : Nm.decI h it = ⟨12, 0, 0, Nm.hi4 h, h / 8 % 16, 0, 2, 0, false⟩ := by
    unfold Nm.decI Nm.dec2
    repeat (first | rw [if_neg (by omega)] | rw [if_pos (by omega)])
  rw [e]
  clear e
  unfold Nm.rowI Nm.moveI
  dsimp only
  repeat (first | rw [if_neg (by omega)] | rw [if_pos (by omega)] | rw [if_pos rfl])
  all_goals (first | rfl | (apply opt_yes; simp [Nm.low]; done) | (apply opt_yes; simp [Nm.low]; omega) | (apply if_yes <;> intro hq <;> first | rfl | (apply opt_yes; simp [Nm.low]; omega)))
theorem may_17920 (h : Int) (it : Bool) (h0 : 17920 ≤ h) (h1 : h < 18176) : (Nm.rowI (Nm.decI h it) it).isSome = true := by
  have e : Nm.decI h it = ⟨10, 0, Nm.hi4 h, 0, h / 8 % 16, 0, 2, 0, false⟩ := by
    unfold Nm.decI Nm.dec2
    repeat (first | rw [if_neg (by omega)] | rw [if_pos (by omega)])
  rw [e]
  clear e
  unfold Nm.rowI Nm.moveI
  dsimp only
  repeat (first | rw [if_neg (by omega)] | rw [if_pos (by omega)] | rw [if_pos rfl])
  all_goals (first | rfl | (apply opt_yes; simp [Nm.low]; done) | (apply opt_yes; simp [Nm.low]; omega) | (apply if_yes <;> intro hq <;> first | rfl | (apply opt_yes; simp [Nm.low]; omega)))
theorem may_18176 (h : Int) (it : Bool) (h0 : 18176 ≤ h) (h1 : h < 18432) (ex : h / 128 % 2 = 0 ∧ h % 8 = 0) : (Nm.rowI (Nm.decI h it) it).isSome = true := by
  have e : Nm.decI h it = ⟨39, 0, 0, 0, h / 8 % 16, 0, 2, 0, false⟩ := by
    unfold Nm.decI Nm.dec2
    repeat (first | rw [if_neg (by omega)] | rw [if_pos (by omega)])
  rw [e]
  clear e
  unfold Nm.rowI Nm.restI
  dsimp only
  repeat (first | rw [if_neg (by omega)] | rw [if_pos (by omega)] | rw [if_pos rfl])
  all_goals (first | rfl | (apply opt_yes; simp [Nm.low]; done) | (apply opt_yes; simp [Nm.low]; omega) | (apply if_yes <;> intro hq <;> first | rfl | (apply opt_yes; simp [Nm.low]; omega)))
theorem may_18432 (h : Int) (it : Bool) (h0 : 18432 ≤ h) (h1 : h < 20480) : (Nm.rowI (Nm.decI h it) it).isSome = true := by
  have e : Nm.decI h it = ⟨40, 0, h / 256 % 8, 0, 0, h % 256 * 4, 1, 0, false⟩ := by
    unfold Nm.decI
    repeat (first | rw [if_neg (by omega)] | rw [if_pos (by omega)])
  rw [e]
  clear e
  unfold Nm.rowI Nm.restI
  dsimp only
  repeat (first | rw [if_neg (by omega)] | rw [if_pos (by omega)] | rw [if_pos rfl])
  all_goals (first | rfl | (apply opt_yes; simp [Nm.low]; done) | (apply opt_yes; simp [Nm.low]; omega) | (apply if_yes <;> intro hq <;> first | rfl | (apply opt_yes; simp [Nm.low]; omega)))
theorem may_20480 (h : Int) (it : Bool) (h0 : 20480 ≤ h) (h1 : h < 20992) : (Nm.rowI (Nm.decI h it) it).isSome = true := by
  have e : Nm.decI h it = ⟨28, 0, h % 8, h / 8 % 8, h / 64 % 8, 0, 2, 0, false⟩ := by
    unfold Nm.decI Nm.dec3
    repeat (first | rw [if_neg (by omega)] | rw [if_pos (by omega)])
  rw [e]
  clear e
  unfold Nm.rowI Nm.loadI
  dsimp only
  repeat (first | rw [if_neg (by omega)] | rw [if_pos (by omega)] | rw [if_pos rfl])
  all_goals (first | rfl | (apply opt_yes; simp [Nm.low]; done) | (apply opt_yes; simp [Nm.low]; omega) | (apply if_yes <;> intro hq <;> first | rfl | (apply opt_yes; simp [Nm.low]; omega)))
theorem may_20992 (h : Int) (it : Bool) (h0 : 20992 ≤ h) (h1 : h < 21504) : (Nm.rowI (Nm.decI h it) it).isSome = true := by
  have e : Nm.decI h it = ⟨30, 0, h % 8, h / 8 % 8, h / 64 % 8, 0, 2, 0, false⟩ := by
    unfold Nm.decI Nm.dec3
    repeat (first | rw [if_neg (by omega)] | rw [if_pos (by omega)])
  rw [e]
  clear e
  unfold Nm.rowI Nm.loadI
  dsimp only
  repeat (first | rw [if_neg (by omega)] | rw [if_pos (by omega)] | rw [if_pos rfl])
  all_goals (first | rfl | (apply opt_yes; simp [Nm.low]; done) | (apply opt_yes; simp [Nm.low]; omega) | (apply if_yes <;> intro hq <;> first | rfl | (apply opt_yes; simp [Nm.low]; omega)))
theorem may_21504 (h : Int) (it : Bool) (h0 : 21504 ≤ h) (h1 : h < 22016) : (Nm.rowI (Nm.decI h it) it).isSome = true := by
  have e : Nm.decI h it = ⟨29, 0, h % 8, h / 8 % 8, h / 64 % 8, 0, 2, 0, false⟩ := by
    unfold Nm.decI Nm.dec3
    repeat (first | rw [if_neg (by omega)] | rw [if_pos (by omega)])
  rw [e]
  clear e
  unfold Nm.rowI Nm.loadI
  dsimp only
  repeat (first | rw [if_neg (by omega)] | rw [if_pos (by omega)] | rw [if_pos rfl])
  all_goals (first | rfl | (apply opt_yes; simp [Nm.low]; done) | (apply opt_yes; simp [Nm.low]; omega) | (apply if_yes <;> intro hq <;> first | rfl | (apply opt_yes; simp [Nm.low]; omega)))
theorem may_22528 (h : Int) (it : Bool) (h0 : 22528 ≤ h) (h1 : h < 23040) : (Nm.rowI (Nm.decI h it) it).isSome = true := by
  have e : Nm.decI h it = ⟨25, 0, h % 8, h / 8 % 8, h / 64 % 8, 0, 2, 0, false⟩ := by
    unfold Nm.decI Nm.dec3
    repeat (first | rw [if_neg (by omega)] | rw [if_pos (by omega)])
  rw [e]
  clear e
  unfold Nm.rowI Nm.loadI
  dsimp only
  repeat (first | rw [if_neg (by omega)] | rw [if_pos (by omega)] | rw [if_pos rfl])
  all_goals (first | rfl | (apply opt_yes; simp [Nm.low]; done) | (apply opt_yes; simp [Nm.low]; omega) | (apply if_yes <;> intro hq <;> first | rfl | (apply opt_yes; simp [Nm.low]; omega)))
theorem may_23040 (h : Int) (it : Bool) (h0 : 23040 ≤ h) (h1 : h < 23552) : (Nm.rowI (Nm.decI h it) it).isSome = true := by
  have e : Nm.decI h it = ⟨27, 0, h % 8, h / 8 % 8, h / 64 % 8, 0, 2, 0, false⟩ := by
    unfold Nm.decI Nm.dec3
    repeat (first | rw [if_neg (by omega)] | rw [if_pos (by omega)])
  rw [e]
  clear e
  unfold Nm.rowI Nm.loadI
  dsimp only
  repeat (first | rw [if_neg (by omega)] | rw [if_pos (by omega)] | rw [if_pos rfl])
  all_goals (first | rfl | (apply opt_yes; simp [Nm.low]; done) | (apply opt_yes; simp [Nm.low]; omega) | (apply if_yes <;> intro hq <;> first | rfl | (apply opt_yes; simp [Nm.low]; omega)))
theorem may_23552 (h : Int) (it : Bool) (h0 : 23552 ≤ h) (h1 : h < 24064) : (Nm.rowI (Nm.decI h it) it).isSome = true := by
  have e : Nm.decI h it = ⟨26, 0, h % 8, h / 8 % 8, h / 64 % 8, 0, 2, 0, false⟩ := by
    unfold Nm.decI Nm.dec3
    repeat (first | rw [if_neg (by omega)] | rw [if_pos (by omega)])
  rw [e]
  clear e
  unfold Nm.rowI Nm.loadI
  dsimp only
  repeat (first | rw [if_neg (by omega)] | rw [if_pos (by omega)] | rw [if_pos rfl])
  all_goals (first | rfl | (apply opt_yes; simp [Nm.low]; done) | (apply opt_yes; simp [Nm.low]; omega) | (apply if_yes <;> intro hq <;> first | rfl | (apply opt_yes; simp [Nm.low]; omega)))
theorem may_24576 (h : Int) (it : Bool) (h0 : 24576 ≤ h) (h1 : h < 26624) : (Nm.rowI (Nm.decI h it) it).isSome = true := by
  have e : Nm.decI h it = ⟨28, 0, h % 8, h / 8 % 8, 0, h / 64 % 32 * 4, 1, 0, false⟩ := by
    unfold Nm.decI Nm.dec3
    repeat (first | rw [if_neg (by omega)] | rw [if_pos (by omega)])
  rw [e]
  clear e
  unfold Nm.rowI Nm.loadI
  dsimp only
  repeat (first | rw [if_neg (by omega)] | rw [if_pos (by omega)] | rw [if_pos rfl])
  rw [show Nm.byB 28 = 4 from rfl]
  apply opt_yes
  simp [Nm.low]
  omega
theorem may_26624 (h : Int) (it : Bool) (h0 : 26624 ≤ h) (h1 : h < 28672) : (Nm.rowI (Nm.decI h it) it).isSome = true := by
  have e : Nm.decI h it = ⟨25, 0, h % 8, h / 8 % 8, 0, h / 64 % 32 * 4, 1, 0, false⟩ := by
    unfold Nm.decI Nm.dec3
    repeat (first | rw [if_neg (by omega)] | rw [if_pos (by omega)])
  rw [e]
  clear e
  unfold Nm.rowI Nm.loadI
  dsimp only
  repeat (first | rw [if_neg (by omega)] | rw [if_pos (by omega)] | rw [if_pos rfl])
  rw [show Nm.byB 25 = 4 from rfl]
  apply opt_yes
  simp [Nm.low]
  omega
theorem may_28672 (h : Int) (it : Bool) (h0 : 28672 ≤ h) (h1 : h < 30720) : (Nm.rowI (Nm.decI h it) it).isSome = true := by
  have e : Nm.decI h it = ⟨29, 0, h % 8, h / 8 % 8, 0, h / 64 % 32, 1, 0, false⟩ := by
    unfold Nm.decI Nm.dec3
    repeat (first | rw [if_neg (by omega)] | rw [if_pos (by omega)])
  rw [e]
  clear e
  unfold Nm.rowI Nm.loadI
  dsimp only
  repeat (first | rw [if_neg (by omega)] | rw [if_pos (by omega)] | rw [if_pos rfl])
  rw [show Nm.byB 29 = 1 from rfl]
  apply opt_yes
  simp [Nm.low]
  omega
theorem may_30720 (h : Int) (it : Bool) (h0 : 30720 ≤ h) (h1 : h < 32768) : (Nm.rowI (Nm.decI h it) it).isSome = true := by
  have e : Nm.decI h it = ⟨26, 0, h % 8, h / 8 % 8, 0, h / 64 % 32, 1, 0, false⟩ := by
    unfold Nm.decI Nm.dec3
    repeat (first | rw [if_neg (by omega)] | rw [if_pos (by omega)])
  rw [e]
  clear e
  unfold Nm.rowI Nm.loadI
  dsimp only
  repeat (first | rw [if_neg (by omega)] | rw [if_pos (by omega)] | rw [if_pos rfl])
  rw [show Nm.byB 26 = 1 from rfl]
  apply opt_yes
  simp [Nm.low]
  omega
theorem may_32768 (h : Int) (it : Bool) (h0 : 32768 ≤ h) (h1 : h < 34816) : (Nm.rowI (Nm.decI h it) it).isSome = true := by
  have e : Nm.decI h it = ⟨30, 0, h % 8, h / 8 % 8, 0, h / 64 % 32 * 2, 1, 0, false⟩ := by
    unfold Nm.decI Nm.dec3
    repeat (first | rw [if_neg (by omega)] | rw [if_pos (by omega)])
  rw [e]
  clear e
  unfold Nm.rowI Nm.loadI
  dsimp only
  repeat (first | rw [if_neg (by omega)] | rw [if_pos (by omega)] | rw [if_pos rfl])
  rw [show Nm.byB 30 = 2 from rfl]
  apply opt_yes
  simp [Nm.low]
  omega
theorem may_34816 (h : Int) (it : Bool) (h0 : 34816 ≤ h) (h1 : h < 36864) : (Nm.rowI (Nm.decI h it) it).isSome = true := by
  have e : Nm.decI h it = ⟨27, 0, h % 8, h / 8 % 8, 0, h / 64 % 32 * 2, 1, 0, false⟩ := by
    unfold Nm.decI Nm.dec3
    repeat (first | rw [if_neg (by omega)] | rw [if_pos (by omega)])
  rw [e]
  clear e
  unfold Nm.rowI Nm.loadI
  dsimp only
  repeat (first | rw [if_neg (by omega)] | rw [if_pos (by omega)] | rw [if_pos rfl])
  rw [show Nm.byB 27 = 2 from rfl]
  apply opt_yes
  simp [Nm.low]
  omega
theorem may_36864 (h : Int) (it : Bool) (h0 : 36864 ≤ h) (h1 : h < 38912) : (Nm.rowI (Nm.decI h it) it).isSome = true := by
  have e : Nm.decI h it = ⟨28, 0, h / 256 % 8, 13, 0, h % 256 * 4, 1, 0, false⟩ := by
    unfold Nm.decI Nm.dec3
    repeat (first | rw [if_neg (by omega)] | rw [if_pos (by omega)])
  rw [e]
  clear e
  unfold Nm.rowI Nm.loadI
  dsimp only
  repeat (first | rw [if_neg (by omega)] | rw [if_pos (by omega)] | rw [if_pos rfl])
  all_goals (first | rfl | (apply opt_yes; simp [Nm.low]; done) | (apply opt_yes; simp [Nm.low]; omega) | (apply if_yes <;> intro hq <;> first | rfl | (apply opt_yes; simp [Nm.low]; omega)))
theorem may_38912 (h : Int) (it : Bool) (h0 : 38912 ≤ h) (h1 : h < 40960) : (Nm.rowI (Nm.decI h it) it).isSome = true := by
  have e : Nm.decI h it = ⟨25, 0, h / 256 % 8, 13, 0, h % 256 * 4, 1, 0, false⟩ := by
    unfold Nm.decI Nm.dec3
    repeat (first | rw [if_neg (by omega)] | rw [if_pos (by omega)])
  rw [e]
  clear e
  unfold Nm.rowI Nm.loadI
  dsimp only
  repeat (first | rw [if_neg (by omega)] | rw [if_pos (by omega)] | rw [if_pos rfl])
  all_goals (first | rfl | (apply opt_yes; simp [Nm.low]; done) | (apply opt_yes; simp [Nm.low]; omega) | (apply if_yes <;> intro hq <;> first | rfl | (apply opt_yes; simp [Nm.low]; omega)))
theorem may_40960 (h : Int) (it : Bool) (h0 : 40960 ≤ h) (h1 : h < 43008) : (Nm.rowI (Nm.decI h it) it).isSome = true := by
  have e : Nm.decI h it = ⟨41, 0, h / 256 % 8, 0, 0, h % 256 * 4, 1, 0, false⟩ := by
    unfold Nm.decI
    repeat (first | rw [if_neg (by omega)] | rw [if_pos (by omega)])
  rw [e]
  clear e
  unfold Nm.rowI Nm.restI
  dsimp only
  repeat (first | rw [if_neg (by omega)] | rw [if_pos (by omega)] | rw [if_pos rfl])
  all_goals (first | rfl | (apply opt_yes; simp [Nm.low]; done) | (apply opt_yes; simp [Nm.low]; omega) | (apply if_yes <;> intro hq <;> first | rfl | (apply opt_yes; simp [Nm.low]; omega)))
theorem may_45312 (h : Int) (it : Bool) (h0 : 45312 ≤ h) (h1 : h < 45568) (ex : it = false) : (Nm.rowI (Nm.decI h it) it).isSome = true := by
  have e : Nm.decI h it = ⟨37, 0, 0, h % 8, 0, h / 512 % 2 * 64 + h / 8 % 32 * 2, 1, 0, false⟩ := by
    unfold Nm.decI Nm.dec4
    repeat (first | rw [if_neg (by omega)] | rw [if_pos (by omega)])
  rw [e]
  clear e
  subst ex
  unfold Nm.rowI Nm.branchI
  dsimp only
  repeat (first | rw [if_neg (by omega)] | rw [if_pos (by omega)] | rw [if_pos rfl])
  all_goals (first | rfl | (apply opt_yes; simp [Nm.low]; done) | (apply opt_yes; simp [Nm.low]; omega) | (apply if_yes <;> intro hq <;> first | rfl | (apply opt_yes; simp [Nm.low]; omega)))
theorem may_45824 (h : Int) (it : Bool) (h0 : 45824 ≤ h) (h1 : h < 46080) (ex : it = false) : (Nm.rowI (Nm.decI h it) it).isSome = true := by
  have e : Nm.decI h it = ⟨37, 0, 0, h % 8, 0, h / 512 % 2 * 64 + h / 8 % 32 * 2, 1, 0, false⟩ := by
    unfold Nm.decI Nm.dec4
    repeat (first | rw [if_neg (by omega)] | rw [if_pos (by omega)])
  rw [e]
  clear e
  subst ex
  unfold Nm.rowI Nm.branchI
  dsimp only
  repeat (first | rw [if_neg (by omega)] | rw [if_pos (by omega)] | rw [if_pos rfl])
  all_goals (first | rfl | (apply opt_yes; simp [Nm.low]; done) | (apply opt_yes; simp [Nm.low]; omega) | (apply if_yes <;> intro hq <;> first | rfl | (apply opt_yes; simp [Nm.low]; omega)))
theorem may_46080 (h : Int) (it : Bool) (h0 : 46080 ≤ h) (h1 : h < 46592) : (Nm.rowI (Nm.decI h it) it).isSome = true := by
  have e : Nm.decI h it = ⟨33, 0, 0, 0, 0, 0, 0, h % 256 + h / 256 % 2 * 16384, false⟩ := by
    unfold Nm.decI Nm.dec4
    repeat (first | rw [if_neg (by omega)] | rw [if_pos (by omega)])
  rw [e]
  clear e
  unfold Nm.rowI Nm.restI
  dsimp only
  repeat (first | rw [if_neg (by omega)] | rw [if_pos (by omega)] | rw [if_pos rfl])
  apply opt_yes
  simp
  omega
theorem may_47360 (h : Int) (it : Bool) (h0 : 47360 ≤ h) (h1 : h < 47616) (ex : it = false) : (Nm.rowI (Nm.decI h it) it).isSome = true := by
  have e : Nm.decI h it = ⟨38, 0, 0, h % 8, 0, h / 512 % 2 * 64 + h / 8 % 32 * 2, 1, 0, false⟩ := by
    unfold Nm.decI Nm.dec4
    repeat (first | rw [if_neg (by omega)] | rw [if_pos (by omega)])
  rw [e]
  clear e
  subst ex
  unfold Nm.rowI Nm.branchI
  dsimp only
  repeat (first | rw [if_neg (by omega)] | rw [if_pos (by omega)] | rw [if_pos rfl])
  all_goals (first | rfl | (apply opt_yes; simp [Nm.low]; done) | (apply opt_yes; simp [Nm.low]; omega) | (apply if_yes <;> intro hq <;> first | rfl | (apply opt_yes; simp [Nm.low]; omega)))
theorem may_47872 (h : Int) (it : Bool) (h0 : 47872 ≤ h) (h1 : h < 48128) (ex : it = false) : (Nm.rowI (Nm.decI h it) it).isSome = true := by
  have e : Nm.decI h it = ⟨38, 0, 0, h % 8, 0, h / 512 % 2 * 64 + h / 8 % 32 * 2, 1, 0, false⟩ := by
    unfold Nm.decI Nm.dec4
    repeat (first | rw [if_neg (by omega)] | rw [if_pos (by omega)])
  rw [e]
  clear e
  subst ex
  unfold Nm.rowI Nm.branchI
  dsimp only
  repeat (first | rw [if_neg (by omega)] | rw [if_pos (by omega)] | rw [if_pos rfl])
  all_goals (first | rfl | (apply opt_yes; simp [Nm.low]; done) | (apply opt_yes; simp [Nm.low]; omega) | (apply if_yes <;> intro hq <;> first | rfl | (apply opt_yes; simp [Nm.low]; omega)))
theorem may_48128 (h : Int) (it : Bool) (h0 : 48128 ≤ h) (h1 : h < 48640) : (Nm.rowI (Nm.decI h it) it).isSome = true := by
  have e : Nm.decI h it = ⟨34, 0, 0, 0, 0, 0, 0, h % 256 + h / 256 % 2 * 32768, false⟩ := by
    unfold Nm.decI Nm.dec4
    repeat (first | rw [if_neg (by omega)] | rw [if_pos (by omega)])
  rw [e]
  clear e
  unfold Nm.rowI Nm.restI
  dsimp only
  repeat (first | rw [if_neg (by omega)] | rw [if_pos (by omega)] | rw [if_pos rfl])
  apply opt_yes
  simp
  omega
theorem may_48640 (h : Int) (it : Bool) (h0 : 48640 ≤ h) (h1 : h < 48896) : (Nm.rowI (Nm.decI h it) it).isSome = true := by
  have e : Nm.decI h it = ⟨44, 0, 0, 0, 0, h % 256, 1, 0, false⟩ := by
    unfold Nm.decI Nm.dec4
    repeat (first | rw [if_neg (by omega)] | rw [if_pos (by omega)])
  rw [e]
  clear e
  unfold Nm.rowI Nm.restI
  dsimp only
  repeat (first | rw [if_neg (by omega)] | rw [if_pos (by omega)] | rw [if_pos rfl])
  all_goals (first | rfl | (apply opt_yes; simp [Nm.low]; done) | (apply opt_yes; simp [Nm.low]; omega) | (apply if_yes <;> intro hq <;> first | rfl | (apply opt_yes; simp [Nm.low]; omega)))
theorem may_48896 (h : Int) (it : Bool) (h0 : 48896 ≤ h) (h1 : h < 48897) : (Nm.rowI (Nm.decI h it) it).isSome = true := by
  have e : Nm.decI h it = ⟨43, 0, 0, 0, 0, 0, 0, 0, false⟩ := by
    unfold Nm.decI Nm.dec4
    repeat (first | rw [if_neg (by omega)] | rw [if_pos (by omega)])
  rw [e]
  clear e
  unfold Nm.rowI Nm.restI
  dsimp only
  repeat (first | rw [if_neg (by omega)] | rw [if_pos (by omega)] | rw [if_pos rfl])
  all_goals (first | rfl | (apply opt_yes; simp [Nm.low]; done) | (apply opt_yes; simp [Nm.low]; omega) | (apply if_yes <;> intro hq <;> first | rfl | (apply opt_yes; simp [Nm.low]; omega)))
theorem may_48897 (h : Int) (it : Bool) (h0 : 48897 ≤ h) (h1 : h < 49152) (ex : it = false ∧ h % 16 ≠ 0) : (Nm.rowI (Nm.decI h it) it).isSome = true := by
  have e : Nm.decI h it = ⟨42, h / 16 % 16, 0, 0, 0, h % 16, 1, 0, false⟩ := by
    unfold Nm.decI Nm.dec4
    repeat (first | rw [if_neg (by omega)] | rw [if_pos (by omega)])
  rw [e]
  clear e
  obtain ⟨rfl, ex⟩ := ex
  unfold Nm.rowI Nm.restI
  dsimp only
  repeat (first | rw [if_neg (by omega)] | rw [if_pos (by omega)] | rw [if_pos rfl])
  all_goals (first | rfl | (apply opt_yes; simp [Nm.low]; done) | (apply opt_yes; simp [Nm.low]; omega) | (apply if_yes <;> intro hq <;> first | rfl | (apply opt_yes; simp [Nm.low]; omega)))
theorem may_49152 (h : Int) (it : Bool) (h0 : 49152 ≤ h) (h1 : h < 51200) : (Nm.rowI (Nm.decI h it) it).isSome = true := by
  have e : Nm.decI h it = ⟨32, 0, 0, h / 256 % 8, 0, 0, 0, h % 256, false⟩ := by
    unfold Nm.decI
    repeat (first | rw [if_neg (by omega)] | rw [if_pos (by omega)])
  rw [e]
  clear e
  unfold Nm.rowI Nm.restI
  dsimp only
  repeat (first | rw [if_neg (by omega)] | rw [if_pos (by omega)] | rw [if_pos rfl])
  all_goals (first | rfl | (apply opt_yes; simp [Nm.low]; done) | (apply opt_yes; simp [Nm.low]; omega) | (apply if_yes <;> intro hq <;> first | rfl | (apply opt_yes; simp [Nm.low]; omega)))
theorem may_51200 (h : Int) (it : Bool) (h0 : 51200 ≤ h) (h1 : h < 53248) : (Nm.rowI (Nm.decI h it) it).isSome = true := by
  have e : Nm.decI h it = ⟨31, 0, 0, h / 256 % 8, 0, 0, 0, h % 256, false⟩ := by
    unfold Nm.decI
    repeat (first | rw [if_neg (by omega)] | rw [if_pos (by omega)])
  rw [e]
  clear e
  unfold Nm.rowI Nm.restI
  dsimp only
  repeat (first | rw [if_neg (by omega)] | rw [if_pos (by omega)] | rw [if_pos rfl])
  all_goals (first | rfl | (apply opt_yes; simp [Nm.low]; done) | (apply opt_yes; simp [Nm.low]; omega) | (apply if_yes <;> intro hq <;> first | rfl | (apply opt_yes; simp [Nm.low]; omega)))
theorem may_53248 (h : Int) (it : Bool) (h0 : 53248 ≤ h) (h1 : h < 57344) (ex : it = false ∧ h / 256 % 16 < 14) : (Nm.rowI (Nm.decI h it) it).isSome = true := by
  have e : Nm.decI h it = ⟨35, h / 256 % 16, 0, 0, 0, if h % 256 < 128 then h % 256 * 2 else h % 256 * 2 - 512, 1, 0, false⟩ := by
    unfold Nm.decI
    repeat (first | rw [if_neg (by omega)] | rw [if_pos (by omega)])
  rw [e]
  clear e
  obtain ⟨rfl, ex⟩ := ex
  unfold Nm.rowI Nm.branchI
  dsimp only
  repeat (first | rw [if_neg (by omega)] | rw [if_pos (by omega)] | rw [if_pos rfl])
  apply opt_yes
  unfold Nm.fits1
  split <;> simp <;> omega
theorem may_57344 (h : Int) (it : Bool) (h0 : 57344 ≤ h) (h1 : h < 59392) : (Nm.rowI (Nm.decI h it) it).isSome = true := by
  have e : Nm.decI h it = ⟨35, 14, 0, 0, 0, if h % 2048 < 1024 then h % 2048 * 2 else h % 2048 * 2 - 4096, 1, 0, false⟩ := by
    unfold Nm.decI
    repeat (first | rw [if_neg (by omega)] | rw [if_pos (by omega)])
  rw [e]
  clear e
  unfold Nm.rowI Nm.branchI
  dsimp only
  repeat (first | rw [if_neg (by omega)] | rw [if_pos (by omega)] | rw [if_pos rfl])
  apply opt_yes
  unfold Nm.fits2
  split <;> simp <;> omega
theorem may_all (h : Int) (it : Bool) (h0 : 0 ≤ h) (h1 : h < 59392) (hb : ¬ badP h it) : (Nm.rowI (Nm.decI h it) it).isSome = true := by
  rcases Int.lt_or_le h 64 with c0 | d0
  · exact may_0 h it h0 c0 (by cases it with | false => rfl | true => exact absurd (Or.inl (⟨h0, c0, rfl⟩)) hb)
  rcases Int.lt_or_le h 2048 with c1 | d1
  · exact may_64 h it d0 c1
  rcases Int.lt_or_le h 4096 with c2 | d2
  · exact may_2048 h it d1 c2
  rcases Int.lt_or_le h 6144 with c3 | d3
  · exact may_4096 h it d2 c3
  rcases Int.lt_or_le h 6656 with c4 | d4
  · exact may_6144 h it d3 c4
  rcases Int.lt_or_le h 7168 with c5 | d5
  · exact may_6656 h it d4 c5
  rcases Int.lt_or_le h 7680 with c6 | d6
  · exact may_7168 h it d5 c6
  rcases Int.lt_or_le h 8192 with c7 | d7
  · exact may_7680 h it d6 c7
  rcases Int.lt_or_le h 10240 with c8 | d8
  · exact may_8192 h it d7 c8
  rcases Int.lt_or_le h 12288 with c9 | d9
  · exact may_10240 h it d8 c9
  rcases Int.lt_or_le h 14336 with c10 | d10
  · exact may_12288 h it d9 c10
  rcases Int.lt_or_le h 16384 with c11 | d11
  · exact may_14336 h it d10 c11
  rcases Int.lt_or_le h 16448 with c12 | d12
  · exact may_16384 h it d11 c12
  rcases Int.lt_or_le h 16512 with c13 | d13
  · exact may_16448 h it d12 c13
  rcases Int.lt_or_le h 16576 with c14 | d14
  · exact may_16512 h it d13 c14
  rcases Int.lt_or_le h 16640 with c15 | d15
  · exact may_16576 h it d14 c15
  rcases Int.lt_or_le h 16704 with c16 | d16
  · exact may_16640 h it d15 c16
  rcases Int.lt_or_le h 16768 with c17 | d17
  · exact may_16704 h it d16 c17
  rcases Int.lt_or_le h 16832 with c18 | d18
  · exact may_16768 h it d17 c18
  rcases Int.lt_or_le h 16896 with c19 | d19
  · exact may_16832 h it d18 c19
  rcases Int.lt_or_le h 16960 with c20 | d20
  · exact may_16896 h it d19 c20
  rcases Int.lt_or_le h 17024 with c21 | d21
  · exact may_16960 h it d20 c21
  rcases Int.lt_or_le h 17088 with c22 | d22
  · exact may_17024 h it d21 c22
  rcases Int.lt_or_le h 17152 with c23 | d23
  · exact may_17088 h it d22 c23
  rcases Int.lt_or_le h 17216 with c24 | d24
  · exact may_17152 h it d23 c24
  rcases Int.lt_or_le h 17280 with c25 | d25
  · exact may_17216 h it d24 c25 (by cases it with | true => rfl | false => exact absurd (Or.inr (Or.inl (⟨d24, c25, rfl⟩))) hb)
  rcases Int.lt_or_le h 17344 with c26 | d26
  · exact may_17280 h it d25 c26
  rcases Int.lt_or_le h 17408 with c27 | d27
  · exact may_17344 h it d26 c27
  rcases Int.lt_or_le h 17664 with c28 | d28
  · exact may_17408 h it d27 c28
  rcases Int.lt_or_le h 17920 with c29 | d29
  · exact may_17664 h it d28 c29 (fun q => absurd (Or.inr (Or.inr (Or.inl (⟨d28, c29, q⟩)))) hb)
  rcases Int.lt_or_le h 18176 with c30 | d30
  · exact may_17920 h it d29 c30
  rcases Int.lt_or_le h 18432 with c31 | d31
  · exact may_18176 h it d30 c31 (Classical.byContradiction fun q => absurd (Or.inr (Or.inr (Or.inr (Or.inl (⟨d30, c31, q⟩))))) hb)
  rcases Int.lt_or_le h 20480 with c32 | d32
  · exact may_18432 h it d31 c32
  rcases Int.lt_or_le h 20992 with c33 | d33
  · exact may_20480 h it d32 c33
  rcases Int.lt_or_le h 21504 with c34 | d34
  · exact may_20992 h it d33 c34
  rcases Int.lt_or_le h 22016 with c35 | d35
  · exact may_21504 h it d34 c35
  rcases Int.lt_or_le h 22528 with c36 | d36
  · exact absurd (Or.inr (Or.inr (Or.inr (Or.inr (Or.inl (⟨d35, c36⟩)))))) hb
  rcases Int.lt_or_le h 23040 with c37 | d37
  · exact may_22528 h it d36 c37
  rcases Int.lt_or_le h 23552 with c38 | d38
  · exact may_23040 h it d37 c38
  rcases Int.lt_or_le h 24064 with c39 | d39
  · exact may_23552 h it d38 c39
  rcases Int.lt_or_le h 24576 with c40 | d40
  · exact absurd (Or.inr (Or.inr (Or.inr (Or.inr (Or.inr (Or.inl (⟨d39, c40⟩))))))) hb
  rcases Int.lt_or_le h 26624 with c41 | d41
  · exact may_24576 h it d40 c41
  rcases Int.lt_or_le h 28672 with c42 | d42
  · exact may_26624 h it d41 c42
  rcases Int.lt_or_le h 30720 with c43 | d43
  · exact may_28672 h it d42 c43
  rcases Int.lt_or_le h 32768 with c44 | d44
  · exact may_30720 h it d43 c44
  rcases Int.lt_or_le h 34816 with c45 | d45
  · exact may_32768 h it d44 c45
  rcases Int.lt_or_le h 36864 with c46 | d46
  · exact may_34816 h it d45 c46
  rcases Int.lt_or_le h 38912 with c47 | d47
  · exact may_36864 h it d46 c47
  rcases Int.lt_or_le h 40960 with c48 | d48
  · exact may_38912 h it d47 c48
  rcases Int.lt_or_le h 43008 with c49 | d49
  · exact may_40960 h it d48 c49
  rcases Int.lt_or_le h 45312 with c50 | d50
  · exact absurd (Or.inr (Or.inr (Or.inr (Or.inr (Or.inr (Or.inr (Or.inl (⟨d49, c50⟩)))))))) hb
  rcases Int.lt_or_le h 45568 with c51 | d51
  · exact may_45312 h it d50 c51 (by cases it with | false => rfl | true => exact absurd (Or.inr (Or.inr (Or.inr (Or.inr (Or.inr (Or.inr (Or.inr (Or.inr (Or.inl (⟨d50, c51, rfl⟩)))))))))) hb)
  rcases Int.lt_or_le h 45824 with c52 | d52
  · exact absurd (Or.inr (Or.inr (Or.inr (Or.inr (Or.inr (Or.inr (Or.inr (Or.inl (⟨d51, c52⟩))))))))) hb
  rcases Int.lt_or_le h 46080 with c53 | d53
  · exact may_45824 h it d52 c53 (by cases it with | false => rfl | true => exact absurd (Or.inr (Or.inr (Or.inr (Or.inr (Or.inr (Or.inr (Or.inr (Or.inr (Or.inr (Or.inl (⟨d52, c53, rfl⟩))))))))))) hb)
  rcases Int.lt_or_le h 46592 with c54 | d54
  · exact may_46080 h it d53 c54
  rcases Int.lt_or_le h 47360 with c55 | d55
  · exact absurd (Or.inr (Or.inr (Or.inr (Or.inr (Or.inr (Or.inr (Or.inr (Or.inr (Or.inr (Or.inr (Or.inl (⟨d54, c55⟩)))))))))))) hb
  rcases Int.lt_or_le h 47616 with c56 | d56
  · exact may_47360 h it d55 c56 (by cases it with | false => rfl | true => exact absurd (Or.inr (Or.inr (Or.inr (Or.inr (Or.inr (Or.inr (Or.inr (Or.inr (Or.inr (Or.inr (Or.inr (Or.inr (Or.inl (⟨d55, c56, rfl⟩)))))))))))))) hb)
  rcases Int.lt_or_le h 47872 with c57 | d57
  · exact absurd (Or.inr (Or.inr (Or.inr (Or.inr (Or.inr (Or.inr (Or.inr (Or.inr (Or.inr (Or.inr (Or.inr (Or.inl (⟨d56, c57⟩))))))))))))) hb
  rcases Int.lt_or_le h 48128 with c58 | d58
  · exact may_47872 h it d57 c58 (by cases it with | false => rfl | true => exact absurd (Or.inr (Or.inr (Or.inr (Or.inr (Or.inr (Or.inr (Or.inr (Or.inr (Or.inr (Or.inr (Or.inr (Or.inr (Or.inr (Or.inl (⟨d57, c58, rfl⟩))))))))))))))) hb)
  rcases Int.lt_or_le h 48640 with c59 | d59
  · exact may_48128 h it d58 c59
  rcases Int.lt_or_le h 48896 with c60 | d60
  · exact may_48640 h it d59 c60
  rcases Int.lt_or_le h 48897 with c61 | d61
  · exact may_48896 h it d60 c61
  rcases Int.lt_or_le h 49152 with c62 | d62
  · exact may_48897 h it d61 c62 ⟨by cases it with | false => rfl | true => exact absurd (Or.inr (Or.inr (Or.inr (Or.inr (Or.inr (Or.inr (Or.inr (Or.inr (Or.inr (Or.inr (Or.inr (Or.inr (Or.inr (Or.inr (Or.inl (⟨d61, c62, .inl rfl⟩)))))))))))))))) hb, fun q => absurd (Or.inr (Or.inr (Or.inr (Or.inr (Or.inr (Or.inr (Or.inr (Or.inr (Or.inr (Or.inr (Or.inr (Or.inr (Or.inr (Or.inr (Or.inl (⟨d61, c62, .inr q⟩)))))))))))))))) hb⟩
  rcases Int.lt_or_le h 51200 with c63 | d63
  · exact may_49152 h it d62 c63
  rcases Int.lt_or_le h 53248 with c64 | d64
  · exact may_51200 h it d63 c64
  rcases Int.lt_or_le h 57344 with c65 | d65
  · exact may_53248 h it d64 c65 ⟨by cases it with | false => rfl | true => exact absurd (Or.inr (Or.inr (Or.inr (Or.inr (Or.inr (Or.inr (Or.inr (Or.inr (Or.inr (Or.inr (Or.inr (Or.inr (Or.inr (Or.inr (Or.inr (⟨d64, c65, .inl rfl⟩)))))))))))))))) hb, Classical.byContradiction fun q => absurd (Or.inr (Or.inr (Or.inr (Or.inr (Or.inr (Or.inr (Or.inr (Or.inr (Or.inr (Or.inr (Or.inr (Or.inr (Or.inr (Or.inr (Or.inr (⟨d64, c65, .inr (Int.not_lt.1 q)⟩)))))))))))))))) hb⟩
  · exact may_57344 h it d65 h1
theorem may (h : Int) (it : Bool) (i : I) (h0 : 0 ≤ h) (he : shortP h it = some i) : Nm.okB i = true ∧ ∃ g, Nm.encI i it = some g := by
  unfold shortP at he
  split at he
  case isFalse => cases he
  rename_i hc
  obtain ⟨h1, hok⟩ := hc
  have hi := Option.some.inj he
  have hb : ¬ badP h it := fun hb => by
    unfold decS at hok
    rw [if_pos hb] at hok
    exact absurd hok (by decide)
  have e : decS h it = Nm.decI h it := by
    unfold decS
    rw [if_neg hb]
  rw [hi] at hok e
  refine ⟨hok, ?_⟩
  have hm := may_all h it h0 h1 hb
  rw [← e] at hm
  obtain ⟨g, hg⟩ := Option.isSome_iff_exists.1 hm
  refine ⟨g, ?_⟩
  unfold Nm.encI
  rw [if_pos hok, hg]
theorem long_none (h : Int) (it : Bool) (hl : 59392 ≤ h) : shortP h it = none := by
  unfold shortP
  rw [if_neg (fun c => by omega)]
theorem dec0_same (h : Int) : (Nm.dec0 h false).s = true ∨ Nm.dec0 h true = Nm.dec0 h false := by
  unfold Nm.dec0
  by_cases c0 : h < 64
  · simp only [if_pos c0]
    first | exact .inl rfl | exact .inr trivial | exact .inr rfl
  simp only [if_neg c0]
  by_cases c1 : h < 2048
  · simp only [if_pos c1]
    first | exact .inl rfl | exact .inr trivial | exact .inr rfl
  simp only [if_neg c1]
  by_cases c2 : h < 4096
  · simp only [if_pos c2]
    first | exact .inl rfl | exact .inr trivial | exact .inr rfl
  simp only [if_neg c2]
  by_cases c3 : h < 6144
  · simp only [if_pos c3]
    first | exact .inl rfl | exact .inr trivial | exact .inr rfl
  simp only [if_neg c3]
  by_cases c4 : h < 6656
  · simp only [if_pos c4]
    first | exact .inl rfl | exact .inr trivial | exact .inr rfl
  simp only [if_neg c4]
  by_cases c5 : h < 7168
  · simp only [if_pos c5]
    first | exact .inl rfl | exact .inr trivial | exact .inr rfl
  simp only [if_neg c5]
  by_cases c6 : h < 7680
  · simp only [if_pos c6]
    first | exact .inl rfl | exact .inr trivial | exact .inr rfl
  simp only [if_neg c6]
  by_cases c7 : h < 8192
  · simp only [if_pos c7]
    first | exact .inl rfl | exact .inr trivial | exact .inr rfl
  simp only [if_neg c7]
  by_cases c8 : h < 10240
  · simp only [if_pos c8]
    first | exact .inl rfl | exact .inr trivial | exact .inr rfl
  simp only [if_neg c8]
  by_cases c9 : h < 12288
  · simp only [if_pos c9]
    first | exact .inl rfl | exact .inr trivial | exact .inr rfl
  simp only [if_neg c9]
  by_cases c10 : h < 14336
  · simp only [if_pos c10]
    first | exact .inl rfl | exact .inr trivial | exact .inr rfl
  simp only [if_neg c10]
  first | exact .inl rfl | exact .inr trivial | exact .inr rfl
theorem dec1_same (h : Int) : (Nm.dec1 h false).s = true ∨ Nm.dec1 h true = Nm.dec1 h false := by
  unfold Nm.dec1
  by_cases c0 : h < 16448
  · simp only [if_pos c0]
    first | exact .inl rfl | exact .inr trivial | exact .inr rfl
  simp only [if_neg c0]
  by_cases c1 : h < 16512
  · simp only [if_pos c1]
    first | exact .inl rfl | exact .inr trivial | exact .inr rfl
  simp only [if_neg c1]
  by_cases c2 : h < 16576
  · simp only [if_pos c2]
    first | exact .inl rfl | exact .inr trivial | exact .inr rfl
  simp only [if_neg c2]
  by_cases c3 : h < 16640
  · simp only [if_pos c3]
    first | exact .inl rfl | exact .inr trivial | exact .inr rfl
  simp only [if_neg c3]
  by_cases c4 : h < 16704
  · simp only [if_pos c4]
    first | exact .inl rfl | exact .inr trivial | exact .inr rfl
  simp only [if_neg c4]
  by_cases c5 : h < 16768
  · simp only [if_pos c5]
    first | exact .inl rfl | exact .inr trivial | exact .inr rfl
  simp only [if_neg c5]
  by_cases c6 : h < 16832
  · simp only [if_pos c6]
    first | exact .inl rfl | exact .inr trivial | exact .inr rfl
  simp only [if_neg c6]
  by_cases c7 : h < 16896
  · simp only [if_pos c7]
    first | exact .inl rfl | exact .inr trivial | exact .inr rfl
  simp only [if_neg c7]
  by_cases c8 : h < 16960
  · simp only [if_pos c8]
    first | exact .inl rfl | exact .inr trivial | exact .inr rfl
  simp only [if_neg c8]
  by_cases c9 : h < 17024
  · simp only [if_pos c9]
    first | exact .inl rfl | exact .inr trivial | exact .inr rfl
  simp only [if_neg c9]
  by_cases c10 : h < 17088
  · simp only [if_pos c10]
    first | exact .inl rfl | exact .inr trivial | exact .inr rfl
  simp only [if_neg c10]
  by_cases c11 : h < 17152
  · simp only [if_pos c11]
    first | exact .inl rfl | exact .inr trivial | exact .inr rfl
  simp only [if_neg c11]
  by_cases c12 : h < 17216
  · simp only [if_pos c12]
    first | exact .inl rfl | exact .inr trivial | exact .inr rfl
  simp only [if_neg c12]
  by_cases c13 : h < 17280
  · simp only [if_pos c13]
    first | exact .inl rfl | exact .inr trivial | exact .inr rfl
  simp only [if_neg c13]
  by_cases c14 : h < 17344
  · simp only [if_pos c14]
    first | exact .inl rfl | exact .inr trivial | exact .inr rfl
  simp only [if_neg c14]
  first | exact .inl rfl | exact .inr trivial | exact .inr rfl
theorem same_dec (h : Int) : (Nm.decI h false).s = true ∨ Nm.decI h true = Nm.decI h false := by
  unfold Nm.decI
  by_cases c0 : h < 16384
  · simp only [if_pos c0]
    exact dec0_same h
  simp only [if_neg c0]
  by_cases c1 : h < 17408
  · simp only [if_pos c1]
    exact dec1_same h
  simp only [if_neg c1]
  exact .inr trivial
theorem blocks (h : Int) (i : I) (h0 : 0 ≤ h) (he : shortP h false = some i) (hs : i.s = false) (hB : ¬ (i.op = 35 ∧ i.cond ≠ 14)) (h37 : i.op ≠ 37) (h38 : i.op ≠ 38) (h42 : i.op ≠ 42) : shortP h true = some i := by
  unfold shortP at he
  split at he
  case isFalse => cases he
  rename_i hc
  obtain ⟨h1, hok⟩ := hc
  have hi := Option.some.inj he
  clear he
  have hb : ¬ badP h false := fun hb => by
    unfold decS at hok
    rw [if_pos hb] at hok
    exact absurd hok (by decide)
  have e : decS h false = Nm.decI h false := by
    unfold decS
    rw [if_neg hb]
  rw [hi] at e hok
  have e2 : Nm.decI h true = i := by
    rcases same_dec h with hq | hq
    · rw [← e, hs] at hq; cases hq
    · rw [hq, e]
  have hb2 : ¬ badP h true := fun hb2 => by
    unfold badP at hb2
    rcases hb2 with ⟨a, b, c⟩ | ⟨a, b, c⟩ | ⟨a, b, c⟩ | ⟨a, b, c⟩ | ⟨a, b⟩ | ⟨a, b⟩ | ⟨a, b⟩ | ⟨a, b⟩ | ⟨a, b, c⟩ | ⟨a, b, c⟩ | ⟨a, b⟩ | ⟨a, b⟩ | ⟨a, b, c⟩ | ⟨a, b, c⟩ | ⟨a, b, c⟩ | ⟨a, b, c⟩
    · have q : Nm.decI h false = ⟨10, 0, h % 8, 0, h / 8 % 8, 0, 2, 0, true⟩ := by
        unfold Nm.decI Nm.dec0
        repeat (first | rw [if_neg (by omega)] | rw [if_pos (by omega)])
      rw [q] at e
      subst e
      cases hs
    · cases c
    · exact hb (Or.inr (Or.inr (Or.inl (⟨a, b, c⟩))))
    · exact hb (Or.inr (Or.inr (Or.inr (Or.inl (⟨a, b, c⟩)))))
    · exact hb (Or.inr (Or.inr (Or.inr (Or.inr (Or.inl (⟨a, b⟩))))))
    · exact hb (Or.inr (Or.inr (Or.inr (Or.inr (Or.inr (Or.inl (⟨a, b⟩)))))))
    · exact hb (Or.inr (Or.inr (Or.inr (Or.inr (Or.inr (Or.inr (Or.inl (⟨a, b⟩))))))))
    · exact hb (Or.inr (Or.inr (Or.inr (Or.inr (Or.inr (Or.inr (Or.inr (Or.inl (⟨a, b⟩)))))))))
    · have q : Nm.decI h false = ⟨37, 0, 0, h % 8, 0, h / 512 % 2 * 64 + h / 8 % 32 * 2, 1, 0, false⟩ := by
        unfold Nm.decI Nm.dec4
        repeat (first | rw [if_neg (by omega)] | rw [if_pos (by omega)])
      rw [q] at e
      subst e
      exact h37 rfl
    · have q : Nm.decI h false = ⟨37, 0, 0, h % 8, 0, h / 512 % 2 * 64 + h / 8 % 32 * 2, 1, 0, false⟩ := by
        unfold Nm.decI Nm.dec4
        repeat (first | rw [if_neg (by omega)] | rw [if_pos (by omega)])
      rw [q] at e
      subst e
      exact h37 rfl
    · exact hb (Or.inr (Or.inr (Or.inr (Or.inr (Or.inr (Or.inr (Or.inr (Or.inr (Or.inr (Or.inr (Or.inl (⟨a, b⟩))))))))))))
    · exact hb (Or.inr (Or.inr (Or.inr (Or.inr (Or.inr (Or.inr (Or.inr (Or.inr (Or.inr (Or.inr (Or.inr (Or.inl (⟨a, b⟩)))))))))))))
    · have q : Nm.decI h false = ⟨38, 0, 0, h % 8, 0, h / 512 % 2 * 64 + h / 8 % 32 * 2, 1, 0, false⟩ := by
        unfold Nm.decI Nm.dec4
        repeat (first | rw [if_neg (by omega)] | rw [if_pos (by omega)])
      rw [q] at e
      subst e
      exact h38 rfl
    · have q : Nm.decI h false = ⟨38, 0, 0, h % 8, 0, h / 512 % 2 * 64 + h / 8 % 32 * 2, 1, 0, false⟩ := by
        unfold Nm.decI Nm.dec4
        repeat (first | rw [if_neg (by omega)] | rw [if_pos (by omega)])
      rw [q] at e
      subst e
      exact h38 rfl
    · have q : Nm.decI h false = ⟨42, h / 16 % 16, 0, 0, 0, h % 16, 1, 0, false⟩ := by
        unfold Nm.decI Nm.dec4
        repeat (first | rw [if_neg (by omega)] | rw [if_pos (by omega)])
      rw [q] at e
      subst e
      exact h42 rfl
    · have q : Nm.decI h false = ⟨35, h / 256 % 16, 0, 0, 0, if h % 256 < 128 then h % 256 * 2 else h % 256 * 2 - 512, 1, 0, false⟩ := by
        unfold Nm.decI
        repeat (first | rw [if_neg (by omega)] | rw [if_pos (by omega)])
      rw [q] at e
      subst e
      exact hB ⟨rfl, fun h14 => hb (Or.inr (Or.inr (Or.inr (Or.inr (Or.inr (Or.inr (Or.inr (Or.inr (Or.inr (Or.inr (Or.inr (Or.inr (Or.inr (Or.inr (Or.inr (⟨a, b, .inr (by dsimp only at h14; omega)⟩))))))))))))))))⟩
  unfold shortP decS
  rw [if_neg hb2, e2, if_pos ⟨h1, hok⟩]
end Sm
end Go.Proofs.YtcphhojdfpedkaaDoor
