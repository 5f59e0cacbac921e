/- The document reads a halfword: what it might be, whatever it begins with. No conditions but those that each fact names (text by gen_d.py). The document reads a halfword: what it might be, and Decode. No conditions but those that each fact names (text by gen_d.py). Contract of the document's own Decode of a halfword, and of Long. No conditions but those that each fact names (text by gen_d.py). -/
import Derived.Test.YtcphhojdfpedkaaDoorGs
import Derived.ProofKit
import Derived.OpenShut
import Derived.WalkLawsBesides
import Derived.Lib.Hide
import Derived.Outline
import Derived.Deep.QuietTactic
import Derived.BigQuiet
import Derived.Test.YtcphhojdfpedkaaDoorGn
import Derived.Test.YtcphhojdfpedkaaDoorGm
import Derived.Test.YtcphhojdfpedkaaDoorDf
import Derived.Test.YtcphhojdfpedkaaDoorGt
import Derived.Test.YtcphhojdfpedkaaDoorGa

namespace Go.Proofs.YtcphhojdfpedkaaDoor
open Go.ChangeShapes Go.WideShapes Go.ChangeAt Go.RowKit
namespace Rd
open Sm (badP decS noneI)
theorem bad_none {h : Int} {it : Bool} (hb : badP h it) : decS h it = noneI := by unfold decS; rw [if_pos hb]
theorem not_bad_dec {h : Int} {it : Bool} (hb : ¬ badP h it) : decS h it = Nm.decI h it := by unfold decS; rw [if_neg hb]
theorem none_refused : Nm.okB noneI = false := by decide +kernel
theorem op0_refused (d r m : Int) : Nm.okB ⟨0, 0, d, r, m, 0, 2, 0, false⟩ = false := by simp [Nm.okB, Im.checkB]
theorem is_0 (h : Int) (h0 : 0 ≤ h) (h1 : h < 64) : decS h false = ⟨10, 0, h % 8, 0, h / 8 % 8, 0, 2, 0, true⟩ := by
  have nb : ¬ badP h false := by
    unfold badP
    simp
    omega
  rw [not_bad_dec nb]
  unfold Nm.decI Nm.dec0
  repeat (first | rw [if_neg (by omega)] | rw [if_pos (by omega)])
  all_goals rfl
theorem is_64 (h : Int) (it : Bool) (h0 : 64 ≤ h) (h1 : h < 2048) : decS h it = ⟨16, 0, h % 8, h / 8 % 8, 0, h / 64 % 32, 1, 0, !it⟩ := by
  have nb : ¬ badP h it := by
    unfold badP
    omega
  rw [not_bad_dec nb]
  unfold Nm.decI Nm.dec0
  repeat (first | rw [if_neg (by omega)] | rw [if_pos (by omega)])
  all_goals rfl
theorem is_2048 (h : Int) (it : Bool) (h0 : 2048 ≤ h) (h1 : h < 4096) : decS h it = ⟨17, 0, h % 8, h / 8 % 8, 0, if h / 64 % 32 = 0 then 32 else h / 64 % 32, 1, 0, !it⟩ := by
  have nb : ¬ badP h it := by
    unfold badP
    omega
  rw [not_bad_dec nb]
  unfold Nm.decI Nm.dec0
  repeat (first | rw [if_neg (by omega)] | rw [if_pos (by omega)])
  all_goals rfl
theorem is_4096 (h : Int) (it : Bool) (h0 : 4096 ≤ h) (h1 : h < 6144) : decS h it = ⟨18, 0, h % 8, h / 8 % 8, 0, if h / 64 % 32 = 0 then 32 else h / 64 % 32, 1, 0, !it⟩ := by
  have nb : ¬ badP h it := by
    unfold badP
    omega
  rw [not_bad_dec nb]
  unfold Nm.decI Nm.dec0
  repeat (first | rw [if_neg (by omega)] | rw [if_pos (by omega)])
  all_goals rfl
theorem is_6144 (h : Int) (it : Bool) (h0 : 6144 ≤ h) (h1 : h < 6656) : decS h it = ⟨5, 0, h % 8, h / 8 % 8, h / 64 % 8, 0, 2, 0, !it⟩ := by
  have nb : ¬ badP h it := by
    unfold badP
    omega
  rw [not_bad_dec nb]
  unfold Nm.decI Nm.dec0
  repeat (first | rw [if_neg (by omega)] | rw [if_pos (by omega)])
  all_goals rfl
theorem is_6656 (h : Int) (it : Bool) (h0 : 6656 ≤ h) (h1 : h < 7168) : decS h it = ⟨7, 0, h % 8, h / 8 % 8, h / 64 % 8, 0, 2, 0, !it⟩ := by
  have nb : ¬ badP h it := by
    unfold badP
    omega
  rw [not_bad_dec nb]
  unfold Nm.decI Nm.dec0
  repeat (first | rw [if_neg (by omega)] | rw [if_pos (by omega)])
  all_goals rfl
theorem is_7168 (h : Int) (it : Bool) (h0 : 7168 ≤ h) (h1 : h < 7680) : decS h it = ⟨5, 0, h % 8, h / 8 % 8, 0, h / 64 % 8, 1, 0, !it⟩ := by
  have nb : ¬ badP h it := by
    unfold badP
    omega
  rw [not_bad_dec nb]
  unfold Nm.decI Nm.dec0
  repeat (first | rw [if_neg (by omega)] | rw [if_pos (by omega)])
  all_goals rfl
theorem is_7680 (h : Int) (it : Bool) (h0 : 7680 ≤ h) (h1 : h < 8192) : decS h it = ⟨7, 0, h % 8, h / 8 % 8, 0, h / 64 % 8, 1, 0, !it⟩ := by
  have nb : ¬ badP h it := by
    unfold badP
    omega
  rw [not_bad_dec nb]
  unfold Nm.decI Nm.dec0
  repeat (first | rw [if_neg (by omega)] | rw [if_pos (by omega)])
  all_goals rfl
theorem is_8192 (h : Int) (it : Bool) (h0 : 8192 ≤ h) (h1 : h < 10240) : decS h it = ⟨10, 0, h / 256 % 8, 0, 0, h % 256, 1, 0, !it⟩ := by
  have nb : ¬ badP h it := by
    unfold badP
    omega
  rw [not_bad_dec nb]
  unfold Nm.decI Nm.dec0
  repeat (first | rw [if_neg (by omega)] | rw [if_pos (by omega)])
  all_goals rfl
theorem is_10240 (h : Int) (it : Bool) (h0 : 10240 ≤ h) (h1 : h < 12288) : decS h it = ⟨12, 0, 0, h / 256 % 8, 0, h % 256, 1, 0, false⟩ := by
  have nb : ¬ badP h it := by
    unfold badP
    omega
  rw [not_bad_dec nb]
  unfold Nm.decI Nm.dec0
  repeat (first | rw [if_neg (by omega)] | rw [if_pos (by omega)])
  all_goals rfl
theorem is_12288 (h : Int) (it : Bool) (h0 : 12288 ≤ h) (h1 : h < 14336) : decS h it = ⟨5, 0, h / 256 % 8, h / 256 % 8, 0, h % 256, 1, 0, !it⟩ := by
  have nb : ¬ badP h it := by
    unfold badP
    omega
  rw [not_bad_dec nb]
  unfold Nm.decI Nm.dec0
  repeat (first | rw [if_neg (by omega)] | rw [if_pos (by omega)])
  all_goals rfl
theorem is_14336 (h : Int) (it : Bool) (h0 : 14336 ≤ h) (h1 : h < 16384) : decS h it = ⟨7, 0, h / 256 % 8, h / 256 % 8, 0, h % 256, 1, 0, !it⟩ := by
  have nb : ¬ badP h it := by
    unfold badP
    omega
  rw [not_bad_dec nb]
  unfold Nm.decI Nm.dec0
  repeat (first | rw [if_neg (by omega)] | rw [if_pos (by omega)])
  all_goals rfl
theorem is_16384 (h : Int) (it : Bool) (h0 : 16384 ≤ h) (h1 : h < 16448) : decS h it = ⟨1, 0, h % 8, h % 8, h / 8 % 8, 0, 2, 0, !it⟩ := by
  have nb : ¬ badP h it := by
    unfold badP
    omega
  rw [not_bad_dec nb]
  unfold Nm.decI Nm.dec1
  repeat (first | rw [if_neg (by omega)] | rw [if_pos (by omega)])
  all_goals rfl
theorem is_16448 (h : Int) (it : Bool) (h0 : 16448 ≤ h) (h1 : h < 16512) : decS h it = ⟨2, 0, h % 8, h % 8, h / 8 % 8, 0, 2, 0, !it⟩ := by
  have nb : ¬ badP h it := by
    unfold badP
    omega
  rw [not_bad_dec nb]
  unfold Nm.decI Nm.dec1
  repeat (first | rw [if_neg (by omega)] | rw [if_pos (by omega)])
  all_goals rfl
theorem is_16512 (h : Int) (it : Bool) (h0 : 16512 ≤ h) (h1 : h < 16576) : decS h it = ⟨16, 0, h % 8, h % 8, h / 8 % 8, 0, 2, 0, !it⟩ := by
  have nb : ¬ badP h it := by
    unfold badP
    omega
  rw [not_bad_dec nb]
  unfold Nm.decI Nm.dec1
  repeat (first | rw [if_neg (by omega)] | rw [if_pos (by omega)])
  all_goals rfl
theorem is_16576 (h : Int) (it : Bool) (h0 : 16576 ≤ h) (h1 : h < 16640) : decS h it = ⟨17, 0, h % 8, h % 8, h / 8 % 8, 0, 2, 0, !it⟩ := by
  have nb : ¬ badP h it := by
    unfold badP
    omega
  rw [not_bad_dec nb]
  unfold Nm.decI Nm.dec1
  repeat (first | rw [if_neg (by omega)] | rw [if_pos (by omega)])
  all_goals rfl
theorem is_16640 (h : Int) (it : Bool) (h0 : 16640 ≤ h) (h1 : h < 16704) : decS h it = ⟨18, 0, h % 8, h % 8, h / 8 % 8, 0, 2, 0, !it⟩ := by
  have nb : ¬ badP h it := by
    unfold badP
    omega
  rw [not_bad_dec nb]
  unfold Nm.decI Nm.dec1
  repeat (first | rw [if_neg (by omega)] | rw [if_pos (by omega)])
  all_goals rfl
theorem is_16704 (h : Int) (it : Bool) (h0 : 16704 ≤ h) (h1 : h < 16768) : decS h it = ⟨6, 0, h % 8, h % 8, h / 8 % 8, 0, 2, 0, !it⟩ := by
  have nb : ¬ badP h it := by
    unfold badP
    omega
  rw [not_bad_dec nb]
  unfold Nm.decI Nm.dec1
  repeat (first | rw [if_neg (by omega)] | rw [if_pos (by omega)])
  all_goals rfl
theorem is_16768 (h : Int) (it : Bool) (h0 : 16768 ≤ h) (h1 : h < 16832) : decS h it = ⟨8, 0, h % 8, h % 8, h / 8 % 8, 0, 2, 0, !it⟩ := by
  have nb : ¬ badP h it := by
    unfold badP
    omega
  rw [not_bad_dec nb]
  unfold Nm.decI Nm.dec1
  repeat (first | rw [if_neg (by omega)] | rw [if_pos (by omega)])
  all_goals rfl
theorem is_16832 (h : Int) (it : Bool) (h0 : 16832 ≤ h) (h1 : h < 16896) : decS h it = ⟨19, 0, h % 8, h % 8, h / 8 % 8, 0, 2, 0, !it⟩ := by
  have nb : ¬ badP h it := by
    unfold badP
    omega
  rw [not_bad_dec nb]
  unfold Nm.decI Nm.dec1
  repeat (first | rw [if_neg (by omega)] | rw [if_pos (by omega)])
  all_goals rfl
theorem is_16896 (h : Int) (it : Bool) (h0 : 16896 ≤ h) (h1 : h < 16960) : decS h it = ⟨14, 0, 0, h % 8, h / 8 % 8, 0, 2, 0, false⟩ := by
  have nb : ¬ badP h it := by
    unfold badP
    omega
  rw [not_bad_dec nb]
  unfold Nm.decI Nm.dec1
  repeat (first | rw [if_neg (by omega)] | rw [if_pos (by omega)])
  all_goals rfl
theorem is_16960 (h : Int) (it : Bool) (h0 : 16960 ≤ h) (h1 : h < 17024) : decS h it = ⟨9, 0, h % 8, h / 8 % 8, 0, 0, 1, 0, !it⟩ := by
  have nb : ¬ badP h it := by
    unfold badP
    omega
  rw [not_bad_dec nb]
  unfold Nm.decI Nm.dec1
  repeat (first | rw [if_neg (by omega)] | rw [if_pos (by omega)])
  all_goals rfl
theorem is_17024 (h : Int) (it : Bool) (h0 : 17024 ≤ h) (h1 : h < 17088) : decS h it = ⟨12, 0, 0, h % 8, h / 8 % 8, 0, 2, 0, false⟩ := by
  have nb : ¬ badP h it := by
    unfold badP
    omega
  rw [not_bad_dec nb]
  unfold Nm.decI Nm.dec1
  repeat (first | rw [if_neg (by omega)] | rw [if_pos (by omega)])
  all_goals rfl
theorem is_17088 (h : Int) (it : Bool) (h0 : 17088 ≤ h) (h1 : h < 17152) : decS h it = ⟨13, 0, 0, h % 8, h / 8 % 8, 0, 2, 0, false⟩ := by
  have nb : ¬ badP h it := by
    unfold badP
    omega
  rw [not_bad_dec nb]
  unfold Nm.decI Nm.dec1
  repeat (first | rw [if_neg (by omega)] | rw [if_pos (by omega)])
  all_goals rfl
theorem is_17152 (h : Int) (it : Bool) (h0 : 17152 ≤ h) (h1 : h < 17216) : decS h it = ⟨3, 0, h % 8, h % 8, h / 8 % 8, 0, 2, 0, !it⟩ := by
  have nb : ¬ badP h it := by
    unfold badP
    omega
  rw [not_bad_dec nb]
  unfold Nm.decI Nm.dec1
  repeat (first | rw [if_neg (by omega)] | rw [if_pos (by omega)])
  all_goals rfl
theorem is_17216 (h : Int) (h0 : 17216 ≤ h) (h1 : h < 17280) : decS h true = ⟨20, 0, h % 8, h / 8 % 8, h % 8, 0, 2, 0, false⟩ := by
  have nb : ¬ badP h true := by
    unfold badP
    simp
    omega
  rw [not_bad_dec nb]
  unfold Nm.decI Nm.dec1
  repeat (first | rw [if_neg (by omega)] | rw [if_pos (by omega)])
  all_goals rfl
theorem is_17280 (h : Int) (it : Bool) (h0 : 17280 ≤ h) (h1 : h < 17344) : decS h it = ⟨4, 0, h % 8, h % 8, h / 8 % 8, 0, 2, 0, !it⟩ := by
  have nb : ¬ badP h it := by
    unfold badP
    omega
  rw [not_bad_dec nb]
  unfold Nm.decI Nm.dec1
  repeat (first | rw [if_neg (by omega)] | rw [if_pos (by omega)])
  all_goals rfl
theorem is_17344 (h : Int) (it : Bool) (h0 : 17344 ≤ h) (h1 : h < 17408) : decS h it = ⟨11, 0, h % 8, 0, h / 8 % 8, 0, 2, 0, !it⟩ := by
  have nb : ¬ badP h it := by
    unfold badP
    omega
  rw [not_bad_dec nb]
  unfold Nm.decI Nm.dec1
  repeat (first | rw [if_neg (by omega)] | rw [if_pos (by omega)])
  all_goals rfl
theorem is_17408 (h : Int) (it : Bool) (h0 : 17408 ≤ h) (h1 : h < 17664) : decS h it = ⟨5, 0, (h / 128 % 2 * 8 + h % 8), (h / 128 % 2 * 8 + h % 8), h / 8 % 16, 0, 2, 0, false⟩ := by
  have nb : ¬ badP h it := by
    unfold badP
    omega
  rw [not_bad_dec nb]
  unfold Nm.decI Nm.dec2
  repeat (first | rw [if_neg (by omega)] | rw [if_pos (by omega)])
  all_goals rfl
theorem is_17664 (h : Int) (it : Bool) (h0 : 17664 ≤ h) (h1 : h < 17920) (ex : ¬ ((h / 128 % 2 * 8 + h % 8) ≤ 7 ∧ h / 8 % 16 ≤ 7)) : decS h it = ⟨12, 0, 0, (h / 128 % 2 * 8 + h % 8), h / 8 % 16, 0, 2, 0, false⟩ := by
  have nb : ¬ badP h it := by
    unfold badP Nm.hi4
    omega
  rw [not_bad_dec nb]
  unfold Nm.decI Nm.dec2
  repeat (first | rw [if_neg (by omega)] | rw [if_pos (by omega)])
  all_goals rfl
theorem is_17920 (h : Int) (it : Bool) (h0 : 17920 ≤ h) (h1 : h < 18176) : decS h it = ⟨10, 0, (h / 128 % 2 * 8 + h % 8), 0, h / 8 % 16, 0, 2, 0, false⟩ := by
  have nb : ¬ badP h it := by
    unfold badP
    omega
  rw [not_bad_dec nb]
  unfold Nm.decI Nm.dec2
  repeat (first | rw [if_neg (by omega)] | rw [if_pos (by omega)])
  all_goals rfl
theorem is_18176 (h : Int) (it : Bool) (h0 : 18176 ≤ h) (h1 : h < 18432) (ex : h / 128 % 2 = 0 ∧ h % 8 = 0) : decS h it = ⟨39, 0, 0, 0, h / 8 % 16, 0, 2, 0, false⟩ := by
  have nb : ¬ badP h it := by
    unfold badP
    omega
  rw [not_bad_dec nb]
  unfold Nm.decI Nm.dec2
  repeat (first | rw [if_neg (by omega)] | rw [if_pos (by omega)])
  all_goals rfl
theorem is_18432 (h : Int) (it : Bool) (h0 : 18432 ≤ h) (h1 : h < 20480) : decS h it = ⟨40, 0, h / 256 % 8, 0, 0, h % 256 * 4, 1, 0, false⟩ := by
  have nb : ¬ badP h it := by
    unfold badP
    omega
  rw [not_bad_dec nb]
  unfold Nm.decI
  repeat (first | rw [if_neg (by omega)] | rw [if_pos (by omega)])
  all_goals rfl
theorem is_20480 (h : Int) (it : Bool) (h0 : 20480 ≤ h) (h1 : h < 20992) : decS h it = ⟨28, 0, h % 8, h / 8 % 8, h / 64 % 8, 0, 2, 0, false⟩ := by
  have nb : ¬ badP h it := by
    unfold badP
    omega
  rw [not_bad_dec nb]
  unfold Nm.decI Nm.dec3
  repeat (first | rw [if_neg (by omega)] | rw [if_pos (by omega)])
  all_goals rfl
theorem is_20992 (h : Int) (it : Bool) (h0 : 20992 ≤ h) (h1 : h < 21504) : decS h it = ⟨30, 0, h % 8, h / 8 % 8, h / 64 % 8, 0, 2, 0, false⟩ := by
  have nb : ¬ badP h it := by
    unfold badP
    omega
  rw [not_bad_dec nb]
  unfold Nm.decI Nm.dec3
  repeat (first | rw [if_neg (by omega)] | rw [if_pos (by omega)])
  all_goals rfl
theorem is_21504 (h : Int) (it : Bool) (h0 : 21504 ≤ h) (h1 : h < 22016) : decS h it = ⟨29, 0, h % 8, h / 8 % 8, h / 64 % 8, 0, 2, 0, false⟩ := by
  have nb : ¬ badP h it := by
    unfold badP
    omega
  rw [not_bad_dec nb]
  unfold Nm.decI Nm.dec3
  repeat (first | rw [if_neg (by omega)] | rw [if_pos (by omega)])
  all_goals rfl
theorem is_22528 (h : Int) (it : Bool) (h0 : 22528 ≤ h) (h1 : h < 23040) : decS h it = ⟨25, 0, h % 8, h / 8 % 8, h / 64 % 8, 0, 2, 0, false⟩ := by
  have nb : ¬ badP h it := by
    unfold badP
    omega
  rw [not_bad_dec nb]
  unfold Nm.decI Nm.dec3
  repeat (first | rw [if_neg (by omega)] | rw [if_pos (by omega)])
  all_goals rfl
theorem is_23040 (h : Int) (it : Bool) (h0 : 23040 ≤ h) (h1 : h < 23552) : decS h it = ⟨27, 0, h % 8, h / 8 % 8, h / 64 % 8, 0, 2, 0, false⟩ := by
  have nb : ¬ badP h it := by
    unfold badP
    omega
  rw [not_bad_dec nb]
  unfold Nm.decI Nm.dec3
  repeat (first | rw [if_neg (by omega)] | rw [if_pos (by omega)])
  all_goals rfl
theorem is_23552 (h : Int) (it : Bool) (h0 : 23552 ≤ h) (h1 : h < 24064) : decS h it = ⟨26, 0, h % 8, h / 8 % 8, h / 64 % 8, 0, 2, 0, false⟩ := by
  have nb : ¬ badP h it := by
    unfold badP
    omega
  rw [not_bad_dec nb]
  unfold Nm.decI Nm.dec3
  repeat (first | rw [if_neg (by omega)] | rw [if_pos (by omega)])
  all_goals rfl
theorem is_24576 (h : Int) (it : Bool) (h0 : 24576 ≤ h) (h1 : h < 26624) : decS h it = ⟨28, 0, h % 8, h / 8 % 8, 0, h / 64 % 32 * 4, 1, 0, false⟩ := by
  have nb : ¬ badP h it := by
    unfold badP
    omega
  rw [not_bad_dec nb]
  unfold Nm.decI Nm.dec3
  repeat (first | rw [if_neg (by omega)] | rw [if_pos (by omega)])
  all_goals rfl
theorem is_26624 (h : Int) (it : Bool) (h0 : 26624 ≤ h) (h1 : h < 28672) : decS h it = ⟨25, 0, h % 8, h / 8 % 8, 0, h / 64 % 32 * 4, 1, 0, false⟩ := by
  have nb : ¬ badP h it := by
    unfold badP
    omega
  rw [not_bad_dec nb]
  unfold Nm.decI Nm.dec3
  repeat (first | rw [if_neg (by omega)] | rw [if_pos (by omega)])
  all_goals rfl
theorem is_28672 (h : Int) (it : Bool) (h0 : 28672 ≤ h) (h1 : h < 30720) : decS h it = ⟨29, 0, h % 8, h / 8 % 8, 0, h / 64 % 32, 1, 0, false⟩ := by
  have nb : ¬ badP h it := by
    unfold badP
    omega
  rw [not_bad_dec nb]
  unfold Nm.decI Nm.dec3
  repeat (first | rw [if_neg (by omega)] | rw [if_pos (by omega)])
  all_goals rfl
theorem is_30720 (h : Int) (it : Bool) (h0 : 30720 ≤ h) (h1 : h < 32768) : decS h it = ⟨26, 0, h % 8, h / 8 % 8, 0, h / 64 % 32, 1, 0, false⟩ := by
  have nb : ¬ badP h it := by
    unfold badP
    omega
  rw [not_bad_dec nb]
  unfold Nm.decI Nm.dec3
  repeat (first | rw [if_neg (by omega)] | rw [if_pos (by omega)])
  all_goals rfl
theorem is_32768 (h : Int) (it : Bool) (h0 : 32768 ≤ h) (h1 : h < 34816) : decS h it = ⟨30, 0, h % 8, h / 8 % 8, 0, h / 64 % 32 * 2, 1, 0, false⟩ := by
  have nb : ¬ badP h it := by
    unfold badP
    omega
  rw [not_bad_dec nb]
  unfold Nm.decI Nm.dec3
  repeat (first | rw [if_neg (by omega)] | rw [if_pos (by omega)])
  all_goals rfl
theorem is_34816 (h : Int) (it : Bool) (h0 : 34816 ≤ h) (h1 : h < 36864) : decS h it = ⟨27, 0, h % 8, h / 8 % 8, 0, h / 64 % 32 * 2, 1, 0, false⟩ := by
  have nb : ¬ badP h it := by
    unfold badP
    omega
  rw [not_bad_dec nb]
  unfold Nm.decI Nm.dec3
  repeat (first | rw [if_neg (by omega)] | rw [if_pos (by omega)])
  all_goals rfl
theorem is_36864 (h : Int) (it : Bool) (h0 : 36864 ≤ h) (h1 : h < 38912) : decS h it = ⟨28, 0, h / 256 % 8, 13, 0, h % 256 * 4, 1, 0, false⟩ := by
  have nb : ¬ badP h it := by
    unfold badP
    omega
  rw [not_bad_dec nb]
  unfold Nm.decI Nm.dec3
  repeat (first | rw [if_neg (by omega)] | rw [if_pos (by omega)])
  all_goals rfl
theorem is_38912 (h : Int) (it : Bool) (h0 : 38912 ≤ h) (h1 : h < 40960) : decS h it = ⟨25, 0, h / 256 % 8, 13, 0, h % 256 * 4, 1, 0, false⟩ := by
  have nb : ¬ badP h it := by
    unfold badP
    omega
  rw [not_bad_dec nb]
  unfold Nm.decI Nm.dec3
  repeat (first | rw [if_neg (by omega)] | rw [if_pos (by omega)])
  all_goals rfl
theorem is_40960 (h : Int) (it : Bool) (h0 : 40960 ≤ h) (h1 : h < 43008) : decS h it = ⟨41, 0, h / 256 % 8, 0, 0, h % 256 * 4, 1, 0, false⟩ := by
  have nb : ¬ badP h it := by
    unfold badP
    omega
  rw [not_bad_dec nb]
  unfold Nm.decI
  repeat (first | rw [if_neg (by omega)] | rw [if_pos (by omega)])
  all_goals rfl
theorem is_45312 (h : Int) (h0 : 45312 ≤ h) (h1 : h < 45568) : decS h false = ⟨37, 0, 0, h % 8, 0, h / 512 % 2 * 64 + h / 8 % 32 * 2, 1, 0, false⟩ := by
  have nb : ¬ badP h false := by
    unfold badP
    simp
    omega
  rw [not_bad_dec nb]
  unfold Nm.decI Nm.dec4
  repeat (first | rw [if_neg (by omega)] | rw [if_pos (by omega)])
  all_goals rfl
theorem is_45824 (h : Int) (h0 : 45824 ≤ h) (h1 : h < 46080) : decS h false = ⟨37, 0, 0, h % 8, 0, h / 512 % 2 * 64 + h / 8 % 32 * 2, 1, 0, false⟩ := by
  have nb : ¬ badP h false := by
    unfold badP
    simp
    omega
  rw [not_bad_dec nb]
  unfold Nm.decI Nm.dec4
  repeat (first | rw [if_neg (by omega)] | rw [if_pos (by omega)])
  all_goals rfl
theorem is_46080 (h : Int) (it : Bool) (h0 : 46080 ≤ h) (h1 : h < 46592) : decS h it = ⟨33, 0, 0, 0, 0, 0, 0, h % 256 + h / 256 % 2 * 16384, false⟩ := by
  have nb : ¬ badP h it := by
    unfold badP
    omega
  rw [not_bad_dec nb]
  unfold Nm.decI Nm.dec4
  repeat (first | rw [if_neg (by omega)] | rw [if_pos (by omega)])
  all_goals rfl
theorem is_47360 (h : Int) (h0 : 47360 ≤ h) (h1 : h < 47616) : decS h false = ⟨38, 0, 0, h % 8, 0, h / 512 % 2 * 64 + h / 8 % 32 * 2, 1, 0, false⟩ := by
  have nb : ¬ badP h false := by
    unfold badP
    simp
    omega
  rw [not_bad_dec nb]
  unfold Nm.decI Nm.dec4
  repeat (first | rw [if_neg (by omega)] | rw [if_pos (by omega)])
  all_goals rfl
theorem is_47872 (h : Int) (h0 : 47872 ≤ h) (h1 : h < 48128) : decS h false = ⟨38, 0, 0, h % 8, 0, h / 512 % 2 * 64 + h / 8 % 32 * 2, 1, 0, false⟩ := by
  have nb : ¬ badP h false := by
    unfold badP
    simp
    omega
  rw [not_bad_dec nb]
  unfold Nm.decI Nm.dec4
  repeat (first | rw [if_neg (by omega)] | rw [if_pos (by omega)])
  all_goals rfl
theorem is_48128 (h : Int) (it : Bool) (h0 : 48128 ≤ h) (h1 : h < 48640) : decS h it = ⟨34, 0, 0, 0, 0, 0, 0, h % 256 + h / 256 % 2 * 32768, false⟩ := by
  have nb : ¬ badP h it := by
    unfold badP
    omega
  rw [not_bad_dec nb]
  unfold Nm.decI Nm.dec4
  repeat (first | rw [if_neg (by omega)] | rw [if_pos (by omega)])
  all_goals rfl
theorem is_48640 (h : Int) (it : Bool) (h0 : 48640 ≤ h) (h1 : h < 48896) : decS h it = ⟨44, 0, 0, 0, 0, h % 256, 1, 0, false⟩ := by
  have nb : ¬ badP h it := by
    unfold badP
    omega
  rw [not_bad_dec nb]
  unfold Nm.decI Nm.dec4
  repeat (first | rw [if_neg (by omega)] | rw [if_pos (by omega)])
  all_goals rfl
theorem is_48896 (h : Int) (it : Bool) (h0 : 48896 ≤ h) (h1 : h < 48897) : decS h it = ⟨43, 0, 0, 0, 0, 0, 0, 0, false⟩ := by
  have nb : ¬ badP h it := by
    unfold badP
    omega
  rw [not_bad_dec nb]
  unfold Nm.decI Nm.dec4
  repeat (first | rw [if_neg (by omega)] | rw [if_pos (by omega)])
  all_goals rfl
theorem is_48897 (h : Int) (h0 : 48897 ≤ h) (h1 : h < 49152) (ex : h % 16 ≠ 0) : decS h false = ⟨42, h / 16 % 16, 0, 0, 0, h % 16, 1, 0, false⟩ := by
  have nb : ¬ badP h false := by
    unfold badP
    simp
    omega
  rw [not_bad_dec nb]
  unfold Nm.decI Nm.dec4
  repeat (first | rw [if_neg (by omega)] | rw [if_pos (by omega)])
  all_goals rfl
theorem is_49152 (h : Int) (it : Bool) (h0 : 49152 ≤ h) (h1 : h < 51200) : decS h it = ⟨32, 0, 0, h / 256 % 8, 0, 0, 0, h % 256, false⟩ := by
  have nb : ¬ badP h it := by
    unfold badP
    omega
  rw [not_bad_dec nb]
  unfold Nm.decI
  repeat (first | rw [if_neg (by omega)] | rw [if_pos (by omega)])
  all_goals rfl
theorem is_51200 (h : Int) (it : Bool) (h0 : 51200 ≤ h) (h1 : h < 53248) : decS h it = ⟨31, 0, 0, h / 256 % 8, 0, 0, 0, h % 256, false⟩ := by
  have nb : ¬ badP h it := by
    unfold badP
    omega
  rw [not_bad_dec nb]
  unfold Nm.decI
  repeat (first | rw [if_neg (by omega)] | rw [if_pos (by omega)])
  all_goals rfl
theorem is_53248 (h : Int) (h0 : 53248 ≤ h) (h1 : h < 57344) (ex : h / 256 % 16 < 14) : decS h false = ⟨35, h / 256 % 16, 0, 0, 0, if h % 256 < 128 then h % 256 * 2 else h % 256 * 2 - 512, 1, 0, false⟩ := by
  have nb : ¬ badP h false := by
    unfold badP
    simp
    omega
  rw [not_bad_dec nb]
  unfold Nm.decI
  repeat (first | rw [if_neg (by omega)] | rw [if_pos (by omega)])
  all_goals rfl
theorem is_57344 (h : Int) (it : Bool) (h0 : 57344 ≤ h) (h1 : h < 59392) : decS h it = ⟨35, 14, 0, 0, 0, if h % 2048 < 1024 then h % 2048 * 2 else h % 2048 * 2 - 4096, 1, 0, false⟩ := by
  have nb : ¬ badP h it := by
    unfold badP
    omega
  rw [not_bad_dec nb]
  unfold Nm.decI
  repeat (first | rw [if_neg (by omega)] | rw [if_pos (by omega)])
  all_goals rfl
theorem isbad_0 (h : Int) (h0 : 0 ≤ h) (h1 : h < 64) : decS h true = noneI := bad_none (by unfold badP; simp; omega)
theorem isbad_17216 (h : Int) (h0 : 17216 ≤ h) (h1 : h < 17280) : decS h false = noneI := bad_none (by unfold badP; simp; omega)
theorem isbad_17664 (h : Int) (it : Bool) (h0 : 17664 ≤ h) (h1 : h < 17920) (hz : (h / 128 % 2 * 8 + h % 8) ≤ 7 ∧ h / 8 % 16 ≤ 7) : decS h it = noneI := bad_none (by unfold badP Nm.hi4; cases it <;> simp <;> omega)
theorem isbad_18176 (h : Int) (it : Bool) (h0 : 18176 ≤ h) (h1 : h < 18432) (hz : ¬ (h / 128 % 2 = 0 ∧ h % 8 = 0)) : decS h it = noneI := bad_none (by unfold badP; cases it <;> simp <;> omega)
theorem isbad_22016 (h : Int) (it : Bool) (h0 : 22016 ≤ h) (h1 : h < 22528) : decS h it = noneI := bad_none (by unfold badP; cases it <;> simp <;> omega)
theorem isbad_24064 (h : Int) (it : Bool) (h0 : 24064 ≤ h) (h1 : h < 24576) : decS h it = noneI := bad_none (by unfold badP; cases it <;> simp <;> omega)
theorem isbad_43008 (h : Int) (it : Bool) (h0 : 43008 ≤ h) (h1 : h < 45056) : decS h it = noneI := bad_none (by unfold badP; cases it <;> simp <;> omega)
theorem isbad_45056 (h : Int) (it : Bool) (h0 : 45056 ≤ h) (h1 : h < 45312) : decS h it = noneI := bad_none (by unfold badP; cases it <;> simp <;> omega)
theorem isbad_45568 (h : Int) (it : Bool) (h0 : 45568 ≤ h) (h1 : h < 45824) : decS h it = noneI := bad_none (by unfold badP; cases it <;> simp <;> omega)
theorem isbad_45312 (h : Int) (h0 : 45312 ≤ h) (h1 : h < 45568) : decS h true = noneI := bad_none (by unfold badP; simp; omega)
theorem isbad_45824 (h : Int) (h0 : 45824 ≤ h) (h1 : h < 46080) : decS h true = noneI := bad_none (by unfold badP; simp; omega)
theorem isbad_46592 (h : Int) (it : Bool) (h0 : 46592 ≤ h) (h1 : h < 47360) : decS h it = noneI := bad_none (by unfold badP; cases it <;> simp <;> omega)
theorem isbad_47616 (h : Int) (it : Bool) (h0 : 47616 ≤ h) (h1 : h < 47872) : decS h it = noneI := bad_none (by unfold badP; cases it <;> simp <;> omega)
theorem isbad_47360 (h : Int) (h0 : 47360 ≤ h) (h1 : h < 47616) : decS h true = noneI := bad_none (by unfold badP; simp; omega)
theorem isbad_47872 (h : Int) (h0 : 47872 ≤ h) (h1 : h < 48128) : decS h true = noneI := bad_none (by unfold badP; simp; omega)
theorem isbad_48897_t (h : Int) (h0 : 48897 ≤ h) (h1 : h < 49152) : decS h true = noneI := bad_none (by unfold badP; simp; omega)
theorem isbad_48897_z (h : Int) (it : Bool) (h0 : 48897 ≤ h) (h1 : h < 49152) (hz : h % 16 = 0) : decS h it = noneI := bad_none (by unfold badP; cases it <;> simp <;> omega)
theorem isbad_53248_t (h : Int) (h0 : 53248 ≤ h) (h1 : h < 57344) : decS h true = noneI := bad_none (by unfold badP; simp; omega)
theorem isbad_53248_z (h : Int) (it : Bool) (h0 : 53248 ≤ h) (h1 : h < 57344) (hz : 14 ≤ h / 256 % 16) : decS h it = noneI := bad_none (by unfold badP; cases it <;> simp <;> omega)
end Rd
end Go.Proofs.YtcphhojdfpedkaaDoor

namespace Go.Proofs.YtcphhojdfpedkaaDoor
open Go.ChangeShapes Go.WideShapes Go.ChangeAt Go.RowKit
namespace Rd
open Sm (badP decS noneI)
def OneIs (h : Int) (it : Bool) : Prop := ∃ I : Nm.I, (I = decS h it ∨ (Nm.okB I = false ∧ Nm.okB (decS h it) = false)) ∧ Nm.Wide I.list ∧
  ∀ w, Calls Tryd.prog 20 #[.int .i64 h, .bool it] w fun e w' => e = .returned (IV I) ∧ Below w.heap.size w w'
theorem wide_s {n : Int} (h : 0 ≤ n ∧ n < 65536) : Nm.Wide n := by unfold Nm.Wide; omega
theorem reg_0 (h : Int) (it : Bool) (h0 : 0 ≤ h) (h1 : h < 64) : OneIs h it := by
  have h0' : 0 ≤ h := by omega
  have h1' : h < 16384 := by omega
  cases it with
  | true => exact ⟨⟨0, 0, 0, 0, 0, 0, 0, 0, false⟩, .inl (isbad_0 h h0 h1).symm, wide_s ⟨by dsimp only; omega, by dsimp only; omega⟩, fun w => one_low h true h0' h1' _ _ _ _ _ _ _ _ _ (fun W => low_0_t h (!true) h0 h1 W) w⟩
  | false => exact ⟨⟨10, 0, h % 8, 0, h / 8 % 8, 0, 2, 0, true⟩, .inl (is_0 h h0 h1).symm, wide_s ⟨by dsimp only; omega, by dsimp only; omega⟩, fun w => one_low h false h0' h1' _ _ _ _ _ _ _ _ _ (fun W => low_0_f h (!false) h0 h1 W) w⟩
theorem reg_64 (h : Int) (it : Bool) (h0 : 64 ≤ h) (h1 : h < 2048) : OneIs h it := by
  have h0' : 0 ≤ h := by omega
  have h1' : h < 16384 := by omega
  exact ⟨⟨16, 0, h % 8, h / 8 % 8, 0, h / 64 % 32, 1, 0, !it⟩, .inl (is_64 h it h0 h1).symm, wide_s ⟨by dsimp only; omega, by dsimp only; omega⟩, fun w => one_low h it h0' h1' _ _ _ _ _ _ _ _ _ (fun W => low_64 h (!it) it h0 h1 W) w⟩
theorem reg_2048 (h : Int) (it : Bool) (h0 : 2048 ≤ h) (h1 : h < 4096) : OneIs h it := by
  have h0' : 0 ≤ h := by omega
  have h1' : h < 16384 := by omega
  by_cases e64 : h / 64 % 32 = 0
  · exact ⟨⟨17, 0, h % 8, h / 8 % 8, 0, 32, 1, 0, !it⟩, .inl (by rw [is_2048 h it h0 h1, if_pos e64]), wide_s ⟨by dsimp only; omega, by dsimp only; omega⟩, fun w => one_low h it h0' h1' _ _ _ _ _ _ _ _ _ (fun W => low_2048_z h (!it) it h0 h1 e64 W) w⟩
  · exact ⟨⟨17, 0, h % 8, h / 8 % 8, 0, h / 64 % 32, 1, 0, !it⟩, .inl (by rw [is_2048 h it h0 h1, if_neg e64]), wide_s ⟨by dsimp only; omega, by dsimp only; omega⟩, fun w => one_low h it h0' h1' _ _ _ _ _ _ _ _ _ (fun W => low_2048_n h (!it) it h0 h1 (by simpa using e64) W) w⟩
theorem reg_4096 (h : Int) (it : Bool) (h0 : 4096 ≤ h) (h1 : h < 6144) : OneIs h it := by
  have h0' : 0 ≤ h := by omega
  have h1' : h < 16384 := by omega
  by_cases e64 : h / 64 % 32 = 0
  · exact ⟨⟨18, 0, h % 8, h / 8 % 8, 0, 32, 1, 0, !it⟩, .inl (by rw [is_4096 h it h0 h1, if_pos e64]), wide_s ⟨by dsimp only; omega, by dsimp only; omega⟩, fun w => one_low h it h0' h1' _ _ _ _ _ _ _ _ _ (fun W => low_4096_z h (!it) it h0 h1 e64 W) w⟩
  · exact ⟨⟨18, 0, h % 8, h / 8 % 8, 0, h / 64 % 32, 1, 0, !it⟩, .inl (by rw [is_4096 h it h0 h1, if_neg e64]), wide_s ⟨by dsimp only; omega, by dsimp only; omega⟩, fun w => one_low h it h0' h1' _ _ _ _ _ _ _ _ _ (fun W => low_4096_n h (!it) it h0 h1 (by simpa using e64) W) w⟩
theorem reg_6144 (h : Int) (it : Bool) (h0 : 6144 ≤ h) (h1 : h < 6656) : OneIs h it := by
  have h0' : 0 ≤ h := by omega
  have h1' : h < 16384 := by omega
  exact ⟨⟨5, 0, h % 8, h / 8 % 8, h / 64 % 8, 0, 2, 0, !it⟩, .inl (is_6144 h it h0 h1).symm, wide_s ⟨by dsimp only; omega, by dsimp only; omega⟩, fun w => one_low h it h0' h1' _ _ _ _ _ _ _ _ _ (fun W => low_6144 h (!it) it h0 h1 W) w⟩
theorem reg_6656 (h : Int) (it : Bool) (h0 : 6656 ≤ h) (h1 : h < 7168) : OneIs h it := by
  have h0' : 0 ≤ h := by omega
  have h1' : h < 16384 := by omega
  exact ⟨⟨7, 0, h % 8, h / 8 % 8, h / 64 % 8, 0, 2, 0, !it⟩, .inl (is_6656 h it h0 h1).symm, wide_s ⟨by dsimp only; omega, by dsimp only; omega⟩, fun w => one_low h it h0' h1' _ _ _ _ _ _ _ _ _ (fun W => low_6656 h (!it) it h0 h1 W) w⟩
theorem reg_7168 (h : Int) (it : Bool) (h0 : 7168 ≤ h) (h1 : h < 7680) : OneIs h it := by
  have h0' : 0 ≤ h := by omega
  have h1' : h < 16384 := by omega
  exact ⟨⟨5, 0, h % 8, h / 8 % 8, 0, h / 64 % 8, 1, 0, !it⟩, .inl (is_7168 h it h0 h1).symm, wide_s ⟨by dsimp only; omega, by dsimp only; omega⟩, fun w => one_low h it h0' h1' _ _ _ _ _ _ _ _ _ (fun W => low_7168 h (!it) it h0 h1 W) w⟩
theorem reg_7680 (h : Int) (it : Bool) (h0 : 7680 ≤ h) (h1 : h < 8192) : OneIs h it := by
  have h0' : 0 ≤ h := by omega
  have h1' : h < 16384 := by omega
  exact ⟨⟨7, 0, h % 8, h / 8 % 8, 0, h / 64 % 8, 1, 0, !it⟩, .inl (is_7680 h it h0 h1).symm, wide_s ⟨by dsimp only; omega, by dsimp only; omega⟩, fun w => one_low h it h0' h1' _ _ _ _ _ _ _ _ _ (fun W => low_7680 h (!it) it h0 h1 W) w⟩
theorem reg_8192 (h : Int) (it : Bool) (h0 : 8192 ≤ h) (h1 : h < 10240) : OneIs h it := by
  have h0' : 0 ≤ h := by omega
  have h1' : h < 16384 := by omega
  exact ⟨⟨10, 0, h / 256 % 8, 0, 0, h % 256, 1, 0, !it⟩, .inl (is_8192 h it h0 h1).symm, wide_s ⟨by dsimp only; omega, by dsimp only; omega⟩, fun w => one_low h it h0' h1' _ _ _ _ _ _ _ _ _ (fun W => low_8192 h (!it) it h0 h1 W) w⟩
theorem reg_10240 (h : Int) (it : Bool) (h0 : 10240 ≤ h) (h1 : h < 12288) : OneIs h it := by
  have h0' : 0 ≤ h := by omega
  have h1' : h < 16384 := by omega
  exact ⟨⟨12, 0, 0, h / 256 % 8, 0, h % 256, 1, 0, false⟩, .inl (is_10240 h it h0 h1).symm, wide_s ⟨by dsimp only; omega, by dsimp only; omega⟩, fun w => one_low h it h0' h1' _ _ _ _ _ _ _ _ _ (fun W => low_10240 h (!it) it h0 h1 W) w⟩
theorem reg_12288 (h : Int) (it : Bool) (h0 : 12288 ≤ h) (h1 : h < 14336) : OneIs h it := by
  have h0' : 0 ≤ h := by omega
  have h1' : h < 16384 := by omega
  exact ⟨⟨5, 0, h / 256 % 8, h / 256 % 8, 0, h % 256, 1, 0, !it⟩, .inl (is_12288 h it h0 h1).symm, wide_s ⟨by dsimp only; omega, by dsimp only; omega⟩, fun w => one_low h it h0' h1' _ _ _ _ _ _ _ _ _ (fun W => low_12288 h (!it) it h0 h1 W) w⟩
theorem reg_14336 (h : Int) (it : Bool) (h0 : 14336 ≤ h) (h1 : h < 16384) : OneIs h it := by
  have h0' : 0 ≤ h := by omega
  have h1' : h < 16384 := by omega
  exact ⟨⟨7, 0, h / 256 % 8, h / 256 % 8, 0, h % 256, 1, 0, !it⟩, .inl (is_14336 h it h0 h1).symm, wide_s ⟨by dsimp only; omega, by dsimp only; omega⟩, fun w => one_low h it h0' h1' _ _ _ _ _ _ _ _ _ (fun W => low_14336 h (!it) it h0 h1 W) w⟩
theorem reg_16384 (h : Int) (it : Bool) (h0 : 16384 ≤ h) (h1 : h < 16448) : OneIs h it := by
  have h0' : 16384 ≤ h := by omega
  have h1' : h < 17408 := by omega
  exact ⟨⟨1, 0, h % 8, h % 8, h / 8 % 8, 0, 2, 0, !it⟩, .inl (is_16384 h it h0 h1).symm, wide_s ⟨by dsimp only; omega, by dsimp only; omega⟩, fun w => one_two h it h0' h1' _ _ _ _ _ _ _ _ _ (fun W => two_16384 h (!it) it h0 h1 W) w⟩
theorem reg_16448 (h : Int) (it : Bool) (h0 : 16448 ≤ h) (h1 : h < 16512) : OneIs h it := by
  have h0' : 16384 ≤ h := by omega
  have h1' : h < 17408 := by omega
  exact ⟨⟨2, 0, h % 8, h % 8, h / 8 % 8, 0, 2, 0, !it⟩, .inl (is_16448 h it h0 h1).symm, wide_s ⟨by dsimp only; omega, by dsimp only; omega⟩, fun w => one_two h it h0' h1' _ _ _ _ _ _ _ _ _ (fun W => two_16448 h (!it) it h0 h1 W) w⟩
theorem reg_16512 (h : Int) (it : Bool) (h0 : 16512 ≤ h) (h1 : h < 16576) : OneIs h it := by
  have h0' : 16384 ≤ h := by omega
  have h1' : h < 17408 := by omega
  exact ⟨⟨16, 0, h % 8, h % 8, h / 8 % 8, 0, 2, 0, !it⟩, .inl (is_16512 h it h0 h1).symm, wide_s ⟨by dsimp only; omega, by dsimp only; omega⟩, fun w => one_two h it h0' h1' _ _ _ _ _ _ _ _ _ (fun W => two_16512 h (!it) it h0 h1 W) w⟩
theorem reg_16576 (h : Int) (it : Bool) (h0 : 16576 ≤ h) (h1 : h < 16640) : OneIs h it := by
  have h0' : 16384 ≤ h := by omega
  have h1' : h < 17408 := by omega
  exact ⟨⟨17, 0, h % 8, h % 8, h / 8 % 8, 0, 2, 0, !it⟩, .inl (is_16576 h it h0 h1).symm, wide_s ⟨by dsimp only; omega, by dsimp only; omega⟩, fun w => one_two h it h0' h1' _ _ _ _ _ _ _ _ _ (fun W => two_16576 h (!it) it h0 h1 W) w⟩
theorem reg_16640 (h : Int) (it : Bool) (h0 : 16640 ≤ h) (h1 : h < 16704) : OneIs h it := by
  have h0' : 16384 ≤ h := by omega
  have h1' : h < 17408 := by omega
  exact ⟨⟨18, 0, h % 8, h % 8, h / 8 % 8, 0, 2, 0, !it⟩, .inl (is_16640 h it h0 h1).symm, wide_s ⟨by dsimp only; omega, by dsimp only; omega⟩, fun w => one_two h it h0' h1' _ _ _ _ _ _ _ _ _ (fun W => two_16640 h (!it) it h0 h1 W) w⟩
theorem reg_16704 (h : Int) (it : Bool) (h0 : 16704 ≤ h) (h1 : h < 16768) : OneIs h it := by
  have h0' : 16384 ≤ h := by omega
  have h1' : h < 17408 := by omega
  exact ⟨⟨6, 0, h % 8, h % 8, h / 8 % 8, 0, 2, 0, !it⟩, .inl (is_16704 h it h0 h1).symm, wide_s ⟨by dsimp only; omega, by dsimp only; omega⟩, fun w => one_two h it h0' h1' _ _ _ _ _ _ _ _ _ (fun W => two_16704 h (!it) it h0 h1 W) w⟩
theorem reg_16768 (h : Int) (it : Bool) (h0 : 16768 ≤ h) (h1 : h < 16832) : OneIs h it := by
  have h0' : 16384 ≤ h := by omega
  have h1' : h < 17408 := by omega
  exact ⟨⟨8, 0, h % 8, h % 8, h / 8 % 8, 0, 2, 0, !it⟩, .inl (is_16768 h it h0 h1).symm, wide_s ⟨by dsimp only; omega, by dsimp only; omega⟩, fun w => one_two h it h0' h1' _ _ _ _ _ _ _ _ _ (fun W => two_16768 h (!it) it h0 h1 W) w⟩
theorem reg_16832 (h : Int) (it : Bool) (h0 : 16832 ≤ h) (h1 : h < 16896) : OneIs h it := by
  have h0' : 16384 ≤ h := by omega
  have h1' : h < 17408 := by omega
  exact ⟨⟨19, 0, h % 8, h % 8, h / 8 % 8, 0, 2, 0, !it⟩, .inl (is_16832 h it h0 h1).symm, wide_s ⟨by dsimp only; omega, by dsimp only; omega⟩, fun w => one_two h it h0' h1' _ _ _ _ _ _ _ _ _ (fun W => two_16832 h (!it) it h0 h1 W) w⟩
theorem reg_16896 (h : Int) (it : Bool) (h0 : 16896 ≤ h) (h1 : h < 16960) : OneIs h it := by
  have h0' : 16384 ≤ h := by omega
  have h1' : h < 17408 := by omega
  exact ⟨⟨14, 0, 0, h % 8, h / 8 % 8, 0, 2, 0, false⟩, .inl (is_16896 h it h0 h1).symm, wide_s ⟨by dsimp only; omega, by dsimp only; omega⟩, fun w => one_two h it h0' h1' _ _ _ _ _ _ _ _ _ (fun W => two_16896 h (!it) it h0 h1 W) w⟩
theorem reg_16960 (h : Int) (it : Bool) (h0 : 16960 ≤ h) (h1 : h < 17024) : OneIs h it := by
  have h0' : 16384 ≤ h := by omega
  have h1' : h < 17408 := by omega
  exact ⟨⟨9, 0, h % 8, h / 8 % 8, 0, 0, 1, 0, !it⟩, .inl (is_16960 h it h0 h1).symm, wide_s ⟨by dsimp only; omega, by dsimp only; omega⟩, fun w => one_two h it h0' h1' _ _ _ _ _ _ _ _ _ (fun W => two_16960 h (!it) it h0 h1 W) w⟩
theorem reg_17024 (h : Int) (it : Bool) (h0 : 17024 ≤ h) (h1 : h < 17088) : OneIs h it := by
  have h0' : 16384 ≤ h := by omega
  have h1' : h < 17408 := by omega
  exact ⟨⟨12, 0, 0, h % 8, h / 8 % 8, 0, 2, 0, false⟩, .inl (is_17024 h it h0 h1).symm, wide_s ⟨by dsimp only; omega, by dsimp only; omega⟩, fun w => one_two h it h0' h1' _ _ _ _ _ _ _ _ _ (fun W => two_17024 h (!it) it h0 h1 W) w⟩
theorem reg_17088 (h : Int) (it : Bool) (h0 : 17088 ≤ h) (h1 : h < 17152) : OneIs h it := by
  have h0' : 16384 ≤ h := by omega
  have h1' : h < 17408 := by omega
  exact ⟨⟨13, 0, 0, h % 8, h / 8 % 8, 0, 2, 0, false⟩, .inl (is_17088 h it h0 h1).symm, wide_s ⟨by dsimp only; omega, by dsimp only; omega⟩, fun w => one_two h it h0' h1' _ _ _ _ _ _ _ _ _ (fun W => two_17088 h (!it) it h0 h1 W) w⟩
theorem reg_17152 (h : Int) (it : Bool) (h0 : 17152 ≤ h) (h1 : h < 17216) : OneIs h it := by
  have h0' : 16384 ≤ h := by omega
  have h1' : h < 17408 := by omega
  exact ⟨⟨3, 0, h % 8, h % 8, h / 8 % 8, 0, 2, 0, !it⟩, .inl (is_17152 h it h0 h1).symm, wide_s ⟨by dsimp only; omega, by dsimp only; omega⟩, fun w => one_two h it h0' h1' _ _ _ _ _ _ _ _ _ (fun W => two_17152 h (!it) it h0 h1 W) w⟩
theorem reg_17216 (h : Int) (it : Bool) (h0 : 17216 ≤ h) (h1 : h < 17280) : OneIs h it := by
  have h0' : 16384 ≤ h := by omega
  have h1' : h < 17408 := by omega
  cases it with
  | true => exact ⟨⟨20, 0, h % 8, h / 8 % 8, h % 8, 0, 2, 0, false⟩, .inl (is_17216 h h0 h1).symm, wide_s ⟨by dsimp only; omega, by dsimp only; omega⟩, fun w => one_two h true h0' h1' _ _ _ _ _ _ _ _ _ (fun W => two_17216_t h (!true) h0 h1 W) w⟩
  | false => exact ⟨⟨0, 0, 0, 0, 0, 0, 0, 0, false⟩, .inl (isbad_17216 h h0 h1).symm, wide_s ⟨by dsimp only; omega, by dsimp only; omega⟩, fun w => one_two h false h0' h1' _ _ _ _ _ _ _ _ _ (fun W => two_17216_f h (!false) h0 h1 W) w⟩
theorem reg_17280 (h : Int) (it : Bool) (h0 : 17280 ≤ h) (h1 : h < 17344) : OneIs h it := by
  have h0' : 16384 ≤ h := by omega
  have h1' : h < 17408 := by omega
  exact ⟨⟨4, 0, h % 8, h % 8, h / 8 % 8, 0, 2, 0, !it⟩, .inl (is_17280 h it h0 h1).symm, wide_s ⟨by dsimp only; omega, by dsimp only; omega⟩, fun w => one_two h it h0' h1' _ _ _ _ _ _ _ _ _ (fun W => two_17280 h (!it) it h0 h1 W) w⟩
theorem reg_17344 (h : Int) (it : Bool) (h0 : 17344 ≤ h) (h1 : h < 17408) : OneIs h it := by
  have h0' : 16384 ≤ h := by omega
  have h1' : h < 17408 := by omega
  exact ⟨⟨11, 0, h % 8, 0, h / 8 % 8, 0, 2, 0, !it⟩, .inl (is_17344 h it h0 h1).symm, wide_s ⟨by dsimp only; omega, by dsimp only; omega⟩, fun w => one_two h it h0' h1' _ _ _ _ _ _ _ _ _ (fun W => two_17344 h (!it) it h0 h1 W) w⟩
theorem reg_17408 (h : Int) (it : Bool) (h0 : 17408 ≤ h) (h1 : h < 17664) : OneIs h it := by
  have h0' : 17408 ≤ h := by omega
  have h1' : h < 18432 := by omega
  exact ⟨⟨5, 0, (h / 128 % 2 * 8 + h % 8), (h / 128 % 2 * 8 + h % 8), h / 8 % 16, 0, 2, 0, false⟩, .inl (is_17408 h it h0 h1).symm, wide_s ⟨by dsimp only; omega, by dsimp only; omega⟩, fun w => one_high h it h0' h1' _ _ _ _ _ _ _ _ _ (fun W => high_17408 h h0 h1 W) w⟩
theorem reg_17664 (h : Int) (it : Bool) (h0 : 17664 ≤ h) (h1 : h < 17920) : OneIs h it := by
  have h0' : 17408 ≤ h := by omega
  have h1' : h < 18432 := by omega
  by_cases hd : h / 128 % 2 * 8 + h % 8 ≤ 7
  · by_cases hm : h / 8 % 16 ≤ 7
    · exact ⟨⟨0, 0, 0, 0, 0, 0, 0, 0, false⟩, .inl (isbad_17664 h it h0 h1 ⟨hd, hm⟩).symm, wide_s ⟨by dsimp only; omega, by dsimp only; omega⟩, fun w => one_high h it h0' h1' _ _ _ _ _ _ _ _ _ (fun W => high_17664_ll h h0 h1 hd hm W) w⟩
    · exact ⟨⟨12, 0, 0, (h / 128 % 2 * 8 + h % 8), h / 8 % 16, 0, 2, 0, false⟩, .inl (is_17664 h it h0 h1 (fun q => hm q.2)).symm, wide_s ⟨by dsimp only; omega, by dsimp only; omega⟩, fun w => one_high h it h0' h1' _ _ _ _ _ _ _ _ _ (fun W => high_17664_lh h h0 h1 hd (Int.not_le.1 hm) W) w⟩
  · exact ⟨⟨12, 0, 0, (h / 128 % 2 * 8 + h % 8), h / 8 % 16, 0, 2, 0, false⟩, .inl (is_17664 h it h0 h1 (fun q => hd q.1)).symm, wide_s ⟨by dsimp only; omega, by dsimp only; omega⟩, fun w => one_high h it h0' h1' _ _ _ _ _ _ _ _ _ (fun W => high_17664_h h h0 h1 (Int.not_le.1 hd) W) w⟩
theorem reg_17920 (h : Int) (it : Bool) (h0 : 17920 ≤ h) (h1 : h < 18176) : OneIs h it := by
  have h0' : 17408 ≤ h := by omega
  have h1' : h < 18432 := by omega
  exact ⟨⟨10, 0, (h / 128 % 2 * 8 + h % 8), 0, h / 8 % 16, 0, 2, 0, false⟩, .inl (is_17920 h it h0 h1).symm, wide_s ⟨by dsimp only; omega, by dsimp only; omega⟩, fun w => one_high h it h0' h1' _ _ _ _ _ _ _ _ _ (fun W => high_17920 h h0 h1 W) w⟩
theorem reg_18176 (h : Int) (it : Bool) (h0 : 18176 ≤ h) (h1 : h < 18432) : OneIs h it := by
  have h0' : 17408 ≤ h := by omega
  have h1' : h < 18432 := by omega
  by_cases hb : h / 128 % 2 = 0 ∧ h % 8 = 0
  · exact ⟨⟨39, 0, 0, 0, h / 8 % 16, 0, 2, 0, false⟩, .inl (is_18176 h it h0 h1 hb).symm, wide_s ⟨by dsimp only; omega, by dsimp only; omega⟩, fun w => one_high h it h0' h1' _ _ _ _ _ _ _ _ _ (fun W => high_18176_y h h0 h1 hb W) w⟩
  · exact ⟨⟨0, 0, 0, 0, 0, 0, 0, 0, false⟩, .inl (isbad_18176 h it h0 h1 hb).symm, wide_s ⟨by dsimp only; omega, by dsimp only; omega⟩, fun w => one_high h it h0' h1' _ _ _ _ _ _ _ _ _ (fun W => high_18176_n h h0 h1 hb W) w⟩
theorem reg_18432 (h : Int) (it : Bool) (h0 : 18432 ≤ h) (h1 : h < 20480) : OneIs h it := by
  exact ⟨⟨40, 0, h / 256 % 8, 0, 0, h % 256 * 4, 1, 0, false⟩, .inl (is_18432 h it h0 h1).symm, wide_s ⟨by dsimp only; omega, by dsimp only; omega⟩, fun w => one_18432 h it h0 h1 w⟩
theorem reg_20480 (h : Int) (it : Bool) (h0 : 20480 ≤ h) (h1 : h < 20992) : OneIs h it := by
  have h0' : 20480 ≤ h := by omega
  have h1' : h < 40960 := by omega
  exact ⟨⟨28, 0, h % 8, h / 8 % 8, h / 64 % 8, 0, 2, 0, false⟩, .inl (is_20480 h it h0 h1).symm, wide_s ⟨by dsimp only; omega, by dsimp only; omega⟩, fun w => one_load h it h0' h1' _ _ _ _ _ _ _ _ _ (fun W => load_20480 h h0 h1 W) w⟩
theorem reg_20992 (h : Int) (it : Bool) (h0 : 20992 ≤ h) (h1 : h < 21504) : OneIs h it := by
  have h0' : 20480 ≤ h := by omega
  have h1' : h < 40960 := by omega
  exact ⟨⟨30, 0, h % 8, h / 8 % 8, h / 64 % 8, 0, 2, 0, false⟩, .inl (is_20992 h it h0 h1).symm, wide_s ⟨by dsimp only; omega, by dsimp only; omega⟩, fun w => one_load h it h0' h1' _ _ _ _ _ _ _ _ _ (fun W => load_20992 h h0 h1 W) w⟩
theorem reg_21504 (h : Int) (it : Bool) (h0 : 21504 ≤ h) (h1 : h < 22016) : OneIs h it := by
  have h0' : 20480 ≤ h := by omega
  have h1' : h < 40960 := by omega
  exact ⟨⟨29, 0, h % 8, h / 8 % 8, h / 64 % 8, 0, 2, 0, false⟩, .inl (is_21504 h it h0 h1).symm, wide_s ⟨by dsimp only; omega, by dsimp only; omega⟩, fun w => one_load h it h0' h1' _ _ _ _ _ _ _ _ _ (fun W => load_21504 h h0 h1 W) w⟩
theorem reg_22016 (h : Int) (it : Bool) (h0 : 22016 ≤ h) (h1 : h < 22528) : OneIs h it := by
  have h0' : 20480 ≤ h := by omega
  have h1' : h < 40960 := by omega
  exact ⟨⟨0, 0, h % 8, h / 8 % 8, h / 64 % 8, 0, 2, 0, false⟩, .inr ⟨op0_refused _ _ _, by rw [isbad_22016 h it h0 h1]; exact none_refused⟩, wide_s ⟨by dsimp only; omega, by dsimp only; omega⟩, fun w => one_load h it h0' h1' _ _ _ _ _ _ _ _ _ (fun W => load_22016 h h0 h1 W) w⟩
theorem reg_22528 (h : Int) (it : Bool) (h0 : 22528 ≤ h) (h1 : h < 23040) : OneIs h it := by
  have h0' : 20480 ≤ h := by omega
  have h1' : h < 40960 := by omega
  exact ⟨⟨25, 0, h % 8, h / 8 % 8, h / 64 % 8, 0, 2, 0, false⟩, .inl (is_22528 h it h0 h1).symm, wide_s ⟨by dsimp only; omega, by dsimp only; omega⟩, fun w => one_load h it h0' h1' _ _ _ _ _ _ _ _ _ (fun W => load_22528 h h0 h1 W) w⟩
theorem reg_23040 (h : Int) (it : Bool) (h0 : 23040 ≤ h) (h1 : h < 23552) : OneIs h it := by
  have h0' : 20480 ≤ h := by omega
  have h1' : h < 40960 := by omega
  exact ⟨⟨27, 0, h % 8, h / 8 % 8, h / 64 % 8, 0, 2, 0, false⟩, .inl (is_23040 h it h0 h1).symm, wide_s ⟨by dsimp only; omega, by dsimp only; omega⟩, fun w => one_load h it h0' h1' _ _ _ _ _ _ _ _ _ (fun W => load_23040 h h0 h1 W) w⟩
theorem reg_23552 (h : Int) (it : Bool) (h0 : 23552 ≤ h) (h1 : h < 24064) : OneIs h it := by
  have h0' : 20480 ≤ h := by omega
  have h1' : h < 40960 := by omega
  exact ⟨⟨26, 0, h % 8, h / 8 % 8, h / 64 % 8, 0, 2, 0, false⟩, .inl (is_23552 h it h0 h1).symm, wide_s ⟨by dsimp only; omega, by dsimp only; omega⟩, fun w => one_load h it h0' h1' _ _ _ _ _ _ _ _ _ (fun W => load_23552 h h0 h1 W) w⟩
theorem reg_24064 (h : Int) (it : Bool) (h0 : 24064 ≤ h) (h1 : h < 24576) : OneIs h it := by
  have h0' : 20480 ≤ h := by omega
  have h1' : h < 40960 := by omega
  exact ⟨⟨0, 0, h % 8, h / 8 % 8, h / 64 % 8, 0, 2, 0, false⟩, .inr ⟨op0_refused _ _ _, by rw [isbad_24064 h it h0 h1]; exact none_refused⟩, wide_s ⟨by dsimp only; omega, by dsimp only; omega⟩, fun w => one_load h it h0' h1' _ _ _ _ _ _ _ _ _ (fun W => load_24064 h h0 h1 W) w⟩
theorem reg_24576 (h : Int) (it : Bool) (h0 : 24576 ≤ h) (h1 : h < 26624) : OneIs h it := by
  have h0' : 20480 ≤ h := by omega
  have h1' : h < 40960 := by omega
  exact ⟨⟨28, 0, h % 8, h / 8 % 8, 0, h / 64 % 32 * 4, 1, 0, false⟩, .inl (is_24576 h it h0 h1).symm, wide_s ⟨by dsimp only; omega, by dsimp only; omega⟩, fun w => one_load h it h0' h1' _ _ _ _ _ _ _ _ _ (fun W => load_24576 h h0 h1 W) w⟩
theorem reg_26624 (h : Int) (it : Bool) (h0 : 26624 ≤ h) (h1 : h < 28672) : OneIs h it := by
  have h0' : 20480 ≤ h := by omega
  have h1' : h < 40960 := by omega
  exact ⟨⟨25, 0, h % 8, h / 8 % 8, 0, h / 64 % 32 * 4, 1, 0, false⟩, .inl (is_26624 h it h0 h1).symm, wide_s ⟨by dsimp only; omega, by dsimp only; omega⟩, fun w => one_load h it h0' h1' _ _ _ _ _ _ _ _ _ (fun W => load_26624 h h0 h1 W) w⟩
theorem reg_28672 (h : Int) (it : Bool) (h0 : 28672 ≤ h) (h1 : h < 30720) : OneIs h it := by
  have h0' : 20480 ≤ h := by omega
  have h1' : h < 40960 := by omega
  exact ⟨⟨29, 0, h % 8, h / 8 % 8, 0, h / 64 % 32, 1, 0, false⟩, .inl (is_28672 h it h0 h1).symm, wide_s ⟨by dsimp only; omega, by dsimp only; omega⟩, fun w => one_load h it h0' h1' _ _ _ _ _ _ _ _ _ (fun W => load_28672 h h0 h1 W) w⟩
theorem reg_30720 (h : Int) (it : Bool) (h0 : 30720 ≤ h) (h1 : h < 32768) : OneIs h it := by
  have h0' : 20480 ≤ h := by omega
  have h1' : h < 40960 := by omega
  exact ⟨⟨26, 0, h % 8, h / 8 % 8, 0, h / 64 % 32, 1, 0, false⟩, .inl (is_30720 h it h0 h1).symm, wide_s ⟨by dsimp only; omega, by dsimp only; omega⟩, fun w => one_load h it h0' h1' _ _ _ _ _ _ _ _ _ (fun W => load_30720 h h0 h1 W) w⟩
theorem reg_32768 (h : Int) (it : Bool) (h0 : 32768 ≤ h) (h1 : h < 34816) : OneIs h it := by
  have h0' : 20480 ≤ h := by omega
  have h1' : h < 40960 := by omega
  exact ⟨⟨30, 0, h % 8, h / 8 % 8, 0, h / 64 % 32 * 2, 1, 0, false⟩, .inl (is_32768 h it h0 h1).symm, wide_s ⟨by dsimp only; omega, by dsimp only; omega⟩, fun w => one_load h it h0' h1' _ _ _ _ _ _ _ _ _ (fun W => load_32768 h h0 h1 W) w⟩
theorem reg_34816 (h : Int) (it : Bool) (h0 : 34816 ≤ h) (h1 : h < 36864) : OneIs h it := by
  have h0' : 20480 ≤ h := by omega
  have h1' : h < 40960 := by omega
  exact ⟨⟨27, 0, h % 8, h / 8 % 8, 0, h / 64 % 32 * 2, 1, 0, false⟩, .inl (is_34816 h it h0 h1).symm, wide_s ⟨by dsimp only; omega, by dsimp only; omega⟩, fun w => one_load h it h0' h1' _ _ _ _ _ _ _ _ _ (fun W => load_34816 h h0 h1 W) w⟩
theorem reg_36864 (h : Int) (it : Bool) (h0 : 36864 ≤ h) (h1 : h < 38912) : OneIs h it := by
  have h0' : 20480 ≤ h := by omega
  have h1' : h < 40960 := by omega
  exact ⟨⟨28, 0, h / 256 % 8, 13, 0, h % 256 * 4, 1, 0, false⟩, .inl (is_36864 h it h0 h1).symm, wide_s ⟨by dsimp only; omega, by dsimp only; omega⟩, fun w => one_load h it h0' h1' _ _ _ _ _ _ _ _ _ (fun W => load_36864 h h0 h1 W) w⟩
theorem reg_38912 (h : Int) (it : Bool) (h0 : 38912 ≤ h) (h1 : h < 40960) : OneIs h it := by
  have h0' : 20480 ≤ h := by omega
  have h1' : h < 40960 := by omega
  exact ⟨⟨25, 0, h / 256 % 8, 13, 0, h % 256 * 4, 1, 0, false⟩, .inl (is_38912 h it h0 h1).symm, wide_s ⟨by dsimp only; omega, by dsimp only; omega⟩, fun w => one_load h it h0' h1' _ _ _ _ _ _ _ _ _ (fun W => load_38912 h h0 h1 W) w⟩
theorem reg_40960 (h : Int) (it : Bool) (h0 : 40960 ≤ h) (h1 : h < 43008) : OneIs h it := by
  exact ⟨⟨41, 0, h / 256 % 8, 0, 0, h % 256 * 4, 1, 0, false⟩, .inl (is_40960 h it h0 h1).symm, wide_s ⟨by dsimp only; omega, by dsimp only; omega⟩, fun w => one_40960 h it h0 h1 w⟩
theorem reg_43008 (h : Int) (it : Bool) (h0 : 43008 ≤ h) (h1 : h < 45056) : OneIs h it := by
  exact ⟨⟨0, 0, 0, 0, 0, 0, 0, 0, false⟩, .inl (isbad_43008 h it h0 h1).symm, wide_s ⟨by dsimp only; omega, by dsimp only; omega⟩, fun w => one_43008 h it h0 h1 w⟩
theorem reg_45056 (h : Int) (it : Bool) (h0 : 45056 ≤ h) (h1 : h < 45312) : OneIs h it := by
  have h0' : 45056 ≤ h := by omega
  have h1' : h < 49152 := by omega
  exact ⟨⟨0, 0, 0, 0, 0, 0, 0, 0, false⟩, .inl (isbad_45056 h it h0 h1).symm, wide_s ⟨by dsimp only; omega, by dsimp only; omega⟩, fun w => one_misc h it h0' h1' _ _ _ _ _ _ _ _ _ (fun W => misc_45056 h it h0 h1 W) w⟩
theorem reg_45312 (h : Int) (it : Bool) (h0 : 45312 ≤ h) (h1 : h < 45568) (hG5 : ∀ W, Calls Tryd.prog 49 #[.int .i64 5, .int .i64 h, .int .i64 0] W fun e w' => e = .returned (.int .i64 (h / 512 % 2 * 64 + h / 8 % 32 * 2)) ∧ ∃ n, w' = W.drewN n) : OneIs h it := by
  have h0' : 45056 ≤ h := by omega
  have h1' : h < 49152 := by omega
  cases it with
  | true => exact ⟨⟨0, 0, 0, 0, 0, 0, 0, 0, false⟩, .inl (isbad_45312 h h0 h1).symm, wide_s ⟨by dsimp only; omega, by dsimp only; omega⟩, fun w => one_misc h true h0' h1' _ _ _ _ _ _ _ _ _ (fun W => misc_45312_t h h0 h1 W) w⟩
  | false => exact ⟨⟨37, 0, 0, h % 8, 0, h / 512 % 2 * 64 + h / 8 % 32 * 2, 1, 0, false⟩, .inl (is_45312 h h0 h1).symm, wide_s ⟨by dsimp only; omega, by dsimp only; omega⟩, fun w => one_misc h false h0' h1' _ _ _ _ _ _ _ _ _ (fun W => misc_45312_f h h0 h1 hG5 W) w⟩
theorem reg_45568 (h : Int) (it : Bool) (h0 : 45568 ≤ h) (h1 : h < 45824) : OneIs h it := by
  have h0' : 45056 ≤ h := by omega
  have h1' : h < 49152 := by omega
  exact ⟨⟨0, 0, 0, 0, 0, 0, 0, 0, false⟩, .inl (isbad_45568 h it h0 h1).symm, wide_s ⟨by dsimp only; omega, by dsimp only; omega⟩, fun w => one_misc h it h0' h1' _ _ _ _ _ _ _ _ _ (fun W => misc_45568 h it h0 h1 W) w⟩
theorem reg_45824 (h : Int) (it : Bool) (h0 : 45824 ≤ h) (h1 : h < 46080) (hG5 : ∀ W, Calls Tryd.prog 49 #[.int .i64 5, .int .i64 h, .int .i64 0] W fun e w' => e = .returned (.int .i64 (h / 512 % 2 * 64 + h / 8 % 32 * 2)) ∧ ∃ n, w' = W.drewN n) : OneIs h it := by
  have h0' : 45056 ≤ h := by omega
  have h1' : h < 49152 := by omega
  cases it with
  | true => exact ⟨⟨0, 0, 0, 0, 0, 0, 0, 0, false⟩, .inl (isbad_45824 h h0 h1).symm, wide_s ⟨by dsimp only; omega, by dsimp only; omega⟩, fun w => one_misc h true h0' h1' _ _ _ _ _ _ _ _ _ (fun W => misc_45824_t h h0 h1 W) w⟩
  | false => exact ⟨⟨37, 0, 0, h % 8, 0, h / 512 % 2 * 64 + h / 8 % 32 * 2, 1, 0, false⟩, .inl (is_45824 h h0 h1).symm, wide_s ⟨by dsimp only; omega, by dsimp only; omega⟩, fun w => one_misc h false h0' h1' _ _ _ _ _ _ _ _ _ (fun W => misc_45824_f h h0 h1 hG5 W) w⟩
theorem reg_46080 (h : Int) (it : Bool) (h0 : 46080 ≤ h) (h1 : h < 46592) : OneIs h it := by
  have h0' : 45056 ≤ h := by omega
  have h1' : h < 49152 := by omega
  exact ⟨⟨33, 0, 0, 0, 0, 0, 0, h % 256 + h / 256 % 2 * 16384, false⟩, .inl (is_46080 h it h0 h1).symm, wide_s ⟨by dsimp only; omega, by dsimp only; omega⟩, fun w => one_misc h it h0' h1' _ _ _ _ _ _ _ _ _ (fun W => misc_46080 h it h0 h1 W) w⟩
theorem reg_46592 (h : Int) (it : Bool) (h0 : 46592 ≤ h) (h1 : h < 47360) : OneIs h it := by
  have h0' : 45056 ≤ h := by omega
  have h1' : h < 49152 := by omega
  exact ⟨⟨0, 0, 0, 0, 0, 0, 0, 0, false⟩, .inl (isbad_46592 h it h0 h1).symm, wide_s ⟨by dsimp only; omega, by dsimp only; omega⟩, fun w => one_misc h it h0' h1' _ _ _ _ _ _ _ _ _ (fun W => misc_46592 h it h0 h1 W) w⟩
theorem reg_47360 (h : Int) (it : Bool) (h0 : 47360 ≤ h) (h1 : h < 47616) (hG5 : ∀ W, Calls Tryd.prog 49 #[.int .i64 5, .int .i64 h, .int .i64 0] W fun e w' => e = .returned (.int .i64 (h / 512 % 2 * 64 + h / 8 % 32 * 2)) ∧ ∃ n, w' = W.drewN n) : OneIs h it := by
  have h0' : 45056 ≤ h := by omega
  have h1' : h < 49152 := by omega
  cases it with
  | true => exact ⟨⟨0, 0, 0, 0, 0, 0, 0, 0, false⟩, .inl (isbad_47360 h h0 h1).symm, wide_s ⟨by dsimp only; omega, by dsimp only; omega⟩, fun w => one_misc h true h0' h1' _ _ _ _ _ _ _ _ _ (fun W => misc_47360_t h h0 h1 W) w⟩
  | false => exact ⟨⟨38, 0, 0, h % 8, 0, h / 512 % 2 * 64 + h / 8 % 32 * 2, 1, 0, false⟩, .inl (is_47360 h h0 h1).symm, wide_s ⟨by dsimp only; omega, by dsimp only; omega⟩, fun w => one_misc h false h0' h1' _ _ _ _ _ _ _ _ _ (fun W => misc_47360_f h h0 h1 hG5 W) w⟩
theorem reg_47616 (h : Int) (it : Bool) (h0 : 47616 ≤ h) (h1 : h < 47872) : OneIs h it := by
  have h0' : 45056 ≤ h := by omega
  have h1' : h < 49152 := by omega
  exact ⟨⟨0, 0, 0, 0, 0, 0, 0, 0, false⟩, .inl (isbad_47616 h it h0 h1).symm, wide_s ⟨by dsimp only; omega, by dsimp only; omega⟩, fun w => one_misc h it h0' h1' _ _ _ _ _ _ _ _ _ (fun W => misc_47616 h it h0 h1 W) w⟩
theorem reg_47872 (h : Int) (it : Bool) (h0 : 47872 ≤ h) (h1 : h < 48128) (hG5 : ∀ W, Calls Tryd.prog 49 #[.int .i64 5, .int .i64 h, .int .i64 0] W fun e w' => e = .returned (.int .i64 (h / 512 % 2 * 64 + h / 8 % 32 * 2)) ∧ ∃ n, w' = W.drewN n) : OneIs h it := by
  have h0' : 45056 ≤ h := by omega
  have h1' : h < 49152 := by omega
  cases it with
  | true => exact ⟨⟨0, 0, 0, 0, 0, 0, 0, 0, false⟩, .inl (isbad_47872 h h0 h1).symm, wide_s ⟨by dsimp only; omega, by dsimp only; omega⟩, fun w => one_misc h true h0' h1' _ _ _ _ _ _ _ _ _ (fun W => misc_47872_t h h0 h1 W) w⟩
  | false => exact ⟨⟨38, 0, 0, h % 8, 0, h / 512 % 2 * 64 + h / 8 % 32 * 2, 1, 0, false⟩, .inl (is_47872 h h0 h1).symm, wide_s ⟨by dsimp only; omega, by dsimp only; omega⟩, fun w => one_misc h false h0' h1' _ _ _ _ _ _ _ _ _ (fun W => misc_47872_f h h0 h1 hG5 W) w⟩
theorem reg_48128 (h : Int) (it : Bool) (h0 : 48128 ≤ h) (h1 : h < 48640) : OneIs h it := by
  have h0' : 45056 ≤ h := by omega
  have h1' : h < 49152 := by omega
  exact ⟨⟨34, 0, 0, 0, 0, 0, 0, h % 256 + h / 256 % 2 * 32768, false⟩, .inl (is_48128 h it h0 h1).symm, wide_s ⟨by dsimp only; omega, by dsimp only; omega⟩, fun w => one_misc h it h0' h1' _ _ _ _ _ _ _ _ _ (fun W => misc_48128 h it h0 h1 W) w⟩
theorem reg_48640 (h : Int) (it : Bool) (h0 : 48640 ≤ h) (h1 : h < 48896) : OneIs h it := by
  have h0' : 45056 ≤ h := by omega
  have h1' : h < 49152 := by omega
  exact ⟨⟨44, 0, 0, 0, 0, h % 256, 1, 0, false⟩, .inl (is_48640 h it h0 h1).symm, wide_s ⟨by dsimp only; omega, by dsimp only; omega⟩, fun w => one_misc h it h0' h1' _ _ _ _ _ _ _ _ _ (fun W => misc_48640 h it h0 h1 W) w⟩
theorem reg_48896 (h : Int) (it : Bool) (h0 : 48896 ≤ h) (h1 : h < 48897) : OneIs h it := by
  have h0' : 45056 ≤ h := by omega
  have h1' : h < 49152 := by omega
  exact ⟨⟨43, 0, 0, 0, 0, 0, 0, 0, false⟩, .inl (is_48896 h it h0 h1).symm, wide_s ⟨by dsimp only; omega, by dsimp only; omega⟩, fun w => one_misc h it h0' h1' _ _ _ _ _ _ _ _ _ (fun W => misc_48896 h it h0 h1 W) w⟩
theorem reg_48897 (h : Int) (it : Bool) (h0 : 48897 ≤ h) (h1 : h < 49152) : OneIs h it := by
  have h0' : 45056 ≤ h := by omega
  have h1' : h < 49152 := by omega
  cases it with
  | true => exact ⟨⟨0, 0, 0, 0, 0, 0, 0, 0, false⟩, .inl (isbad_48897_t h h0 h1).symm, wide_s ⟨by dsimp only; omega, by dsimp only; omega⟩, fun w => one_misc h true h0' h1' _ _ _ _ _ _ _ _ _ (fun W => misc_48897_t h h0 h1 W) w⟩
  | false =>
    by_cases hz : h % 16 = 0
    · exact ⟨⟨0, 0, 0, 0, 0, 0, 0, 0, false⟩, .inl (isbad_48897_z h false h0 h1 hz).symm, wide_s ⟨by dsimp only; omega, by dsimp only; omega⟩, fun w => one_misc h false h0' h1' _ _ _ _ _ _ _ _ _ (fun W => misc_48897_z h false h0 h1 (by simp [hz]) W) w⟩
    · exact ⟨⟨42, h / 16 % 16, 0, 0, 0, h % 16, 1, 0, false⟩, .inl (is_48897 h h0 h1 hz).symm, wide_s ⟨by dsimp only; omega, by dsimp only; omega⟩, fun w => one_misc h false h0' h1' _ _ _ _ _ _ _ _ _ (fun W => misc_48897_f h h0 h1 (by simp [hz]) W) w⟩
theorem reg_49152 (h : Int) (it : Bool) (h0 : 49152 ≤ h) (h1 : h < 51200) : OneIs h it := by
  exact ⟨⟨32, 0, 0, h / 256 % 8, 0, 0, 0, h % 256, false⟩, .inl (is_49152 h it h0 h1).symm, wide_s ⟨by dsimp only; omega, by dsimp only; omega⟩, fun w => one_49152 h it h0 h1 w⟩
theorem reg_51200 (h : Int) (it : Bool) (h0 : 51200 ≤ h) (h1 : h < 53248) : OneIs h it := by
  exact ⟨⟨31, 0, 0, h / 256 % 8, 0, 0, 0, h % 256, false⟩, .inl (is_51200 h it h0 h1).symm, wide_s ⟨by dsimp only; omega, by dsimp only; omega⟩, fun w => one_51200 h it h0 h1 w⟩
theorem reg_53248 (h : Int) (it : Bool) (h0 : 53248 ≤ h) (h1 : h < 57344) (hG1 : ∀ W, Calls Tryd.prog 49 #[.int .i64 1, .int .i64 h, .int .i64 0] W fun e w' => e = .returned (.int .i64 (if h % 256 < 128 then h % 256 * 2 else h % 256 * 2 - 512)) ∧ ∃ n, w' = W.drewN n) : OneIs h it := by
  cases it with
  | true => exact ⟨⟨0, 0, 0, 0, 0, 0, 0, 0, false⟩, .inl (isbad_53248_t h h0 h1).symm, wide_s ⟨by dsimp only; omega, by dsimp only; omega⟩, fun w => one_53248_t h h0 h1 w⟩
  | false =>
    by_cases hz : 14 ≤ h / 256 % 16
    · exact ⟨⟨0, 0, 0, 0, 0, 0, 0, 0, false⟩, .inl (isbad_53248_z h false h0 h1 hz).symm, wide_s ⟨by dsimp only; omega, by dsimp only; omega⟩, fun w => one_53248_z h h0 h1 hz w⟩
    · exact ⟨⟨35, h / 256 % 16, 0, 0, 0, if h % 256 < 128 then h % 256 * 2 else h % 256 * 2 - 512, 1, 0, false⟩, .inl (is_53248 h h0 h1 (Int.not_le.1 hz)).symm, wide_s ⟨by dsimp only; omega, by dsimp only; omega⟩, fun w => one_53248_f h h0 h1 _ hG1 (Int.not_le.1 hz) w⟩
theorem reg_57344 (h : Int) (it : Bool) (h0 : 57344 ≤ h) (h1 : h < 59392) (hG2 : ∀ W, Calls Tryd.prog 49 #[.int .i64 2, .int .i64 h, .int .i64 0] W fun e w' => e = .returned (.int .i64 (if h % 2048 < 1024 then h % 2048 * 2 else h % 2048 * 2 - 4096)) ∧ ∃ n, w' = W.drewN n) : OneIs h it := by
  exact ⟨⟨35, 14, 0, 0, 0, if h % 2048 < 1024 then h % 2048 * 2 else h % 2048 * 2 - 4096, 1, 0, false⟩, .inl (is_57344 h it h0 h1).symm, wide_s ⟨by dsimp only; omega, by dsimp only; omega⟩, fun w => one_57344 h it h0 h1 _ hG2 w⟩
theorem one_c (h : Int) (it : Bool) (h0 : 0 ≤ h) (h1 : h < 59392) (hG1 : ∀ W, Calls Tryd.prog 49 #[.int .i64 1, .int .i64 h, .int .i64 0] W fun e w' => e = .returned (.int .i64 (if h % 256 < 128 then h % 256 * 2 else h % 256 * 2 - 512)) ∧ ∃ n, w' = W.drewN n) (hG2 : ∀ W, Calls Tryd.prog 49 #[.int .i64 2, .int .i64 h, .int .i64 0] W fun e w' => e = .returned (.int .i64 (if h % 2048 < 1024 then h % 2048 * 2 else h % 2048 * 2 - 4096)) ∧ ∃ n, w' = W.drewN n) (hG5 : ∀ W, Calls Tryd.prog 49 #[.int .i64 5, .int .i64 h, .int .i64 0] W fun e w' => e = .returned (.int .i64 (h / 512 % 2 * 64 + h / 8 % 32 * 2)) ∧ ∃ n, w' = W.drewN n) : OneIs h it := by
  rcases Int.lt_or_le h 64 with c0 | d0
  · exact reg_0 h it h0 c0
  rcases Int.lt_or_le h 2048 with c1 | d1
  · exact reg_64 h it d0 c1
  rcases Int.lt_or_le h 4096 with c2 | d2
  · exact reg_2048 h it d1 c2
  rcases Int.lt_or_le h 6144 with c3 | d3
  · exact reg_4096 h it d2 c3
  rcases Int.lt_or_le h 6656 with c4 | d4
  · exact reg_6144 h it d3 c4
  rcases Int.lt_or_le h 7168 with c5 | d5
  · exact reg_6656 h it d4 c5
  rcases Int.lt_or_le h 7680 with c6 | d6
  · exact reg_7168 h it d5 c6
  rcases Int.lt_or_le h 8192 with c7 | d7
  · exact reg_7680 h it d6 c7
  rcases Int.lt_or_le h 10240 with c8 | d8
  · exact reg_8192 h it d7 c8
  rcases Int.lt_or_le h 12288 with c9 | d9
  · exact reg_10240 h it d8 c9
  rcases Int.lt_or_le h 14336 with c10 | d10
  · exact reg_12288 h it d9 c10
  rcases Int.lt_or_le h 16384 with c11 | d11
  · exact reg_14336 h it d10 c11
  rcases Int.lt_or_le h 16448 with c12 | d12
  · exact reg_16384 h it d11 c12
  rcases Int.lt_or_le h 16512 with c13 | d13
  · exact reg_16448 h it d12 c13
  rcases Int.lt_or_le h 16576 with c14 | d14
  · exact reg_16512 h it d13 c14
  rcases Int.lt_or_le h 16640 with c15 | d15
  · exact reg_16576 h it d14 c15
  rcases Int.lt_or_le h 16704 with c16 | d16
  · exact reg_16640 h it d15 c16
  rcases Int.lt_or_le h 16768 with c17 | d17
  · exact reg_16704 h it d16 c17
  rcases Int.lt_or_le h 16832 with c18 | d18
  · exact reg_16768 h it d17 c18
  rcases Int.lt_or_le h 16896 with c19 | d19
  · exact reg_16832 h it d18 c19
  rcases Int.lt_or_le h 16960 with c20 | d20
  · exact reg_16896 h it d19 c20
  rcases Int.lt_or_le h 17024 with c21 | d21
  · exact reg_16960 h it d20 c21
  rcases Int.lt_or_le h 17088 with c22 | d22
  · exact reg_17024 h it d21 c22
  rcases Int.lt_or_le h 17152 with c23 | d23
  · exact reg_17088 h it d22 c23
  rcases Int.lt_or_le h 17216 with c24 | d24
  · exact reg_17152 h it d23 c24
  rcases Int.lt_or_le h 17280 with c25 | d25
  · exact reg_17216 h it d24 c25
  rcases Int.lt_or_le h 17344 with c26 | d26
  · exact reg_17280 h it d25 c26
  rcases Int.lt_or_le h 17408 with c27 | d27
  · exact reg_17344 h it d26 c27
  rcases Int.lt_or_le h 17664 with c28 | d28
  · exact reg_17408 h it d27 c28
  rcases Int.lt_or_le h 17920 with c29 | d29
  · exact reg_17664 h it d28 c29
  rcases Int.lt_or_le h 18176 with c30 | d30
  · exact reg_17920 h it d29 c30
  rcases Int.lt_or_le h 18432 with c31 | d31
  · exact reg_18176 h it d30 c31
  rcases Int.lt_or_le h 20480 with c32 | d32
  · exact reg_18432 h it d31 c32
  rcases Int.lt_or_le h 20992 with c33 | d33
  · exact reg_20480 h it d32 c33
  rcases Int.lt_or_le h 21504 with c34 | d34
  · exact reg_20992 h it d33 c34
  rcases Int.lt_or_le h 22016 with c35 | d35
  · exact reg_21504 h it d34 c35
  rcases Int.lt_or_le h 22528 with c36 | d36
  · exact reg_22016 h it d35 c36
  rcases Int.lt_or_le h 23040 with c37 | d37
  · exact reg_22528 h it d36 c37
  rcases Int.lt_or_le h 23552 with c38 | d38
  · exact reg_23040 h it d37 c38
  rcases Int.lt_or_le h 24064 with c39 | d39
  · exact reg_23552 h it d38 c39
  rcases Int.lt_or_le h 24576 with c40 | d40
  · exact reg_24064 h it d39 c40
  rcases Int.lt_or_le h 26624 with c41 | d41
  · exact reg_24576 h it d40 c41
  rcases Int.lt_or_le h 28672 with c42 | d42
  · exact reg_26624 h it d41 c42
  rcases Int.lt_or_le h 30720 with c43 | d43
  · exact reg_28672 h it d42 c43
  rcases Int.lt_or_le h 32768 with c44 | d44
  · exact reg_30720 h it d43 c44
  rcases Int.lt_or_le h 34816 with c45 | d45
  · exact reg_32768 h it d44 c45
  rcases Int.lt_or_le h 36864 with c46 | d46
  · exact reg_34816 h it d45 c46
  rcases Int.lt_or_le h 38912 with c47 | d47
  · exact reg_36864 h it d46 c47
  rcases Int.lt_or_le h 40960 with c48 | d48
  · exact reg_38912 h it d47 c48
  rcases Int.lt_or_le h 43008 with c49 | d49
  · exact reg_40960 h it d48 c49
  rcases Int.lt_or_le h 45056 with c50 | d50
  · exact reg_43008 h it d49 c50
  rcases Int.lt_or_le h 45312 with c51 | d51
  · exact reg_45056 h it d50 c51
  rcases Int.lt_or_le h 45568 with c52 | d52
  · exact reg_45312 h it d51 c52 hG5
  rcases Int.lt_or_le h 45824 with c53 | d53
  · exact reg_45568 h it d52 c53
  rcases Int.lt_or_le h 46080 with c54 | d54
  · exact reg_45824 h it d53 c54 hG5
  rcases Int.lt_or_le h 46592 with c55 | d55
  · exact reg_46080 h it d54 c55
  rcases Int.lt_or_le h 47360 with c56 | d56
  · exact reg_46592 h it d55 c56
  rcases Int.lt_or_le h 47616 with c57 | d57
  · exact reg_47360 h it d56 c57 hG5
  rcases Int.lt_or_le h 47872 with c58 | d58
  · exact reg_47616 h it d57 c58
  rcases Int.lt_or_le h 48128 with c59 | d59
  · exact reg_47872 h it d58 c59 hG5
  rcases Int.lt_or_le h 48640 with c60 | d60
  · exact reg_48128 h it d59 c60
  rcases Int.lt_or_le h 48896 with c61 | d61
  · exact reg_48640 h it d60 c61
  rcases Int.lt_or_le h 48897 with c62 | d62
  · exact reg_48896 h it d61 c62
  rcases Int.lt_or_le h 49152 with c63 | d63
  · exact reg_48897 h it d62 c63
  rcases Int.lt_or_le h 51200 with c64 | d64
  · exact reg_49152 h it d63 c64
  rcases Int.lt_or_le h 53248 with c65 | d65
  · exact reg_51200 h it d64 c65
  rcases Int.lt_or_le h 57344 with c66 | d66
  · exact reg_53248 h it d65 c66 hG1
  exact reg_57344 h it d66 h1 hG2
end Rd
end Go.Proofs.YtcphhojdfpedkaaDoor

namespace Go.Proofs.YtcphhojdfpedkaaDoor
open Go.ChangeShapes Go.WideShapes Go.ChangeAt Go.RowKit
namespace Rd
open Sm (badP decS noneI shortP)
theorem nat65535 (n : Nat) : n &&& 65535 = n % 65536 := Nat.and_two_pow_sub_one_eq_mod n 16
theorem and65535 (x : Int) : bits .and .i64 x 65535 = x % 65536 := by rw [show (65535 : Int) = ((65535 : Nat) : Int) by rfl, Cm.i64_and x 65535 (by decide), nat65535]; omega
theorem long_c (h : Int) (w : World) : Calls Tryd.prog 11 #[.int .i64 h] w fun e w' => e = .returned (.bool (decide (29 ≤ h / 2048 % 32))) ∧ ∃ n, w' = w.drewN n := by
  have A31 : ∀ x : Int, bits .and .i64 x 31 = x % 32 := Cm.and31
  go_enter Tryd.func11, Tryd.ntmps11
  go_wp2
  go_ret
  exact ⟨rfl, 0, rfl⟩
theorem dec_long (raw : Int) (it : Bool) (hl : 59392 ≤ raw % 65536) (w : World) :
    Calls Tryd.prog 9 #[.int .i64 raw, .bool it] w fun e w' => e = .returned (.tuple #[.agg #[.int .i64 0, .int .i64 0, .int .i64 0, .int .i64 0, .int .i64 0, .int .i64 0, .int .i64 0, .int .i64 0, .bool false], .bool false]) ∧ Below w.heap.size w w' := by
  have A : ∀ x : Int, bits .and .i64 x 65535 = x % 65536 := and65535
  have hx : decide (29 ≤ raw % 65536 / 2048 % 32) = true := by simp; omega
  go_enter Tryd.func9, Tryd.ntmps9
  go_wp2_with fail
  refine (long_c _ _).mono ?_
  rintro e w' ⟨rfl, n, rfl⟩
  go_wp2
  refine bodyPost_ret (v := .tuple #[.agg #[.int .i64 0, .int .i64 0, .int .i64 0, .int .i64 0, .int .i64 0, .int .i64 0, .int .i64 0, .int .i64 0, .bool false], .bool false]) (by simp [results, Tryd.f9, go_sem]) rfl ⟨rfl, ?_⟩
  exact below_d (below_1 w _)
theorem dec_none (raw : Int) (it : Bool) (x0 x1 x2 x3 x4 x5 x6 x7 : Int) (sv : Bool) (hl : raw % 65536 < 59392)
    (ho : ∀ W, Calls Tryd.prog 20 #[.int .i64 (raw % 65536), .bool it] W fun e w' => e = .returned (.agg #[.int .i64 x0, .int .i64 x1, .int .i64 x2, .int .i64 x3, .int .i64 x4, .int .i64 x5, .int .i64 x6, .int .i64 x7, .bool sv]) ∧ Below W.heap.size W w')
    (hC : ∀ W, Calls Tryd.prog 14 #[.agg #[.int .i64 x0, .int .i64 x1, .int .i64 x2, .int .i64 x3, .int .i64 x4, .int .i64 x5, .int .i64 x6, .int .i64 x7, .bool sv]] W fun e w' => e = .returned (.int .i64 6) ∧ Below W.heap.size W w') (w : World) :
    Calls Tryd.prog 9 #[.int .i64 raw, .bool it] w fun e w' => e = .returned (.tuple #[.agg #[.int .i64 0, .int .i64 0, .int .i64 0, .int .i64 0, .int .i64 0, .int .i64 0, .int .i64 0, .int .i64 0, .bool false], .bool false]) ∧ Below w.heap.size w w' := by
  have A : ∀ x : Int, bits .and .i64 x 65535 = x % 65536 := and65535
  have hx : decide (29 ≤ raw % 65536 / 2048 % 32) = false := by simp; omega
  replace ho := Lib.hid ho
  replace hC := Lib.hid hC
  go_enter Tryd.func9, Tryd.ntmps9
  go_wp2_with fail
  refine (long_c _ _).mono ?_
  rintro e w' ⟨rfl, n, rfl⟩
  go_wp2_with fail
  refine (ho.out _).mono ?_
  rintro e w1 ⟨rfl, hb⟩
  have hb0 : Below (w.alloc (.cells #[.int .i64 0, .int .i64 0, .int .i64 0, .int .i64 0, .int .i64 0, .int .i64 0, .int .i64 0, .int .i64 0, .bool false] 23)).heap.size (w.alloc (.cells #[.int .i64 0, .int .i64 0, .int .i64 0, .int .i64 0, .int .i64 0, .int .i64 0, .int .i64 0, .int .i64 0, .bool false] 23)) w1 := ⟨hb.os, hb.tape, hb.output, hb.size, hb.block⟩
  clear hb
  have hs1 : w.heap.size < w1.heap.size := Nat.lt_of_lt_of_le (by simp) hb0.size
  have hne : ¬ w.heap.size = w1.heap.size := by omega
  go_wp2_with fail
  refine (hC.out _).mono ?_
  rintro e w2 ⟨rfl, hb⟩
  have hs2 : w1.heap.size < w2.heap.size := Nat.lt_of_lt_of_le (by simp) hb.size
  have hb2 : Below (w.alloc (.cells #[.int .i64 0, .int .i64 0, .int .i64 0, .int .i64 0, .int .i64 0, .int .i64 0, .int .i64 0, .int .i64 0, .bool false] 23)).heap.size (w.alloc (.cells #[.int .i64 0, .int .i64 0, .int .i64 0, .int .i64 0, .int .i64 0, .int .i64 0, .int .i64 0, .int .i64 0, .bool false] 23)) w2 := (hb0.alloc hb0.size _).trans (hb.mono (by have := hb0.size; simp at this ⊢; omega))
  have hbel := (below_1 w (.cells #[.int .i64 0, .int .i64 0, .int .i64 0, .int .i64 0, .int .i64 0, .int .i64 0, .int .i64 0, .int .i64 0, .bool false] 23)).trans (hb2.mono (by simp))
  have c0 : w2.cell? ⟨w.heap.size, 0, none⟩ = some (.int .i64 0) := first_cell hb2 0
  have c1 : w2.cell? ⟨w.heap.size, 1, none⟩ = some (.int .i64 0) := first_cell hb2 1
  have c2 : w2.cell? ⟨w.heap.size, 2, none⟩ = some (.int .i64 0) := first_cell hb2 2
  have c3 : w2.cell? ⟨w.heap.size, 3, none⟩ = some (.int .i64 0) := first_cell hb2 3
  have c4 : w2.cell? ⟨w.heap.size, 4, none⟩ = some (.int .i64 0) := first_cell hb2 4
  have c5 : w2.cell? ⟨w.heap.size, 5, none⟩ = some (.int .i64 0) := first_cell hb2 5
  have c6 : w2.cell? ⟨w.heap.size, 6, none⟩ = some (.int .i64 0) := first_cell hb2 6
  have c7 : w2.cell? ⟨w.heap.size, 7, none⟩ = some (.int .i64 0) := first_cell hb2 7
  have c8 : w2.cell? ⟨w.heap.size, 8, none⟩ = some (.bool false) := first_cell hb2 8
  have hfr := first_frozen hb2
  clear hb0 hb hb2
  go_wp2
  refine bodyPost_ret (v := .tuple #[.agg #[.int .i64 0, .int .i64 0, .int .i64 0, .int .i64 0, .int .i64 0, .int .i64 0, .int .i64 0, .int .i64 0, .bool false], .bool false]) (by simp [results, Tryd.f9, go_sem, c0, c1, c2, c3, c4, c5, c6, c7, c8]) rfl ⟨rfl, ?_⟩
  exact nine_b hbel _ _ _ _ _ _ _ _ _
theorem dec_some (raw : Int) (it : Bool) (x0 x1 x2 x3 x4 x5 x6 x7 : Int) (sv : Bool) (hl : raw % 65536 < 59392)
    (ho : ∀ W, Calls Tryd.prog 20 #[.int .i64 (raw % 65536), .bool it] W fun e w' => e = .returned (.agg #[.int .i64 x0, .int .i64 x1, .int .i64 x2, .int .i64 x3, .int .i64 x4, .int .i64 x5, .int .i64 x6, .int .i64 x7, .bool sv]) ∧ Below W.heap.size W w')
    (hC : ∀ W, Calls Tryd.prog 14 #[.agg #[.int .i64 x0, .int .i64 x1, .int .i64 x2, .int .i64 x3, .int .i64 x4, .int .i64 x5, .int .i64 x6, .int .i64 x7, .bool sv]] W fun e w' => e = .returned (.int .i64 0) ∧ Below W.heap.size W w') (w : World) :
    Calls Tryd.prog 9 #[.int .i64 raw, .bool it] w fun e w' => e = .returned (.tuple #[.agg #[.int .i64 x0, .int .i64 x1, .int .i64 x2, .int .i64 x3, .int .i64 x4, .int .i64 x5, .int .i64 x6, .int .i64 x7, .bool sv], .bool true]) ∧ Below w.heap.size w w' := by
  have A : ∀ x : Int, bits .and .i64 x 65535 = x % 65536 := and65535
  have hx : decide (29 ≤ raw % 65536 / 2048 % 32) = false := by simp; omega
  replace ho := Lib.hid ho
  replace hC := Lib.hid hC
  go_enter Tryd.func9, Tryd.ntmps9
  go_wp2_with fail
  refine (long_c _ _).mono ?_
  rintro e w' ⟨rfl, n, rfl⟩
  go_wp2_with fail
  refine (ho.out _).mono ?_
  rintro e w1 ⟨rfl, hb⟩
  have hb0 : Below (w.alloc (.cells #[.int .i64 0, .int .i64 0, .int .i64 0, .int .i64 0, .int .i64 0, .int .i64 0, .int .i64 0, .int .i64 0, .bool false] 23)).heap.size (w.alloc (.cells #[.int .i64 0, .int .i64 0, .int .i64 0, .int .i64 0, .int .i64 0, .int .i64 0, .int .i64 0, .int .i64 0, .bool false] 23)) w1 := ⟨hb.os, hb.tape, hb.output, hb.size, hb.block⟩
  clear hb
  have hs1 : w.heap.size < w1.heap.size := Nat.lt_of_lt_of_le (by simp) hb0.size
  have hne : ¬ w.heap.size = w1.heap.size := by omega
  go_wp2_with fail
  refine (hC.out _).mono ?_
  rintro e w2 ⟨rfl, hb⟩
  have hs2 : w1.heap.size < w2.heap.size := Nat.lt_of_lt_of_le (by simp) hb.size
  have hb2 : Below (w.alloc (.cells #[.int .i64 0, .int .i64 0, .int .i64 0, .int .i64 0, .int .i64 0, .int .i64 0, .int .i64 0, .int .i64 0, .bool false] 23)).heap.size (w.alloc (.cells #[.int .i64 0, .int .i64 0, .int .i64 0, .int .i64 0, .int .i64 0, .int .i64 0, .int .i64 0, .int .i64 0, .bool false] 23)) w2 := (hb0.alloc hb0.size _).trans (hb.mono (by have := hb0.size; simp at this ⊢; omega))
  have hbel := (below_1 w (.cells #[.int .i64 0, .int .i64 0, .int .i64 0, .int .i64 0, .int .i64 0, .int .i64 0, .int .i64 0, .int .i64 0, .bool false] 23)).trans (hb2.mono (by simp))
  have c0 : w2.cell? ⟨w.heap.size, 0, none⟩ = some (.int .i64 0) := first_cell hb2 0
  have c1 : w2.cell? ⟨w.heap.size, 1, none⟩ = some (.int .i64 0) := first_cell hb2 1
  have c2 : w2.cell? ⟨w.heap.size, 2, none⟩ = some (.int .i64 0) := first_cell hb2 2
  have c3 : w2.cell? ⟨w.heap.size, 3, none⟩ = some (.int .i64 0) := first_cell hb2 3
  have c4 : w2.cell? ⟨w.heap.size, 4, none⟩ = some (.int .i64 0) := first_cell hb2 4
  have c5 : w2.cell? ⟨w.heap.size, 5, none⟩ = some (.int .i64 0) := first_cell hb2 5
  have c6 : w2.cell? ⟨w.heap.size, 6, none⟩ = some (.int .i64 0) := first_cell hb2 6
  have c7 : w2.cell? ⟨w.heap.size, 7, none⟩ = some (.int .i64 0) := first_cell hb2 7
  have c8 : w2.cell? ⟨w.heap.size, 8, none⟩ = some (.bool false) := first_cell hb2 8
  have hfr := first_frozen hb2
  have hi : ∀ j, w2.cell? ⟨w1.heap.size, j, none⟩ = (#[.int .i64 x0, .int .i64 x1, .int .i64 x2, .int .i64 x3, .int .i64 x4, .int .i64 x5, .int .i64 x6, .int .i64 x7, .bool sv] : Array Value)[j]? := fun j => (hb.cell (p := ⟨w1.heap.size, j, none⟩) (by simp)).trans (World.cell?_alloc_new w1 _ _ j)
  clear hb0 hb hb2
  go_wp2
  refine bodyPost_ret (v := .tuple #[.agg #[.int .i64 x0, .int .i64 x1, .int .i64 x2, .int .i64 x3, .int .i64 x4, .int .i64 x5, .int .i64 x6, .int .i64 x7, .bool sv], .bool true]) (by simp [results, Tryd.f9, go_sem, c0, c1, c2, c3, c4, c5, c6, c7, c8]) rfl ⟨rfl, ?_⟩
  exact nine_b hbel _ _ _ _ _ _ _ _ _
theorem decode_c (raw : Int) (it : Bool) (hO : raw % 65536 < 59392 → OneIs (raw % 65536) it)
    (hC : ∀ (i : Nm.I), Nm.Wide i.list → ∀ W, Calls Tryd.prog 14 #[IV i] W fun e w' => e = .returned (.int .i64 (Im.errI (Nm.okB i))) ∧ Below W.heap.size W w') (w : World) :
    Calls Tryd.prog 9 #[.int .i64 raw, .bool it] w fun e w' => e = .returned (decV (shortP (raw % 65536) it)) ∧ Below w.heap.size w w' := by
  by_cases hl : raw % 65536 < 59392
  · obtain ⟨I, hI, hw, ho⟩ := hO hl
    have hc := hC I hw
    have hs : shortP (raw % 65536) it = if Nm.okB I = true then some I else none := by
      unfold shortP
      rcases hI with rfl | ⟨h1, h2⟩
      · by_cases hk : Nm.okB (decS (raw % 65536) it) = true
        · rw [if_pos ⟨hl, hk⟩, if_pos hk]
        · rw [if_neg (fun q => hk q.2), if_neg hk]
      · rw [if_neg (by rw [h2]; simp), if_neg (by rw [h1]; simp)]
    rw [hs]
    cases hk : Nm.okB I with
    | true =>
      rw [hk] at hc
      rw [if_pos rfl]
      exact dec_some raw it _ _ _ _ _ _ _ _ _ hl ho hc w
    | false =>
      rw [hk] at hc
      rw [if_neg Bool.false_ne_true]
      exact dec_none raw it _ _ _ _ _ _ _ _ _ hl ho hc w
  · have hs : shortP (raw % 65536) it = none := by
      unfold shortP
      rw [if_neg (fun q => hl q.1)]
    rw [hs]
    exact dec_long raw it (Int.not_lt.1 hl) w
end Rd
end Go.Proofs.YtcphhojdfpedkaaDoor
