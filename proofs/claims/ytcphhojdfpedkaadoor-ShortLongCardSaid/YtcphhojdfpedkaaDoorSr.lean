/- The search over short's rows reads what the document reads. No program; no conditions (text by gen_sp.py). -/
import Derived.Test.YtcphhojdfpedkaaDoorSq
namespace Go.Proofs.YtcphhojdfpedkaaDoor
namespace Sp
open Nm (I okB)
open Sm (shortP badP)
theorem short_some {h : Int} {it : Bool} {i : I} {A : Bool} (hd : Nm.decI h it = i) (hl : h < 59392) (hy : A = true → ¬ badP h it) (hn : A = false → badP h it) : hit A i none = shortP h it := by
  unfold Sm.shortP Sm.decS hit
  cases A
  · rw [if_pos (hn rfl), ok_zero (i := Sm.noneI) rfl]
    simp
  · rw [if_neg (hy rfl), hd]
    simp [hl]
theorem short_none {h : Int} {it : Bool} (hb : badP h it ∨ 59392 ≤ h) : none = shortP h it := by
  unfold Sm.shortP Sm.decS
  rcases hb with hb | hb
  · rw [if_pos hb, ok_zero (i := Sm.noneI) rfl]
    simp
  · rw [if_neg (by omega)]
theorem ok_shift0 (op : Int) (hop : op = 16 ∨ op = 17 ∨ op = 18) (rd rn : Int) (s : Bool) : okB ⟨op, 0, rd, rn, 0, 0, 1, 0, s⟩ = false := by
  rcases hop with rfl | rfl | rfl <;> simp [Nm.okB, Im.checkB, Im.lastB, Im.hasB, Im.fieldsI]
theorem ok_it0 (c : Int) : okB ⟨42, c, 0, 0, 0, 0, 1, 0, false⟩ = false := by simp [Nm.okB, Im.checkB, Im.lastB, Im.hasB, Im.fieldsI]
theorem ok_nv (x : Int) : okB ⟨35, 15, 0, 0, 0, x, 1, 0, false⟩ = false := by simp [Nm.okB, Im.checkB, Im.condB]
set_option linter.unusedSimpArgs false in
theorem f_0 (h : Int) (it : Bool) (h0 : 0 ≤ h) (h1 : h < 64) : hit (!it) ⟨10, 0, h % 8, 0, h / 8 % 8, 0, 2, 0, !it⟩ (hit (true) ⟨16, 0, h % 8, h / 8 % 8, 0, h / 64 % 32, 1, 0, !it⟩ none) = shortP h it := by
  rw [hit_no (i := ⟨16, 0, h % 8, h / 8 % 8, 0, h / 64 % 32, 1, 0, !it⟩) (by rw [show h / 64 % 32 = 0 by omega, ok_shift0 16 (.inl rfl)]; rfl)]
  cases it with
  | false =>
    have e : Nm.decI h false = ⟨10, 0, h % 8, 0, h / 8 % 8, 0, 2, 0, true⟩ := by
      unfold Nm.decI Nm.dec0
      repeat (first | rw [if_neg (by omega)] | rw [if_pos (by omega)])
      all_goals (refine Nm.mk_eq ?_ ?_ ?_ ?_ ?_ ?_ ?_ ?_ ?_ <;> first | with_reducible rfl | omega | rfl)
    exact short_some (A := true) e (by omega) (fun _ hb => by unfold Sm.badP at hb; simp only [reduceCtorEq, and_false, false_or, or_false, false_and, and_true, true_and, true_or, or_true] at hb; omega) (fun x => by cases x)
  | true =>
    rw [hit_no rfl]
    exact short_none (.inl (by unfold Sm.badP; exact (Or.inl (⟨by omega, by omega, rfl⟩))))
theorem f_64 (h : Int) (it : Bool) (h0 : 64 ≤ h) (h1 : h < 2048) : hit (true) ⟨16, 0, h % 8, h / 8 % 8, 0, h / 64 % 32, 1, 0, !it⟩ none = shortP h it := by
  have e : Nm.decI h it = ⟨16, 0, h % 8, h / 8 % 8, 0, h / 64 % 32, 1, 0, !it⟩ := by
    unfold Nm.decI Nm.dec0
    repeat (first | rw [if_neg (by omega)] | rw [if_pos (by omega)])
    all_goals (refine Nm.mk_eq ?_ ?_ ?_ ?_ ?_ ?_ ?_ ?_ ?_ <;> first | with_reducible rfl | omega | rfl)
  exact short_some (A := true) e (by omega) (fun _ hb => by unfold Sm.badP at hb; omega) (fun x => by cases x)
theorem f_2048 (h : Int) (it : Bool) (h0 : 2048 ≤ h) (h1 : h < 2112) : hit (true) ⟨17, 0, h % 8, h / 8 % 8, 0, h / 64 % 32, 1, 0, !it⟩ (hit (true) ⟨17, 0, h % 8, h / 8 % 8, 0, 32, 1, 0, !it⟩ none) = shortP h it := by
  rw [hit_no (by rw [show h / 64 % 32 = 0 by omega, ok_shift0 17 (by decide)]; rfl)]
  have e : Nm.decI h it = ⟨17, 0, h % 8, h / 8 % 8, 0, 32, 1, 0, !it⟩ := by
    unfold Nm.decI Nm.dec0
    repeat (first | rw [if_neg (by omega)] | rw [if_pos (by omega)])
    all_goals (refine Nm.mk_eq ?_ ?_ ?_ ?_ ?_ ?_ ?_ ?_ ?_ <;> first | with_reducible rfl | omega | rfl)
  exact short_some (A := true) e (by omega) (fun _ hb => by unfold Sm.badP at hb; omega) (fun x => by cases x)
theorem f_2112 (h : Int) (it : Bool) (h0 : 2112 ≤ h) (h1 : h < 4096) : hit (true) ⟨17, 0, h % 8, h / 8 % 8, 0, h / 64 % 32, 1, 0, !it⟩ none = shortP h it := by
  have e : Nm.decI h it = ⟨17, 0, h % 8, h / 8 % 8, 0, h / 64 % 32, 1, 0, !it⟩ := by
    unfold Nm.decI Nm.dec0
    repeat (first | rw [if_neg (by omega)] | rw [if_pos (by omega)])
    all_goals (refine Nm.mk_eq ?_ ?_ ?_ ?_ ?_ ?_ ?_ ?_ ?_ <;> first | with_reducible rfl | omega | rfl)
  exact short_some (A := true) e (by omega) (fun _ hb => by unfold Sm.badP at hb; omega) (fun x => by cases x)
theorem f_4096 (h : Int) (it : Bool) (h0 : 4096 ≤ h) (h1 : h < 4160) : hit (true) ⟨18, 0, h % 8, h / 8 % 8, 0, h / 64 % 32, 1, 0, !it⟩ (hit (true) ⟨18, 0, h % 8, h / 8 % 8, 0, 32, 1, 0, !it⟩ none) = shortP h it := by
  rw [hit_no (by rw [show h / 64 % 32 = 0 by omega, ok_shift0 18 (by decide)]; rfl)]
  have e : Nm.decI h it = ⟨18, 0, h % 8, h / 8 % 8, 0, 32, 1, 0, !it⟩ := by
    unfold Nm.decI Nm.dec0
    repeat (first | rw [if_neg (by omega)] | rw [if_pos (by omega)])
    all_goals (refine Nm.mk_eq ?_ ?_ ?_ ?_ ?_ ?_ ?_ ?_ ?_ <;> first | with_reducible rfl | omega | rfl)
  exact short_some (A := true) e (by omega) (fun _ hb => by unfold Sm.badP at hb; omega) (fun x => by cases x)
theorem f_4160 (h : Int) (it : Bool) (h0 : 4160 ≤ h) (h1 : h < 6144) : hit (true) ⟨18, 0, h % 8, h / 8 % 8, 0, h / 64 % 32, 1, 0, !it⟩ none = shortP h it := by
  have e : Nm.decI h it = ⟨18, 0, h % 8, h / 8 % 8, 0, h / 64 % 32, 1, 0, !it⟩ := by
    unfold Nm.decI Nm.dec0
    repeat (first | rw [if_neg (by omega)] | rw [if_pos (by omega)])
    all_goals (refine Nm.mk_eq ?_ ?_ ?_ ?_ ?_ ?_ ?_ ?_ ?_ <;> first | with_reducible rfl | omega | rfl)
  exact short_some (A := true) e (by omega) (fun _ hb => by unfold Sm.badP at hb; omega) (fun x => by cases x)
theorem f_6144 (h : Int) (it : Bool) (h0 : 6144 ≤ h) (h1 : h < 6656) : hit (true) ⟨5, 0, h % 8, h / 8 % 8, h / 64 % 8, 0, 2, 0, !it⟩ none = shortP h it := by
  have e : Nm.decI h it = ⟨5, 0, h % 8, h / 8 % 8, h / 64 % 8, 0, 2, 0, !it⟩ := by
    unfold Nm.decI Nm.dec0
    repeat (first | rw [if_neg (by omega)] | rw [if_pos (by omega)])
    all_goals (refine Nm.mk_eq ?_ ?_ ?_ ?_ ?_ ?_ ?_ ?_ ?_ <;> first | with_reducible rfl | omega | rfl)
  exact short_some (A := true) e (by omega) (fun _ hb => by unfold Sm.badP at hb; omega) (fun x => by cases x)
theorem f_6656 (h : Int) (it : Bool) (h0 : 6656 ≤ h) (h1 : h < 7168) : hit (true) ⟨7, 0, h % 8, h / 8 % 8, h / 64 % 8, 0, 2, 0, !it⟩ none = shortP h it := by
  have e : Nm.decI h it = ⟨7, 0, h % 8, h / 8 % 8, h / 64 % 8, 0, 2, 0, !it⟩ := by
    unfold Nm.decI Nm.dec0
    repeat (first | rw [if_neg (by omega)] | rw [if_pos (by omega)])
    all_goals (refine Nm.mk_eq ?_ ?_ ?_ ?_ ?_ ?_ ?_ ?_ ?_ <;> first | with_reducible rfl | omega | rfl)
  exact short_some (A := true) e (by omega) (fun _ hb => by unfold Sm.badP at hb; omega) (fun x => by cases x)
theorem f_7168 (h : Int) (it : Bool) (h0 : 7168 ≤ h) (h1 : h < 7680) : hit (true) ⟨5, 0, h % 8, h / 8 % 8, 0, h / 64 % 8, 1, 0, !it⟩ none = shortP h it := by
  have e : Nm.decI h it = ⟨5, 0, h % 8, h / 8 % 8, 0, h / 64 % 8, 1, 0, !it⟩ := by
    unfold Nm.decI Nm.dec0
    repeat (first | rw [if_neg (by omega)] | rw [if_pos (by omega)])
    all_goals (refine Nm.mk_eq ?_ ?_ ?_ ?_ ?_ ?_ ?_ ?_ ?_ <;> first | with_reducible rfl | omega | rfl)
  exact short_some (A := true) e (by omega) (fun _ hb => by unfold Sm.badP at hb; omega) (fun x => by cases x)
theorem f_7680 (h : Int) (it : Bool) (h0 : 7680 ≤ h) (h1 : h < 8192) : hit (true) ⟨7, 0, h % 8, h / 8 % 8, 0, h / 64 % 8, 1, 0, !it⟩ none = shortP h it := by
  have e : Nm.decI h it = ⟨7, 0, h % 8, h / 8 % 8, 0, h / 64 % 8, 1, 0, !it⟩ := by
    unfold Nm.decI Nm.dec0
    repeat (first | rw [if_neg (by omega)] | rw [if_pos (by omega)])
    all_goals (refine Nm.mk_eq ?_ ?_ ?_ ?_ ?_ ?_ ?_ ?_ ?_ <;> first | with_reducible rfl | omega | rfl)
  exact short_some (A := true) e (by omega) (fun _ hb => by unfold Sm.badP at hb; omega) (fun x => by cases x)
theorem f_8192 (h : Int) (it : Bool) (h0 : 8192 ≤ h) (h1 : h < 10240) : hit (true) ⟨10, 0, h / 256 % 8, 0, 0, h % 256, 1, 0, !it⟩ none = shortP h it := by
  have e : Nm.decI h it = ⟨10, 0, h / 256 % 8, 0, 0, h % 256, 1, 0, !it⟩ := by
    unfold Nm.decI Nm.dec0
    repeat (first | rw [if_neg (by omega)] | rw [if_pos (by omega)])
    all_goals (refine Nm.mk_eq ?_ ?_ ?_ ?_ ?_ ?_ ?_ ?_ ?_ <;> first | with_reducible rfl | omega | rfl)
  exact short_some (A := true) e (by omega) (fun _ hb => by unfold Sm.badP at hb; omega) (fun x => by cases x)
theorem f_10240 (h : Int) (it : Bool) (h0 : 10240 ≤ h) (h1 : h < 12288) : hit (true) ⟨12, 0, 0, h / 256 % 8, 0, h % 256, 1, 0, false⟩ none = shortP h it := by
  have e : Nm.decI h it = ⟨12, 0, 0, h / 256 % 8, 0, h % 256, 1, 0, false⟩ := by
    unfold Nm.decI Nm.dec0
    repeat (first | rw [if_neg (by omega)] | rw [if_pos (by omega)])
    all_goals (refine Nm.mk_eq ?_ ?_ ?_ ?_ ?_ ?_ ?_ ?_ ?_ <;> first | with_reducible rfl | omega | rfl)
  exact short_some (A := true) e (by omega) (fun _ hb => by unfold Sm.badP at hb; omega) (fun x => by cases x)
theorem f_12288 (h : Int) (it : Bool) (h0 : 12288 ≤ h) (h1 : h < 14336) : hit (true) ⟨5, 0, h / 256 % 8, h / 256 % 8, 0, h % 256, 1, 0, !it⟩ none = shortP h it := by
  have e : Nm.decI h it = ⟨5, 0, h / 256 % 8, h / 256 % 8, 0, h % 256, 1, 0, !it⟩ := by
    unfold Nm.decI Nm.dec0
    repeat (first | rw [if_neg (by omega)] | rw [if_pos (by omega)])
    all_goals (refine Nm.mk_eq ?_ ?_ ?_ ?_ ?_ ?_ ?_ ?_ ?_ <;> first | with_reducible rfl | omega | rfl)
  exact short_some (A := true) e (by omega) (fun _ hb => by unfold Sm.badP at hb; omega) (fun x => by cases x)
theorem f_14336 (h : Int) (it : Bool) (h0 : 14336 ≤ h) (h1 : h < 16384) : hit (true) ⟨7, 0, h / 256 % 8, h / 256 % 8, 0, h % 256, 1, 0, !it⟩ none = shortP h it := by
  have e : Nm.decI h it = ⟨7, 0, h / 256 % 8, h / 256 % 8, 0, h % 256, 1, 0, !it⟩ := by
    unfold Nm.decI Nm.dec0
    repeat (first | rw [if_neg (by omega)] | rw [if_pos (by omega)])
    all_goals (refine Nm.mk_eq ?_ ?_ ?_ ?_ ?_ ?_ ?_ ?_ ?_ <;> first | with_reducible rfl | omega | rfl)
  exact short_some (A := true) e (by omega) (fun _ hb => by unfold Sm.badP at hb; omega) (fun x => by cases x)
theorem f_16384 (h : Int) (it : Bool) (h0 : 16384 ≤ h) (h1 : h < 16448) : hit (true) ⟨1, 0, h % 8, h % 8, h / 8 % 8, 0, 2, 0, !it⟩ none = shortP h it := by
  have e : Nm.decI h it = ⟨1, 0, h % 8, h % 8, h / 8 % 8, 0, 2, 0, !it⟩ := by
    unfold Nm.decI Nm.dec1
    repeat (first | rw [if_neg (by omega)] | rw [if_pos (by omega)])
    all_goals (refine Nm.mk_eq ?_ ?_ ?_ ?_ ?_ ?_ ?_ ?_ ?_ <;> first | with_reducible rfl | omega | rfl)
  exact short_some (A := true) e (by omega) (fun _ hb => by unfold Sm.badP at hb; omega) (fun x => by cases x)
theorem f_16448 (h : Int) (it : Bool) (h0 : 16448 ≤ h) (h1 : h < 16512) : hit (true) ⟨2, 0, h % 8, h % 8, h / 8 % 8, 0, 2, 0, !it⟩ none = shortP h it := by
  have e : Nm.decI h it = ⟨2, 0, h % 8, h % 8, h / 8 % 8, 0, 2, 0, !it⟩ := by
    unfold Nm.decI Nm.dec1
    repeat (first | rw [if_neg (by omega)] | rw [if_pos (by omega)])
    all_goals (refine Nm.mk_eq ?_ ?_ ?_ ?_ ?_ ?_ ?_ ?_ ?_ <;> first | with_reducible rfl | omega | rfl)
  exact short_some (A := true) e (by omega) (fun _ hb => by unfold Sm.badP at hb; omega) (fun x => by cases x)
theorem f_16512 (h : Int) (it : Bool) (h0 : 16512 ≤ h) (h1 : h < 16576) : hit (true) ⟨16, 0, h % 8, h % 8, h / 8 % 8, 0, 2, 0, !it⟩ none = shortP h it := by
  have e : Nm.decI h it = ⟨16, 0, h % 8, h % 8, h / 8 % 8, 0, 2, 0, !it⟩ := by
    unfold Nm.decI Nm.dec1
    repeat (first | rw [if_neg (by omega)] | rw [if_pos (by omega)])
    all_goals (refine Nm.mk_eq ?_ ?_ ?_ ?_ ?_ ?_ ?_ ?_ ?_ <;> first | with_reducible rfl | omega | rfl)
  exact short_some (A := true) e (by omega) (fun _ hb => by unfold Sm.badP at hb; omega) (fun x => by cases x)
theorem f_16576 (h : Int) (it : Bool) (h0 : 16576 ≤ h) (h1 : h < 16640) : hit (true) ⟨17, 0, h % 8, h % 8, h / 8 % 8, 0, 2, 0, !it⟩ none = shortP h it := by
  have e : Nm.decI h it = ⟨17, 0, h % 8, h % 8, h / 8 % 8, 0, 2, 0, !it⟩ := by
    unfold Nm.decI Nm.dec1
    repeat (first | rw [if_neg (by omega)] | rw [if_pos (by omega)])
    all_goals (refine Nm.mk_eq ?_ ?_ ?_ ?_ ?_ ?_ ?_ ?_ ?_ <;> first | with_reducible rfl | omega | rfl)
  exact short_some (A := true) e (by omega) (fun _ hb => by unfold Sm.badP at hb; omega) (fun x => by cases x)
theorem f_16640 (h : Int) (it : Bool) (h0 : 16640 ≤ h) (h1 : h < 16704) : hit (true) ⟨18, 0, h % 8, h % 8, h / 8 % 8, 0, 2, 0, !it⟩ none = shortP h it := by
  have e : Nm.decI h it = ⟨18, 0, h % 8, h % 8, h / 8 % 8, 0, 2, 0, !it⟩ := by
    unfold Nm.decI Nm.dec1
    repeat (first | rw [if_neg (by omega)] | rw [if_pos (by omega)])
    all_goals (refine Nm.mk_eq ?_ ?_ ?_ ?_ ?_ ?_ ?_ ?_ ?_ <;> first | with_reducible rfl | omega | rfl)
  exact short_some (A := true) e (by omega) (fun _ hb => by unfold Sm.badP at hb; omega) (fun x => by cases x)
theorem f_16704 (h : Int) (it : Bool) (h0 : 16704 ≤ h) (h1 : h < 16768) : hit (true) ⟨6, 0, h % 8, h % 8, h / 8 % 8, 0, 2, 0, !it⟩ none = shortP h it := by
  have e : Nm.decI h it = ⟨6, 0, h % 8, h % 8, h / 8 % 8, 0, 2, 0, !it⟩ := by
    unfold Nm.decI Nm.dec1
    repeat (first | rw [if_neg (by omega)] | rw [if_pos (by omega)])
    all_goals (refine Nm.mk_eq ?_ ?_ ?_ ?_ ?_ ?_ ?_ ?_ ?_ <;> first | with_reducible rfl | omega | rfl)
  exact short_some (A := true) e (by omega) (fun _ hb => by unfold Sm.badP at hb; omega) (fun x => by cases x)
theorem f_16768 (h : Int) (it : Bool) (h0 : 16768 ≤ h) (h1 : h < 16832) : hit (true) ⟨8, 0, h % 8, h % 8, h / 8 % 8, 0, 2, 0, !it⟩ none = shortP h it := by
  have e : Nm.decI h it = ⟨8, 0, h % 8, h % 8, h / 8 % 8, 0, 2, 0, !it⟩ := by
    unfold Nm.decI Nm.dec1
    repeat (first | rw [if_neg (by omega)] | rw [if_pos (by omega)])
    all_goals (refine Nm.mk_eq ?_ ?_ ?_ ?_ ?_ ?_ ?_ ?_ ?_ <;> first | with_reducible rfl | omega | rfl)
  exact short_some (A := true) e (by omega) (fun _ hb => by unfold Sm.badP at hb; omega) (fun x => by cases x)
theorem f_16832 (h : Int) (it : Bool) (h0 : 16832 ≤ h) (h1 : h < 16896) : hit (true) ⟨19, 0, h % 8, h % 8, h / 8 % 8, 0, 2, 0, !it⟩ none = shortP h it := by
  have e : Nm.decI h it = ⟨19, 0, h % 8, h % 8, h / 8 % 8, 0, 2, 0, !it⟩ := by
    unfold Nm.decI Nm.dec1
    repeat (first | rw [if_neg (by omega)] | rw [if_pos (by omega)])
    all_goals (refine Nm.mk_eq ?_ ?_ ?_ ?_ ?_ ?_ ?_ ?_ ?_ <;> first | with_reducible rfl | omega | rfl)
  exact short_some (A := true) e (by omega) (fun _ hb => by unfold Sm.badP at hb; omega) (fun x => by cases x)
theorem f_16896 (h : Int) (it : Bool) (h0 : 16896 ≤ h) (h1 : h < 16960) : hit (true) ⟨14, 0, 0, h % 8, h / 8 % 8, 0, 2, 0, false⟩ none = shortP h it := by
  have e : Nm.decI h it = ⟨14, 0, 0, h % 8, h / 8 % 8, 0, 2, 0, false⟩ := by
    unfold Nm.decI Nm.dec1
    repeat (first | rw [if_neg (by omega)] | rw [if_pos (by omega)])
    all_goals (refine Nm.mk_eq ?_ ?_ ?_ ?_ ?_ ?_ ?_ ?_ ?_ <;> first | with_reducible rfl | omega | rfl)
  exact short_some (A := true) e (by omega) (fun _ hb => by unfold Sm.badP at hb; omega) (fun x => by cases x)
theorem f_16960 (h : Int) (it : Bool) (h0 : 16960 ≤ h) (h1 : h < 17024) : hit (true) ⟨9, 0, h % 8, h / 8 % 8, 0, 0, 1, 0, !it⟩ none = shortP h it := by
  have e : Nm.decI h it = ⟨9, 0, h % 8, h / 8 % 8, 0, 0, 1, 0, !it⟩ := by
    unfold Nm.decI Nm.dec1
    repeat (first | rw [if_neg (by omega)] | rw [if_pos (by omega)])
    all_goals (refine Nm.mk_eq ?_ ?_ ?_ ?_ ?_ ?_ ?_ ?_ ?_ <;> first | with_reducible rfl | omega | rfl)
  exact short_some (A := true) e (by omega) (fun _ hb => by unfold Sm.badP at hb; omega) (fun x => by cases x)
theorem f_17024 (h : Int) (it : Bool) (h0 : 17024 ≤ h) (h1 : h < 17088) : hit (true) ⟨12, 0, 0, h % 8, h / 8 % 8, 0, 2, 0, false⟩ none = shortP h it := by
  have e : Nm.decI h it = ⟨12, 0, 0, h % 8, h / 8 % 8, 0, 2, 0, false⟩ := by
    unfold Nm.decI Nm.dec1
    repeat (first | rw [if_neg (by omega)] | rw [if_pos (by omega)])
    all_goals (refine Nm.mk_eq ?_ ?_ ?_ ?_ ?_ ?_ ?_ ?_ ?_ <;> first | with_reducible rfl | omega | rfl)
  exact short_some (A := true) e (by omega) (fun _ hb => by unfold Sm.badP at hb; omega) (fun x => by cases x)
theorem f_17088 (h : Int) (it : Bool) (h0 : 17088 ≤ h) (h1 : h < 17152) : hit (true) ⟨13, 0, 0, h % 8, h / 8 % 8, 0, 2, 0, false⟩ none = shortP h it := by
  have e : Nm.decI h it = ⟨13, 0, 0, h % 8, h / 8 % 8, 0, 2, 0, false⟩ := by
    unfold Nm.decI Nm.dec1
    repeat (first | rw [if_neg (by omega)] | rw [if_pos (by omega)])
    all_goals (refine Nm.mk_eq ?_ ?_ ?_ ?_ ?_ ?_ ?_ ?_ ?_ <;> first | with_reducible rfl | omega | rfl)
  exact short_some (A := true) e (by omega) (fun _ hb => by unfold Sm.badP at hb; omega) (fun x => by cases x)
theorem f_17152 (h : Int) (it : Bool) (h0 : 17152 ≤ h) (h1 : h < 17216) : hit (true) ⟨3, 0, h % 8, h % 8, h / 8 % 8, 0, 2, 0, !it⟩ none = shortP h it := by
  have e : Nm.decI h it = ⟨3, 0, h % 8, h % 8, h / 8 % 8, 0, 2, 0, !it⟩ := by
    unfold Nm.decI Nm.dec1
    repeat (first | rw [if_neg (by omega)] | rw [if_pos (by omega)])
    all_goals (refine Nm.mk_eq ?_ ?_ ?_ ?_ ?_ ?_ ?_ ?_ ?_ <;> first | with_reducible rfl | omega | rfl)
  exact short_some (A := true) e (by omega) (fun _ hb => by unfold Sm.badP at hb; omega) (fun x => by cases x)
set_option linter.unusedSimpArgs false in
theorem f_17216 (h : Int) (it : Bool) (h0 : 17216 ≤ h) (h1 : h < 17280) : hit (it) ⟨20, 0, h % 8, h / 8 % 8, h % 8, 0, 2, 0, false⟩ none = shortP h it := by
  cases it with
  | true =>
    have e : Nm.decI h true = ⟨20, 0, h % 8, h / 8 % 8, h % 8, 0, 2, 0, false⟩ := by
      unfold Nm.decI Nm.dec1
      repeat (first | rw [if_neg (by omega)] | rw [if_pos (by omega)])
      all_goals (refine Nm.mk_eq ?_ ?_ ?_ ?_ ?_ ?_ ?_ ?_ ?_ <;> first | with_reducible rfl | omega | rfl)
    have hA : (true) = true := rfl
    exact short_some e (by omega) (fun _ hb => by unfold Sm.badP at hb; simp only [reduceCtorEq, and_false, false_or, or_false, false_and, and_true, true_and, true_or, or_true] at hb; omega) (fun x => by rw [hA] at x; cases x)
  | false =>
    rw [hit_no rfl]
    exact short_none (.inl (by unfold Sm.badP; exact (Or.inr (Or.inl (⟨by omega, by omega, rfl⟩)))))
theorem f_17280 (h : Int) (it : Bool) (h0 : 17280 ≤ h) (h1 : h < 17344) : hit (true) ⟨4, 0, h % 8, h % 8, h / 8 % 8, 0, 2, 0, !it⟩ none = shortP h it := by
  have e : Nm.decI h it = ⟨4, 0, h % 8, h % 8, h / 8 % 8, 0, 2, 0, !it⟩ := by
    unfold Nm.decI Nm.dec1
    repeat (first | rw [if_neg (by omega)] | rw [if_pos (by omega)])
    all_goals (refine Nm.mk_eq ?_ ?_ ?_ ?_ ?_ ?_ ?_ ?_ ?_ <;> first | with_reducible rfl | omega | rfl)
  exact short_some (A := true) e (by omega) (fun _ hb => by unfold Sm.badP at hb; omega) (fun x => by cases x)
theorem f_17344 (h : Int) (it : Bool) (h0 : 17344 ≤ h) (h1 : h < 17408) : hit (true) ⟨11, 0, h % 8, 0, h / 8 % 8, 0, 2, 0, !it⟩ none = shortP h it := by
  have e : Nm.decI h it = ⟨11, 0, h % 8, 0, h / 8 % 8, 0, 2, 0, !it⟩ := by
    unfold Nm.decI Nm.dec1
    repeat (first | rw [if_neg (by omega)] | rw [if_pos (by omega)])
    all_goals (refine Nm.mk_eq ?_ ?_ ?_ ?_ ?_ ?_ ?_ ?_ ?_ <;> first | with_reducible rfl | omega | rfl)
  exact short_some (A := true) e (by omega) (fun _ hb => by unfold Sm.badP at hb; omega) (fun x => by cases x)
theorem f_17408 (h : Int) (it : Bool) (h0 : 17408 ≤ h) (h1 : h < 17664) : hit (true) ⟨5, 0, h / 128 % 2 * 8 + h % 8, h / 128 % 2 * 8 + h % 8, h / 8 % 16, 0, 2, 0, false⟩ none = shortP h it := by
  have e : Nm.decI h it = ⟨5, 0, h / 128 % 2 * 8 + h % 8, h / 128 % 2 * 8 + h % 8, h / 8 % 16, 0, 2, 0, false⟩ := by
    unfold Nm.decI Nm.dec2
    repeat (first | rw [if_neg (by omega)] | rw [if_pos (by omega)])
    all_goals (refine Nm.mk_eq ?_ ?_ ?_ ?_ ?_ ?_ ?_ ?_ ?_ <;> first | with_reducible rfl | omega | rfl)
  exact short_some (A := true) e (by omega) (fun _ hb => by unfold Sm.badP at hb; omega) (fun x => by cases x)
set_option linter.unusedSimpArgs false in
theorem f_17664 (h : Int) (it : Bool) (h0 : 17664 ≤ h) (h1 : h < 17920) : hit (!(decide (h / 128 % 2 * 8 + h % 8 < 8) && decide (h / 8 % 16 < 8))) ⟨12, 0, 0, h / 128 % 2 * 8 + h % 8, h / 8 % 16, 0, 2, 0, false⟩ none = shortP h it := by
  have e : Nm.decI h it = ⟨12, 0, 0, h / 128 % 2 * 8 + h % 8, h / 8 % 16, 0, 2, 0, false⟩ := by
    unfold Nm.decI Nm.dec2
    repeat (first | rw [if_neg (by omega)] | rw [if_pos (by omega)])
    all_goals (refine Nm.mk_eq ?_ ?_ ?_ ?_ ?_ ?_ ?_ ?_ ?_ <;> first | with_reducible rfl | omega | rfl)
  refine short_some e (by omega) (fun x hb => ?_) (fun x => ?_)
  · simp only [Bool.not_eq_true', Bool.and_eq_false_iff, decide_eq_false_iff_not] at x
    unfold Sm.badP Nm.hi4 at hb
    omega
  · simp only [Bool.not_eq_false', Bool.and_eq_true, decide_eq_true_eq] at x
    unfold Sm.badP Nm.hi4
    exact (Or.inr (Or.inr (Or.inl (⟨by omega, by omega, by omega, by omega⟩))))
theorem f_17920 (h : Int) (it : Bool) (h0 : 17920 ≤ h) (h1 : h < 18176) : hit (true) ⟨10, 0, h / 128 % 2 * 8 + h % 8, 0, h / 8 % 16, 0, 2, 0, false⟩ none = shortP h it := by
  have e : Nm.decI h it = ⟨10, 0, h / 128 % 2 * 8 + h % 8, 0, h / 8 % 16, 0, 2, 0, false⟩ := by
    unfold Nm.decI Nm.dec2
    repeat (first | rw [if_neg (by omega)] | rw [if_pos (by omega)])
    all_goals (refine Nm.mk_eq ?_ ?_ ?_ ?_ ?_ ?_ ?_ ?_ ?_ <;> first | with_reducible rfl | omega | rfl)
  exact short_some (A := true) e (by omega) (fun _ hb => by unfold Sm.badP at hb; omega) (fun x => by cases x)
theorem f_18176 (h : Int) (it : Bool) (h0 : 18176 ≤ h) (h1 : h < 18432) (hq : h / 128 % 2 = 0 ∧ h % 8 = 0) : hit (true) ⟨39, 0, 0, 0, h / 8 % 16, 0, 2, 0, false⟩ none = shortP h it := by
  have e : Nm.decI h it = ⟨39, 0, 0, 0, h / 8 % 16, 0, 2, 0, false⟩ := by
    unfold Nm.decI Nm.dec2
    repeat (first | rw [if_neg (by omega)] | rw [if_pos (by omega)])
    all_goals (refine Nm.mk_eq ?_ ?_ ?_ ?_ ?_ ?_ ?_ ?_ ?_ <;> first | with_reducible rfl | omega | rfl)
  exact short_some (A := true) e (by omega) (fun _ hb => by unfold Sm.badP at hb; omega) (fun x => by cases x)
theorem f_18176n (h : Int) (it : Bool) (h0 : 18176 ≤ h) (h1 : h < 18432) (hq : ¬ (h / 128 % 2 = 0 ∧ h % 8 = 0)) : none = shortP h it := short_none (.inl (by unfold Sm.badP; exact (Or.inr (Or.inr (Or.inr (Or.inl (⟨by omega, by omega, hq⟩)))))))
theorem f_18432 (h : Int) (it : Bool) (h0 : 18432 ≤ h) (h1 : h < 20480) : hit (true) ⟨40, 0, h / 256 % 8, 0, 0, h % 256 * 4, 1, 0, false⟩ none = shortP h it := by
  have e : Nm.decI h it = ⟨40, 0, h / 256 % 8, 0, 0, h % 256 * 4, 1, 0, false⟩ := by
    unfold Nm.decI
    repeat (first | rw [if_neg (by omega)] | rw [if_pos (by omega)])
    all_goals (refine Nm.mk_eq ?_ ?_ ?_ ?_ ?_ ?_ ?_ ?_ ?_ <;> first | with_reducible rfl | omega | rfl)
  exact short_some (A := true) e (by omega) (fun _ hb => by unfold Sm.badP at hb; omega) (fun x => by cases x)
theorem f_20480 (h : Int) (it : Bool) (h0 : 20480 ≤ h) (h1 : h < 20992) : hit (true) ⟨28, 0, h % 8, h / 8 % 8, h / 64 % 8, 0, 2, 0, false⟩ none = shortP h it := by
  have e : Nm.decI h it = ⟨28, 0, h % 8, h / 8 % 8, h / 64 % 8, 0, 2, 0, false⟩ := by
    unfold Nm.decI Nm.dec3
    repeat (first | rw [if_neg (by omega)] | rw [if_pos (by omega)])
    all_goals (refine Nm.mk_eq ?_ ?_ ?_ ?_ ?_ ?_ ?_ ?_ ?_ <;> first | with_reducible rfl | omega | rfl)
  exact short_some (A := true) e (by omega) (fun _ hb => by unfold Sm.badP at hb; omega) (fun x => by cases x)
theorem f_20992 (h : Int) (it : Bool) (h0 : 20992 ≤ h) (h1 : h < 21504) : hit (true) ⟨30, 0, h % 8, h / 8 % 8, h / 64 % 8, 0, 2, 0, false⟩ none = shortP h it := by
  have e : Nm.decI h it = ⟨30, 0, h % 8, h / 8 % 8, h / 64 % 8, 0, 2, 0, false⟩ := by
    unfold Nm.decI Nm.dec3
    repeat (first | rw [if_neg (by omega)] | rw [if_pos (by omega)])
    all_goals (refine Nm.mk_eq ?_ ?_ ?_ ?_ ?_ ?_ ?_ ?_ ?_ <;> first | with_reducible rfl | omega | rfl)
  exact short_some (A := true) e (by omega) (fun _ hb => by unfold Sm.badP at hb; omega) (fun x => by cases x)
theorem f_21504 (h : Int) (it : Bool) (h0 : 21504 ≤ h) (h1 : h < 22016) : hit (true) ⟨29, 0, h % 8, h / 8 % 8, h / 64 % 8, 0, 2, 0, false⟩ none = shortP h it := by
  have e : Nm.decI h it = ⟨29, 0, h % 8, h / 8 % 8, h / 64 % 8, 0, 2, 0, false⟩ := by
    unfold Nm.decI Nm.dec3
    repeat (first | rw [if_neg (by omega)] | rw [if_pos (by omega)])
    all_goals (refine Nm.mk_eq ?_ ?_ ?_ ?_ ?_ ?_ ?_ ?_ ?_ <;> first | with_reducible rfl | omega | rfl)
  exact short_some (A := true) e (by omega) (fun _ hb => by unfold Sm.badP at hb; omega) (fun x => by cases x)
theorem f_22016 (h : Int) (it : Bool) (h0 : 22016 ≤ h) (h1 : h < 22528) : none = shortP h it := short_none (.inl (by unfold Sm.badP; exact (Or.inr (Or.inr (Or.inr (Or.inr (Or.inl (⟨by omega, by omega⟩))))))))
theorem f_22528 (h : Int) (it : Bool) (h0 : 22528 ≤ h) (h1 : h < 23040) : hit (true) ⟨25, 0, h % 8, h / 8 % 8, h / 64 % 8, 0, 2, 0, false⟩ none = shortP h it := by
  have e : Nm.decI h it = ⟨25, 0, h % 8, h / 8 % 8, h / 64 % 8, 0, 2, 0, false⟩ := by
    unfold Nm.decI Nm.dec3
    repeat (first | rw [if_neg (by omega)] | rw [if_pos (by omega)])
    all_goals (refine Nm.mk_eq ?_ ?_ ?_ ?_ ?_ ?_ ?_ ?_ ?_ <;> first | with_reducible rfl | omega | rfl)
  exact short_some (A := true) e (by omega) (fun _ hb => by unfold Sm.badP at hb; omega) (fun x => by cases x)
theorem f_23040 (h : Int) (it : Bool) (h0 : 23040 ≤ h) (h1 : h < 23552) : hit (true) ⟨27, 0, h % 8, h / 8 % 8, h / 64 % 8, 0, 2, 0, false⟩ none = shortP h it := by
  have e : Nm.decI h it = ⟨27, 0, h % 8, h / 8 % 8, h / 64 % 8, 0, 2, 0, false⟩ := by
    unfold Nm.decI Nm.dec3
    repeat (first | rw [if_neg (by omega)] | rw [if_pos (by omega)])
    all_goals (refine Nm.mk_eq ?_ ?_ ?_ ?_ ?_ ?_ ?_ ?_ ?_ <;> first | with_reducible rfl | omega | rfl)
  exact short_some (A := true) e (by omega) (fun _ hb => by unfold Sm.badP at hb; omega) (fun x => by cases x)
theorem f_23552 (h : Int) (it : Bool) (h0 : 23552 ≤ h) (h1 : h < 24064) : hit (true) ⟨26, 0, h % 8, h / 8 % 8, h / 64 % 8, 0, 2, 0, false⟩ none = shortP h it := by
  have e : Nm.decI h it = ⟨26, 0, h % 8, h / 8 % 8, h / 64 % 8, 0, 2, 0, false⟩ := by
    unfold Nm.decI Nm.dec3
    repeat (first | rw [if_neg (by omega)] | rw [if_pos (by omega)])
    all_goals (refine Nm.mk_eq ?_ ?_ ?_ ?_ ?_ ?_ ?_ ?_ ?_ <;> first | with_reducible rfl | omega | rfl)
  exact short_some (A := true) e (by omega) (fun _ hb => by unfold Sm.badP at hb; omega) (fun x => by cases x)
theorem f_24064 (h : Int) (it : Bool) (h0 : 24064 ≤ h) (h1 : h < 24576) : none = shortP h it := short_none (.inl (by unfold Sm.badP; exact (Or.inr (Or.inr (Or.inr (Or.inr (Or.inr (Or.inl (⟨by omega, by omega⟩)))))))))
theorem f_24576 (h : Int) (it : Bool) (h0 : 24576 ≤ h) (h1 : h < 26624) : hit (true) ⟨28, 0, h % 8, h / 8 % 8, 0, h / 64 % 32 * 4, 1, 0, false⟩ none = shortP h it := by
  have e : Nm.decI h it = ⟨28, 0, h % 8, h / 8 % 8, 0, h / 64 % 32 * 4, 1, 0, false⟩ := by
    unfold Nm.decI Nm.dec3
    repeat (first | rw [if_neg (by omega)] | rw [if_pos (by omega)])
    all_goals (refine Nm.mk_eq ?_ ?_ ?_ ?_ ?_ ?_ ?_ ?_ ?_ <;> first | with_reducible rfl | omega | rfl)
  exact short_some (A := true) e (by omega) (fun _ hb => by unfold Sm.badP at hb; omega) (fun x => by cases x)
theorem f_26624 (h : Int) (it : Bool) (h0 : 26624 ≤ h) (h1 : h < 28672) : hit (true) ⟨25, 0, h % 8, h / 8 % 8, 0, h / 64 % 32 * 4, 1, 0, false⟩ none = shortP h it := by
  have e : Nm.decI h it = ⟨25, 0, h % 8, h / 8 % 8, 0, h / 64 % 32 * 4, 1, 0, false⟩ := by
    unfold Nm.decI Nm.dec3
    repeat (first | rw [if_neg (by omega)] | rw [if_pos (by omega)])
    all_goals (refine Nm.mk_eq ?_ ?_ ?_ ?_ ?_ ?_ ?_ ?_ ?_ <;> first | with_reducible rfl | omega | rfl)
  exact short_some (A := true) e (by omega) (fun _ hb => by unfold Sm.badP at hb; omega) (fun x => by cases x)
theorem f_28672 (h : Int) (it : Bool) (h0 : 28672 ≤ h) (h1 : h < 30720) : hit (true) ⟨29, 0, h % 8, h / 8 % 8, 0, h / 64 % 32, 1, 0, false⟩ none = shortP h it := by
  have e : Nm.decI h it = ⟨29, 0, h % 8, h / 8 % 8, 0, h / 64 % 32, 1, 0, false⟩ := by
    unfold Nm.decI Nm.dec3
    repeat (first | rw [if_neg (by omega)] | rw [if_pos (by omega)])
    all_goals (refine Nm.mk_eq ?_ ?_ ?_ ?_ ?_ ?_ ?_ ?_ ?_ <;> first | with_reducible rfl | omega | rfl)
  exact short_some (A := true) e (by omega) (fun _ hb => by unfold Sm.badP at hb; omega) (fun x => by cases x)
theorem f_30720 (h : Int) (it : Bool) (h0 : 30720 ≤ h) (h1 : h < 32768) : hit (true) ⟨26, 0, h % 8, h / 8 % 8, 0, h / 64 % 32, 1, 0, false⟩ none = shortP h it := by
  have e : Nm.decI h it = ⟨26, 0, h % 8, h / 8 % 8, 0, h / 64 % 32, 1, 0, false⟩ := by
    unfold Nm.decI Nm.dec3
    repeat (first | rw [if_neg (by omega)] | rw [if_pos (by omega)])
    all_goals (refine Nm.mk_eq ?_ ?_ ?_ ?_ ?_ ?_ ?_ ?_ ?_ <;> first | with_reducible rfl | omega | rfl)
  exact short_some (A := true) e (by omega) (fun _ hb => by unfold Sm.badP at hb; omega) (fun x => by cases x)
theorem f_32768 (h : Int) (it : Bool) (h0 : 32768 ≤ h) (h1 : h < 34816) : hit (true) ⟨30, 0, h % 8, h / 8 % 8, 0, h / 64 % 32 * 2, 1, 0, false⟩ none = shortP h it := by
  have e : Nm.decI h it = ⟨30, 0, h % 8, h / 8 % 8, 0, h / 64 % 32 * 2, 1, 0, false⟩ := by
    unfold Nm.decI Nm.dec3
    repeat (first | rw [if_neg (by omega)] | rw [if_pos (by omega)])
    all_goals (refine Nm.mk_eq ?_ ?_ ?_ ?_ ?_ ?_ ?_ ?_ ?_ <;> first | with_reducible rfl | omega | rfl)
  exact short_some (A := true) e (by omega) (fun _ hb => by unfold Sm.badP at hb; omega) (fun x => by cases x)
theorem f_34816 (h : Int) (it : Bool) (h0 : 34816 ≤ h) (h1 : h < 36864) : hit (true) ⟨27, 0, h % 8, h / 8 % 8, 0, h / 64 % 32 * 2, 1, 0, false⟩ none = shortP h it := by
  have e : Nm.decI h it = ⟨27, 0, h % 8, h / 8 % 8, 0, h / 64 % 32 * 2, 1, 0, false⟩ := by
    unfold Nm.decI Nm.dec3
    repeat (first | rw [if_neg (by omega)] | rw [if_pos (by omega)])
    all_goals (refine Nm.mk_eq ?_ ?_ ?_ ?_ ?_ ?_ ?_ ?_ ?_ <;> first | with_reducible rfl | omega | rfl)
  exact short_some (A := true) e (by omega) (fun _ hb => by unfold Sm.badP at hb; omega) (fun x => by cases x)
theorem f_36864 (h : Int) (it : Bool) (h0 : 36864 ≤ h) (h1 : h < 38912) : hit (true) ⟨28, 0, h / 256 % 8, 13, 0, h % 256 * 4, 1, 0, false⟩ none = shortP h it := by
  have e : Nm.decI h it = ⟨28, 0, h / 256 % 8, 13, 0, h % 256 * 4, 1, 0, false⟩ := by
    unfold Nm.decI Nm.dec3
    repeat (first | rw [if_neg (by omega)] | rw [if_pos (by omega)])
    all_goals (refine Nm.mk_eq ?_ ?_ ?_ ?_ ?_ ?_ ?_ ?_ ?_ <;> first | with_reducible rfl | omega | rfl)
  exact short_some (A := true) e (by omega) (fun _ hb => by unfold Sm.badP at hb; omega) (fun x => by cases x)
theorem f_38912 (h : Int) (it : Bool) (h0 : 38912 ≤ h) (h1 : h < 40960) : hit (true) ⟨25, 0, h / 256 % 8, 13, 0, h % 256 * 4, 1, 0, false⟩ none = shortP h it := by
  have e : Nm.decI h it = ⟨25, 0, h / 256 % 8, 13, 0, h % 256 * 4, 1, 0, false⟩ := by
    unfold Nm.decI Nm.dec3
    repeat (first | rw [if_neg (by omega)] | rw [if_pos (by omega)])
    all_goals (refine Nm.mk_eq ?_ ?_ ?_ ?_ ?_ ?_ ?_ ?_ ?_ <;> first | with_reducible rfl | omega | rfl)
  exact short_some (A := true) e (by omega) (fun _ hb => by unfold Sm.badP at hb; omega) (fun x => by cases x)
theorem f_40960 (h : Int) (it : Bool) (h0 : 40960 ≤ h) (h1 : h < 43008) : hit (true) ⟨41, 0, h / 256 % 8, 0, 0, h % 256 * 4, 1, 0, false⟩ none = shortP h it := by
  have e : Nm.decI h it = ⟨41, 0, h / 256 % 8, 0, 0, h % 256 * 4, 1, 0, false⟩ := by
    unfold Nm.decI
    repeat (first | rw [if_neg (by omega)] | rw [if_pos (by omega)])
    all_goals (refine Nm.mk_eq ?_ ?_ ?_ ?_ ?_ ?_ ?_ ?_ ?_ <;> first | with_reducible rfl | omega | rfl)
  exact short_some (A := true) e (by omega) (fun _ hb => by unfold Sm.badP at hb; omega) (fun x => by cases x)
theorem f_43008 (h : Int) (it : Bool) (h0 : 43008 ≤ h) (h1 : h < 45312) : none = shortP h it := short_none (.inl (by unfold Sm.badP; exact (Or.inr (Or.inr (Or.inr (Or.inr (Or.inr (Or.inr (Or.inl (⟨by omega, by omega⟩))))))))))
set_option linter.unusedSimpArgs false in
theorem f_45312 (h : Int) (it : Bool) (h0 : 45312 ≤ h) (h1 : h < 45568) : hit (!it) ⟨37, 0, 0, h % 8, 0, aheadI h, 1, 0, false⟩ none = shortP h it := by
  cases it with
  | false =>
    have e : Nm.decI h false = ⟨37, 0, 0, h % 8, 0, aheadI h, 1, 0, false⟩ := by
      unfold Nm.decI Nm.dec4
      repeat (first | rw [if_neg (by omega)] | rw [if_pos (by omega)])
      all_goals (refine Nm.mk_eq ?_ ?_ ?_ ?_ ?_ ?_ ?_ ?_ ?_ <;> first | with_reducible rfl | omega | rfl)
    have hA : (!false) = true := rfl
    exact short_some e (by omega) (fun _ hb => by unfold Sm.badP at hb; simp only [reduceCtorEq, and_false, false_or, or_false, false_and, and_true, true_and, true_or, or_true] at hb; omega) (fun x => by rw [hA] at x; cases x)
  | true =>
    rw [hit_no rfl]
    exact short_none (.inl (by unfold Sm.badP; exact (Or.inr (Or.inr (Or.inr (Or.inr (Or.inr (Or.inr (Or.inr (Or.inr (Or.inl (⟨by omega, by omega, rfl⟩))))))))))))
theorem f_45568 (h : Int) (it : Bool) (h0 : 45568 ≤ h) (h1 : h < 45824) : none = shortP h it := short_none (.inl (by unfold Sm.badP; exact (Or.inr (Or.inr (Or.inr (Or.inr (Or.inr (Or.inr (Or.inr (Or.inl (⟨by omega, by omega⟩)))))))))))
set_option linter.unusedSimpArgs false in
theorem f_45824 (h : Int) (it : Bool) (h0 : 45824 ≤ h) (h1 : h < 46080) : hit (!it) ⟨37, 0, 0, h % 8, 0, aheadI h, 1, 0, false⟩ none = shortP h it := by
  cases it with
  | false =>
    have e : Nm.decI h false = ⟨37, 0, 0, h % 8, 0, aheadI h, 1, 0, false⟩ := by
      unfold Nm.decI Nm.dec4
      repeat (first | rw [if_neg (by omega)] | rw [if_pos (by omega)])
      all_goals (refine Nm.mk_eq ?_ ?_ ?_ ?_ ?_ ?_ ?_ ?_ ?_ <;> first | with_reducible rfl | omega | rfl)
    have hA : (!false) = true := rfl
    exact short_some e (by omega) (fun _ hb => by unfold Sm.badP at hb; simp only [reduceCtorEq, and_false, false_or, or_false, false_and, and_true, true_and, true_or, or_true] at hb; omega) (fun x => by rw [hA] at x; cases x)
  | true =>
    rw [hit_no rfl]
    exact short_none (.inl (by unfold Sm.badP; exact (Or.inr (Or.inr (Or.inr (Or.inr (Or.inr (Or.inr (Or.inr (Or.inr (Or.inr (Or.inl (⟨by omega, by omega, rfl⟩)))))))))))))
theorem f_46080 (h : Int) (it : Bool) (h0 : 46080 ≤ h) (h1 : h < 46592) : hit (true) ⟨33, 0, 0, 0, 0, 0, 0, h / 256 % 2 * 16384 + h % 256, false⟩ none = shortP h it := by
  have e : Nm.decI h it = ⟨33, 0, 0, 0, 0, 0, 0, h / 256 % 2 * 16384 + h % 256, false⟩ := by
    unfold Nm.decI Nm.dec4
    repeat (first | rw [if_neg (by omega)] | rw [if_pos (by omega)])
    all_goals (refine Nm.mk_eq ?_ ?_ ?_ ?_ ?_ ?_ ?_ ?_ ?_ <;> first | with_reducible rfl | omega | rfl)
  exact short_some (A := true) e (by omega) (fun _ hb => by unfold Sm.badP at hb; omega) (fun x => by cases x)
theorem f_46592 (h : Int) (it : Bool) (h0 : 46592 ≤ h) (h1 : h < 47360) : none = shortP h it := short_none (.inl (by unfold Sm.badP; exact (Or.inr (Or.inr (Or.inr (Or.inr (Or.inr (Or.inr (Or.inr (Or.inr (Or.inr (Or.inr (Or.inl (⟨by omega, by omega⟩))))))))))))))
set_option linter.unusedSimpArgs false in
theorem f_47360 (h : Int) (it : Bool) (h0 : 47360 ≤ h) (h1 : h < 47616) : hit (!it) ⟨38, 0, 0, h % 8, 0, aheadI h, 1, 0, false⟩ none = shortP h it := by
  cases it with
  | false =>
    have e : Nm.decI h false = ⟨38, 0, 0, h % 8, 0, aheadI h, 1, 0, false⟩ := by
      unfold Nm.decI Nm.dec4
      repeat (first | rw [if_neg (by omega)] | rw [if_pos (by omega)])
      all_goals (refine Nm.mk_eq ?_ ?_ ?_ ?_ ?_ ?_ ?_ ?_ ?_ <;> first | with_reducible rfl | omega | rfl)
    have hA : (!false) = true := rfl
    exact short_some e (by omega) (fun _ hb => by unfold Sm.badP at hb; simp only [reduceCtorEq, and_false, false_or, or_false, false_and, and_true, true_and, true_or, or_true] at hb; omega) (fun x => by rw [hA] at x; cases x)
  | true =>
    rw [hit_no rfl]
    exact short_none (.inl (by unfold Sm.badP; exact (Or.inr (Or.inr (Or.inr (Or.inr (Or.inr (Or.inr (Or.inr (Or.inr (Or.inr (Or.inr (Or.inr (Or.inr (Or.inl (⟨by omega, by omega, rfl⟩))))))))))))))))
theorem f_47616 (h : Int) (it : Bool) (h0 : 47616 ≤ h) (h1 : h < 47872) : none = shortP h it := short_none (.inl (by unfold Sm.badP; exact (Or.inr (Or.inr (Or.inr (Or.inr (Or.inr (Or.inr (Or.inr (Or.inr (Or.inr (Or.inr (Or.inr (Or.inl (⟨by omega, by omega⟩)))))))))))))))
set_option linter.unusedSimpArgs false in
theorem f_47872 (h : Int) (it : Bool) (h0 : 47872 ≤ h) (h1 : h < 48128) : hit (!it) ⟨38, 0, 0, h % 8, 0, aheadI h, 1, 0, false⟩ none = shortP h it := by
  cases it with
  | false =>
    have e : Nm.decI h false = ⟨38, 0, 0, h % 8, 0, aheadI h, 1, 0, false⟩ := by
      unfold Nm.decI Nm.dec4
      repeat (first | rw [if_neg (by omega)] | rw [if_pos (by omega)])
      all_goals (refine Nm.mk_eq ?_ ?_ ?_ ?_ ?_ ?_ ?_ ?_ ?_ <;> first | with_reducible rfl | omega | rfl)
    have hA : (!false) = true := rfl
    exact short_some e (by omega) (fun _ hb => by unfold Sm.badP at hb; simp only [reduceCtorEq, and_false, false_or, or_false, false_and, and_true, true_and, true_or, or_true] at hb; omega) (fun x => by rw [hA] at x; cases x)
  | true =>
    rw [hit_no rfl]
    exact short_none (.inl (by unfold Sm.badP; exact (Or.inr (Or.inr (Or.inr (Or.inr (Or.inr (Or.inr (Or.inr (Or.inr (Or.inr (Or.inr (Or.inr (Or.inr (Or.inr (Or.inl (⟨by omega, by omega, rfl⟩)))))))))))))))))
theorem f_48128 (h : Int) (it : Bool) (h0 : 48128 ≤ h) (h1 : h < 48640) : hit (true) ⟨34, 0, 0, 0, 0, 0, 0, h / 256 % 2 * 32768 + h % 256, false⟩ none = shortP h it := by
  have e : Nm.decI h it = ⟨34, 0, 0, 0, 0, 0, 0, h / 256 % 2 * 32768 + h % 256, false⟩ := by
    unfold Nm.decI Nm.dec4
    repeat (first | rw [if_neg (by omega)] | rw [if_pos (by omega)])
    all_goals (refine Nm.mk_eq ?_ ?_ ?_ ?_ ?_ ?_ ?_ ?_ ?_ <;> first | with_reducible rfl | omega | rfl)
  exact short_some (A := true) e (by omega) (fun _ hb => by unfold Sm.badP at hb; omega) (fun x => by cases x)
theorem f_48640 (h : Int) (it : Bool) (h0 : 48640 ≤ h) (h1 : h < 48896) : hit (true) ⟨44, 0, 0, 0, 0, h % 256, 1, 0, false⟩ none = shortP h it := by
  have e : Nm.decI h it = ⟨44, 0, 0, 0, 0, h % 256, 1, 0, false⟩ := by
    unfold Nm.decI Nm.dec4
    repeat (first | rw [if_neg (by omega)] | rw [if_pos (by omega)])
    all_goals (refine Nm.mk_eq ?_ ?_ ?_ ?_ ?_ ?_ ?_ ?_ ?_ <;> first | with_reducible rfl | omega | rfl)
  exact short_some (A := true) e (by omega) (fun _ hb => by unfold Sm.badP at hb; omega) (fun x => by cases x)
theorem f_48896 (h : Int) (it : Bool) (h0 : 48896 ≤ h) (h1 : h < 48897) : hit (!it) ⟨42, h / 16 % 16, 0, 0, 0, h % 16, 1, 0, false⟩ (hit (true) ⟨43, 0, 0, 0, 0, 0, 0, 0, false⟩ none) = shortP h it := by
  rw [hit_no (i := ⟨42, h / 16 % 16, 0, 0, 0, h % 16, 1, 0, false⟩) (by rw [show h % 16 = 0 by omega, ok_it0]; simp)]
  have e : Nm.decI h it = ⟨43, 0, 0, 0, 0, 0, 0, 0, false⟩ := by
    unfold Nm.decI Nm.dec4
    repeat (first | rw [if_neg (by omega)] | rw [if_pos (by omega)])
    all_goals (refine Nm.mk_eq ?_ ?_ ?_ ?_ ?_ ?_ ?_ ?_ ?_ <;> first | with_reducible rfl | omega | rfl)
  exact short_some (A := true) e (by omega) (fun _ hb => by unfold Sm.badP at hb; omega) (fun x => by cases x)
set_option linter.unusedSimpArgs false in
theorem f_48897 (h : Int) (it : Bool) (h0 : 48897 ≤ h) (h1 : h < 49152) : hit (!it) ⟨42, h / 16 % 16, 0, 0, 0, h % 16, 1, 0, false⟩ none = shortP h it := by
  cases it with
  | false =>
    by_cases hq : h % 16 = 0
    · rw [hit_no (by rw [hq, ok_it0]; rfl)]
      exact short_none (.inl (by unfold Sm.badP; exact (Or.inr (Or.inr (Or.inr (Or.inr (Or.inr (Or.inr (Or.inr (Or.inr (Or.inr (Or.inr (Or.inr (Or.inr (Or.inr (Or.inr (Or.inl (⟨by omega, by omega, .inr (by omega)⟩))))))))))))))))))
    · have e : Nm.decI h false = ⟨42, h / 16 % 16, 0, 0, 0, h % 16, 1, 0, false⟩ := by
        unfold Nm.decI Nm.dec4
        repeat (first | rw [if_neg (by omega)] | rw [if_pos (by omega)])
        all_goals (refine Nm.mk_eq ?_ ?_ ?_ ?_ ?_ ?_ ?_ ?_ ?_ <;> first | with_reducible rfl | omega | rfl)
      exact short_some (A := true) e (by omega) (fun _ hb => by unfold Sm.badP at hb; simp only [reduceCtorEq, and_false, false_or, or_false, false_and, and_true, true_and, true_or, or_true] at hb; omega) (fun x => by cases x)
  | true =>
    rw [hit_no rfl]
    exact short_none (.inl (by unfold Sm.badP; exact (Or.inr (Or.inr (Or.inr (Or.inr (Or.inr (Or.inr (Or.inr (Or.inr (Or.inr (Or.inr (Or.inr (Or.inr (Or.inr (Or.inr (Or.inl (⟨by omega, by omega, .inl rfl⟩))))))))))))))))))
theorem f_49152 (h : Int) (it : Bool) (h0 : 49152 ≤ h) (h1 : h < 51200) : hit (true) ⟨32, 0, 0, h / 256 % 8, 0, 0, 0, h % 256, false⟩ none = shortP h it := by
  have e : Nm.decI h it = ⟨32, 0, 0, h / 256 % 8, 0, 0, 0, h % 256, false⟩ := by
    unfold Nm.decI
    repeat (first | rw [if_neg (by omega)] | rw [if_pos (by omega)])
    all_goals (refine Nm.mk_eq ?_ ?_ ?_ ?_ ?_ ?_ ?_ ?_ ?_ <;> first | with_reducible rfl | omega | rfl)
  exact short_some (A := true) e (by omega) (fun _ hb => by unfold Sm.badP at hb; omega) (fun x => by cases x)
theorem f_51200 (h : Int) (it : Bool) (h0 : 51200 ≤ h) (h1 : h < 53248) : hit (true) ⟨31, 0, 0, h / 256 % 8, 0, 0, 0, h % 256, false⟩ none = shortP h it := by
  have e : Nm.decI h it = ⟨31, 0, 0, h / 256 % 8, 0, 0, 0, h % 256, false⟩ := by
    unfold Nm.decI
    repeat (first | rw [if_neg (by omega)] | rw [if_pos (by omega)])
    all_goals (refine Nm.mk_eq ?_ ?_ ?_ ?_ ?_ ?_ ?_ ?_ ?_ <;> first | with_reducible rfl | omega | rfl)
  exact short_some (A := true) e (by omega) (fun _ hb => by unfold Sm.badP at hb; omega) (fun x => by cases x)
set_option linter.unusedSimpArgs false in
theorem f_53248 (h : Int) (it : Bool) (h0 : 53248 ≤ h) (h1 : h < 56832) : hit ((!it && !((h / 256 % 16) == 14))) ⟨35, h / 256 % 16, 0, 0, 0, nearI h, 1, 0, false⟩ none = shortP h it := by
  cases it with
  | false =>
    have e : Nm.decI h false = ⟨35, h / 256 % 16, 0, 0, 0, nearI h, 1, 0, false⟩ := by
      unfold Nm.decI
      repeat (first | rw [if_neg (by omega)] | rw [if_pos (by omega)])
      all_goals (refine Nm.mk_eq ?_ ?_ ?_ ?_ ?_ ?_ ?_ ?_ ?_ <;> first | with_reducible rfl | omega | rfl)
    have hA : ((!false && !((h / 256 % 16) == 14))) = true := by rw [show ((h / 256 % 16) == 14) = false by simp; omega]; rfl
    exact short_some e (by omega) (fun _ hb => by unfold Sm.badP at hb; simp only [reduceCtorEq, and_false, false_or, or_false, false_and, and_true, true_and, true_or, or_true] at hb; omega) (fun x => by rw [hA] at x; cases x)
  | true =>
    rw [hit_no rfl]
    exact short_none (.inl (by unfold Sm.badP; exact (Or.inr (Or.inr (Or.inr (Or.inr (Or.inr (Or.inr (Or.inr (Or.inr (Or.inr (Or.inr (Or.inr (Or.inr (Or.inr (Or.inr (Or.inr (⟨by omega, by omega, .inl rfl⟩))))))))))))))))))
theorem f_56832 (h : Int) (it : Bool) (h0 : 56832 ≤ h) (h1 : h < 57088) : hit ((!it && !((h / 256 % 16) == 14))) ⟨35, h / 256 % 16, 0, 0, 0, nearI h, 1, 0, false⟩ none = shortP h it := by
  rw [hit_no (by rw [show h / 256 % 16 = 14 by omega]; cases it <;> rfl)]
  exact short_none (.inl (by unfold Sm.badP; exact (Or.inr (Or.inr (Or.inr (Or.inr (Or.inr (Or.inr (Or.inr (Or.inr (Or.inr (Or.inr (Or.inr (Or.inr (Or.inr (Or.inr (Or.inr (⟨by omega, by omega, .inr (by omega)⟩))))))))))))))))))
theorem f_57088 (h : Int) (it : Bool) (h0 : 57088 ≤ h) (h1 : h < 57344) : hit ((!it && !((h / 256 % 16) == 14))) ⟨35, h / 256 % 16, 0, 0, 0, nearI h, 1, 0, false⟩ none = shortP h it := by
  rw [hit_no (by rw [show h / 256 % 16 = 15 by omega, ok_nv]; simp)]
  exact short_none (.inl (by unfold Sm.badP; exact (Or.inr (Or.inr (Or.inr (Or.inr (Or.inr (Or.inr (Or.inr (Or.inr (Or.inr (Or.inr (Or.inr (Or.inr (Or.inr (Or.inr (Or.inr (⟨by omega, by omega, .inr (by omega)⟩))))))))))))))))))
theorem f_57344 (h : Int) (it : Bool) (h0 : 57344 ≤ h) (h1 : h < 59392) : hit (true) ⟨35, 14, 0, 0, 0, farI h, 1, 0, false⟩ none = shortP h it := by
  have e : Nm.decI h it = ⟨35, 14, 0, 0, 0, farI h, 1, 0, false⟩ := by
    unfold Nm.decI
    repeat (first | rw [if_neg (by omega)] | rw [if_pos (by omega)])
    all_goals (refine Nm.mk_eq ?_ ?_ ?_ ?_ ?_ ?_ ?_ ?_ ?_ <;> first | with_reducible rfl | omega | rfl)
  exact short_some (A := true) e (by omega) (fun _ hb => by unfold Sm.badP at hb; omega) (fun x => by cases x)
theorem f_59392 (h : Int) (it : Bool) (h0 : 59392 ≤ h) (_h1 : h < 65536) : none = shortP h it := short_none (.inr (by omega))
set_option maxHeartbeats 4000000 in
theorem b_0 (h : Int) (it : Bool) (h0 : 0 ≤ h) (h1 : h < 14336) : searchP rowsT h it = shortP h it := by
  have hc : (0 ≤ h ∧ h < 64) ∨ (64 ≤ h ∧ h < 2048) ∨ (2048 ≤ h ∧ h < 2112) ∨ (2112 ≤ h ∧ h < 4096) ∨ (4096 ≤ h ∧ h < 4160) ∨ (4160 ≤ h ∧ h < 6144) ∨ (6144 ≤ h ∧ h < 6656) ∨ (6656 ≤ h ∧ h < 7168) ∨ (7168 ≤ h ∧ h < 7680) ∨ (7680 ≤ h ∧ h < 8192) ∨ (8192 ≤ h ∧ h < 10240) ∨ (10240 ≤ h ∧ h < 12288) ∨ (12288 ≤ h ∧ h < 14336) := by omega
  unfold rowsT
  rcases hc with ⟨a, b⟩ | ⟨a, b⟩ | ⟨a, b⟩ | ⟨a, b⟩ | ⟨a, b⟩ | ⟨a, b⟩ | ⟨a, b⟩ | ⟨a, b⟩ | ⟨a, b⟩ | ⟨a, b⟩ | ⟨a, b⟩ | ⟨a, b⟩ | ⟨a, b⟩
  all_goals
    first | rw [N0 (by omega)] | rw [H0_0 (by omega)] | rw [H0_1 (by omega)] | rw [H0_2 (by omega)] | rw [H0_3 (by omega)] | rw [H0_4 (by omega)] | rw [H0_5 (by omega)]
    first | rw [N1 (by omega)] | rw [H1_0 (by omega)]
    first | rw [N2 (by omega)] | rw [H2_0 (by omega)]
    first | rw [N3 (by omega)] | rw [H3_0 (by omega)]
    first | rw [N4 (by omega)] | rw [H4_0 (by omega)] | rw [H4_1 (by omega)]
    first | rw [N5 (by omega)] | rw [H5_0 (by omega)]
    first | rw [N6 (by omega)] | rw [H6_0 (by omega)]
    first | rw [N7 (by omega)] | rw [H7_0 (by omega)]
    first | rw [N8 (by omega)] | rw [H8_0 (by omega)]
    first | rw [N9 (by omega)] | rw [H9_0 (by omega)]
    first | rw [N10 (by omega)] | rw [H10_0 (by omega)]
    first | rw [N11 (by omega)] | rw [H11_0 (by omega)] | rw [H11_1 (by omega)]
    first | rw [N12 (by omega)] | rw [H12_0 (by omega)]
    first | rw [N13 (by omega)] | rw [H13_0 (by omega)] | rw [H13_1 (by omega)]
    first | rw [N14 (by omega)] | rw [H14_0 (by omega)] | rw [H14_1 (by omega)]
    first | rw [N15 (by omega)] | rw [H15_0 (by omega)] | rw [H15_1 (by omega)] | rw [H15_2 (by omega)]
    first | rw [N16 (by omega)] | rw [H16_0 (by omega)] | rw [H16_1 (by omega)]
    first | rw [N17 (by omega)] | rw [H17_0 (by omega)] | rw [H17_1 (by omega)] | rw [H17_2 (by omega)] | rw [H17_3 (by omega)]
    first | rw [N18 (by omega)] | rw [H18_0 (by omega)] | rw [H18_1 (by omega)]
    first | rw [N19 (by omega)] | rw [H19_0 (by omega)] | rw [H19_1 (by omega)]
    first | rw [N20 (by omega)] | rw [H20_0 (by omega)] | rw [H20_1 (by omega)]
    first | rw [N21 (by omega)] | rw [H21_0 (by omega)] | rw [H21_1 (by omega)]
    first | rw [N22 (by omega)] | rw [H22_0 (by omega)] | rw [H22_1 (by omega)] | rw [H22_2 (by omega)] | rw [H22_3 (by omega)] | rw [H22_4 (by omega)] | rw [H22_5 (by omega)]
    first | rw [N23 (by omega)] | rw [H23_0 (by omega)] | rw [H23_1 (by omega)]
    first | rw [N24 (by omega)] | rw [H24_0 (by omega)]
    first | rw [N25 (by omega)] | rw [H25_0 (by omega)]
    first | rw [N26 (by omega)] | rw [H26_0 (by omega)]
    first | rw [N27 (by omega)] | rw [H27_0 (by omega)]
    first | rw [N28 (by omega)] | rw [H28_0 (by omega)] | rw [H28_1 (by omega)]
    first | rw [N29 (by omega)] | rw [H29_0 (by omega)]
    first | rw [N30 (by omega)] | rw [H30_0 (by omega)] | rw [H30_1 (by omega)]
    first | rw [N31 (by omega)] | rw [H31_0 (by omega)]
    first | rw [N32 (by omega)] | rw [H32_0 (by omega)]
    first | rw [N33 (by omega)] | rw [H33_0 (by omega)]
  · exact f_0 h it a b
  · exact f_64 h it a b
  · exact f_2048 h it a b
  · exact f_2112 h it a b
  · exact f_4096 h it a b
  · exact f_4160 h it a b
  · exact f_6144 h it a b
  · exact f_6656 h it a b
  · exact f_7168 h it a b
  · exact f_7680 h it a b
  · exact f_8192 h it a b
  · exact f_10240 h it a b
  · exact f_12288 h it a b
set_option maxHeartbeats 4000000 in
theorem b_1 (h : Int) (it : Bool) (h0 : 14336 ≤ h) (h1 : h < 17152) : searchP rowsT h it = shortP h it := by
  have hc : (14336 ≤ h ∧ h < 16384) ∨ (16384 ≤ h ∧ h < 16448) ∨ (16448 ≤ h ∧ h < 16512) ∨ (16512 ≤ h ∧ h < 16576) ∨ (16576 ≤ h ∧ h < 16640) ∨ (16640 ≤ h ∧ h < 16704) ∨ (16704 ≤ h ∧ h < 16768) ∨ (16768 ≤ h ∧ h < 16832) ∨ (16832 ≤ h ∧ h < 16896) ∨ (16896 ≤ h ∧ h < 16960) ∨ (16960 ≤ h ∧ h < 17024) ∨ (17024 ≤ h ∧ h < 17088) ∨ (17088 ≤ h ∧ h < 17152) := by omega
  unfold rowsT
  rcases hc with ⟨a, b⟩ | ⟨a, b⟩ | ⟨a, b⟩ | ⟨a, b⟩ | ⟨a, b⟩ | ⟨a, b⟩ | ⟨a, b⟩ | ⟨a, b⟩ | ⟨a, b⟩ | ⟨a, b⟩ | ⟨a, b⟩ | ⟨a, b⟩ | ⟨a, b⟩
  all_goals
    first | rw [N0 (by omega)] | rw [H0_0 (by omega)] | rw [H0_1 (by omega)] | rw [H0_2 (by omega)] | rw [H0_3 (by omega)] | rw [H0_4 (by omega)] | rw [H0_5 (by omega)]
    first | rw [N1 (by omega)] | rw [H1_0 (by omega)]
    first | rw [N2 (by omega)] | rw [H2_0 (by omega)]
    first | rw [N3 (by omega)] | rw [H3_0 (by omega)]
    first | rw [N4 (by omega)] | rw [H4_0 (by omega)] | rw [H4_1 (by omega)]
    first | rw [N5 (by omega)] | rw [H5_0 (by omega)]
    first | rw [N6 (by omega)] | rw [H6_0 (by omega)]
    first | rw [N7 (by omega)] | rw [H7_0 (by omega)]
    first | rw [N8 (by omega)] | rw [H8_0 (by omega)]
    first | rw [N9 (by omega)] | rw [H9_0 (by omega)]
    first | rw [N10 (by omega)] | rw [H10_0 (by omega)]
    first | rw [N11 (by omega)] | rw [H11_0 (by omega)] | rw [H11_1 (by omega)]
    first | rw [N12 (by omega)] | rw [H12_0 (by omega)]
    first | rw [N13 (by omega)] | rw [H13_0 (by omega)] | rw [H13_1 (by omega)]
    first | rw [N14 (by omega)] | rw [H14_0 (by omega)] | rw [H14_1 (by omega)]
    first | rw [N15 (by omega)] | rw [H15_0 (by omega)] | rw [H15_1 (by omega)] | rw [H15_2 (by omega)]
    first | rw [N16 (by omega)] | rw [H16_0 (by omega)] | rw [H16_1 (by omega)]
    first | rw [N17 (by omega)] | rw [H17_0 (by omega)] | rw [H17_1 (by omega)] | rw [H17_2 (by omega)] | rw [H17_3 (by omega)]
    first | rw [N18 (by omega)] | rw [H18_0 (by omega)] | rw [H18_1 (by omega)]
    first | rw [N19 (by omega)] | rw [H19_0 (by omega)] | rw [H19_1 (by omega)]
    first | rw [N20 (by omega)] | rw [H20_0 (by omega)] | rw [H20_1 (by omega)]
    first | rw [N21 (by omega)] | rw [H21_0 (by omega)] | rw [H21_1 (by omega)]
    first | rw [N22 (by omega)] | rw [H22_0 (by omega)] | rw [H22_1 (by omega)] | rw [H22_2 (by omega)] | rw [H22_3 (by omega)] | rw [H22_4 (by omega)] | rw [H22_5 (by omega)]
    first | rw [N23 (by omega)] | rw [H23_0 (by omega)] | rw [H23_1 (by omega)]
    first | rw [N24 (by omega)] | rw [H24_0 (by omega)]
    first | rw [N25 (by omega)] | rw [H25_0 (by omega)]
    first | rw [N26 (by omega)] | rw [H26_0 (by omega)]
    first | rw [N27 (by omega)] | rw [H27_0 (by omega)]
    first | rw [N28 (by omega)] | rw [H28_0 (by omega)] | rw [H28_1 (by omega)]
    first | rw [N29 (by omega)] | rw [H29_0 (by omega)]
    first | rw [N30 (by omega)] | rw [H30_0 (by omega)] | rw [H30_1 (by omega)]
    first | rw [N31 (by omega)] | rw [H31_0 (by omega)]
    first | rw [N32 (by omega)] | rw [H32_0 (by omega)]
    first | rw [N33 (by omega)] | rw [H33_0 (by omega)]
  · exact f_14336 h it a b
  · exact f_16384 h it a b
  · exact f_16448 h it a b
  · exact f_16512 h it a b
  · exact f_16576 h it a b
  · exact f_16640 h it a b
  · exact f_16704 h it a b
  · exact f_16768 h it a b
  · exact f_16832 h it a b
  · exact f_16896 h it a b
  · exact f_16960 h it a b
  · exact f_17024 h it a b
  · exact f_17088 h it a b
set_option maxHeartbeats 4000000 in
theorem b_2 (h : Int) (it : Bool) (h0 : 17152 ≤ h) (h1 : h < 22016) : searchP rowsT h it = shortP h it := by
  have hc : (17152 ≤ h ∧ h < 17216) ∨ (17216 ≤ h ∧ h < 17280) ∨ (17280 ≤ h ∧ h < 17344) ∨ (17344 ≤ h ∧ h < 17408) ∨ (17408 ≤ h ∧ h < 17664) ∨ (17664 ≤ h ∧ h < 17920) ∨ (17920 ≤ h ∧ h < 18176) ∨ (18176 ≤ h ∧ h < 18432 ∧ (h / 128 % 2 = 0 ∧ h % 8 = 0)) ∨ (18176 ≤ h ∧ h < 18432 ∧ (¬ (h / 128 % 2 = 0 ∧ h % 8 = 0))) ∨ (18432 ≤ h ∧ h < 20480) ∨ (20480 ≤ h ∧ h < 20992) ∨ (20992 ≤ h ∧ h < 21504) ∨ (21504 ≤ h ∧ h < 22016) := by omega
  unfold rowsT
  rcases hc with ⟨a, b⟩ | ⟨a, b⟩ | ⟨a, b⟩ | ⟨a, b⟩ | ⟨a, b⟩ | ⟨a, b⟩ | ⟨a, b⟩ | ⟨a, b, c⟩ | ⟨a, b, c⟩ | ⟨a, b⟩ | ⟨a, b⟩ | ⟨a, b⟩ | ⟨a, b⟩
  all_goals
    first | rw [N0 (by omega)] | rw [H0_0 (by omega)] | rw [H0_1 (by omega)] | rw [H0_2 (by omega)] | rw [H0_3 (by omega)] | rw [H0_4 (by omega)] | rw [H0_5 (by omega)]
    first | rw [N1 (by omega)] | rw [H1_0 (by omega)]
    first | rw [N2 (by omega)] | rw [H2_0 (by omega)]
    first | rw [N3 (by omega)] | rw [H3_0 (by omega)]
    first | rw [N4 (by omega)] | rw [H4_0 (by omega)] | rw [H4_1 (by omega)]
    first | rw [N5 (by omega)] | rw [H5_0 (by omega)]
    first | rw [N6 (by omega)] | rw [H6_0 (by omega)]
    first | rw [N7 (by omega)] | rw [H7_0 (by omega)]
    first | rw [N8 (by omega)] | rw [H8_0 (by omega)]
    first | rw [N9 (by omega)] | rw [H9_0 (by omega)]
    first | rw [N10 (by omega)] | rw [H10_0 (by omega)]
    first | rw [N11 (by omega)] | rw [H11_0 (by omega)] | rw [H11_1 (by omega)]
    first | rw [N12 (by omega)] | rw [H12_0 (by omega)]
    first | rw [N13 (by omega)] | rw [H13_0 (by omega)] | rw [H13_1 (by omega)]
    first | rw [N14 (by omega)] | rw [H14_0 (by omega)] | rw [H14_1 (by omega)]
    first | rw [N15 (by omega)] | rw [H15_0 (by omega)] | rw [H15_1 (by omega)] | rw [H15_2 (by omega)]
    first | rw [N16 (by omega)] | rw [H16_0 (by omega)] | rw [H16_1 (by omega)]
    first | rw [N17 (by omega)] | rw [H17_0 (by omega)] | rw [H17_1 (by omega)] | rw [H17_2 (by omega)] | rw [H17_3 (by omega)]
    first | rw [N18 (by omega)] | rw [H18_0 (by omega)] | rw [H18_1 (by omega)]
    first | rw [N19 (by omega)] | rw [H19_0 (by omega)] | rw [H19_1 (by omega)]
    first | rw [N20 (by omega)] | rw [H20_0 (by omega)] | rw [H20_1 (by omega)]
    first | rw [N21 (by omega)] | rw [H21_0 (by omega)] | rw [H21_1 (by omega)]
    first | rw [N22 (by omega)] | rw [H22_0 (by omega)] | rw [H22_1 (by omega)] | rw [H22_2 (by omega)] | rw [H22_3 (by omega)] | rw [H22_4 (by omega)] | rw [H22_5 (by omega)]
    first | rw [N23 (by omega)] | rw [H23_0 (by omega)] | rw [H23_1 (by omega)]
    first | rw [N24 (by omega)] | rw [H24_0 (by omega)]
    first | rw [N25 (by omega)] | rw [H25_0 (by omega)]
    first | rw [N26 (by omega)] | rw [H26_0 (by omega)]
    first | rw [N27 (by omega)] | rw [H27_0 (by omega)]
    first | rw [N28 (by omega)] | rw [H28_0 (by omega)] | rw [H28_1 (by omega)]
    first | rw [N29 (by omega)] | rw [H29_0 (by omega)]
    first | rw [N30 (by omega)] | rw [H30_0 (by omega)] | rw [H30_1 (by omega)]
    first | rw [N31 (by omega)] | rw [H31_0 (by omega)]
    first | rw [N32 (by omega)] | rw [H32_0 (by omega)]
    first | rw [N33 (by omega)] | rw [H33_0 (by omega)]
  · exact f_17152 h it a b
  · exact f_17216 h it a b
  · exact f_17280 h it a b
  · exact f_17344 h it a b
  · exact f_17408 h it a b
  · exact f_17664 h it a b
  · exact f_17920 h it a b
  · exact f_18176 h it a b c
  · exact f_18176n h it a b c
  · exact f_18432 h it a b
  · exact f_20480 h it a b
  · exact f_20992 h it a b
  · exact f_21504 h it a b
set_option maxHeartbeats 4000000 in
theorem b_3 (h : Int) (it : Bool) (h0 : 22016 ≤ h) (h1 : h < 40960) : searchP rowsT h it = shortP h it := by
  have hc : (22016 ≤ h ∧ h < 22528) ∨ (22528 ≤ h ∧ h < 23040) ∨ (23040 ≤ h ∧ h < 23552) ∨ (23552 ≤ h ∧ h < 24064) ∨ (24064 ≤ h ∧ h < 24576) ∨ (24576 ≤ h ∧ h < 26624) ∨ (26624 ≤ h ∧ h < 28672) ∨ (28672 ≤ h ∧ h < 30720) ∨ (30720 ≤ h ∧ h < 32768) ∨ (32768 ≤ h ∧ h < 34816) ∨ (34816 ≤ h ∧ h < 36864) ∨ (36864 ≤ h ∧ h < 38912) ∨ (38912 ≤ h ∧ h < 40960) := by omega
  unfold rowsT
  rcases hc with ⟨a, b⟩ | ⟨a, b⟩ | ⟨a, b⟩ | ⟨a, b⟩ | ⟨a, b⟩ | ⟨a, b⟩ | ⟨a, b⟩ | ⟨a, b⟩ | ⟨a, b⟩ | ⟨a, b⟩ | ⟨a, b⟩ | ⟨a, b⟩ | ⟨a, b⟩
  all_goals
    first | rw [N0 (by omega)] | rw [H0_0 (by omega)] | rw [H0_1 (by omega)] | rw [H0_2 (by omega)] | rw [H0_3 (by omega)] | rw [H0_4 (by omega)] | rw [H0_5 (by omega)]
    first | rw [N1 (by omega)] | rw [H1_0 (by omega)]
    first | rw [N2 (by omega)] | rw [H2_0 (by omega)]
    first | rw [N3 (by omega)] | rw [H3_0 (by omega)]
    first | rw [N4 (by omega)] | rw [H4_0 (by omega)] | rw [H4_1 (by omega)]
    first | rw [N5 (by omega)] | rw [H5_0 (by omega)]
    first | rw [N6 (by omega)] | rw [H6_0 (by omega)]
    first | rw [N7 (by omega)] | rw [H7_0 (by omega)]
    first | rw [N8 (by omega)] | rw [H8_0 (by omega)]
    first | rw [N9 (by omega)] | rw [H9_0 (by omega)]
    first | rw [N10 (by omega)] | rw [H10_0 (by omega)]
    first | rw [N11 (by omega)] | rw [H11_0 (by omega)] | rw [H11_1 (by omega)]
    first | rw [N12 (by omega)] | rw [H12_0 (by omega)]
    first | rw [N13 (by omega)] | rw [H13_0 (by omega)] | rw [H13_1 (by omega)]
    first | rw [N14 (by omega)] | rw [H14_0 (by omega)] | rw [H14_1 (by omega)]
    first | rw [N15 (by omega)] | rw [H15_0 (by omega)] | rw [H15_1 (by omega)] | rw [H15_2 (by omega)]
    first | rw [N16 (by omega)] | rw [H16_0 (by omega)] | rw [H16_1 (by omega)]
    first | rw [N17 (by omega)] | rw [H17_0 (by omega)] | rw [H17_1 (by omega)] | rw [H17_2 (by omega)] | rw [H17_3 (by omega)]
    first | rw [N18 (by omega)] | rw [H18_0 (by omega)] | rw [H18_1 (by omega)]
    first | rw [N19 (by omega)] | rw [H19_0 (by omega)] | rw [H19_1 (by omega)]
    first | rw [N20 (by omega)] | rw [H20_0 (by omega)] | rw [H20_1 (by omega)]
    first | rw [N21 (by omega)] | rw [H21_0 (by omega)] | rw [H21_1 (by omega)]
    first | rw [N22 (by omega)] | rw [H22_0 (by omega)] | rw [H22_1 (by omega)] | rw [H22_2 (by omega)] | rw [H22_3 (by omega)] | rw [H22_4 (by omega)] | rw [H22_5 (by omega)]
    first | rw [N23 (by omega)] | rw [H23_0 (by omega)] | rw [H23_1 (by omega)]
    first | rw [N24 (by omega)] | rw [H24_0 (by omega)]
    first | rw [N25 (by omega)] | rw [H25_0 (by omega)]
    first | rw [N26 (by omega)] | rw [H26_0 (by omega)]
    first | rw [N27 (by omega)] | rw [H27_0 (by omega)]
    first | rw [N28 (by omega)] | rw [H28_0 (by omega)] | rw [H28_1 (by omega)]
    first | rw [N29 (by omega)] | rw [H29_0 (by omega)]
    first | rw [N30 (by omega)] | rw [H30_0 (by omega)] | rw [H30_1 (by omega)]
    first | rw [N31 (by omega)] | rw [H31_0 (by omega)]
    first | rw [N32 (by omega)] | rw [H32_0 (by omega)]
    first | rw [N33 (by omega)] | rw [H33_0 (by omega)]
  · exact f_22016 h it a b
  · exact f_22528 h it a b
  · exact f_23040 h it a b
  · exact f_23552 h it a b
  · exact f_24064 h it a b
  · exact f_24576 h it a b
  · exact f_26624 h it a b
  · exact f_28672 h it a b
  · exact f_30720 h it a b
  · exact f_32768 h it a b
  · exact f_34816 h it a b
  · exact f_36864 h it a b
  · exact f_38912 h it a b
set_option maxHeartbeats 4000000 in
theorem b_4 (h : Int) (it : Bool) (h0 : 40960 ≤ h) (h1 : h < 48897) : searchP rowsT h it = shortP h it := by
  have hc : (40960 ≤ h ∧ h < 43008) ∨ (43008 ≤ h ∧ h < 45312) ∨ (45312 ≤ h ∧ h < 45568) ∨ (45568 ≤ h ∧ h < 45824) ∨ (45824 ≤ h ∧ h < 46080) ∨ (46080 ≤ h ∧ h < 46592) ∨ (46592 ≤ h ∧ h < 47360) ∨ (47360 ≤ h ∧ h < 47616) ∨ (47616 ≤ h ∧ h < 47872) ∨ (47872 ≤ h ∧ h < 48128) ∨ (48128 ≤ h ∧ h < 48640) ∨ (48640 ≤ h ∧ h < 48896) ∨ (48896 ≤ h ∧ h < 48897) := by omega
  unfold rowsT
  rcases hc with ⟨a, b⟩ | ⟨a, b⟩ | ⟨a, b⟩ | ⟨a, b⟩ | ⟨a, b⟩ | ⟨a, b⟩ | ⟨a, b⟩ | ⟨a, b⟩ | ⟨a, b⟩ | ⟨a, b⟩ | ⟨a, b⟩ | ⟨a, b⟩ | ⟨a, b⟩
  all_goals
    first | rw [N0 (by omega)] | rw [H0_0 (by omega)] | rw [H0_1 (by omega)] | rw [H0_2 (by omega)] | rw [H0_3 (by omega)] | rw [H0_4 (by omega)] | rw [H0_5 (by omega)]
    first | rw [N1 (by omega)] | rw [H1_0 (by omega)]
    first | rw [N2 (by omega)] | rw [H2_0 (by omega)]
    first | rw [N3 (by omega)] | rw [H3_0 (by omega)]
    first | rw [N4 (by omega)] | rw [H4_0 (by omega)] | rw [H4_1 (by omega)]
    first | rw [N5 (by omega)] | rw [H5_0 (by omega)]
    first | rw [N6 (by omega)] | rw [H6_0 (by omega)]
    first | rw [N7 (by omega)] | rw [H7_0 (by omega)]
    first | rw [N8 (by omega)] | rw [H8_0 (by omega)]
    first | rw [N9 (by omega)] | rw [H9_0 (by omega)]
    first | rw [N10 (by omega)] | rw [H10_0 (by omega)]
    first | rw [N11 (by omega)] | rw [H11_0 (by omega)] | rw [H11_1 (by omega)]
    first | rw [N12 (by omega)] | rw [H12_0 (by omega)]
    first | rw [N13 (by omega)] | rw [H13_0 (by omega)] | rw [H13_1 (by omega)]
    first | rw [N14 (by omega)] | rw [H14_0 (by omega)] | rw [H14_1 (by omega)]
    first | rw [N15 (by omega)] | rw [H15_0 (by omega)] | rw [H15_1 (by omega)] | rw [H15_2 (by omega)]
    first | rw [N16 (by omega)] | rw [H16_0 (by omega)] | rw [H16_1 (by omega)]
    first | rw [N17 (by omega)] | rw [H17_0 (by omega)] | rw [H17_1 (by omega)] | rw [H17_2 (by omega)] | rw [H17_3 (by omega)]
    first | rw [N18 (by omega)] | rw [H18_0 (by omega)] | rw [H18_1 (by omega)]
    first | rw [N19 (by omega)] | rw [H19_0 (by omega)] | rw [H19_1 (by omega)]
    first | rw [N20 (by omega)] | rw [H20_0 (by omega)] | rw [H20_1 (by omega)]
    first | rw [N21 (by omega)] | rw [H21_0 (by omega)] | rw [H21_1 (by omega)]
    first | rw [N22 (by omega)] | rw [H22_0 (by omega)] | rw [H22_1 (by omega)] | rw [H22_2 (by omega)] | rw [H22_3 (by omega)] | rw [H22_4 (by omega)] | rw [H22_5 (by omega)]
    first | rw [N23 (by omega)] | rw [H23_0 (by omega)] | rw [H23_1 (by omega)]
    first | rw [N24 (by omega)] | rw [H24_0 (by omega)]
    first | rw [N25 (by omega)] | rw [H25_0 (by omega)]
    first | rw [N26 (by omega)] | rw [H26_0 (by omega)]
    first | rw [N27 (by omega)] | rw [H27_0 (by omega)]
    first | rw [N28 (by omega)] | rw [H28_0 (by omega)] | rw [H28_1 (by omega)]
    first | rw [N29 (by omega)] | rw [H29_0 (by omega)]
    first | rw [N30 (by omega)] | rw [H30_0 (by omega)] | rw [H30_1 (by omega)]
    first | rw [N31 (by omega)] | rw [H31_0 (by omega)]
    first | rw [N32 (by omega)] | rw [H32_0 (by omega)]
    first | rw [N33 (by omega)] | rw [H33_0 (by omega)]
  · exact f_40960 h it a b
  · exact f_43008 h it a b
  · exact f_45312 h it a b
  · exact f_45568 h it a b
  · exact f_45824 h it a b
  · exact f_46080 h it a b
  · exact f_46592 h it a b
  · exact f_47360 h it a b
  · exact f_47616 h it a b
  · exact f_47872 h it a b
  · exact f_48128 h it a b
  · exact f_48640 h it a b
  · exact f_48896 h it a b
set_option maxHeartbeats 4000000 in
theorem b_5 (h : Int) (it : Bool) (h0 : 48897 ≤ h) (h1 : h < 65536) : searchP rowsT h it = shortP h it := by
  have hc : (48897 ≤ h ∧ h < 49152) ∨ (49152 ≤ h ∧ h < 51200) ∨ (51200 ≤ h ∧ h < 53248) ∨ (53248 ≤ h ∧ h < 56832) ∨ (56832 ≤ h ∧ h < 57088) ∨ (57088 ≤ h ∧ h < 57344) ∨ (57344 ≤ h ∧ h < 59392) ∨ (59392 ≤ h ∧ h < 65536) := by omega
  unfold rowsT
  rcases hc with ⟨a, b⟩ | ⟨a, b⟩ | ⟨a, b⟩ | ⟨a, b⟩ | ⟨a, b⟩ | ⟨a, b⟩ | ⟨a, b⟩ | ⟨a, b⟩
  all_goals
    first | rw [N0 (by omega)] | rw [H0_0 (by omega)] | rw [H0_1 (by omega)] | rw [H0_2 (by omega)] | rw [H0_3 (by omega)] | rw [H0_4 (by omega)] | rw [H0_5 (by omega)]
    first | rw [N1 (by omega)] | rw [H1_0 (by omega)]
    first | rw [N2 (by omega)] | rw [H2_0 (by omega)]
    first | rw [N3 (by omega)] | rw [H3_0 (by omega)]
    first | rw [N4 (by omega)] | rw [H4_0 (by omega)] | rw [H4_1 (by omega)]
    first | rw [N5 (by omega)] | rw [H5_0 (by omega)]
    first | rw [N6 (by omega)] | rw [H6_0 (by omega)]
    first | rw [N7 (by omega)] | rw [H7_0 (by omega)]
    first | rw [N8 (by omega)] | rw [H8_0 (by omega)]
    first | rw [N9 (by omega)] | rw [H9_0 (by omega)]
    first | rw [N10 (by omega)] | rw [H10_0 (by omega)]
    first | rw [N11 (by omega)] | rw [H11_0 (by omega)] | rw [H11_1 (by omega)]
    first | rw [N12 (by omega)] | rw [H12_0 (by omega)]
    first | rw [N13 (by omega)] | rw [H13_0 (by omega)] | rw [H13_1 (by omega)]
    first | rw [N14 (by omega)] | rw [H14_0 (by omega)] | rw [H14_1 (by omega)]
    first | rw [N15 (by omega)] | rw [H15_0 (by omega)] | rw [H15_1 (by omega)] | rw [H15_2 (by omega)]
    first | rw [N16 (by omega)] | rw [H16_0 (by omega)] | rw [H16_1 (by omega)]
    first | rw [N17 (by omega)] | rw [H17_0 (by omega)] | rw [H17_1 (by omega)] | rw [H17_2 (by omega)] | rw [H17_3 (by omega)]
    first | rw [N18 (by omega)] | rw [H18_0 (by omega)] | rw [H18_1 (by omega)]
    first | rw [N19 (by omega)] | rw [H19_0 (by omega)] | rw [H19_1 (by omega)]
    first | rw [N20 (by omega)] | rw [H20_0 (by omega)] | rw [H20_1 (by omega)]
    first | rw [N21 (by omega)] | rw [H21_0 (by omega)] | rw [H21_1 (by omega)]
    first | rw [N22 (by omega)] | rw [H22_0 (by omega)] | rw [H22_1 (by omega)] | rw [H22_2 (by omega)] | rw [H22_3 (by omega)] | rw [H22_4 (by omega)] | rw [H22_5 (by omega)]
    first | rw [N23 (by omega)] | rw [H23_0 (by omega)] | rw [H23_1 (by omega)]
    first | rw [N24 (by omega)] | rw [H24_0 (by omega)]
    first | rw [N25 (by omega)] | rw [H25_0 (by omega)]
    first | rw [N26 (by omega)] | rw [H26_0 (by omega)]
    first | rw [N27 (by omega)] | rw [H27_0 (by omega)]
    first | rw [N28 (by omega)] | rw [H28_0 (by omega)] | rw [H28_1 (by omega)]
    first | rw [N29 (by omega)] | rw [H29_0 (by omega)]
    first | rw [N30 (by omega)] | rw [H30_0 (by omega)] | rw [H30_1 (by omega)]
    first | rw [N31 (by omega)] | rw [H31_0 (by omega)]
    first | rw [N32 (by omega)] | rw [H32_0 (by omega)]
    first | rw [N33 (by omega)] | rw [H33_0 (by omega)]
  · exact f_48897 h it a b
  · exact f_49152 h it a b
  · exact f_51200 h it a b
  · exact f_53248 h it a b
  · exact f_56832 h it a b
  · exact f_57088 h it a b
  · exact f_57344 h it a b
  · exact f_59392 h it a b
theorem search_is (h : Int) (it : Bool) (h0 : 0 ≤ h) (h1 : h < 65536) : searchP rowsT h it = shortP h it := by
  by_cases c0 : h < 14336
  · exact b_0 h it h0 c0
  by_cases c1 : h < 17152
  · exact b_1 h it (Int.not_lt.1 c0) c1
  by_cases c2 : h < 22016
  · exact b_2 h it (Int.not_lt.1 c1) c2
  by_cases c3 : h < 40960
  · exact b_3 h it (Int.not_lt.1 c2) c3
  by_cases c4 : h < 48897
  · exact b_4 h it (Int.not_lt.1 c3) c4
  exact b_5 h it (Int.not_lt.1 c4) h1
end Sp
end Go.Proofs.YtcphhojdfpedkaaDoor
