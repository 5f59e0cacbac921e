/- Readers of tall against the document's rows. No conditions (text by gen_ra.py). Readers of tall against the document's rows. No conditions (text by gen_ra.py). Where the document reads an instruction one of tall's readers does. No program; no conditions but those that each fact names. -/
import Derived.Test.YtdcnkmkaafimlaaDoorRows
import Derived.Test.YtdcnkmkaafimlaaDoorGr

namespace Go.Proofs.YtdcnkmkaafimlaaDoor
open Go.ChangeShapes Go.WideShapes Go.ChangeAt Go.RowKit
namespace Tp
open Nm (I)
open Tl (IV)

theorem rd_bd {op d rn rm imm mode : Int} {s : Bool} (h : Nm.okB ⟨op, 0, d, rn, rm, imm, mode, 0, s⟩ = true) (h1 : op ≤ 11) : d ≤ 14 ∧ (d = 13 → op = 10) := by
  have hp := (Nm.ok_parts h).1
  have hr := (Nm.ok_parts h).2.1
  dsimp only at hp hr
  unfold Im.fieldsI at hr
  by_cases h9 : op ≤ 9
  · rw [if_pos h9] at hr
    have := reg_12 hr
    omega
  · rw [if_neg h9, if_pos h1] at hr
    split at hr
    · rename_i hh
      have := reg_14 hr
      exact ⟨this.2, fun _ => hh.1⟩
    · have := reg_12 hr
      omega
theorem opM_le (o : Int) : Tm.opM o ≤ 11 := Tm.opM_le o
/-- where a row 'op' may be -/
theorem num_ok {o r d m imm mode : Int} {s : Bool} {Y word : Int} (h : Nm.okB ⟨(numI o s r d Y word).op, (numI o s r d Y word).cond, (numI o s r d Y word).rd, (numI o s r d Y word).rn, m, imm, mode, (numI o s r d Y word).list, (numI o s r d Y word).s⟩ = true) :
    Y = word ∧ ¬ (r = 15 ∧ d = 15) ∧ (d = 15 → s = true ∧ Tm.opT o ≠ 0) := by
  unfold numI at h
  by_cases hy : Y = word
  · rw [if_pos hy] at h
    refine ⟨hy, ?_⟩
    by_cases hr : r = 15
    · rw [if_pos hr] at h
      dsimp only at h
      have := rd_bd h (Tm.opM_le o)
      omega
    · rw [if_neg hr] at h
      by_cases hd : d = 15 ∧ s = true
      · rw [if_pos hd] at h
        refine ⟨fun q => hr q.1, fun _ => ⟨hd.2, fun q => ?_⟩⟩
        dsimp only at h
        rw [q] at h
        exact ok_zero h
      · rw [if_neg hd] at h
        dsimp only at h
        have := rd_bd h (Int.le_trans (Tm.opD_le o) (by decide))
        omega
  · rw [if_neg hy] at h
    exact (ok_zero h).elim
theorem num_data {o r d m imm mode : Int} {s : Bool} {Y word : Int} (hy : Y = word) (h1 : ¬ (r = 15 ∧ d = 15)) (h2 : d = 15 → s = true ∧ Tm.opT o ≠ 0) :
    (⟨(numI o s r d Y word).op, (numI o s r d Y word).cond, (numI o s r d Y word).rd, (numI o s r d Y word).rn, m, imm, mode, (numI o s r d Y word).list, (numI o s r d Y word).s⟩ : I) = Tm.dataT o s r d m imm mode := by
  unfold numI Tm.dataT
  rw [if_pos hy]
  by_cases hd : d = 15
  · obtain ⟨hs, ht⟩ := h2 hd
    have hr : ¬ r = 15 := fun q => h1 ⟨q, hd⟩
    rw [if_neg hr, if_pos ⟨hd, hs⟩, if_pos hd, if_pos hs, if_neg ht]
  · rw [if_neg hd]
    by_cases hr : r = 15
    · rw [if_pos hr, if_pos hr]
    · rw [if_neg hr, if_neg hr, if_neg (fun q => hd q.1)]
theorem bit1 {sv : Int} : (sv == 1) = true ↔ sv = 1 := by simp
theorem num_rm (o r d Y word : Int) (s : Bool) : (numI o s r d Y word).rm = 0 ∧ (numI o s r d Y word).imm = 0 := by
  unfold numI
  by_cases hy : Y = word
  · rw [if_pos hy]
    by_cases hr : r = 15
    · rw [if_pos hr]; exact ⟨rfl, rfl⟩
    · rw [if_neg hr]
      by_cases hd : d = 15 ∧ s = true
      · rw [if_pos hd]; exact ⟨rfl, rfl⟩
      · rw [if_neg hd]; exact ⟨rfl, rfl⟩
  · rw [if_neg hy]; exact ⟨rfl, rfl⟩
theorem rd_expanded (X : Int) (t : Bool) (hx0 : 0 ≤ X) (hx1 : X < 4294967296) : RdOk 8 X t (P0 (X / 65536) (X % 65536)) := by
  obtain ⟨k0, l, E0, l0, l1⟩ : ∃ q v, X = q * 256 + v ∧ 0 ≤ v ∧ v < 256 := ⟨X / 256, X % 256, by omega, by omega, by omega⟩
  obtain ⟨k1, d, E1, d0, d1⟩ : ∃ q v, k0 = q * 16 + v ∧ 0 ≤ v ∧ v < 16 := ⟨k0 / 16, k0 % 16, by omega, by omega, by omega⟩
  obtain ⟨k2, j, E2, j0, j1⟩ : ∃ q v, k1 = q * 8 + v ∧ 0 ≤ v ∧ v < 8 := ⟨k1 / 8, k1 % 8, by omega, by omega, by omega⟩
  obtain ⟨k3, z, E3, z0, z1⟩ : ∃ q v, k2 = q * 2 + v ∧ 0 ≤ v ∧ v < 2 := ⟨k2 / 2, k2 % 2, by omega, by omega, by omega⟩
  obtain ⟨k4, r, E4, r0, r1⟩ : ∃ q v, k3 = q * 16 + v ∧ 0 ≤ v ∧ v < 16 := ⟨k3 / 16, k3 % 16, by omega, by omega, by omega⟩
  obtain ⟨k5, sv, E5, sv0, sv1⟩ : ∃ q v, k4 = q * 2 + v ∧ 0 ≤ v ∧ v < 2 := ⟨k4 / 2, k4 % 2, by omega, by omega, by omega⟩
  obtain ⟨k6, o, E6, o0, o1⟩ : ∃ q v, k5 = q * 16 + v ∧ 0 ≤ v ∧ v < 16 := ⟨k5 / 16, k5 % 16, by omega, by omega, by omega⟩
  obtain ⟨k7, ff, E7, ff0, ff1⟩ : ∃ q v, k6 = q * 2 + v ∧ 0 ≤ v ∧ v < 2 := ⟨k6 / 2, k6 % 2, by omega, by omega, by omega⟩
  obtain ⟨k8, i, E8, i0, i1⟩ : ∃ q v, k7 = q * 2 + v ∧ 0 ≤ v ∧ v < 2 := ⟨k7 / 2, k7 % 2, by omega, by omega, by omega⟩
  obtain ⟨g, EL⟩ : ∃ v, v = k8 := ⟨_, rfl⟩
  have hX : X = g * 134217728 + i * 67108864 + ff * 33554432 + o * 2097152 + sv * 1048576 + r * 65536 + z * 32768 + j * 4096 + d * 256 + l := by omega
  have g0 : 0 ≤ g := by omega
  have g1 : g < 32 := by omega
  subst hX
  clear E0 E1 E2 E3 E4 E5 E6 E7 E8 EL
  have ha : (g * 134217728 + i * 67108864 + ff * 33554432 + o * 2097152 + sv * 1048576 + r * 65536 + z * 32768 + j * 4096 + d * 256 + l) / 65536 = g * 2048 + i * 1024 + ff * 512 + o * 32 + sv * 16 + r := by omega
  have hb : (g * 134217728 + i * 67108864 + ff * 33554432 + o * 2097152 + sv * 1048576 + r * 65536 + z * 32768 + j * 4096 + d * 256 + l) % 65536 = z * 32768 + j * 4096 + d * 256 + l := by omega
  unfold RdOk
  rw [ha, hb]
  have hv : okB (i * 2048 + j * 256 + l) = Tm.validI (i * 2048 + j * 256 + l) := by
    unfold okB Tm.validI
    rw [decide_eq_true (show 0 ≤ i * 2048 + j * 256 + l by omega), Bool.true_and]
  have he : expI (i * 2048 + j * 256 + l) = Wm.tellF (i * 2048 + j * 256 + l) := by
    unfold expI Wm.tellF
    rw [show (i * 2048 + j * 256 + l) % 4096 = i * 2048 + j * 256 + l by omega]
  have hn : Tm.num (g * 2048 + i * 1024 + ff * 512 + o * 32 + sv * 16 + r) (z * 32768 + j * 4096 + d * 256 + l) = i * 2048 + j * 256 + l := by unfold Tm.num; omega
  have ho : (g * 2048 + i * 1024 + ff * 512 + o * 32 + sv * 16 + r) / 32 % 16 = o := by omega
  have hs : (g * 2048 + i * 1024 + ff * 512 + o * 32 + sv * 16 + r) / 16 % 2 = sv := by omega
  have hr : (g * 2048 + i * 1024 + ff * 512 + o * 32 + sv * 16 + r) % 16 = r := by omega
  have hd : (z * 32768 + j * 4096 + d * 256 + l) / 256 % 16 = d := by omega
  unfold P0 isF
  rw [hn, ho, hs, hr, hd]
  by_cases hva : Tm.validI (i * 2048 + j * 256 + l) = true
  · have hvb : okB (i * 2048 + j * 256 + l) = true := by rw [hv, hva]
    refine ⟨⟨(numI o (sv == 1) r d (g * 134217728 + ff * 33554432 + z * 32768) 4026531840).op, (numI o (sv == 1) r d (g * 134217728 + ff * 33554432 + z * 32768) 4026531840).cond, (numI o (sv == 1) r d (g * 134217728 + ff * 33554432 + z * 32768) 4026531840).rd, (numI o (sv == 1) r d (g * 134217728 + ff * 33554432 + z * 32768) 4026531840).rn, (numI o (sv == 1) r d (g * 134217728 + ff * 33554432 + z * 32768) 4026531840).rm, expI (i * 2048 + j * 256 + l), 1, (numI o (sv == 1) r d (g * 134217728 + ff * 33554432 + z * 32768) 4026531840).list, (numI o (sv == 1) r d (g * 134217728 + ff * 33554432 + z * 32768) 4026531840).s⟩, fun W hT => expanded_y (X1 := g * 134217728 + ff * 33554432 + o * 2097152 + sv * 1048576 + r * 65536 + z * 32768 + j * 4096 + d * 256 + l) (X2 := g * 134217728 + ff * 33554432 + o * 2097152 + sv * 1048576 + r * 65536 + z * 32768 + d * 256 + l) (X3 := g * 134217728 + ff * 33554432 + o * 2097152 + sv * 1048576 + r * 65536 + z * 32768 + d * 256) (X4 := g * 134217728 + ff * 33554432 + sv * 1048576 + r * 65536 + z * 32768 + d * 256) (X5 := g * 134217728 + ff * 33554432 + r * 65536 + z * 32768 + d * 256) (X6 := g * 134217728 + ff * 33554432 + r * 65536 + z * 32768) (X7 := g * 134217728 + ff * 33554432 + z * 32768) (X := g * 134217728 + i * 67108864 + ff * 33554432 + o * 2097152 + sv * 1048576 + r * 65536 + z * 32768 + j * 4096 + d * 256 + l) (i := i) (j := j) (l := l) (o := o) (sv := sv) (d := d) (r := r) t W (by omega) (by omega) (by omega) (by omega) (by omega) (by omega) (by omega) (by omega) (by omega) (by omega) (by omega) (by omega) (by omega) (by omega) (by omega) (by omega) hT (i * 2048 + j * 256 + l) (numI o (sv == 1) r d (g * 134217728 + ff * 33554432 + z * 32768) 4026531840).op (numI o (sv == 1) r d (g * 134217728 + ff * 33554432 + z * 32768) 4026531840).cond (numI o (sv == 1) r d (g * 134217728 + ff * 33554432 + z * 32768) 4026531840).rd (numI o (sv == 1) r d (g * 134217728 + ff * 33554432 + z * 32768) 4026531840).rn (numI o (sv == 1) r d (g * 134217728 + ff * 33554432 + z * 32768) 4026531840).rm (numI o (sv == 1) r d (g * 134217728 + ff * 33554432 + z * 32768) 4026531840).imm (numI o (sv == 1) r d (g * 134217728 + ff * 33554432 + z * 32768) 4026531840).mode (numI o (sv == 1) r d (g * 134217728 + ff * 33554432 + z * 32768) 4026531840).list (numI o (sv == 1) r d (g * 134217728 + ff * 33554432 + z * 32768) 4026531840).s rfl rfl (expI (i * 2048 + j * 256 + l)) hvb rfl, ?_, ?_⟩
    · intro hok
      have hrm : (numI o (sv == 1) r d (g * 134217728 + ff * 33554432 + z * 32768) 4026531840).rm = 0 := (num_rm ..).1
      rw [hrm] at hok
      obtain ⟨h1, h2, h3⟩ := num_ok hok
      refine ⟨by omega, by omega, hva, h2, fun q => ⟨?_, (h3 q).2⟩⟩
      exact bit1.1 (h3 q).1
    · intro h
      obtain ⟨⟨g1, g2, g3⟩, g4, _, g5, g6⟩ := h
      have hrm : (numI o (sv == 1) r d (g * 134217728 + ff * 33554432 + z * 32768) 4026531840).rm = 0 := (num_rm ..).1
      rw [hrm, num_data (by omega) g5 (fun q => ⟨bit1.2 (g6 q).1, (g6 q).2⟩), Tm.at_imms _ _ g1 g2 g3, he]
      unfold Tm.immsT
      rw [hn, if_pos g4, if_pos hva, ho, hs, hr, hd]
  · have hvb : okB (i * 2048 + j * 256 + l) = false := by rw [hv]; simpa using hva
    exact ⟨Tm.Z, fun W hT => expanded_n (X1 := g * 134217728 + ff * 33554432 + o * 2097152 + sv * 1048576 + r * 65536 + z * 32768 + j * 4096 + d * 256 + l) (X2 := g * 134217728 + ff * 33554432 + o * 2097152 + sv * 1048576 + r * 65536 + z * 32768 + d * 256 + l) (X3 := g * 134217728 + ff * 33554432 + o * 2097152 + sv * 1048576 + r * 65536 + z * 32768 + d * 256) (X4 := g * 134217728 + ff * 33554432 + sv * 1048576 + r * 65536 + z * 32768 + d * 256) (X5 := g * 134217728 + ff * 33554432 + r * 65536 + z * 32768 + d * 256) (X6 := g * 134217728 + ff * 33554432 + r * 65536 + z * 32768) (X7 := g * 134217728 + ff * 33554432 + z * 32768) (X := g * 134217728 + i * 67108864 + ff * 33554432 + o * 2097152 + sv * 1048576 + r * 65536 + z * 32768 + j * 4096 + d * 256 + l) (i := i) (j := j) (l := l) (o := o) (sv := sv) (d := d) (r := r) t W (by omega) (by omega) (by omega) (by omega) (by omega) (by omega) (by omega) (by omega) (by omega) (by omega) (by omega) (by omega) (by omega) (by omega) (by omega) (by omega) hT (i * 2048 + j * 256 + l) (numI o (sv == 1) r d (g * 134217728 + ff * 33554432 + z * 32768) 4026531840).op (numI o (sv == 1) r d (g * 134217728 + ff * 33554432 + z * 32768) 4026531840).cond (numI o (sv == 1) r d (g * 134217728 + ff * 33554432 + z * 32768) 4026531840).rd (numI o (sv == 1) r d (g * 134217728 + ff * 33554432 + z * 32768) 4026531840).rn (numI o (sv == 1) r d (g * 134217728 + ff * 33554432 + z * 32768) 4026531840).rm (numI o (sv == 1) r d (g * 134217728 + ff * 33554432 + z * 32768) 4026531840).imm (numI o (sv == 1) r d (g * 134217728 + ff * 33554432 + z * 32768) 4026531840).mode (numI o (sv == 1) r d (g * 134217728 + ff * 33554432 + z * 32768) 4026531840).list (numI o (sv == 1) r d (g * 134217728 + ff * 33554432 + z * 32768) 4026531840).s rfl rfl hvb, fun h => (ok_Z h).elim, fun h => absurd h.2.2.1 hva⟩
end Tp
end Go.Proofs.YtdcnkmkaafimlaaDoor

namespace Go.Proofs.YtdcnkmkaafimlaaDoor
open Go.ChangeShapes Go.WideShapes Go.ChangeAt Go.RowKit
namespace Tp
open Nm (I)
open Tl (IV)

theorem rd_registers (X : Int) (t : Bool) (hx0 : 0 ≤ X) (hx1 : X < 4294967296) : RdOk 10 X t (P2 (X / 65536) (X % 65536)) := by
  obtain ⟨k0, m, E0, m0, m1⟩ : ∃ q v, X = q * 16 + v ∧ 0 ≤ v ∧ v < 16 := ⟨X / 16, X % 16, by omega, by omega, by omega⟩
  obtain ⟨k1, y, E1, y0, y1⟩ : ∃ q v, k0 = q * 16 + v ∧ 0 ≤ v ∧ v < 16 := ⟨k0 / 16, k0 % 16, by omega, by omega, by omega⟩
  obtain ⟨k2, d, E2, d0, d1⟩ : ∃ q v, k1 = q * 16 + v ∧ 0 ≤ v ∧ v < 16 := ⟨k1 / 16, k1 % 16, by omega, by omega, by omega⟩
  obtain ⟨k3, z, E3, z0, z1⟩ : ∃ q v, k2 = q * 16 + v ∧ 0 ≤ v ∧ v < 16 := ⟨k2 / 16, k2 % 16, by omega, by omega, by omega⟩
  obtain ⟨k4, r, E4, r0, r1⟩ : ∃ q v, k3 = q * 16 + v ∧ 0 ≤ v ∧ v < 16 := ⟨k3 / 16, k3 % 16, by omega, by omega, by omega⟩
  obtain ⟨k5, sv, E5, sv0, sv1⟩ : ∃ q v, k4 = q * 2 + v ∧ 0 ≤ v ∧ v < 2 := ⟨k4 / 2, k4 % 2, by omega, by omega, by omega⟩
  obtain ⟨k6, o, E6, o0, o1⟩ : ∃ q v, k5 = q * 16 + v ∧ 0 ≤ v ∧ v < 16 := ⟨k5 / 16, k5 % 16, by omega, by omega, by omega⟩
  obtain ⟨g, EL⟩ : ∃ v, v = k6 := ⟨_, rfl⟩
  have hX : X = g * 33554432 + o * 2097152 + sv * 1048576 + r * 65536 + z * 4096 + d * 256 + y * 16 + m := by omega
  have g0 : 0 ≤ g := by omega
  have g1 : g < 128 := by omega
  subst hX
  clear E0 E1 E2 E3 E4 E5 E6 EL
  have ha : (g * 33554432 + o * 2097152 + sv * 1048576 + r * 65536 + z * 4096 + d * 256 + y * 16 + m) / 65536 = g * 512 + o * 32 + sv * 16 + r := by omega
  have hb : (g * 33554432 + o * 2097152 + sv * 1048576 + r * 65536 + z * 4096 + d * 256 + y * 16 + m) % 65536 = z * 4096 + d * 256 + y * 16 + m := by omega
  unfold RdOk
  rw [ha, hb]
  have ho : (g * 512 + o * 32 + sv * 16 + r) / 32 % 16 = o := by omega
  have hs : (g * 512 + o * 32 + sv * 16 + r) / 16 % 2 = sv := by omega
  have hr : (g * 512 + o * 32 + sv * 16 + r) % 16 = r := by omega
  have hd : (z * 4096 + d * 256 + y * 16 + m) / 256 % 16 = d := by omega
  have hm : (z * 4096 + d * 256 + y * 16 + m) % 16 = m := by omega
  have hy : (z * 4096 + d * 256 + y * 16 + m) / 16 % 4 = y % 4 := by omega
  have hsh : Tm.shN (z * 4096 + d * 256 + y * 16 + m) = z % 8 * 4 + y / 4 := by unfold Tm.shN; omega
  unfold P2 isE
  rw [ho, hs, hr, hd, hm, hy, hsh]
  have hrd : g * 33554432 + z * 4096 + y * 16 = 3925868544 → d ≠ 15 → (numI o (sv == 1) r d (g * 33554432 + z * 4096 + y * 16) 3925868544).rd = d := by
    intro q1 q2
    unfold numI
    rw [if_pos q1]
    split
    · rfl
    · rw [if_neg (fun q => q2 q.1)]
  have him : (numI o (sv == 1) r d (g * 33554432 + z * 4096 + y * 16) 3925868544).imm = 0 := (num_rm ..).2
  by_cases c1 : (numI o (sv == 1) r d (g * 33554432 + z * 4096 + y * 16) 3925868544).rd = 13
  · refine ⟨Tm.Z, fun W hT => registers_d (X1 := g * 33554432 + o * 2097152 + sv * 1048576 + r * 65536 + z * 4096 + d * 256 + y * 16) (X2 := g * 33554432 + sv * 1048576 + r * 65536 + z * 4096 + d * 256 + y * 16) (X3 := g * 33554432 + r * 65536 + z * 4096 + d * 256 + y * 16) (X4 := g * 33554432 + r * 65536 + z * 4096 + y * 16) (X5 := g * 33554432 + z * 4096 + y * 16) (X := g * 33554432 + o * 2097152 + sv * 1048576 + r * 65536 + z * 4096 + d * 256 + y * 16 + m) (m := m) (o := o) (sv := sv) (d := d) (r := r) t W (by omega) (by omega) (by omega) (by omega) (by omega) (by omega) (by omega) (by omega) (by omega) (by omega) (by omega) (by omega) hT (numI o (sv == 1) r d (g * 33554432 + z * 4096 + y * 16) 3925868544).op (numI o (sv == 1) r d (g * 33554432 + z * 4096 + y * 16) 3925868544).cond (numI o (sv == 1) r d (g * 33554432 + z * 4096 + y * 16) 3925868544).rd (numI o (sv == 1) r d (g * 33554432 + z * 4096 + y * 16) 3925868544).rn (numI o (sv == 1) r d (g * 33554432 + z * 4096 + y * 16) 3925868544).rm (numI o (sv == 1) r d (g * 33554432 + z * 4096 + y * 16) 3925868544).imm (numI o (sv == 1) r d (g * 33554432 + z * 4096 + y * 16) 3925868544).mode (numI o (sv == 1) r d (g * 33554432 + z * 4096 + y * 16) 3925868544).list (numI o (sv == 1) r d (g * 33554432 + z * 4096 + y * 16) 3925868544).s rfl c1, fun h => (ok_Z h).elim, fun h => ?_⟩
    obtain ⟨⟨g1, g2, g3⟩, g4, g5, g6, g7, g8, g9⟩ := h
    exfalso
    by_cases hd5 : d = 15
    · have hz : (numI o (sv == 1) r d (g * 33554432 + z * 4096 + y * 16) 3925868544).rd = 0 := by
        unfold numI
        rw [if_pos (by omega), if_neg (fun q => g6 ⟨q, hd5⟩), if_pos ⟨hd5, bit1.2 (g7 hd5).1⟩]
      rw [hz] at c1
      exact absurd c1 (by decide)
    · rw [hrd (by omega) hd5] at c1
      exact g8 c1
  · have c1b : ((numI o (sv == 1) r d (g * 33554432 + z * 4096 + y * 16) 3925868544).rd == 13) = false := by simpa using c1
    by_cases c2 : m = 13
    · exact ⟨Tm.Z, fun W hT => registers_m (X1 := g * 33554432 + o * 2097152 + sv * 1048576 + r * 65536 + z * 4096 + d * 256 + y * 16) (X2 := g * 33554432 + sv * 1048576 + r * 65536 + z * 4096 + d * 256 + y * 16) (X3 := g * 33554432 + r * 65536 + z * 4096 + d * 256 + y * 16) (X4 := g * 33554432 + r * 65536 + z * 4096 + y * 16) (X5 := g * 33554432 + z * 4096 + y * 16) (X := g * 33554432 + o * 2097152 + sv * 1048576 + r * 65536 + z * 4096 + d * 256 + y * 16 + m) (m := m) (o := o) (sv := sv) (d := d) (r := r) t W (by omega) (by omega) (by omega) (by omega) (by omega) (by omega) (by omega) (by omega) (by omega) (by omega) (by omega) (by omega) hT (numI o (sv == 1) r d (g * 33554432 + z * 4096 + y * 16) 3925868544).op (numI o (sv == 1) r d (g * 33554432 + z * 4096 + y * 16) 3925868544).cond (numI o (sv == 1) r d (g * 33554432 + z * 4096 + y * 16) 3925868544).rd (numI o (sv == 1) r d (g * 33554432 + z * 4096 + y * 16) 3925868544).rn (numI o (sv == 1) r d (g * 33554432 + z * 4096 + y * 16) 3925868544).rm (numI o (sv == 1) r d (g * 33554432 + z * 4096 + y * 16) 3925868544).imm (numI o (sv == 1) r d (g * 33554432 + z * 4096 + y * 16) 3925868544).mode (numI o (sv == 1) r d (g * 33554432 + z * 4096 + y * 16) 3925868544).list (numI o (sv == 1) r d (g * 33554432 + z * 4096 + y * 16) 3925868544).s rfl c1b c2, fun h => (ok_Z h).elim, fun h => absurd c2 h.2.2.2.2.2.2⟩
    · have c2b : (m == 13) = false := by simpa using c2
      refine ⟨⟨(numI o (sv == 1) r d (g * 33554432 + z * 4096 + y * 16) 3925868544).op, (numI o (sv == 1) r d (g * 33554432 + z * 4096 + y * 16) 3925868544).cond, (numI o (sv == 1) r d (g * 33554432 + z * 4096 + y * 16) 3925868544).rd, (numI o (sv == 1) r d (g * 33554432 + z * 4096 + y * 16) 3925868544).rn, m, (numI o (sv == 1) r d (g * 33554432 + z * 4096 + y * 16) 3925868544).imm, 2, (numI o (sv == 1) r d (g * 33554432 + z * 4096 + y * 16) 3925868544).list, (numI o (sv == 1) r d (g * 33554432 + z * 4096 + y * 16) 3925868544).s⟩, fun W hT => registers_y (X1 := g * 33554432 + o * 2097152 + sv * 1048576 + r * 65536 + z * 4096 + d * 256 + y * 16) (X2 := g * 33554432 + sv * 1048576 + r * 65536 + z * 4096 + d * 256 + y * 16) (X3 := g * 33554432 + r * 65536 + z * 4096 + d * 256 + y * 16) (X4 := g * 33554432 + r * 65536 + z * 4096 + y * 16) (X5 := g * 33554432 + z * 4096 + y * 16) (X := g * 33554432 + o * 2097152 + sv * 1048576 + r * 65536 + z * 4096 + d * 256 + y * 16 + m) (m := m) (o := o) (sv := sv) (d := d) (r := r) t W (by omega) (by omega) (by omega) (by omega) (by omega) (by omega) (by omega) (by omega) (by omega) (by omega) (by omega) (by omega) hT (numI o (sv == 1) r d (g * 33554432 + z * 4096 + y * 16) 3925868544).op (numI o (sv == 1) r d (g * 33554432 + z * 4096 + y * 16) 3925868544).cond (numI o (sv == 1) r d (g * 33554432 + z * 4096 + y * 16) 3925868544).rd (numI o (sv == 1) r d (g * 33554432 + z * 4096 + y * 16) 3925868544).rn (numI o (sv == 1) r d (g * 33554432 + z * 4096 + y * 16) 3925868544).rm (numI o (sv == 1) r d (g * 33554432 + z * 4096 + y * 16) 3925868544).imm (numI o (sv == 1) r d (g * 33554432 + z * 4096 + y * 16) 3925868544).mode (numI o (sv == 1) r d (g * 33554432 + z * 4096 + y * 16) 3925868544).list (numI o (sv == 1) r d (g * 33554432 + z * 4096 + y * 16) 3925868544).s rfl c1b c2b, ?_, ?_⟩
      · intro hok
        obtain ⟨h1, h2, h3⟩ := num_ok hok
        have hd13 : d ≠ 13 := fun q => c1 ((hrd h1 (by omega)).trans q)
        refine ⟨by omega, by omega, by omega, h2, fun q => ⟨?_, (h3 q).2⟩, hd13, c2⟩
        exact bit1.1 (h3 q).1
      · intro h
        obtain ⟨⟨g1, g2, g3⟩, g4, g5, g6, g7, g8, g9⟩ := h
        rw [him, num_data (by omega) g6 (fun q => ⟨bit1.2 (g7 q).1, (g7 q).2⟩), Tm.at_regs _ _ g1 g2]
        unfold Tm.regsT
        rw [hsh, hy, ho, hs, hr, hd, hm, if_neg (by omega), if_neg (fun q => q.2.2.2 ⟨g4, g5⟩), if_neg (fun q => q ⟨g4, g5⟩), if_neg (fun q => by rcases q.2 with q | q <;> contradiction)]
end Tp
end Go.Proofs.YtdcnkmkaafimlaaDoor

namespace Go.Proofs.YtdcnkmkaafimlaaDoor
namespace Tp
open Nm (I)
open Tm (dataT opT opD opM Z)

theorem data_ok {o r d m imm mode : Int} {s : Bool} (h : Nm.okB (dataT o s r d m imm mode) = true) :
    ¬ (r = 15 ∧ d = 15) ∧ (d = 15 → s = true ∧ opT o ≠ 0) ∧ (d = 13 → (dataT o s r d m imm mode).op = 10) := by
  unfold dataT at h ⊢
  by_cases hd : d = 15
  · rw [if_pos hd] at h ⊢
    cases s with
    | false => rw [if_neg (by decide)] at h; exact (ok_Z h).elim
    | true =>
      rw [if_pos rfl] at h ⊢
      by_cases ht : opT o = 0
      · rw [if_pos ht] at h; exact (ok_Z h).elim
      · rw [if_neg ht] at h ⊢
        refine ⟨fun q => ?_, fun _ => ⟨rfl, ht⟩, fun q => by omega⟩
        have hr := (Nm.ok_parts h).2.2.1
        have hb : opT o = 12 ∨ opT o = 13 ∨ opT o = 14 ∨ opT o = 15 := by
          revert ht
          unfold opT
          repeat' split
          all_goals first | (intro _; omega) | (intro q; exact absurd rfl q)
        dsimp only at hr
        rcases hb with e | e | e | e
        all_goals
          rw [e] at hr
          have := reg_12 (show Im.oneB 24575 r = true from hr)
          omega
  · rw [if_neg hd] at h ⊢
    refine ⟨fun q => hd q.2, fun q => absurd q hd, fun q => ?_⟩
    by_cases hr : r = 15
    · rw [if_pos hr] at h ⊢
      exact (rd_bd h (Tm.opM_le o)).2 q
    · rw [if_neg hr] at h ⊢
      have := (rd_bd h (Int.le_trans (Tm.opD_le o) (by decide))).2 q
      exact this
theorem rm_bd {op rd rn m : Int} {s : Bool} (h : Nm.okB ⟨op, 0, rd, rn, m, 0, 2, 0, s⟩ = true) (h1 : op ≤ 15) (hm : m = 13) : op = 10 := by
  have hp := (Nm.ok_parts h).1
  dsimp only at hp
  rcases Nm.last_cases (Nm.ok_parts h).2.2.2.1 with ⟨e, _⟩ | ⟨e, _⟩ | ⟨_, _, q, _⟩
  · exact absurd (show (2 : Int) = 0 from e) (by decide)
  · exact absurd (show (2 : Int) = 1 from e) (by decide)
  · dsimp only at q
    subst hm
    unfold Im.fieldsI at q
    by_cases h9 : op ≤ 9
    · rw [if_pos h9] at q
      exact absurd q (by decide)
    · rw [if_neg h9] at q
      by_cases h11 : op ≤ 11
      · rw [if_pos h11] at q
        split at q
        · rename_i hh; exact hh.1
        · exact absurd q (by decide)
      · rw [if_neg h11, if_pos h1] at q
        exact absurd q (by decide)
theorem data_form (o : Int) (s : Bool) (r d m : Int) : dataT o s r d m 0 2 = Z ∨ ∃ op rd rn f, op ≤ 15 ∧ dataT o s r d m 0 2 = ⟨op, 0, rd, rn, m, 0, 2, 0, f⟩ := by
  unfold dataT
  have h1 := Tm.opT_le o
  have h2 := Tm.opM_le o
  have h3 := Tm.opD_le o
  repeat' split
  all_goals first | exact .inl rfl | exact .inr ⟨_, _, _, _, by omega, rfl⟩
theorem data_m {o r d m : Int} {s : Bool} (h : Nm.okB (dataT o s r d m 0 2) = true) (hm : m = 13) : (dataT o s r d m 0 2).op = 10 := by
  rcases data_form o s r d m with e | ⟨op, rd, rn, f, h1, e⟩
  · rw [e] at h; exact (ok_Z h).elim
  · rw [e] at h ⊢
    exact rm_bd h h1 hm

/-- of the readers' numbers, where each reads -/
def PA (k : Nat) (a b : Int) (t : Bool) : Prop :=
  match k with
  | 0 => P0 a b | 1 => P1 a b | 2 => P2 a b | 3 => P3 a b | 4 => P4 a b | 5 => P5 a b | 6 => P6 a b | 7 => P7 a b | 8 => P8 a b | 9 => P9 a b | 10 => P10 a b
  | 11 => P11 a b t | 12 => P12 a b | 13 => P13 a b | 14 => P14 a b | 15 => P15 a b | _ => P16 a b
theorem cov_many (a b : Int) (t : Bool) (hb : 0 ≤ b) (h : Nm.okB (Tm.manyT a b) = true) : ∃ k, k < 17 ∧ PA k a b t := by
  unfold Tm.manyT at h
  by_cases c1 : a = 59693
  · rw [if_pos c1] at h
    by_cases c2 : 2 ≤ Im.pop b.toNat
    · exact ⟨10, by decide, .inl c1, c2⟩
    · rw [if_neg c2] at h; exact (ok_Z h).elim
  · rw [if_neg c1] at h
    by_cases c2 : a = 59581 ∧ 2 ≤ Im.pop b.toNat
    · exact ⟨10, by decide, .inr c2.1, c2.2⟩
    · rw [if_neg c2] at h
      by_cases c3 : a / 16 = 3722
      · exact ⟨9, by decide, .inl c3, by omega, hb⟩
      · rw [if_neg c3] at h
        by_cases c4 : a / 16 = 3723
        · rw [if_pos c4] at h
          have hr := reg_12 (show Im.oneB 24575 (a % 16) = true from (Nm.ok_parts h).2.2.1)
          exact ⟨9, by decide, .inr c4, by omega, hb⟩
        · rw [if_neg c4] at h
          by_cases c5 : a / 16 = 3725 ∧ b / 16 = 3840
          · exact ⟨16, by decide, c5⟩
          · rw [if_neg c5] at h; exact (ok_Z h).elim
theorem cov_regs (a b : Int) (t : Bool) (h0 : 59904 ≤ a) (h1 : a < 60416) (h : Nm.okB (Tm.regsT a b) = true) : ∃ k, k < 17 ∧ PA k a b t := by
  unfold Tm.regsT at h
  by_cases c0 : 32768 ≤ b
  · rw [if_pos c0] at h; exact (ok_Z h).elim
  · rw [if_neg c0] at h
    by_cases c1 : a / 32 % 16 = 2 ∧ a % 16 = 15 ∧ b / 256 % 16 ≠ 15 ∧ ¬ (Tm.shN b = 0 ∧ b / 16 % 4 = 0)
    · rw [if_pos c1] at h
      refine ⟨3, by decide, ⟨h0, h1, by omega⟩, c1.1, c1.2.1, c1.2.2.1, fun q => ?_⟩
      rcases q.2 with q2 | q2
      · exact c1.2.2.2 ⟨q.1, q2⟩
      · rw [q2, if_neg (fun z => z.2 rfl), q.1] at h
        rcases Nm.last_cases (Nm.ok_parts h).2.2.2.1 with ⟨e, _⟩ | ⟨_, _, q3, _, _, _⟩ | ⟨e, _⟩
        · exact absurd (show (1 : Int) = 0 from e) (by decide)
        · exact absurd (show (1 : Int) ≤ 0 from q3) (by decide)
        · exact absurd (show (1 : Int) = 2 from e) (by decide)
    · rw [if_neg c1] at h
      by_cases c2 : ¬ (Tm.shN b = 0 ∧ b / 16 % 4 = 0)
      · rw [if_pos c2] at h; exact (ok_Z h).elim
      · rw [if_neg c2] at h
        have c3 : Tm.shN b = 0 ∧ b / 16 % 4 = 0 := Classical.byContradiction c2
        split at h
        · exact (ok_Z h).elim
        · rename_i hn
          obtain ⟨q1, q2, q3⟩ := data_ok h
          refine ⟨2, by decide, ⟨h0, h1, by omega⟩, c3.1, c3.2, q1, fun z => ⟨bit1.1 (q2 z).1, (q2 z).2⟩, fun z => hn ⟨q3 z, .inl z⟩, fun z => hn ⟨data_m h z, .inr z⟩⟩
theorem cov_imms (E : Int → Int) (a b : Int) (t : Bool) (h0 : 61440 ≤ a) (h1 : a < 63488) (h2 : b < 32768) (h : Nm.okB (Tm.immsT E Tm.validI a b) = true) : ∃ k, k < 17 ∧ PA k a b t := by
  have hF : isF a b := ⟨h0, h1, h2⟩
  unfold Tm.immsT at h
  by_cases c1 : a / 512 % 2 = 0
  · rw [if_pos c1] at h
    by_cases c2 : Tm.validI (Tm.num a b) = true
    · rw [if_pos c2] at h
      obtain ⟨q1, q2, _⟩ := data_ok h
      exact ⟨0, by decide, hF, c1, c2, q1, fun z => ⟨bit1.1 (q2 z).1, (q2 z).2⟩⟩
    · rw [if_neg c2] at h; exact (ok_Z h).elim
  · rw [if_neg c1] at h
    have c1' : a / 512 % 2 = 1 := by omega
    by_cases c3 : a / 16 % 32 = 0
    · by_cases c4 : a % 16 = 15
      · exact ⟨14, by decide, hF, c1', c4, .inl c3⟩
      · exact ⟨1, by decide, hF, c1', .inl c3, c4⟩
    · rw [if_neg c3] at h
      by_cases c5 : a / 16 % 32 = 10
      · rw [if_pos c5] at h
        by_cases c4 : a % 16 = 15
        · rw [if_pos c4] at h
          by_cases c6 : Tm.num a b = 0
          · rw [if_pos c6] at h; exact (ok_Z h).elim
          · exact ⟨14, by decide, hF, c1', c4, .inr ⟨c5, c6⟩⟩
        · exact ⟨1, by decide, hF, c1', .inr c5, c4⟩
      · rw [if_neg c5] at h
        by_cases c7 : a / 16 % 32 = 4
        · exact ⟨6, by decide, hF, c1', .inl c7⟩
        · rw [if_neg c7] at h
          by_cases c8 : a / 16 % 32 = 12
          · exact ⟨6, by decide, hF, c1', .inr c8⟩
          · rw [if_neg c8] at h; exact (ok_Z h).elim
theorem cov_branch (a b : Int) (t : Bool) (h0 : 61440 ≤ a) (h1 : a < 63488) (h2 : 32768 ≤ b) (h : Nm.okB (Tm.branchT a b t) = true) : ∃ k, k < 17 ∧ PA k a b t := by
  unfold Tm.branchT at h
  by_cases c1 : a = 62383 ∧ b = 32768
  · exact ⟨15, by decide, c1⟩
  · rw [if_neg c1] at h
    by_cases c2 : b / 16384 % 2 = 0 ∧ b / 4096 % 2 = 0
    · rw [if_pos c2] at h
      by_cases c3 : a / 64 % 16 < 14 ∧ t = false
      · exact ⟨11, by decide, h0, h1, h2, c2.1, c2.2, c3.1, c3.2⟩
      · rw [if_neg c3] at h; exact (ok_Z h).elim
    · rw [if_neg c2] at h
      by_cases c4 : b / 4096 % 2 = 1
      · exact ⟨12, by decide, h0, h1, h2, c4⟩
      · rw [if_neg c4] at h; exact (ok_Z h).elim
theorem opL_big {k : Int} (h0 : 0 ≤ k) (h1 : k < 8) (h : ¬ k ≤ 5) : Tm.opL k = 0 := by
  have : k = 6 ∨ k = 7 := by omega
  rcases this with rfl | rfl <;> rfl
theorem cov_loads (a b : Int) (t : Bool) (h0 : 63488 ≤ a) (h1 : a < 63744) (hb : 0 ≤ b) (h : Nm.okB (Tm.loadsT a b) = true) : ∃ k, k < 17 ∧ PA k a b t := by
  unfold Tm.loadsT at h
  by_cases c1 : a % 16 = 15
  · rw [if_pos c1] at h
    by_cases c2 : a = 63711
    · exact ⟨13, by decide, .inl c2⟩
    · rw [if_neg c2] at h
      by_cases c3 : a = 63583 ∧ b % 4096 ≠ 0
      · exact ⟨13, by decide, .inr c3⟩
      · rw [if_neg c3] at h; exact (ok_Z h).elim
  · rw [if_neg c1] at h
    have c6 : a / 16 % 8 ≤ 5 := Classical.byContradiction fun hn => by
      rw [opL_big (by omega) (by omega) hn] at h
      split at h
      · exact ok_zero h
      · split at h
        · exact ok_zero h
        · exact ok_Z h
    by_cases c4 : a / 128 % 2 = 1
    · exact ⟨7, by decide, by omega, c4, c6, c1, hb⟩
    · rw [if_neg c4] at h
      by_cases c5 : b / 16 % 256 = 0
      · exact ⟨8, by decide, by omega, by omega, c6, c1, c5⟩
      · rw [if_neg c5] at h; exact (ok_Z h).elim
theorem cov_others (a b : Int) (t : Bool) (h : Nm.okB (Tm.othersT a b) = true) : ∃ k, k < 17 ∧ PA k a b t := by
  unfold Tm.othersT at h
  by_cases c1 : b / 4096 ≠ 15
  · rw [if_pos c1] at h; exact (ok_Z h).elim
  · rw [if_neg c1] at h
    have c1' : b / 4096 = 15 := by omega
    by_cases c2 : a / 128 = 500 ∧ b / 16 % 16 = 0
    · exact ⟨4, by decide, c2.1, c1', c2.2⟩
    · rw [if_neg c2] at h
      by_cases c3 : a / 16 = 4016 ∧ b / 16 % 16 = 0
      · exact ⟨5, by decide, c1', .inl c3⟩
      · rw [if_neg c3] at h
        by_cases c4 : a / 16 = 4025 ∧ b / 16 % 16 = 15
        · exact ⟨5, by decide, c1', .inr (.inl c4)⟩
        · rw [if_neg c4] at h
          by_cases c5 : a / 16 = 4027 ∧ b / 16 % 16 = 15
          · exact ⟨5, by decide, c1', .inr (.inr c5)⟩
          · rw [if_neg c5] at h; exact (ok_Z h).elim
theorem cov (E : Int → Int) (a b : Int) (t : Bool) (hb : 0 ≤ b) (h : Nm.okB (Tm.tallS E Tm.validI a b t) = true) : ∃ k, k < 17 ∧ PA k a b t := by
  unfold Tm.tallS at h
  by_cases c1 : a < 59392
  · rw [if_pos c1] at h; exact (ok_Z h).elim
  rw [if_neg c1] at h
  by_cases c2 : a < 59904
  · rw [if_pos c2] at h; exact cov_many a b t hb h
  rw [if_neg c2] at h
  by_cases c3 : a < 60416
  · rw [if_pos c3] at h; exact cov_regs a b t (by omega) c3 h
  rw [if_neg c3] at h
  by_cases c4 : a < 61440
  · rw [if_pos c4] at h; exact (ok_Z h).elim
  rw [if_neg c4] at h
  by_cases c5 : a < 63488
  · rw [if_pos c5] at h
    by_cases c6 : b < 32768
    · rw [if_pos c6] at h; exact cov_imms E a b t (by omega) c5 c6 h
    · rw [if_neg c6] at h; exact cov_branch a b t (by omega) c5 (by omega) h
  rw [if_neg c5] at h
  by_cases c7 : a < 63744
  · rw [if_pos c7] at h; exact cov_loads a b t (by omega) c7 hb h
  rw [if_neg c7] at h
  by_cases c8 : a < 64000
  · rw [if_pos c8] at h; exact (ok_Z h).elim
  rw [if_neg c8] at h
  by_cases c9 : a < 64512
  · rw [if_pos c9] at h; exact cov_others a b t h
  · rw [if_neg c9] at h; exact (ok_Z h).elim
end Tp
end Go.Proofs.YtdcnkmkaafimlaaDoor
