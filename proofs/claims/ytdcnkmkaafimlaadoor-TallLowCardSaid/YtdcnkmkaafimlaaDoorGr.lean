/- What is asked of each of tall's readers: what it answers, and that it is the document's row where it may be. No conditions. Readers of tall against the document's rows. No conditions (text by gen_ra.py). Readers of tall against the document's rows. No conditions (text by gen_ra.py). -/
import Derived.Test.YtdcnkmkaafimlaaDoorRows
import Derived.Test.YtdcnkmkaafimlaaDoorGp
import Derived.Test.YtdcnkmkaafimlaaDoorGq
import Derived.Test.YtdcnkmkaafimlaaDoorGc
import Derived.Test.YtdcnkmkaafimlaaDoorGa

namespace Go.Proofs.YtdcnkmkaafimlaaDoor
open Go.ChangeShapes Go.WideShapes Go.ChangeAt Go.RowKit
namespace Tp
open Nm (I)
open Tl (IV)

theorem reg_14 {r : Int} (h : Im.oneB 32767 r = true) : 0 ≤ r ∧ r ≤ 14 := by
  have h' := Nm.one_in h (by decide)
  refine ⟨h'.1, Classical.byContradiction fun hn => ?_⟩
  have e : r = 15 := by omega
  subst e
  revert h
  decide
theorem reg_12 {r : Int} (h : Im.oneB 24575 r = true) : 0 ≤ r ∧ r ≤ 14 ∧ r ≠ 13 := by
  have h' := Nm.one_in h (by decide)
  refine ⟨h'.1, Classical.byContradiction fun hn => ?_, ?_⟩
  · have e : r = 15 := by omega
    subst e
    revert h
    decide
  · rintro rfl
    revert h
    decide
/-- the reader f answers of X an instruction that is the document's, if it may be: just where P holds -/
def RdOk (f : FuncId) (X : Int) (t : Bool) (P : Prop) : Prop :=
  ∃ i : I, (∀ w, Tabs w → Calls Tryd.prog f #[.agg #[.int .u32 X, .bool t]] w fun e w' => e = .returned (IV i) ∧ Below w.heap.size w w') ∧ (Nm.okB i = true → P) ∧ (P → i = Tm.tallS Wm.tellF Tm.validI (X / 65536) (X % 65536) t)
theorem left_cases : ∀ (L : List (Int × Int)) (Y : Int), leftI L Y = 0 ∨ ∃ e ∈ L, e.2 = Y ∧ leftI L Y = e.1
  | [], _ => .inl rfl
  | b :: L, Y => by
    unfold leftI
    by_cases h : b.2 = Y
    · rw [if_pos h]; exact .inr ⟨b, by simp, h, rfl⟩
    · rw [if_neg h]
      rcases left_cases L Y with h1 | ⟨e, h1, h2, h3⟩
      · exact .inl h1
      · exact .inr ⟨e, by simp [h1], h2, h3⟩
theorem ok_zero {cond rd rn rm imm mode list : Int} {s : Bool} (h : Nm.okB ⟨0, cond, rd, rn, rm, imm, mode, list, s⟩ = true) : False := by
  have := (Nm.ok_parts h).1
  dsimp only at this
  omega
theorem ok_Z (h : Nm.okB Tm.Z = true) : False := by rw [Tm.z_no] at h; cases h

/-! where each row is read -/
def isF (a b : Int) : Prop := 61440 ≤ a ∧ a < 63488 ∧ b < 32768
def P0 (a b : Int) : Prop := isF a b ∧ a / 512 % 2 = 0 ∧ Tm.validI (Tm.num a b) = true ∧ ¬ (a % 16 = 15 ∧ b / 256 % 16 = 15) ∧ (b / 256 % 16 = 15 → a / 16 % 2 = 1 ∧ Tm.opT (a / 32 % 16) ≠ 0)
def P1 (a b : Int) : Prop := isF a b ∧ a / 512 % 2 = 1 ∧ (a / 16 % 32 = 0 ∨ a / 16 % 32 = 10) ∧ a % 16 ≠ 15
def isE (a b : Int) : Prop := 59904 ≤ a ∧ a < 60416 ∧ b < 32768
def P2 (a b : Int) : Prop := isE a b ∧ Tm.shN b = 0 ∧ b / 16 % 4 = 0 ∧ ¬ (a % 16 = 15 ∧ b / 256 % 16 = 15) ∧ (b / 256 % 16 = 15 → a / 16 % 2 = 1 ∧ Tm.opT (a / 32 % 16) ≠ 0) ∧ b / 256 % 16 ≠ 13 ∧ b % 16 ≠ 13
def P3 (a b : Int) : Prop := isE a b ∧ a / 32 % 16 = 2 ∧ a % 16 = 15 ∧ b / 256 % 16 ≠ 15 ∧ ¬ (Tm.shN b = 0 ∧ (b / 16 % 4 = 0 ∨ b / 16 % 4 = 3))
def P4 (a b : Int) : Prop := a / 128 = 500 ∧ b / 4096 = 15 ∧ b / 16 % 16 = 0
def P5 (a b : Int) : Prop := b / 4096 = 15 ∧ ((a / 16 = 4016 ∧ b / 16 % 16 = 0) ∨ (a / 16 = 4025 ∧ b / 16 % 16 = 15) ∨ (a / 16 = 4027 ∧ b / 16 % 16 = 15))
def P6 (a b : Int) : Prop := isF a b ∧ a / 512 % 2 = 1 ∧ (a / 16 % 32 = 4 ∨ a / 16 % 32 = 12)
def P7 (a b : Int) : Prop := a / 256 = 248 ∧ a / 128 % 2 = 1 ∧ a / 16 % 8 ≤ 5 ∧ a % 16 ≠ 15 ∧ 0 ≤ b
def P8 (a b : Int) : Prop := a / 256 = 248 ∧ a / 128 % 2 = 0 ∧ a / 16 % 8 ≤ 5 ∧ a % 16 ≠ 15 ∧ b / 16 % 256 = 0
def P9 (a b : Int) : Prop := (a / 16 = 3722 ∨ a / 16 = 3723) ∧ a ≠ 59581 ∧ 0 ≤ b
def P10 (a b : Int) : Prop := (a = 59693 ∨ a = 59581) ∧ 2 ≤ Im.pop b.toNat
def P11 (a b : Int) (t : Bool) : Prop := 61440 ≤ a ∧ a < 63488 ∧ 32768 ≤ b ∧ b / 16384 % 2 = 0 ∧ b / 4096 % 2 = 0 ∧ a / 64 % 16 < 14 ∧ t = false
def P12 (a b : Int) : Prop := 61440 ≤ a ∧ a < 63488 ∧ 32768 ≤ b ∧ b / 4096 % 2 = 1
def P13 (a b : Int) : Prop := a = 63711 ∨ (a = 63583 ∧ b % 4096 ≠ 0)
def P14 (a b : Int) : Prop := isF a b ∧ a / 512 % 2 = 1 ∧ a % 16 = 15 ∧ (a / 16 % 32 = 0 ∨ (a / 16 % 32 = 10 ∧ Tm.num a b ≠ 0))
def P15 (a b : Int) : Prop := a = 62383 ∧ b = 32768
def P16 (a b : Int) : Prop := a / 16 = 3725 ∧ b / 16 = 3840
end Tp
end Go.Proofs.YtdcnkmkaafimlaaDoor

namespace Go.Proofs.YtdcnkmkaafimlaaDoor
open Go.ChangeShapes Go.WideShapes Go.ChangeAt Go.RowKit
namespace Tp
open Nm (I)
open Tl (IV)

theorem rd_plain (X : Int) (t : Bool) (hx0 : 0 ≤ X) (hx1 : X < 4294967296) : RdOk 9 X t (P1 (X / 65536) (X % 65536)) := by
  obtain ⟨k0, l, E0, l0, l1⟩ : ∃ q v, X = q * 256 + v ∧ 0 ≤ v ∧ v < 256 := ⟨X / 256, X % 256, by omega, by omega, by omega⟩
  obtain ⟨k1, d, E1, d0, d1⟩ : ∃ q v, k0 = q * 16 + v ∧ 0 ≤ v ∧ v < 16 := ⟨k0 / 16, k0 % 16, by omega, by omega, by omega⟩
  obtain ⟨k2, j, E2, j0, j1⟩ : ∃ q v, k1 = q * 8 + v ∧ 0 ≤ v ∧ v < 8 := ⟨k1 / 8, k1 % 8, by omega, by omega, by omega⟩
  obtain ⟨k3, z, E3, z0, z1⟩ : ∃ q v, k2 = q * 2 + v ∧ 0 ≤ v ∧ v < 2 := ⟨k2 / 2, k2 % 2, by omega, by omega, by omega⟩
  obtain ⟨k4, r, E4, r0, r1⟩ : ∃ q v, k3 = q * 16 + v ∧ 0 ≤ v ∧ v < 16 := ⟨k3 / 16, k3 % 16, by omega, by omega, by omega⟩
  obtain ⟨k5, m, E5, m0, m1⟩ : ∃ q v, k4 = q * 64 + v ∧ 0 ≤ v ∧ v < 64 := ⟨k4 / 64, k4 % 64, by omega, by omega, by omega⟩
  obtain ⟨k6, i, E6, i0, i1⟩ : ∃ q v, k5 = q * 2 + v ∧ 0 ≤ v ∧ v < 2 := ⟨k5 / 2, k5 % 2, by omega, by omega, by omega⟩
  obtain ⟨g, EL⟩ : ∃ v, v = k6 := ⟨_, rfl⟩
  have hX : X = g * 134217728 + i * 67108864 + m * 1048576 + r * 65536 + z * 32768 + j * 4096 + d * 256 + l := by omega
  have g0 : 0 ≤ g := by omega
  have g1 : g < 32 := by omega
  subst hX
  clear E0 E1 E2 E3 E4 E5 E6 EL
  have ha : (g * 134217728 + i * 67108864 + m * 1048576 + r * 65536 + z * 32768 + j * 4096 + d * 256 + l) / 65536 = g * 2048 + i * 1024 + m * 16 + r := by omega
  have hb : (g * 134217728 + i * 67108864 + m * 1048576 + r * 65536 + z * 32768 + j * 4096 + d * 256 + l) % 65536 = z * 32768 + j * 4096 + d * 256 + l := by omega
  unfold RdOk
  rw [ha, hb]
  refine ⟨⟨leftI [(5, 4060086272), (7, 4070572032)] (g * 134217728 + m * 1048576 + z * 32768), 0, d, r, 0, i * 2048 + j * 256 + l, 1, 0, false⟩, fun W hT => plain_c (X1 := g * 134217728 + i * 67108864 + m * 1048576 + r * 65536 + z * 32768 + j * 4096 + l) (X2 := g * 134217728 + i * 67108864 + m * 1048576 + z * 32768 + j * 4096 + l) (X3 := g * 134217728 + m * 1048576 + z * 32768 + j * 4096 + l) (X4 := g * 134217728 + m * 1048576 + z * 32768 + l) (X5 := g * 134217728 + m * 1048576 + z * 32768) (X := g * 134217728 + i * 67108864 + m * 1048576 + r * 65536 + z * 32768 + j * 4096 + d * 256 + l) (d := d) (r := r) (i := i) (j := j) (l := l) t W (by omega) (by omega) (by omega) (by omega) (by omega) (by omega) (by omega) (by omega) (by omega) (by omega) (by omega) (by omega) hT, ?_, ?_⟩
  · intro hok
    rcases left_cases [(5, 4060086272), (7, 4070572032)] (g * 134217728 + m * 1048576 + z * 32768) with h | ⟨e, he, hY, hl⟩
    · rw [h] at hok; exact (ok_zero hok).elim
    · rw [hl] at hok
      simp only [List.mem_cons, List.not_mem_nil, or_false] at he
      rcases he with rfl | rfl
      all_goals
        dsimp only at hY hok
        have hr := reg_12 (show Im.oneB 24575 r = true from (Nm.ok_parts hok).2.2.1)
        unfold P1 isF
        omega
  · intro h
    unfold P1 isF at h
    have hc : (g = 30 ∧ m = 32 ∧ z = 0) ∨ (g = 30 ∧ m = 42 ∧ z = 0) := by omega
    rcases hc with ⟨rfl, rfl, rfl⟩ | ⟨rfl, rfl, rfl⟩
    · rw [show leftI [(5, 4060086272), (7, 4070572032)] (30 * 134217728 + 32 * 1048576 + 0 * 32768) = 5 by decide]
      rw [Tm.at_imms _ _ (by omega) (by omega) (by omega)]; unfold Tm.immsT; rw [show Tm.num _ _ = i * 2048 + j * 256 + l by unfold Tm.num; omega]; (repeat (first | rw [if_neg (by omega)] | rw [if_pos (by omega)])); (try exact Nm.mk_eq (by omega) (by omega) (by omega) (by omega) (by omega) (by omega) (by omega) (by omega) rfl)
    · rw [show leftI [(5, 4060086272), (7, 4070572032)] (30 * 134217728 + 42 * 1048576 + 0 * 32768) = 7 by decide]
      rw [Tm.at_imms _ _ (by omega) (by omega) (by omega)]; unfold Tm.immsT; rw [show Tm.num _ _ = i * 2048 + j * 256 + l by unfold Tm.num; omega]; (repeat (first | rw [if_neg (by omega)] | rw [if_pos (by omega)])); (try exact Nm.mk_eq (by omega) (by omega) (by omega) (by omega) (by omega) (by omega) (by omega) (by omega) rfl)
theorem rd_sreg (X : Int) (t : Bool) (hx0 : 0 ≤ X) (hx1 : X < 4294967296) : RdOk 12 X t (P4 (X / 65536) (X % 65536)) := by
  obtain ⟨k0, m, E0, m0, m1⟩ : ∃ q v, X = q * 16 + v ∧ 0 ≤ v ∧ v < 16 := ⟨X / 16, X % 16, by omega, by omega, by omega⟩
  obtain ⟨k1, y, E1, y0, y1⟩ : ∃ q v, k0 = q * 16 + v ∧ 0 ≤ v ∧ v < 16 := ⟨k0 / 16, k0 % 16, by omega, by omega, by omega⟩
  obtain ⟨k2, d, E2, d0, d1⟩ : ∃ q v, k1 = q * 16 + v ∧ 0 ≤ v ∧ v < 16 := ⟨k1 / 16, k1 % 16, by omega, by omega, by omega⟩
  obtain ⟨k3, z, E3, z0, z1⟩ : ∃ q v, k2 = q * 16 + v ∧ 0 ≤ v ∧ v < 16 := ⟨k2 / 16, k2 % 16, by omega, by omega, by omega⟩
  obtain ⟨k4, r, E4, r0, r1⟩ : ∃ q v, k3 = q * 16 + v ∧ 0 ≤ v ∧ v < 16 := ⟨k3 / 16, k3 % 16, by omega, by omega, by omega⟩
  obtain ⟨k5, sv, E5, sv0, sv1⟩ : ∃ q v, k4 = q * 2 + v ∧ 0 ≤ v ∧ v < 2 := ⟨k4 / 2, k4 % 2, by omega, by omega, by omega⟩
  obtain ⟨g, EL⟩ : ∃ v, v = k5 := ⟨_, rfl⟩
  have hX : X = g * 2097152 + sv * 1048576 + r * 65536 + z * 4096 + d * 256 + y * 16 + m := by omega
  have g0 : 0 ≤ g := by omega
  have g1 : g < 2048 := by omega
  subst hX
  clear E0 E1 E2 E3 E4 E5 EL
  have ha : (g * 2097152 + sv * 1048576 + r * 65536 + z * 4096 + d * 256 + y * 16 + m) / 65536 = g * 32 + sv * 16 + r := by omega
  have hb : (g * 2097152 + sv * 1048576 + r * 65536 + z * 4096 + d * 256 + y * 16 + m) % 65536 = z * 4096 + d * 256 + y * 16 + m := by omega
  unfold RdOk
  rw [ha, hb]
  refine ⟨⟨leftI [(16, 4194365440), (17, 4196462592), (18, 4198559744), (19, 4200656896)] (g * 2097152 + z * 4096 + y * 16), 0, d, r, m, 0, 2, 0, (sv == 1)⟩, fun W hT => shiftedByRegister_c (X1 := g * 2097152 + r * 65536 + z * 4096 + d * 256 + y * 16 + m) (X2 := g * 2097152 + r * 65536 + z * 4096 + y * 16 + m) (X3 := g * 2097152 + z * 4096 + y * 16 + m) (X4 := g * 2097152 + z * 4096 + y * 16) (X := g * 2097152 + sv * 1048576 + r * 65536 + z * 4096 + d * 256 + y * 16 + m) (sv := sv) (d := d) (r := r) (m := m) t W (by omega) (by omega) (by omega) (by omega) (by omega) (by omega) (by omega) (by omega) (by omega) (by omega) hT, ?_, ?_⟩
  · intro hok
    rcases left_cases [(16, 4194365440), (17, 4196462592), (18, 4198559744), (19, 4200656896)] (g * 2097152 + z * 4096 + y * 16) with h | ⟨e, he, hY, hl⟩
    · rw [h] at hok; exact (ok_zero hok).elim
    · rw [hl] at hok
      simp only [List.mem_cons, List.not_mem_nil, or_false] at he
      rcases he with rfl | rfl | rfl | rfl
      all_goals
        dsimp only at hY hok
        unfold P4
        omega
  · intro h
    unfold P4 at h
    have hc : (g = 2000 ∧ z = 15 ∧ y = 0) ∨ (g = 2001 ∧ z = 15 ∧ y = 0) ∨ (g = 2002 ∧ z = 15 ∧ y = 0) ∨ (g = 2003 ∧ z = 15 ∧ y = 0) := by omega
    rcases hc with ⟨rfl, rfl, rfl⟩ | ⟨rfl, rfl, rfl⟩ | ⟨rfl, rfl, rfl⟩ | ⟨rfl, rfl, rfl⟩
    · rw [show leftI [(16, 4194365440), (17, 4196462592), (18, 4198559744), (19, 4200656896)] (2000 * 2097152 + 15 * 4096 + 0 * 16) = 16 by decide]
      rw [Tm.at_others _ _ (by omega) (by omega)]; unfold Tm.othersT; (repeat (first | rw [if_neg (by omega)] | rw [if_pos (by omega)])); (try exact Nm.mk_eq (by omega) (by omega) (by omega) (by omega) (by omega) (by omega) (by omega) (by omega) (congrArg (fun x : Int => x == 1) (by omega)))
    · rw [show leftI [(16, 4194365440), (17, 4196462592), (18, 4198559744), (19, 4200656896)] (2001 * 2097152 + 15 * 4096 + 0 * 16) = 17 by decide]
      rw [Tm.at_others _ _ (by omega) (by omega)]; unfold Tm.othersT; (repeat (first | rw [if_neg (by omega)] | rw [if_pos (by omega)])); (try exact Nm.mk_eq (by omega) (by omega) (by omega) (by omega) (by omega) (by omega) (by omega) (by omega) (congrArg (fun x : Int => x == 1) (by omega)))
    · rw [show leftI [(16, 4194365440), (17, 4196462592), (18, 4198559744), (19, 4200656896)] (2002 * 2097152 + 15 * 4096 + 0 * 16) = 18 by decide]
      rw [Tm.at_others _ _ (by omega) (by omega)]; unfold Tm.othersT; (repeat (first | rw [if_neg (by omega)] | rw [if_pos (by omega)])); (try exact Nm.mk_eq (by omega) (by omega) (by omega) (by omega) (by omega) (by omega) (by omega) (by omega) (congrArg (fun x : Int => x == 1) (by omega)))
    · rw [show leftI [(16, 4194365440), (17, 4196462592), (18, 4198559744), (19, 4200656896)] (2003 * 2097152 + 15 * 4096 + 0 * 16) = 19 by decide]
      rw [Tm.at_others _ _ (by omega) (by omega)]; unfold Tm.othersT; (repeat (first | rw [if_neg (by omega)] | rw [if_pos (by omega)])); (try exact Nm.mk_eq (by omega) (by omega) (by omega) (by omega) (by omega) (by omega) (by omega) (by omega) (congrArg (fun x : Int => x == 1) (by omega)))
theorem rd_product (X : Int) (t : Bool) (hx0 : 0 ≤ X) (hx1 : X < 4294967296) : RdOk 13 X t (P5 (X / 65536) (X % 65536)) := by
  obtain ⟨k0, m, E0, m0, m1⟩ : ∃ q v, X = q * 16 + v ∧ 0 ≤ v ∧ v < 16 := ⟨X / 16, X % 16, by omega, by omega, by omega⟩
  obtain ⟨k1, y, E1, y0, y1⟩ : ∃ q v, k0 = q * 16 + v ∧ 0 ≤ v ∧ v < 16 := ⟨k0 / 16, k0 % 16, by omega, by omega, by omega⟩
  obtain ⟨k2, d, E2, d0, d1⟩ : ∃ q v, k1 = q * 16 + v ∧ 0 ≤ v ∧ v < 16 := ⟨k1 / 16, k1 % 16, by omega, by omega, by omega⟩
  obtain ⟨k3, z, E3, z0, z1⟩ : ∃ q v, k2 = q * 16 + v ∧ 0 ≤ v ∧ v < 16 := ⟨k2 / 16, k2 % 16, by omega, by omega, by omega⟩
  obtain ⟨k4, r, E4, r0, r1⟩ : ∃ q v, k3 = q * 16 + v ∧ 0 ≤ v ∧ v < 16 := ⟨k3 / 16, k3 % 16, by omega, by omega, by omega⟩
  obtain ⟨g, EL⟩ : ∃ v, v = k4 := ⟨_, rfl⟩
  have hX : X = g * 1048576 + r * 65536 + z * 4096 + d * 256 + y * 16 + m := by omega
  have g0 : 0 ≤ g := by omega
  have g1 : g < 4096 := by omega
  subst hX
  clear E0 E1 E2 E3 E4 EL
  have ha : (g * 1048576 + r * 65536 + z * 4096 + d * 256 + y * 16 + m) / 65536 = g * 16 + r := by omega
  have hb : (g * 1048576 + r * 65536 + z * 4096 + d * 256 + y * 16 + m) % 65536 = z * 4096 + d * 256 + y * 16 + m := by omega
  unfold RdOk
  rw [ha, hb]
  refine ⟨⟨leftI [(20, 4211142656), (22, 4220580080), (21, 4222677232)] (g * 1048576 + z * 4096 + y * 16), 0, d, r, m, 0, 2, 0, false⟩, fun W hT => product_c (X1 := g * 1048576 + r * 65536 + z * 4096 + y * 16 + m) (X2 := g * 1048576 + z * 4096 + y * 16 + m) (X3 := g * 1048576 + z * 4096 + y * 16) (X := g * 1048576 + r * 65536 + z * 4096 + d * 256 + y * 16 + m) (d := d) (r := r) (m := m) t W (by omega) (by omega) (by omega) (by omega) (by omega) (by omega) (by omega) (by omega) hT, ?_, ?_⟩
  · intro hok
    rcases left_cases [(20, 4211142656), (22, 4220580080), (21, 4222677232)] (g * 1048576 + z * 4096 + y * 16) with h | ⟨e, he, hY, hl⟩
    · rw [h] at hok; exact (ok_zero hok).elim
    · rw [hl] at hok
      simp only [List.mem_cons, List.not_mem_nil, or_false] at he
      rcases he with rfl | rfl | rfl
      all_goals
        dsimp only at hY hok
        unfold P5
        omega
  · intro h
    unfold P5 at h
    have hc : (g = 4016 ∧ z = 15 ∧ y = 0) ∨ (g = 4025 ∧ z = 15 ∧ y = 15) ∨ (g = 4027 ∧ z = 15 ∧ y = 15) := by omega
    rcases hc with ⟨rfl, rfl, rfl⟩ | ⟨rfl, rfl, rfl⟩ | ⟨rfl, rfl, rfl⟩
    · rw [show leftI [(20, 4211142656), (22, 4220580080), (21, 4222677232)] (4016 * 1048576 + 15 * 4096 + 0 * 16) = 20 by decide]
      rw [Tm.at_others _ _ (by omega) (by omega)]; unfold Tm.othersT; (repeat (first | rw [if_neg (by omega)] | rw [if_pos (by omega)])); (try exact Nm.mk_eq (by omega) (by omega) (by omega) (by omega) (by omega) (by omega) (by omega) (by omega) rfl)
    · rw [show leftI [(20, 4211142656), (22, 4220580080), (21, 4222677232)] (4025 * 1048576 + 15 * 4096 + 15 * 16) = 22 by decide]
      rw [Tm.at_others _ _ (by omega) (by omega)]; unfold Tm.othersT; (repeat (first | rw [if_neg (by omega)] | rw [if_pos (by omega)])); (try exact Nm.mk_eq (by omega) (by omega) (by omega) (by omega) (by omega) (by omega) (by omega) (by omega) rfl)
    · rw [show leftI [(20, 4211142656), (22, 4220580080), (21, 4222677232)] (4027 * 1048576 + 15 * 4096 + 15 * 16) = 21 by decide]
      rw [Tm.at_others _ _ (by omega) (by omega)]; unfold Tm.othersT; (repeat (first | rw [if_neg (by omega)] | rw [if_pos (by omega)])); (try exact Nm.mk_eq (by omega) (by omega) (by omega) (by omega) (by omega) (by omega) (by omega) (by omega) rfl)
theorem rd_half (X : Int) (t : Bool) (hx0 : 0 ≤ X) (hx1 : X < 4294967296) : RdOk 14 X t (P6 (X / 65536) (X % 65536)) := by
  obtain ⟨k0, l, E0, l0, l1⟩ : ∃ q v, X = q * 256 + v ∧ 0 ≤ v ∧ v < 256 := ⟨X / 256, X % 256, by omega, by omega, by omega⟩
  obtain ⟨k1, d, E1, d0, d1⟩ : ∃ q v, k0 = q * 16 + v ∧ 0 ≤ v ∧ v < 16 := ⟨k0 / 16, k0 % 16, by omega, by omega, by omega⟩
  obtain ⟨k2, j, E2, j0, j1⟩ : ∃ q v, k1 = q * 8 + v ∧ 0 ≤ v ∧ v < 8 := ⟨k1 / 8, k1 % 8, by omega, by omega, by omega⟩
  obtain ⟨k3, z, E3, z0, z1⟩ : ∃ q v, k2 = q * 2 + v ∧ 0 ≤ v ∧ v < 2 := ⟨k2 / 2, k2 % 2, by omega, by omega, by omega⟩
  obtain ⟨k4, r, E4, r0, r1⟩ : ∃ q v, k3 = q * 16 + v ∧ 0 ≤ v ∧ v < 16 := ⟨k3 / 16, k3 % 16, by omega, by omega, by omega⟩
  obtain ⟨k5, m, E5, m0, m1⟩ : ∃ q v, k4 = q * 64 + v ∧ 0 ≤ v ∧ v < 64 := ⟨k4 / 64, k4 % 64, by omega, by omega, by omega⟩
  obtain ⟨k6, i, E6, i0, i1⟩ : ∃ q v, k5 = q * 2 + v ∧ 0 ≤ v ∧ v < 2 := ⟨k5 / 2, k5 % 2, by omega, by omega, by omega⟩
  obtain ⟨g, EL⟩ : ∃ v, v = k6 := ⟨_, rfl⟩
  have hX : X = g * 134217728 + i * 67108864 + m * 1048576 + r * 65536 + z * 32768 + j * 4096 + d * 256 + l := by omega
  have g0 : 0 ≤ g := by omega
  have g1 : g < 32 := by omega
  subst hX
  clear E0 E1 E2 E3 E4 E5 E6 EL
  have ha : (g * 134217728 + i * 67108864 + m * 1048576 + r * 65536 + z * 32768 + j * 4096 + d * 256 + l) / 65536 = g * 2048 + i * 1024 + m * 16 + r := by omega
  have hb : (g * 134217728 + i * 67108864 + m * 1048576 + r * 65536 + z * 32768 + j * 4096 + d * 256 + l) % 65536 = z * 32768 + j * 4096 + d * 256 + l := by omega
  unfold RdOk
  rw [ha, hb]
  refine ⟨⟨leftI [(23, 4064280576), (24, 4072669184)] (g * 134217728 + m * 1048576 + z * 32768), 0, d, 0, 0, r * 4096 + (i * 2048 + j * 256 + l), 1, 0, false⟩, fun W hT => half_c (X1 := g * 134217728 + i * 67108864 + m * 1048576 + r * 65536 + z * 32768 + j * 4096 + l) (X2 := g * 134217728 + i * 67108864 + m * 1048576 + z * 32768 + j * 4096 + l) (X3 := g * 134217728 + m * 1048576 + z * 32768 + j * 4096 + l) (X4 := g * 134217728 + m * 1048576 + z * 32768 + l) (X5 := g * 134217728 + m * 1048576 + z * 32768) (X := g * 134217728 + i * 67108864 + m * 1048576 + r * 65536 + z * 32768 + j * 4096 + d * 256 + l) (d := d) (r := r) (i := i) (j := j) (l := l) t W (by omega) (by omega) (by omega) (by omega) (by omega) (by omega) (by omega) (by omega) (by omega) (by omega) (by omega) (by omega) hT (i * 2048 + j * 256 + l) (r * 4096 + (i * 2048 + j * 256 + l)) rfl rfl, ?_, ?_⟩
  · intro hok
    rcases left_cases [(23, 4064280576), (24, 4072669184)] (g * 134217728 + m * 1048576 + z * 32768) with h | ⟨e, he, hY, hl⟩
    · rw [h] at hok; exact (ok_zero hok).elim
    · rw [hl] at hok
      simp only [List.mem_cons, List.not_mem_nil, or_false] at he
      rcases he with rfl | rfl
      all_goals
        dsimp only at hY hok
        unfold P6 isF
        omega
  · intro h
    unfold P6 isF at h
    have hc : (g = 30 ∧ m = 36 ∧ z = 0) ∨ (g = 30 ∧ m = 44 ∧ z = 0) := by omega
    rcases hc with ⟨rfl, rfl, rfl⟩ | ⟨rfl, rfl, rfl⟩
    · rw [show leftI [(23, 4064280576), (24, 4072669184)] (30 * 134217728 + 36 * 1048576 + 0 * 32768) = 23 by decide]
      rw [Tm.at_imms _ _ (by omega) (by omega) (by omega)]; unfold Tm.immsT; rw [show Tm.num _ _ = i * 2048 + j * 256 + l by unfold Tm.num; omega]; (repeat (first | rw [if_neg (by omega)] | rw [if_pos (by omega)])); (try exact Nm.mk_eq (by omega) (by omega) (by omega) (by omega) (by omega) (by omega) (by omega) (by omega) rfl)
    · rw [show leftI [(23, 4064280576), (24, 4072669184)] (30 * 134217728 + 44 * 1048576 + 0 * 32768) = 24 by decide]
      rw [Tm.at_imms _ _ (by omega) (by omega) (by omega)]; unfold Tm.immsT; rw [show Tm.num _ _ = i * 2048 + j * 256 + l by unfold Tm.num; omega]; (repeat (first | rw [if_neg (by omega)] | rw [if_pos (by omega)])); (try exact Nm.mk_eq (by omega) (by omega) (by omega) (by omega) (by omega) (by omega) (by omega) (by omega) rfl)
end Tp
end Go.Proofs.YtdcnkmkaafimlaaDoor

namespace Go.Proofs.YtdcnkmkaafimlaaDoor
open Go.ChangeShapes Go.WideShapes Go.ChangeAt Go.RowKit
namespace Tp
open Nm (I)
open Tl (IV)

theorem rd_ldnum (X : Int) (t : Bool) (hx0 : 0 ≤ X) (hx1 : X < 4294967296) : RdOk 15 X t (P7 (X / 65536) (X % 65536)) := by
  obtain ⟨k0, n, E0, n0, n1⟩ : ∃ q v, X = q * 4096 + v ∧ 0 ≤ v ∧ v < 4096 := ⟨X / 4096, X % 4096, by omega, by omega, by omega⟩
  obtain ⟨k1, d, E1, d0, d1⟩ : ∃ q v, k0 = q * 16 + v ∧ 0 ≤ v ∧ v < 16 := ⟨k0 / 16, k0 % 16, by omega, by omega, by omega⟩
  obtain ⟨k2, r, E2, r0, r1⟩ : ∃ q v, k1 = q * 16 + v ∧ 0 ≤ v ∧ v < 16 := ⟨k1 / 16, k1 % 16, by omega, by omega, by omega⟩
  obtain ⟨g, EL⟩ : ∃ v, v = k2 := ⟨_, rfl⟩
  have hX : X = g * 1048576 + r * 65536 + d * 4096 + n := by omega
  have g0 : 0 ≤ g := by omega
  have g1 : g < 4096 := by omega
  subst hX
  clear E0 E1 E2 EL
  have ha : (g * 1048576 + r * 65536 + d * 4096 + n) / 65536 = g * 16 + r := by omega
  have hb : (g * 1048576 + r * 65536 + d * 4096 + n) % 65536 = d * 4096 + n := by omega
  unfold RdOk
  rw [ha, hb]
  refine ⟨⟨leftI [(29, 4169138176), (26, 4170186752), (30, 4171235328), (27, 4172283904), (28, 4173332480), (25, 4174381056)] (g * 1048576), 0, d, r, 0, n, 1, 0, false⟩, fun W hT => loadByNumber_c (X1 := g * 1048576 + r * 65536 + n) (X2 := g * 1048576 + n) (X3 := g * 1048576) (X := g * 1048576 + r * 65536 + d * 4096 + n) (d := d) (r := r) (n := n) t W (by omega) (by omega) (by omega) (by omega) (by omega) (by omega) (by omega) (by omega) hT, ?_, ?_⟩
  · intro hok
    rcases left_cases [(29, 4169138176), (26, 4170186752), (30, 4171235328), (27, 4172283904), (28, 4173332480), (25, 4174381056)] (g * 1048576) with h | ⟨e, he, hY, hl⟩
    · rw [h] at hok; exact (ok_zero hok).elim
    · rw [hl] at hok
      simp only [List.mem_cons, List.not_mem_nil, or_false] at he
      rcases he with rfl | rfl | rfl | rfl | rfl | rfl
      all_goals
        dsimp only at hY hok
        have hr := reg_14 (show Im.oneB 32767 r = true from (Nm.ok_parts hok).2.2.1)
        unfold P7
        omega
  · intro h
    unfold P7 at h
    have hc : (g = 3976) ∨ (g = 3977) ∨ (g = 3978) ∨ (g = 3979) ∨ (g = 3980) ∨ (g = 3981) := by omega
    rcases hc with rfl | rfl | rfl | rfl | rfl | rfl
    · rw [show leftI [(29, 4169138176), (26, 4170186752), (30, 4171235328), (27, 4172283904), (28, 4173332480), (25, 4174381056)] (3976 * 1048576) = 29 by decide]
      rw [Tm.at_loads _ _ (by omega) (by omega)]; unfold Tm.loadsT; (repeat (first | rw [if_neg (by omega)] | rw [if_pos (by omega)])); (try exact Nm.mk_eq (by rw [show (3976 * 16 + r) / 16 % 8 = 0 by omega]; rfl) (by omega) (by omega) (by omega) (by omega) (by omega) (by omega) (by omega) rfl)
    · rw [show leftI [(29, 4169138176), (26, 4170186752), (30, 4171235328), (27, 4172283904), (28, 4173332480), (25, 4174381056)] (3977 * 1048576) = 26 by decide]
      rw [Tm.at_loads _ _ (by omega) (by omega)]; unfold Tm.loadsT; (repeat (first | rw [if_neg (by omega)] | rw [if_pos (by omega)])); (try exact Nm.mk_eq (by rw [show (3977 * 16 + r) / 16 % 8 = 1 by omega]; rfl) (by omega) (by omega) (by omega) (by omega) (by omega) (by omega) (by omega) rfl)
    · rw [show leftI [(29, 4169138176), (26, 4170186752), (30, 4171235328), (27, 4172283904), (28, 4173332480), (25, 4174381056)] (3978 * 1048576) = 30 by decide]
      rw [Tm.at_loads _ _ (by omega) (by omega)]; unfold Tm.loadsT; (repeat (first | rw [if_neg (by omega)] | rw [if_pos (by omega)])); (try exact Nm.mk_eq (by rw [show (3978 * 16 + r) / 16 % 8 = 2 by omega]; rfl) (by omega) (by omega) (by omega) (by omega) (by omega) (by omega) (by omega) rfl)
    · rw [show leftI [(29, 4169138176), (26, 4170186752), (30, 4171235328), (27, 4172283904), (28, 4173332480), (25, 4174381056)] (3979 * 1048576) = 27 by decide]
      rw [Tm.at_loads _ _ (by omega) (by omega)]; unfold Tm.loadsT; (repeat (first | rw [if_neg (by omega)] | rw [if_pos (by omega)])); (try exact Nm.mk_eq (by rw [show (3979 * 16 + r) / 16 % 8 = 3 by omega]; rfl) (by omega) (by omega) (by omega) (by omega) (by omega) (by omega) (by omega) rfl)
    · rw [show leftI [(29, 4169138176), (26, 4170186752), (30, 4171235328), (27, 4172283904), (28, 4173332480), (25, 4174381056)] (3980 * 1048576) = 28 by decide]
      rw [Tm.at_loads _ _ (by omega) (by omega)]; unfold Tm.loadsT; (repeat (first | rw [if_neg (by omega)] | rw [if_pos (by omega)])); (try exact Nm.mk_eq (by rw [show (3980 * 16 + r) / 16 % 8 = 4 by omega]; rfl) (by omega) (by omega) (by omega) (by omega) (by omega) (by omega) (by omega) rfl)
    · rw [show leftI [(29, 4169138176), (26, 4170186752), (30, 4171235328), (27, 4172283904), (28, 4173332480), (25, 4174381056)] (3981 * 1048576) = 25 by decide]
      rw [Tm.at_loads _ _ (by omega) (by omega)]; unfold Tm.loadsT; (repeat (first | rw [if_neg (by omega)] | rw [if_pos (by omega)])); (try exact Nm.mk_eq (by rw [show (3981 * 16 + r) / 16 % 8 = 5 by omega]; rfl) (by omega) (by omega) (by omega) (by omega) (by omega) (by omega) (by omega) rfl)
theorem rd_ldreg (X : Int) (t : Bool) (hx0 : 0 ≤ X) (hx1 : X < 4294967296) : RdOk 16 X t (P8 (X / 65536) (X % 65536)) := by
  obtain ⟨k0, m, E0, m0, m1⟩ : ∃ q v, X = q * 16 + v ∧ 0 ≤ v ∧ v < 16 := ⟨X / 16, X % 16, by omega, by omega, by omega⟩
  obtain ⟨k1, y, E1, y0, y1⟩ : ∃ q v, k0 = q * 256 + v ∧ 0 ≤ v ∧ v < 256 := ⟨k0 / 256, k0 % 256, by omega, by omega, by omega⟩
  obtain ⟨k2, d, E2, d0, d1⟩ : ∃ q v, k1 = q * 16 + v ∧ 0 ≤ v ∧ v < 16 := ⟨k1 / 16, k1 % 16, by omega, by omega, by omega⟩
  obtain ⟨k3, r, E3, r0, r1⟩ : ∃ q v, k2 = q * 16 + v ∧ 0 ≤ v ∧ v < 16 := ⟨k2 / 16, k2 % 16, by omega, by omega, by omega⟩
  obtain ⟨g, EL⟩ : ∃ v, v = k3 := ⟨_, rfl⟩
  have hX : X = g * 1048576 + r * 65536 + d * 4096 + y * 16 + m := by omega
  have g0 : 0 ≤ g := by omega
  have g1 : g < 4096 := by omega
  subst hX
  clear E0 E1 E2 E3 EL
  have ha : (g * 1048576 + r * 65536 + d * 4096 + y * 16 + m) / 65536 = g * 16 + r := by omega
  have hb : (g * 1048576 + r * 65536 + d * 4096 + y * 16 + m) % 65536 = d * 4096 + y * 16 + m := by omega
  unfold RdOk
  rw [ha, hb]
  refine ⟨⟨leftI [(29, 4160749568), (26, 4161798144), (30, 4162846720), (27, 4163895296), (28, 4164943872), (25, 4165992448)] (g * 1048576 + y * 16), 0, d, r, m, 0, 2, 0, false⟩, fun W hT => loadByRegister_c (X1 := g * 1048576 + r * 65536 + y * 16 + m) (X2 := g * 1048576 + y * 16 + m) (X3 := g * 1048576 + y * 16) (X := g * 1048576 + r * 65536 + d * 4096 + y * 16 + m) (d := d) (r := r) (m := m) t W (by omega) (by omega) (by omega) (by omega) (by omega) (by omega) (by omega) (by omega) hT, ?_, ?_⟩
  · intro hok
    rcases left_cases [(29, 4160749568), (26, 4161798144), (30, 4162846720), (27, 4163895296), (28, 4164943872), (25, 4165992448)] (g * 1048576 + y * 16) with h | ⟨e, he, hY, hl⟩
    · rw [h] at hok; exact (ok_zero hok).elim
    · rw [hl] at hok
      simp only [List.mem_cons, List.not_mem_nil, or_false] at he
      rcases he with rfl | rfl | rfl | rfl | rfl | rfl
      all_goals
        dsimp only at hY hok
        have hr := reg_14 (show Im.oneB 32767 r = true from (Nm.ok_parts hok).2.2.1)
        unfold P8
        omega
  · intro h
    unfold P8 at h
    have hc : (g = 3968 ∧ y = 0) ∨ (g = 3969 ∧ y = 0) ∨ (g = 3970 ∧ y = 0) ∨ (g = 3971 ∧ y = 0) ∨ (g = 3972 ∧ y = 0) ∨ (g = 3973 ∧ y = 0) := by omega
    rcases hc with ⟨rfl, rfl⟩ | ⟨rfl, rfl⟩ | ⟨rfl, rfl⟩ | ⟨rfl, rfl⟩ | ⟨rfl, rfl⟩ | ⟨rfl, rfl⟩
    · rw [show leftI [(29, 4160749568), (26, 4161798144), (30, 4162846720), (27, 4163895296), (28, 4164943872), (25, 4165992448)] (3968 * 1048576 + 0 * 16) = 29 by decide]
      rw [Tm.at_loads _ _ (by omega) (by omega)]; unfold Tm.loadsT; (repeat (first | rw [if_neg (by omega)] | rw [if_pos (by omega)])); (try exact Nm.mk_eq (by rw [show (3968 * 16 + r) / 16 % 8 = 0 by omega]; rfl) (by omega) (by omega) (by omega) (by omega) (by omega) (by omega) (by omega) rfl)
    · rw [show leftI [(29, 4160749568), (26, 4161798144), (30, 4162846720), (27, 4163895296), (28, 4164943872), (25, 4165992448)] (3969 * 1048576 + 0 * 16) = 26 by decide]
      rw [Tm.at_loads _ _ (by omega) (by omega)]; unfold Tm.loadsT; (repeat (first | rw [if_neg (by omega)] | rw [if_pos (by omega)])); (try exact Nm.mk_eq (by rw [show (3969 * 16 + r) / 16 % 8 = 1 by omega]; rfl) (by omega) (by omega) (by omega) (by omega) (by omega) (by omega) (by omega) rfl)
    · rw [show leftI [(29, 4160749568), (26, 4161798144), (30, 4162846720), (27, 4163895296), (28, 4164943872), (25, 4165992448)] (3970 * 1048576 + 0 * 16) = 30 by decide]
      rw [Tm.at_loads _ _ (by omega) (by omega)]; unfold Tm.loadsT; (repeat (first | rw [if_neg (by omega)] | rw [if_pos (by omega)])); (try exact Nm.mk_eq (by rw [show (3970 * 16 + r) / 16 % 8 = 2 by omega]; rfl) (by omega) (by omega) (by omega) (by omega) (by omega) (by omega) (by omega) rfl)
    · rw [show leftI [(29, 4160749568), (26, 4161798144), (30, 4162846720), (27, 4163895296), (28, 4164943872), (25, 4165992448)] (3971 * 1048576 + 0 * 16) = 27 by decide]
      rw [Tm.at_loads _ _ (by omega) (by omega)]; unfold Tm.loadsT; (repeat (first | rw [if_neg (by omega)] | rw [if_pos (by omega)])); (try exact Nm.mk_eq (by rw [show (3971 * 16 + r) / 16 % 8 = 3 by omega]; rfl) (by omega) (by omega) (by omega) (by omega) (by omega) (by omega) (by omega) rfl)
    · rw [show leftI [(29, 4160749568), (26, 4161798144), (30, 4162846720), (27, 4163895296), (28, 4164943872), (25, 4165992448)] (3972 * 1048576 + 0 * 16) = 28 by decide]
      rw [Tm.at_loads _ _ (by omega) (by omega)]; unfold Tm.loadsT; (repeat (first | rw [if_neg (by omega)] | rw [if_pos (by omega)])); (try exact Nm.mk_eq (by rw [show (3972 * 16 + r) / 16 % 8 = 4 by omega]; rfl) (by omega) (by omega) (by omega) (by omega) (by omega) (by omega) (by omega) rfl)
    · rw [show leftI [(29, 4160749568), (26, 4161798144), (30, 4162846720), (27, 4163895296), (28, 4164943872), (25, 4165992448)] (3973 * 1048576 + 0 * 16) = 25 by decide]
      rw [Tm.at_loads _ _ (by omega) (by omega)]; unfold Tm.loadsT; (repeat (first | rw [if_neg (by omega)] | rw [if_pos (by omega)])); (try exact Nm.mk_eq (by rw [show (3973 * 16 + r) / 16 % 8 = 5 by omega]; rfl) (by omega) (by omega) (by omega) (by omega) (by omega) (by omega) (by omega) rfl)
theorem rd_block (X : Int) (t : Bool) (hx0 : 0 ≤ X) (hx1 : X < 4294967296) : RdOk 17 X t (P9 (X / 65536) (X % 65536)) := by
  obtain ⟨k0, n, E0, n0, n1⟩ : ∃ q v, X = q * 65536 + v ∧ 0 ≤ v ∧ v < 65536 := ⟨X / 65536, X % 65536, by omega, by omega, by omega⟩
  obtain ⟨k1, r, E1, r0, r1⟩ : ∃ q v, k0 = q * 16 + v ∧ 0 ≤ v ∧ v < 16 := ⟨k0 / 16, k0 % 16, by omega, by omega, by omega⟩
  obtain ⟨g, EL⟩ : ∃ v, v = k1 := ⟨_, rfl⟩
  have hX : X = g * 1048576 + r * 65536 + n := by omega
  have g0 : 0 ≤ g := by omega
  have g1 : g < 4096 := by omega
  subst hX
  clear E0 E1 EL
  have ha : (g * 1048576 + r * 65536 + n) / 65536 = g * 16 + r := by omega
  have hb : (g * 1048576 + r * 65536 + n) % 65536 = n := by omega
  unfold RdOk
  rw [ha, hb]
  refine ⟨⟨leftI [(32, 3902799872), (31, 3903848448)] (g * 1048576), 0, 0, r, 0, 0, 0, n, false⟩, fun W hT => block_c (X1 := g * 1048576 + n) (X2 := g * 1048576) (X := g * 1048576 + r * 65536 + n) (r := r) (n := n) t W (by omega) (by omega) (by omega) (by omega) (by omega) (by omega) hT, ?_, ?_⟩
  · intro hok
    rcases left_cases [(32, 3902799872), (31, 3903848448)] (g * 1048576) with h | ⟨e, he, hY, hl⟩
    · rw [h] at hok; exact (ok_zero hok).elim
    · rw [hl] at hok
      simp only [List.mem_cons, List.not_mem_nil, or_false] at he
      rcases he with rfl | rfl
      all_goals
        dsimp only at hY hok
        have hr := reg_12 (show Im.oneB 24575 r = true from (Nm.ok_parts hok).2.2.1)
        unfold P9
        omega
  · intro h
    unfold P9 at h
    have hc : (g = 3722) ∨ (g = 3723) := by omega
    rcases hc with rfl | rfl
    · rw [show leftI [(32, 3902799872), (31, 3903848448)] (3722 * 1048576) = 32 by decide]
      rw [Tm.at_many _ _ (by omega) (by omega)]; unfold Tm.manyT; (repeat (first | rw [if_neg (by omega)] | rw [if_pos (by omega)])); (try exact Nm.mk_eq (by omega) (by omega) (by omega) (by omega) (by omega) (by omega) (by omega) (by omega) rfl)
    · rw [show leftI [(32, 3902799872), (31, 3903848448)] (3723 * 1048576) = 31 by decide]
      rw [Tm.at_many _ _ (by omega) (by omega)]; unfold Tm.manyT; (repeat (first | rw [if_neg (by omega)] | rw [if_pos (by omega)])); (try exact Nm.mk_eq (by omega) (by omega) (by omega) (by omega) (by omega) (by omega) (by omega) (by omega) rfl)
theorem rd_jump (X : Int) (t : Bool) (hx0 : 0 ≤ X) (hx1 : X < 4294967296) : RdOk 24 X t (P16 (X / 65536) (X % 65536)) := by
  obtain ⟨k0, m, E0, m0, m1⟩ : ∃ q v, X = q * 16 + v ∧ 0 ≤ v ∧ v < 16 := ⟨X / 16, X % 16, by omega, by omega, by omega⟩
  obtain ⟨k1, y, E1, y0, y1⟩ : ∃ q v, k0 = q * 4096 + v ∧ 0 ≤ v ∧ v < 4096 := ⟨k0 / 4096, k0 % 4096, by omega, by omega, by omega⟩
  obtain ⟨k2, r, E2, r0, r1⟩ : ∃ q v, k1 = q * 16 + v ∧ 0 ≤ v ∧ v < 16 := ⟨k1 / 16, k1 % 16, by omega, by omega, by omega⟩
  obtain ⟨g, EL⟩ : ∃ v, v = k2 := ⟨_, rfl⟩
  have hX : X = g * 1048576 + r * 65536 + y * 16 + m := by omega
  have g0 : 0 ≤ g := by omega
  have g1 : g < 4096 := by omega
  subst hX
  clear E0 E1 E2 EL
  have ha : (g * 1048576 + r * 65536 + y * 16 + m) / 65536 = g * 16 + r := by omega
  have hb : (g * 1048576 + r * 65536 + y * 16 + m) % 65536 = y * 16 + m := by omega
  unfold RdOk
  rw [ha, hb]
  refine ⟨⟨leftI [(45, 3906007040)] (g * 1048576 + y * 16), 0, 0, r, m, 0, 2, 0, false⟩, fun W hT => jump_c (X1 := g * 1048576 + y * 16 + m) (X2 := g * 1048576 + y * 16) (X := g * 1048576 + r * 65536 + y * 16 + m) (r := r) (m := m) t W (by omega) (by omega) (by omega) (by omega) (by omega) (by omega) hT, ?_, ?_⟩
  · intro hok
    rcases left_cases [(45, 3906007040)] (g * 1048576 + y * 16) with h | ⟨e, he, hY, hl⟩
    · rw [h] at hok; exact (ok_zero hok).elim
    · rw [hl] at hok
      simp only [List.mem_cons, List.not_mem_nil, or_false] at he
      rcases he with rfl
      all_goals
        dsimp only at hY hok
        unfold P16
        omega
  · intro h
    unfold P16 at h
    have hc : (g = 3725 ∧ y = 3840) := by omega
    rcases hc with ⟨rfl, rfl⟩
    · rw [show leftI [(45, 3906007040)] (3725 * 1048576 + 3840 * 16) = 45 by decide]
      rw [Tm.at_many _ _ (by omega) (by omega)]; unfold Tm.manyT; (repeat (first | rw [if_neg (by omega)] | rw [if_pos (by omega)])); (try exact Nm.mk_eq (by omega) (by omega) (by omega) (by omega) (by omega) (by omega) (by omega) (by omega) rfl)
theorem rd_nop (X : Int) (t : Bool) (hx0 : 0 ≤ X) (hx1 : X < 4294967296) : RdOk 23 X t (P15 (X / 65536) (X % 65536)) := by
  obtain ⟨k0, n, E0, n0, n1⟩ : ∃ q v, X = q * 65536 + v ∧ 0 ≤ v ∧ v < 65536 := ⟨X / 65536, X % 65536, by omega, by omega, by omega⟩
  obtain ⟨g, EL⟩ : ∃ v, v = k0 := ⟨_, rfl⟩
  have hX : X = g * 65536 + n := by omega
  have g0 : 0 ≤ g := by omega
  have g1 : g < 65536 := by omega
  subst hX
  clear E0 EL
  have ha : (g * 65536 + n) / 65536 = g := by omega
  have hb : (g * 65536 + n) % 65536 = n := by omega
  unfold RdOk
  rw [ha, hb]
  refine ⟨⟨leftI [(43, 4088365056)] (g * 65536 + n), 0, 0, 0, 0, 0, 0, 0, false⟩, fun W hT => nop_c  (X := g * 65536 + n)  t W  (by omega) (by omega) hT, ?_, ?_⟩
  · intro hok
    rcases left_cases [(43, 4088365056)] (g * 65536 + n) with h | ⟨e, he, hY, hl⟩
    · rw [h] at hok; exact (ok_zero hok).elim
    · rw [hl] at hok
      simp only [List.mem_cons, List.not_mem_nil, or_false] at he
      rcases he with rfl
      all_goals
        dsimp only at hY hok
        unfold P15
        omega
  · intro h
    unfold P15 at h
    have hc : (g = 62383 ∧ n = 32768) := by omega
    rcases hc with ⟨rfl, rfl⟩
    · rw [show leftI [(43, 4088365056)] (62383 * 65536 + 32768) = 43 by decide]
      rw [Tm.at_branch _ _ (by omega) (by omega) (by omega)]; unfold Tm.branchT; (repeat (first | rw [if_neg (by omega)] | rw [if_pos (by omega)])); (try exact Nm.mk_eq (by omega) (by omega) (by omega) (by omega) (by omega) (by omega) (by omega) (by omega) rfl)
end Tp
end Go.Proofs.YtdcnkmkaafimlaaDoor
