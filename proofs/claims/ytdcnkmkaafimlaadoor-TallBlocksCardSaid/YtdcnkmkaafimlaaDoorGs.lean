/- Readers of tall against the document's rows. No conditions (text by gen_ra.py). Readers of tall against the document's rows. No conditions (text by gen_ra.py). Readers of tall against the document's rows. No conditions (text by gen_ra.py). -/
import Derived.Test.YtdcnkmkaafimlaaDoorRows
import Derived.Test.YtdcnkmkaafimlaaDoorGr
import Derived.Test.YtdcnkmkaafimlaaDoorGa
import Derived.Test.YtdcnkmkaafimlaaDoorGf

namespace Go.Proofs.YtdcnkmkaafimlaaDoor
open Go.ChangeShapes Go.WideShapes Go.ChangeAt Go.RowKit
namespace Tp
open Nm (I)
open Tl (IV)

theorem rd_stack (X : Int) (t : Bool) (hx0 : 0 ≤ X) (hx1 : X < 4294967296) : RdOk 18 X t (P10 (X / 65536) (X % 65536)) := by
  obtain ⟨k0, n, E0, n0, n1⟩ : ∃ q v, X = q * 65536 + v ∧ 0 ≤ v ∧ v < 65536 := ⟨X / 65536, X % 65536, by omega, by omega, by omega⟩
  obtain ⟨g, EL⟩ : ∃ v, v = k0 := ⟨_, rfl⟩
  have hX : X = g * 65536 + n := by omega
  have g0 : 0 ≤ g := by omega
  have g1 : g < 65536 := by omega
  subst hX
  clear E0 EL
  have ha : (g * 65536 + n) / 65536 = g := by omega
  have hb : (g * 65536 + n) % 65536 = n := by omega
  unfold RdOk
  rw [ha, hb]
  by_cases hp : 2 ≤ Im.pop n.toNat
  · have hz : (bits .and .i64 n (n - 1) == 0) = false := by
      have hq : ¬ bits .and .i64 n (n - 1) = 0 := fun q => by have := (list_few n (by omega) (by omega)).1 q; omega
      simpa using hq
    refine ⟨⟨leftI [(33, 3912040448), (34, 3904700416)] (g * 65536), 0, 0, 0, 0, 0, 0, n, false⟩, fun W hT => stack_c (X1 := g * 65536) (X := g * 65536 + n) (n := n) t W (by omega) (by omega) (by omega) (by omega) hT hz, ?_, ?_⟩
    · intro hok
      rcases left_cases [(33, 3912040448), (34, 3904700416)] (g * 65536) with h | ⟨e, he, hY, hl⟩
      · rw [h] at hok; exact (ok_zero hok).elim
      · simp only [List.mem_cons, List.not_mem_nil, or_false] at he
        rcases he with rfl | rfl
        all_goals
          dsimp only at hY
          exact ⟨by omega, hp⟩
    · intro h
      unfold P10 at h
      have hc : g = 59693 ∨ g = 59581 := by omega
      rcases hc with rfl | rfl
      · rw [show leftI [(33, 3912040448), (34, 3904700416)] (59693 * 65536) = 33 by decide, Tm.at_many _ _ (by omega) (by omega)]
        unfold Tm.manyT
        rw [if_pos rfl, if_pos hp]
      · rw [show leftI [(33, 3912040448), (34, 3904700416)] (59581 * 65536) = 34 by decide, Tm.at_many _ _ (by omega) (by omega)]
        unfold Tm.manyT
        rw [if_neg (by omega), if_pos ⟨rfl, hp⟩]
  · have hz : bits .and .i64 n (n - 1) = 0 := (list_few n (by omega) (by omega)).2 (by omega)
    exact ⟨Tm.Z, fun W hT => stack_z (X1 := g * 65536) (X := g * 65536 + n) (n := n) t W (by omega) (by omega) (by omega) (by omega) hT hz, fun h => (ok_Z h).elim, fun h => absurd h.2 hp⟩
theorem rd_literal (X : Int) (t : Bool) (hx0 : 0 ≤ X) (hx1 : X < 4294967296) : RdOk 21 X t (P13 (X / 65536) (X % 65536)) := by
  obtain ⟨k0, n, E0, n0, n1⟩ : ∃ q v, X = q * 4096 + v ∧ 0 ≤ v ∧ v < 4096 := ⟨X / 4096, X % 4096, by omega, by omega, by omega⟩
  obtain ⟨k1, d, E1, d0, d1⟩ : ∃ q v, k0 = q * 16 + v ∧ 0 ≤ v ∧ v < 16 := ⟨k0 / 16, k0 % 16, by omega, by omega, by omega⟩
  obtain ⟨g, EL⟩ : ∃ v, v = k1 := ⟨_, rfl⟩
  have hX : X = g * 65536 + d * 4096 + n := by omega
  have g0 : 0 ≤ g := by omega
  have g1 : g < 65536 := by omega
  subst hX
  clear E0 E1 EL
  have ha : (g * 65536 + d * 4096 + n) / 65536 = g := by omega
  have hb : (g * 65536 + d * 4096 + n) % 65536 = d * 4096 + n := by omega
  unfold RdOk
  rw [ha, hb]
  refine ⟨sideI ⟨40, 0, d, 0, 0, n, 1, 0, false⟩ (g * 65536) 4175364096 4166975488, fun W hT => literal_c (X1 := g * 65536 + n) (X2 := g * 65536) (X := g * 65536 + d * 4096 + n) (d := d) (n := n) t W (by omega) (by omega) (by omega) (by omega) (by omega) (by omega) hT, ?_, ?_⟩
  · intro hok
    unfold sideI at hok
    by_cases h1 : g * 65536 = 4175364096
    · unfold P13
      omega
    · rw [if_neg h1] at hok
      by_cases h2 : g * 65536 = 4166975488 ∧ n ≠ 0
      · obtain ⟨h2, h3⟩ := h2
        unfold P13
        omega
      · rw [if_neg h2] at hok
        exact (ok_Z hok).elim
  · intro h
    unfold P13 at h
    have hc : (g = 63711) ∨ ((g = 63583) ∧ n ≠ 0) := by omega
    rcases hc with rfl | ⟨rfl, hn⟩
    · rw [show sideI ⟨40, 0, d, 0, 0, n, 1, 0, false⟩ (63711 * 65536) 4175364096 4166975488 = ⟨40, 0, d, 0, 0, n, 1, 0, false⟩ by unfold sideI; rw [if_pos (by decide)]]
      rw [Tm.at_loads _ _ (by omega) (by omega)]; unfold Tm.loadsT; (repeat (first | rw [if_neg (by omega)] | rw [if_pos (by omega)])); (try exact Nm.mk_eq (by omega) (by omega) (by omega) (by omega) (by omega) (by omega) (by omega) (by omega) rfl)
    · rw [show sideI ⟨40, 0, d, 0, 0, n, 1, 0, false⟩ (63583 * 65536) 4175364096 4166975488 = ⟨40, 0, d, 0, 0, -(n), 1, 0, false⟩ by unfold sideI; rw [if_neg (by decide), if_pos ⟨by decide, hn⟩]]
      rw [Tm.at_loads _ _ (by omega) (by omega)]; unfold Tm.loadsT; (repeat (first | rw [if_neg (by omega)] | rw [if_pos (by omega)])); (try exact Nm.mk_eq (by omega) (by omega) (by omega) (by omega) (by omega) (by omega) (by omega) (by omega) rfl)
theorem rd_address (X : Int) (t : Bool) (hx0 : 0 ≤ X) (hx1 : X < 4294967296) : RdOk 22 X t (P14 (X / 65536) (X % 65536)) := by
  obtain ⟨k0, l, E0, l0, l1⟩ : ∃ q v, X = q * 256 + v ∧ 0 ≤ v ∧ v < 256 := ⟨X / 256, X % 256, by omega, by omega, by omega⟩
  obtain ⟨k1, d, E1, d0, d1⟩ : ∃ q v, k0 = q * 16 + v ∧ 0 ≤ v ∧ v < 16 := ⟨k0 / 16, k0 % 16, by omega, by omega, by omega⟩
  obtain ⟨k2, j, E2, j0, j1⟩ : ∃ q v, k1 = q * 8 + v ∧ 0 ≤ v ∧ v < 8 := ⟨k1 / 8, k1 % 8, by omega, by omega, by omega⟩
  obtain ⟨k3, z, E3, z0, z1⟩ : ∃ q v, k2 = q * 2 + v ∧ 0 ≤ v ∧ v < 2 := ⟨k2 / 2, k2 % 2, by omega, by omega, by omega⟩
  obtain ⟨k4, m, E4, m0, m1⟩ : ∃ q v, k3 = q * 1024 + v ∧ 0 ≤ v ∧ v < 1024 := ⟨k3 / 1024, k3 % 1024, by omega, by omega, by omega⟩
  obtain ⟨k5, i, E5, i0, i1⟩ : ∃ q v, k4 = q * 2 + v ∧ 0 ≤ v ∧ v < 2 := ⟨k4 / 2, k4 % 2, by omega, by omega, by omega⟩
  obtain ⟨g, EL⟩ : ∃ v, v = k5 := ⟨_, rfl⟩
  have hX : X = g * 134217728 + i * 67108864 + m * 65536 + z * 32768 + j * 4096 + d * 256 + l := by omega
  have g0 : 0 ≤ g := by omega
  have g1 : g < 32 := by omega
  subst hX
  clear E0 E1 E2 E3 E4 E5 EL
  have ha : (g * 134217728 + i * 67108864 + m * 65536 + z * 32768 + j * 4096 + d * 256 + l) / 65536 = g * 2048 + i * 1024 + m := by omega
  have hb : (g * 134217728 + i * 67108864 + m * 65536 + z * 32768 + j * 4096 + d * 256 + l) % 65536 = z * 32768 + j * 4096 + d * 256 + l := by omega
  unfold RdOk
  rw [ha, hb]
  refine ⟨sideI ⟨41, 0, d, 0, 0, i * 2048 + j * 256 + l, 1, 0, false⟩ (g * 134217728 + m * 65536 + z * 32768) 4061069312 4071555072, fun W hT => address_c (X1 := g * 134217728 + i * 67108864 + m * 65536 + z * 32768 + j * 4096 + l) (X2 := g * 134217728 + m * 65536 + z * 32768 + j * 4096 + l) (X3 := g * 134217728 + m * 65536 + z * 32768 + l) (X4 := g * 134217728 + m * 65536 + z * 32768) (X := g * 134217728 + i * 67108864 + m * 65536 + z * 32768 + j * 4096 + d * 256 + l) (d := d) (i := i) (j := j) (l := l) t W (by omega) (by omega) (by omega) (by omega) (by omega) (by omega) (by omega) (by omega) (by omega) (by omega) hT, ?_, ?_⟩
  · intro hok
    unfold sideI at hok
    by_cases h1 : g * 134217728 + m * 65536 + z * 32768 = 4061069312
    · unfold P14 isF Tm.num
      omega
    · rw [if_neg h1] at hok
      by_cases h2 : g * 134217728 + m * 65536 + z * 32768 = 4071555072 ∧ i * 2048 + j * 256 + l ≠ 0
      · obtain ⟨h2, h3⟩ := h2
        unfold P14 isF Tm.num
        omega
      · rw [if_neg h2] at hok
        exact (ok_Z hok).elim
  · intro h
    unfold P14 isF Tm.num at h
    have hc : (g = 30 ∧ m = 527 ∧ z = 0) ∨ ((g = 30 ∧ m = 687 ∧ z = 0) ∧ i * 2048 + j * 256 + l ≠ 0) := by omega
    rcases hc with ⟨rfl, rfl, rfl⟩ | ⟨⟨rfl, rfl, rfl⟩, hn⟩
    · rw [show sideI ⟨41, 0, d, 0, 0, i * 2048 + j * 256 + l, 1, 0, false⟩ (30 * 134217728 + 527 * 65536 + 0 * 32768) 4061069312 4071555072 = ⟨41, 0, d, 0, 0, i * 2048 + j * 256 + l, 1, 0, false⟩ by unfold sideI; rw [if_pos (by decide)]]
      rw [Tm.at_imms _ _ (by omega) (by omega) (by omega)]; unfold Tm.immsT; rw [show Tm.num _ _ = i * 2048 + j * 256 + l by unfold Tm.num; omega]; (repeat (first | rw [if_neg (by omega)] | rw [if_pos (by omega)])); (try exact Nm.mk_eq (by omega) (by omega) (by omega) (by omega) (by omega) (by omega) (by omega) (by omega) rfl)
    · rw [show sideI ⟨41, 0, d, 0, 0, i * 2048 + j * 256 + l, 1, 0, false⟩ (30 * 134217728 + 687 * 65536 + 0 * 32768) 4061069312 4071555072 = ⟨41, 0, d, 0, 0, -(i * 2048 + j * 256 + l), 1, 0, false⟩ by unfold sideI; rw [if_neg (by decide), if_pos ⟨by decide, hn⟩]]
      rw [Tm.at_imms _ _ (by omega) (by omega) (by omega)]; unfold Tm.immsT; rw [show Tm.num _ _ = i * 2048 + j * 256 + l by unfold Tm.num; omega]; (repeat (first | rw [if_neg (by omega)] | rw [if_pos (by omega)])); (try exact Nm.mk_eq (by omega) (by omega) (by omega) (by omega) (by omega) (by omega) (by omega) (by omega) rfl)
end Tp
end Go.Proofs.YtdcnkmkaafimlaaDoor

namespace Go.Proofs.YtdcnkmkaafimlaaDoor
open Go.ChangeShapes Go.WideShapes Go.ChangeAt Go.RowKit
namespace Tp
open Nm (I)
open Tl (IV)

theorem rd_branch (X : Int) (t : Bool) (hx0 : 0 ≤ X) (hx1 : X < 4294967296) : RdOk 20 X t (P12 (X / 65536) (X % 65536)) := by
  obtain ⟨k0, na, E0, na0, na1⟩ : ∃ q v, X = q * 2048 + v ∧ 0 ≤ v ∧ v < 2048 := ⟨X / 2048, X % 2048, by omega, by omega, by omega⟩
  obtain ⟨k1, va, E1, va0, va1⟩ : ∃ q v, k0 = q * 2 + v ∧ 0 ≤ v ∧ v < 2 := ⟨k0 / 2, k0 % 2, by omega, by omega, by omega⟩
  obtain ⟨k2, ka, E2, ka0, ka1⟩ : ∃ q v, k1 = q * 2 + v ∧ 0 ≤ v ∧ v < 2 := ⟨k1 / 2, k1 % 2, by omega, by omega, by omega⟩
  obtain ⟨k3, ua, E3, ua0, ua1⟩ : ∃ q v, k2 = q * 2 + v ∧ 0 ≤ v ∧ v < 2 := ⟨k2 / 2, k2 % 2, by omega, by omega, by omega⟩
  obtain ⟨k4, za, E4, za0, za1⟩ : ∃ q v, k3 = q * 4 + v ∧ 0 ≤ v ∧ v < 4 := ⟨k3 / 4, k3 % 4, by omega, by omega, by omega⟩
  obtain ⟨k5, pa, E5, pa0, pa1⟩ : ∃ q v, k4 = q * 1024 + v ∧ 0 ≤ v ∧ v < 1024 := ⟨k4 / 1024, k4 % 1024, by omega, by omega, by omega⟩
  obtain ⟨k6, sa, E6, sa0, sa1⟩ : ∃ q v, k5 = q * 2 + v ∧ 0 ≤ v ∧ v < 2 := ⟨k5 / 2, k5 % 2, by omega, by omega, by omega⟩
  obtain ⟨g, EL⟩ : ∃ v, v = k6 := ⟨_, rfl⟩
  have hX : X = g * 134217728 + sa * 67108864 + pa * 65536 + za * 16384 + ua * 8192 + ka * 4096 + va * 2048 + na := by omega
  have g0 : 0 ≤ g := by omega
  have g1 : g < 32 := by omega
  subst hX
  clear E0 E1 E2 E3 E4 E5 E6 EL
  have ha : (g * 134217728 + sa * 67108864 + pa * 65536 + za * 16384 + ua * 8192 + ka * 4096 + va * 2048 + na) / 65536 = g * 2048 + sa * 1024 + pa := by omega
  have hb : (g * 134217728 + sa * 67108864 + pa * 65536 + za * 16384 + ua * 8192 + ka * 4096 + va * 2048 + na) % 65536 = za * 16384 + ua * 8192 + ka * 4096 + va * 2048 + na := by omega
  unfold RdOk
  rw [ha, hb]
  refine ⟨⟨leftI [(35, 4026568704), (36, 4026585088)] (g * 134217728 + za * 16384 + ka * 4096), if leftI [(35, 4026568704), (36, 4026585088)] (g * 134217728 + za * 16384 + ka * 4096) = 35 then 14 else 0, 0, 0, 0, getV 4 (g * 2048 + sa * 1024 + pa) (za * 16384 + ua * 8192 + ka * 4096 + va * 2048 + na), 1, 0, false⟩, fun W hT => branch_c (X1 := g * 134217728 + za * 16384 + ua * 8192 + ka * 4096 + va * 2048 + na) (X2 := g * 134217728 + za * 16384 + ka * 4096 + va * 2048 + na) (X3 := g * 134217728 + za * 16384 + ka * 4096) (X := g * 134217728 + sa * 67108864 + pa * 65536 + za * 16384 + ua * 8192 + ka * 4096 + va * 2048 + na) (A := g * 2048 + sa * 1024 + pa) (B := za * 16384 + ua * 8192 + ka * 4096 + va * 2048 + na) (V := getV 4 (g * 2048 + sa * 1024 + pa) (za * 16384 + ua * 8192 + ka * 4096 + va * 2048 + na)) (p := sa * 1024 + pa) (q := ua) (r := va * 2048 + na) t W (by omega) (by omega) rfl (by omega) (by omega) (by omega) (by omega) (by omega) (by omega) (by omega) (by omega) hT (if leftI [(35, 4026568704), (36, 4026585088)] (g * 134217728 + za * 16384 + ka * 4096) = 35 then 14 else 0) (by by_cases h : leftI [(35, 4026568704), (36, 4026585088)] (g * 134217728 + za * 16384 + ka * 4096) = 35 <;> simp [h]), ?_, ?_⟩
  · intro hok
    rcases left_cases [(35, 4026568704), (36, 4026585088)] (g * 134217728 + za * 16384 + ka * 4096) with h | ⟨e, he, hY, hl⟩
    · rw [h] at hok; exact (ok_zero hok).elim
    · simp only [List.mem_cons, List.not_mem_nil, or_false] at he
      rcases he with rfl | rfl
      all_goals
        dsimp only at hY
        unfold P12
        omega
  · intro h
    unfold P12 at h
    have hV := Om.getV_4 (g * 2048 + sa * 1024 + pa) (za * 16384 + ua * 8192 + ka * 4096 + va * 2048 + na) (by omega) (by omega)
    have hV2 : Om.gA 4 (g * 2048 + sa * 1024 + pa) (za * 16384 + ua * 8192 + ka * 4096 + va * 2048 + na) = 2 * Om.sg (sa * 8388608 + (1 + ua + sa) % 2 * 4194304 + (1 + va + sa) % 2 * 2097152 + pa * 2048 + na) 8388608 := by
      unfold Om.gA
      rw [if_neg (by decide), if_neg (by decide), if_neg (by decide), if_pos rfl, show (g * 2048 + sa * 1024 + pa) / 1024 % 2 = sa by omega, show (za * 16384 + ua * 8192 + ka * 4096 + va * 2048 + na) / 8192 % 2 = ua by omega, show (za * 16384 + ua * 8192 + ka * 4096 + va * 2048 + na) / 2048 % 2 = va by omega, show (g * 2048 + sa * 1024 + pa) % 1024 = pa by omega, show (za * 16384 + ua * 8192 + ka * 4096 + va * 2048 + na) % 2048 = na by omega]
    unfold Om.sg at hV2
    have hc : (g = 30 ∧ za = 2 ∧ ka = 1) ∨ (g = 30 ∧ za = 3 ∧ ka = 1) := by omega
    rcases hc with ⟨rfl, rfl, rfl⟩ | ⟨rfl, rfl, rfl⟩
    · rw [show leftI [(35, 4026568704), (36, 4026585088)] (30 * 134217728 + 2 * 16384 + 1 * 4096) = 35 by decide, if_pos (by decide), Tm.at_branch _ _ (by omega) (by omega) (by omega)]
      unfold Tm.branchT
      rw [if_neg (by omega), if_neg (by omega), if_pos (by omega)]
      exact Nm.mk_eq (by rw [if_pos (by omega)]) (by rw [if_pos (by omega)]) rfl rfl rfl (by rw [hV, hV2, show (30 * 2048 + sa * 1024 + pa) % 1024 = pa by omega, show (30 * 2048 + sa * 1024 + pa) / 1024 % 2 = sa by omega, show (2 * 16384 + ua * 8192 + 1 * 4096 + va * 2048 + na) / 8192 % 2 = ua by omega, show (2 * 16384 + ua * 8192 + 1 * 4096 + va * 2048 + na) / 2048 % 2 = va by omega, show (2 * 16384 + ua * 8192 + 1 * 4096 + va * 2048 + na) % 2048 = na by omega]; (rcases (show sa = 0 ∨ sa = 1 by omega) with rfl | rfl <;> first | (rw [if_pos (by omega)]; omega) | (rw [if_neg (by omega)]; omega))) rfl rfl rfl
    · rw [show leftI [(35, 4026568704), (36, 4026585088)] (30 * 134217728 + 3 * 16384 + 1 * 4096) = 36 by decide, if_neg (by decide), Tm.at_branch _ _ (by omega) (by omega) (by omega)]
      unfold Tm.branchT
      rw [if_neg (by omega), if_neg (by omega), if_pos (by omega)]
      exact Nm.mk_eq (by rw [if_neg (by omega)]) (by rw [if_neg (by omega)]) rfl rfl rfl (by rw [hV, hV2, show (30 * 2048 + sa * 1024 + pa) % 1024 = pa by omega, show (30 * 2048 + sa * 1024 + pa) / 1024 % 2 = sa by omega, show (3 * 16384 + ua * 8192 + 1 * 4096 + va * 2048 + na) / 8192 % 2 = ua by omega, show (3 * 16384 + ua * 8192 + 1 * 4096 + va * 2048 + na) / 2048 % 2 = va by omega, show (3 * 16384 + ua * 8192 + 1 * 4096 + va * 2048 + na) % 2048 = na by omega]; (rcases (show sa = 0 ∨ sa = 1 by omega) with rfl | rfl <;> first | (rw [if_pos (by omega)]; omega) | (rw [if_neg (by omega)]; omega))) rfl rfl rfl
theorem rd_boc (X : Int) (t : Bool) (hx0 : 0 ≤ X) (hx1 : X < 4294967296) : RdOk 19 X t (P11 (X / 65536) (X % 65536) t) := by
  obtain ⟨k0, na, E0, na0, na1⟩ : ∃ q v, X = q * 2048 + v ∧ 0 ≤ v ∧ v < 2048 := ⟨X / 2048, X % 2048, by omega, by omega, by omega⟩
  obtain ⟨k1, va, E1, va0, va1⟩ : ∃ q v, k0 = q * 2 + v ∧ 0 ≤ v ∧ v < 2 := ⟨k0 / 2, k0 % 2, by omega, by omega, by omega⟩
  obtain ⟨k2, ka, E2, ka0, ka1⟩ : ∃ q v, k1 = q * 2 + v ∧ 0 ≤ v ∧ v < 2 := ⟨k1 / 2, k1 % 2, by omega, by omega, by omega⟩
  obtain ⟨k3, ua, E3, ua0, ua1⟩ : ∃ q v, k2 = q * 2 + v ∧ 0 ≤ v ∧ v < 2 := ⟨k2 / 2, k2 % 2, by omega, by omega, by omega⟩
  obtain ⟨k4, za, E4, za0, za1⟩ : ∃ q v, k3 = q * 4 + v ∧ 0 ≤ v ∧ v < 4 := ⟨k3 / 4, k3 % 4, by omega, by omega, by omega⟩
  obtain ⟨k5, pa, E5, pa0, pa1⟩ : ∃ q v, k4 = q * 64 + v ∧ 0 ≤ v ∧ v < 64 := ⟨k4 / 64, k4 % 64, by omega, by omega, by omega⟩
  obtain ⟨k6, c, E6, c0, c1⟩ : ∃ q v, k5 = q * 16 + v ∧ 0 ≤ v ∧ v < 16 := ⟨k5 / 16, k5 % 16, by omega, by omega, by omega⟩
  obtain ⟨k7, sa, E7, sa0, sa1⟩ : ∃ q v, k6 = q * 2 + v ∧ 0 ≤ v ∧ v < 2 := ⟨k6 / 2, k6 % 2, by omega, by omega, by omega⟩
  obtain ⟨g, EL⟩ : ∃ v, v = k7 := ⟨_, rfl⟩
  have hX : X = g * 134217728 + sa * 67108864 + c * 4194304 + pa * 65536 + za * 16384 + ua * 8192 + ka * 4096 + va * 2048 + na := by omega
  have g0 : 0 ≤ g := by omega
  have g1 : g < 32 := by omega
  subst hX
  clear E0 E1 E2 E3 E4 E5 E6 E7 EL
  have ha : (g * 134217728 + sa * 67108864 + c * 4194304 + pa * 65536 + za * 16384 + ua * 8192 + ka * 4096 + va * 2048 + na) / 65536 = g * 2048 + sa * 1024 + c * 64 + pa := by omega
  have hb : (g * 134217728 + sa * 67108864 + c * 4194304 + pa * 65536 + za * 16384 + ua * 8192 + ka * 4096 + va * 2048 + na) % 65536 = za * 16384 + ua * 8192 + ka * 4096 + va * 2048 + na := by omega
  unfold RdOk
  rw [ha, hb]
  by_cases hc14 : c = 14
  · exact ⟨Tm.Z, fun W hT => branchOnCondition_al (X1 := g * 134217728 + sa * 67108864 + pa * 65536 + za * 16384 + ua * 8192 + ka * 4096 + va * 2048 + na) (X := g * 134217728 + sa * 67108864 + c * 4194304 + pa * 65536 + za * 16384 + ua * 8192 + ka * 4096 + va * 2048 + na) (c := c) t W (by omega) (by omega) (by omega) (by omega) hT hc14, fun h => (ok_Z h).elim, fun h => by unfold P11 at h; omega⟩
  · have hcb : (c == 14) = false := by simpa using hc14
    cases t with
    | true => exact ⟨Tm.Z, fun W hT => branchOnCondition_it (X1 := g * 134217728 + sa * 67108864 + pa * 65536 + za * 16384 + ua * 8192 + ka * 4096 + va * 2048 + na) (X := g * 134217728 + sa * 67108864 + c * 4194304 + pa * 65536 + za * 16384 + ua * 8192 + ka * 4096 + va * 2048 + na) (c := c) true W (by omega) (by omega) (by omega) (by omega) hT hcb rfl, fun h => (ok_Z h).elim, fun h => by unfold P11 at h; exact absurd h.2.2.2.2.2.2 (by decide)⟩
    | false =>
      refine ⟨⟨leftI [(35, 4026564608)] (g * 134217728 + za * 16384 + ka * 4096), c, 0, 0, 0, getV 3 (g * 2048 + sa * 1024 + pa) (za * 16384 + ua * 8192 + ka * 4096 + va * 2048 + na), 1, 0, false⟩, fun W hT => branchOnCondition_c (X1 := g * 134217728 + sa * 67108864 + pa * 65536 + za * 16384 + ua * 8192 + ka * 4096 + va * 2048 + na) (X2 := g * 134217728 + za * 16384 + ua * 8192 + ka * 4096 + va * 2048 + na) (X3 := g * 134217728 + za * 16384 + ka * 4096 + va * 2048 + na) (X4 := g * 134217728 + za * 16384 + ka * 4096) (X := g * 134217728 + sa * 67108864 + c * 4194304 + pa * 65536 + za * 16384 + ua * 8192 + ka * 4096 + va * 2048 + na) (c := c) (A := g * 2048 + sa * 1024 + pa) (B := za * 16384 + ua * 8192 + ka * 4096 + va * 2048 + na) (V := getV 3 (g * 2048 + sa * 1024 + pa) (za * 16384 + ua * 8192 + ka * 4096 + va * 2048 + na)) (p := sa * 1024 + pa) (q := ua) (r := va * 2048 + na) false W (by omega) (by omega) (by omega) (by omega) rfl (by omega) (by omega) (by omega) (by omega) (by omega) (by omega) (by omega) (by omega) hT hcb rfl, ?_, ?_⟩
      · intro hok
        rcases left_cases [(35, 4026564608)] (g * 134217728 + za * 16384 + ka * 4096) with h | ⟨e, he, hY, hl⟩
        · rw [h] at hok; exact (ok_zero hok).elim
        · rw [hl] at hok
          simp only [List.mem_cons, List.not_mem_nil, or_false] at he
          subst he
          dsimp only at hY hok
          have h5 := (Nm.ok_parts hok).2.2.2.2.2.1
          have h6 : 0 ≤ c ∧ c ≤ 14 := by simpa [Im.condB] using h5
          unfold P11
          refine ⟨by omega, by omega, by omega, by omega, by omega, by omega, rfl⟩
      · intro h
        obtain ⟨g1, g2, g3, g4, g5, g6, _⟩ := h
        have hV := Om.getV_3 (g * 2048 + sa * 1024 + pa) (za * 16384 + ua * 8192 + ka * 4096 + va * 2048 + na) (by omega) (by omega)
        have hV2 : Om.gA 3 (g * 2048 + sa * 1024 + pa) (za * 16384 + ua * 8192 + ka * 4096 + va * 2048 + na) = 2 * Om.sg (sa * 524288 + va * 262144 + ua * 131072 + pa * 2048 + na) 524288 := by
          unfold Om.gA
          rw [if_neg (by decide), if_neg (by decide), if_pos rfl, show (g * 2048 + sa * 1024 + pa) / 1024 % 2 = sa by omega, show (za * 16384 + ua * 8192 + ka * 4096 + va * 2048 + na) / 8192 % 2 = ua by omega, show (za * 16384 + ua * 8192 + ka * 4096 + va * 2048 + na) / 2048 % 2 = va by omega, show (g * 2048 + sa * 1024 + pa) % 64 = pa by omega, show (za * 16384 + ua * 8192 + ka * 4096 + va * 2048 + na) % 2048 = na by omega]
        unfold Om.sg at hV2
        have hc : g = 30 ∧ za = 2 ∧ ka = 0 := by omega
        obtain ⟨rfl, rfl, rfl⟩ := hc
        rw [show leftI [(35, 4026564608)] (30 * 134217728 + 2 * 16384 + 0 * 4096) = 35 by decide, Tm.at_branch _ _ (by omega) (by omega) (by omega)]
        unfold Tm.branchT
        rw [if_neg (by omega), if_pos (by omega), if_pos ⟨by omega, rfl⟩]
        exact Nm.mk_eq rfl (by omega) rfl rfl rfl (by rw [hV, hV2, show (30 * 2048 + sa * 1024 + c * 64 + pa) % 64 = pa by omega, show (30 * 2048 + sa * 1024 + c * 64 + pa) / 1024 % 2 = sa by omega, show (2 * 16384 + ua * 8192 + 0 * 4096 + va * 2048 + na) / 8192 % 2 = ua by omega, show (2 * 16384 + ua * 8192 + 0 * 4096 + va * 2048 + na) / 2048 % 2 = va by omega, show (2 * 16384 + ua * 8192 + 0 * 4096 + va * 2048 + na) % 2048 = na by omega]; (rcases (show sa = 0 ∨ sa = 1 by omega) with rfl | rfl <;> first | (rw [if_pos (by omega)]; omega) | (rw [if_neg (by omega)]; omega))) rfl rfl rfl
end Tp
end Go.Proofs.YtdcnkmkaafimlaaDoor

namespace Go.Proofs.YtdcnkmkaafimlaaDoor
open Go.ChangeShapes Go.WideShapes Go.ChangeAt Go.RowKit
namespace Tp
open Nm (I)
open Tl (IV)

theorem rd_shn (X : Int) (t : Bool) (hx0 : 0 ≤ X) (hx1 : X < 4294967296) : RdOk 11 X t (P3 (X / 65536) (X % 65536)) := by
  obtain ⟨k0, m, E0, m0, m1⟩ : ∃ q v, X = q * 16 + v ∧ 0 ≤ v ∧ v < 16 := ⟨X / 16, X % 16, by omega, by omega, by omega⟩
  obtain ⟨k1, tt, E1, tt0, tt1⟩ : ∃ q v, k0 = q * 4 + v ∧ 0 ≤ v ∧ v < 4 := ⟨k0 / 4, k0 % 4, by omega, by omega, by omega⟩
  obtain ⟨k2, v, E2, v0, v1⟩ : ∃ q v, k1 = q * 4 + v ∧ 0 ≤ v ∧ v < 4 := ⟨k1 / 4, k1 % 4, by omega, by omega, by omega⟩
  obtain ⟨k3, d, E3, d0, d1⟩ : ∃ q v, k2 = q * 16 + v ∧ 0 ≤ v ∧ v < 16 := ⟨k2 / 16, k2 % 16, by omega, by omega, by omega⟩
  obtain ⟨k4, u, E4, u0, u1⟩ : ∃ q v, k3 = q * 8 + v ∧ 0 ≤ v ∧ v < 8 := ⟨k3 / 8, k3 % 8, by omega, by omega, by omega⟩
  obtain ⟨k5, z, E5, z0, z1⟩ : ∃ q v, k4 = q * 2 + v ∧ 0 ≤ v ∧ v < 2 := ⟨k4 / 2, k4 % 2, by omega, by omega, by omega⟩
  obtain ⟨k6, r, E6, r0, r1⟩ : ∃ q v, k5 = q * 16 + v ∧ 0 ≤ v ∧ v < 16 := ⟨k5 / 16, k5 % 16, by omega, by omega, by omega⟩
  obtain ⟨k7, sv, E7, sv0, sv1⟩ : ∃ q v, k6 = q * 2 + v ∧ 0 ≤ v ∧ v < 2 := ⟨k6 / 2, k6 % 2, by omega, by omega, by omega⟩
  obtain ⟨g, EL⟩ : ∃ v, v = k7 := ⟨_, rfl⟩
  have hX : X = g * 2097152 + sv * 1048576 + r * 65536 + z * 32768 + u * 4096 + d * 256 + v * 64 + tt * 16 + m := by omega
  have g0 : 0 ≤ g := by omega
  have g1 : g < 2048 := by omega
  subst hX
  clear E0 E1 E2 E3 E4 E5 E6 E7 EL
  have ha : (g * 2097152 + sv * 1048576 + r * 65536 + z * 32768 + u * 4096 + d * 256 + v * 64 + tt * 16 + m) / 65536 = g * 32 + sv * 16 + r := by omega
  have hb : (g * 2097152 + sv * 1048576 + r * 65536 + z * 32768 + u * 4096 + d * 256 + v * 64 + tt * 16 + m) % 65536 = z * 32768 + u * 4096 + d * 256 + v * 64 + tt * 16 + m := by omega
  unfold RdOk
  rw [ha, hb]
  refine ⟨⟨leftI [(16, 3931045888), (17, 3931045904), (18, 3931045920), (19, 3931045936)] (g * 2097152 + r * 65536 + z * 32768 + tt * 16), 0, d, m, 0, (if u * 4 + v = 0 then 32 else u * 4 + v), 1, 0, (sv == 1)⟩, fun W hT => shiftedByNumber_c (X1 := g * 2097152 + r * 65536 + z * 32768 + u * 4096 + d * 256 + v * 64 + tt * 16 + m) (X2 := g * 2097152 + r * 65536 + z * 32768 + u * 4096 + v * 64 + tt * 16 + m) (X3 := g * 2097152 + r * 65536 + z * 32768 + u * 4096 + v * 64 + tt * 16) (X4 := g * 2097152 + r * 65536 + z * 32768 + v * 64 + tt * 16) (X5 := g * 2097152 + r * 65536 + z * 32768 + tt * 16) (X := g * 2097152 + sv * 1048576 + r * 65536 + z * 32768 + u * 4096 + d * 256 + v * 64 + tt * 16 + m) (sv := sv) (d := d) (m := m) (u := u) (v := v) t W (by omega) (by omega) (by omega) (by omega) (by omega) (by omega) (by omega) (by omega) (by omega) (by omega) (by omega) (by omega) hT (u * 4 + v) (if u * 4 + v = 0 then 32 else u * 4 + v) rfl (by by_cases h : u * 4 + v = 0 <;> simp [h]), ?_, ?_⟩
  · intro hok
    rcases left_cases [(16, 3931045888), (17, 3931045904), (18, 3931045920), (19, 3931045936)] (g * 2097152 + r * 65536 + z * 32768 + tt * 16) with h | ⟨e, he, hY, hl⟩
    · rw [h] at hok; exact (ok_zero hok).elim
    · rw [hl] at hok
      simp only [List.mem_cons, List.not_mem_nil, or_false] at he
      rcases he with rfl | rfl | rfl | rfl
      · dsimp only at hY hok
        have hd := reg_12 (show Im.oneB 24575 d = true from (Nm.ok_parts hok).2.1)
        rcases Nm.last_cases (Nm.ok_parts hok).2.2.2.1 with ⟨e, _⟩ | ⟨_, _, _, q3, _, _⟩ | ⟨e, _⟩
        · exact absurd (show (1 : Int) = 0 from e) (by decide)
        · replace q3 : (if u * 4 + v = 0 then 32 else u * 4 + v) ≤ 31 := q3
          unfold P3 isE Tm.shN
          by_cases hz : u * 4 + v = 0
          · rw [if_pos hz] at q3
            omega
          · clear q3
            omega
        · exact absurd (show (1 : Int) = 2 from e) (by decide)
      · dsimp only at hY hok
        have hd := reg_12 (show Im.oneB 24575 d = true from (Nm.ok_parts hok).2.1)
        rcases Nm.last_cases (Nm.ok_parts hok).2.2.2.1 with ⟨e, _⟩ | ⟨_, _, _, q3, _, _⟩ | ⟨e, _⟩
        · exact absurd (show (1 : Int) = 0 from e) (by decide)
        · replace q3 : (if u * 4 + v = 0 then 32 else u * 4 + v) ≤ 32 := q3
          unfold P3 isE Tm.shN
          by_cases hz : u * 4 + v = 0
          · rw [if_pos hz] at q3
            omega
          · clear q3
            omega
        · exact absurd (show (1 : Int) = 2 from e) (by decide)
      · dsimp only at hY hok
        have hd := reg_12 (show Im.oneB 24575 d = true from (Nm.ok_parts hok).2.1)
        rcases Nm.last_cases (Nm.ok_parts hok).2.2.2.1 with ⟨e, _⟩ | ⟨_, _, _, q3, _, _⟩ | ⟨e, _⟩
        · exact absurd (show (1 : Int) = 0 from e) (by decide)
        · replace q3 : (if u * 4 + v = 0 then 32 else u * 4 + v) ≤ 32 := q3
          unfold P3 isE Tm.shN
          by_cases hz : u * 4 + v = 0
          · rw [if_pos hz] at q3
            omega
          · clear q3
            omega
        · exact absurd (show (1 : Int) = 2 from e) (by decide)
      · dsimp only at hY hok
        have hd := reg_12 (show Im.oneB 24575 d = true from (Nm.ok_parts hok).2.1)
        rcases Nm.last_cases (Nm.ok_parts hok).2.2.2.1 with ⟨e, _⟩ | ⟨_, _, _, q3, _, _⟩ | ⟨e, _⟩
        · exact absurd (show (1 : Int) = 0 from e) (by decide)
        · replace q3 : (if u * 4 + v = 0 then 32 else u * 4 + v) ≤ 31 := q3
          unfold P3 isE Tm.shN
          by_cases hz : u * 4 + v = 0
          · rw [if_pos hz] at q3
            omega
          · clear q3
            omega
        · exact absurd (show (1 : Int) = 2 from e) (by decide)
  · intro h
    unfold P3 isE Tm.shN at h
    have hs : Tm.shN (z * 32768 + u * 4096 + d * 256 + v * 64 + tt * 16 + m) = u * 4 + v := by unfold Tm.shN; omega
    have hd15 : d ≠ 15 := by omega
    have hnz : ¬ (u * 4 + v = 0 ∧ (tt = 0 ∨ tt = 3)) := by omega
    have hc : (g = 1874 ∧ r = 15 ∧ z = 0 ∧ tt = 0) ∨ (g = 1874 ∧ r = 15 ∧ z = 0 ∧ tt = 1) ∨ (g = 1874 ∧ r = 15 ∧ z = 0 ∧ tt = 2) ∨ (g = 1874 ∧ r = 15 ∧ z = 0 ∧ tt = 3) := by omega
    rcases hc with ⟨rfl, rfl, rfl, rfl⟩ | ⟨rfl, rfl, rfl, rfl⟩ | ⟨rfl, rfl, rfl, rfl⟩ | ⟨rfl, rfl, rfl, rfl⟩
    all_goals clear h ha hb
    · rw [show leftI [(16, 3931045888), (17, 3931045904), (18, 3931045920), (19, 3931045936)] (1874 * 2097152 + 15 * 65536 + 0 * 32768 + 0 * 16) = 16 by decide, Tm.at_regs _ _ (by omega) (by omega)]
      unfold Tm.regsT
      rw [hs, show (1874 * 32 + sv * 16 + 15) / 32 % 16 = 2 by omega, show (1874 * 32 + sv * 16 + 15) % 16 = 15 by omega, show (0 * 32768 + u * 4096 + d * 256 + v * 64 + 0 * 16 + m) / 256 % 16 = d by omega, show (0 * 32768 + u * 4096 + d * 256 + v * 64 + 0 * 16 + m) / 16 % 4 = 0 by omega, if_neg (show ¬ 32768 ≤ (0 * 32768 + u * 4096 + d * 256 + v * 64 + 0 * 16 + m) by omega), if_pos (show (2 : Int) = 2 ∧ (15 : Int) = 15 ∧ d ≠ 15 ∧ ¬ (u * 4 + v = 0 ∧ (0 : Int) = 0) by omega)]
      exact Nm.mk_eq (by omega) rfl rfl (by omega) rfl (by by_cases hz : u * 4 + v = 0 <;> first | (rw [if_pos hz, if_pos (by omega)]) | (rw [if_neg hz, if_neg (by omega)]) | omega) rfl rfl (congrArg (fun x : Int => x == 1) (by omega))
    · rw [show leftI [(16, 3931045888), (17, 3931045904), (18, 3931045920), (19, 3931045936)] (1874 * 2097152 + 15 * 65536 + 0 * 32768 + 1 * 16) = 17 by decide, Tm.at_regs _ _ (by omega) (by omega)]
      unfold Tm.regsT
      rw [hs, show (1874 * 32 + sv * 16 + 15) / 32 % 16 = 2 by omega, show (1874 * 32 + sv * 16 + 15) % 16 = 15 by omega, show (0 * 32768 + u * 4096 + d * 256 + v * 64 + 1 * 16 + m) / 256 % 16 = d by omega, show (0 * 32768 + u * 4096 + d * 256 + v * 64 + 1 * 16 + m) / 16 % 4 = 1 by omega, if_neg (show ¬ 32768 ≤ (0 * 32768 + u * 4096 + d * 256 + v * 64 + 1 * 16 + m) by omega), if_pos (show (2 : Int) = 2 ∧ (15 : Int) = 15 ∧ d ≠ 15 ∧ ¬ (u * 4 + v = 0 ∧ (1 : Int) = 0) by omega)]
      exact Nm.mk_eq (by omega) rfl rfl (by omega) rfl (by by_cases hz : u * 4 + v = 0 <;> first | (rw [if_pos hz, if_pos (by omega)]) | (rw [if_neg hz, if_neg (by omega)]) | omega) rfl rfl (congrArg (fun x : Int => x == 1) (by omega))
    · rw [show leftI [(16, 3931045888), (17, 3931045904), (18, 3931045920), (19, 3931045936)] (1874 * 2097152 + 15 * 65536 + 0 * 32768 + 2 * 16) = 18 by decide, Tm.at_regs _ _ (by omega) (by omega)]
      unfold Tm.regsT
      rw [hs, show (1874 * 32 + sv * 16 + 15) / 32 % 16 = 2 by omega, show (1874 * 32 + sv * 16 + 15) % 16 = 15 by omega, show (0 * 32768 + u * 4096 + d * 256 + v * 64 + 2 * 16 + m) / 256 % 16 = d by omega, show (0 * 32768 + u * 4096 + d * 256 + v * 64 + 2 * 16 + m) / 16 % 4 = 2 by omega, if_neg (show ¬ 32768 ≤ (0 * 32768 + u * 4096 + d * 256 + v * 64 + 2 * 16 + m) by omega), if_pos (show (2 : Int) = 2 ∧ (15 : Int) = 15 ∧ d ≠ 15 ∧ ¬ (u * 4 + v = 0 ∧ (2 : Int) = 0) by omega)]
      exact Nm.mk_eq (by omega) rfl rfl (by omega) rfl (by by_cases hz : u * 4 + v = 0 <;> first | (rw [if_pos hz, if_pos (by omega)]) | (rw [if_neg hz, if_neg (by omega)]) | omega) rfl rfl (congrArg (fun x : Int => x == 1) (by omega))
    · rw [show leftI [(16, 3931045888), (17, 3931045904), (18, 3931045920), (19, 3931045936)] (1874 * 2097152 + 15 * 65536 + 0 * 32768 + 3 * 16) = 19 by decide, Tm.at_regs _ _ (by omega) (by omega)]
      unfold Tm.regsT
      rw [hs, show (1874 * 32 + sv * 16 + 15) / 32 % 16 = 2 by omega, show (1874 * 32 + sv * 16 + 15) % 16 = 15 by omega, show (0 * 32768 + u * 4096 + d * 256 + v * 64 + 3 * 16 + m) / 256 % 16 = d by omega, show (0 * 32768 + u * 4096 + d * 256 + v * 64 + 3 * 16 + m) / 16 % 4 = 3 by omega, if_neg (show ¬ 32768 ≤ (0 * 32768 + u * 4096 + d * 256 + v * 64 + 3 * 16 + m) by omega), if_pos (show (2 : Int) = 2 ∧ (15 : Int) = 15 ∧ d ≠ 15 ∧ ¬ (u * 4 + v = 0 ∧ (3 : Int) = 0) by omega)]
      exact Nm.mk_eq (by omega) rfl rfl (by omega) rfl (by by_cases hz : u * 4 + v = 0 <;> first | (rw [if_pos hz, if_pos (by omega)]) | (rw [if_neg hz, if_neg (by omega)]) | omega) rfl rfl (congrArg (fun x : Int => x == 1) (by omega))
end Tp
end Go.Proofs.YtdcnkmkaafimlaaDoor
