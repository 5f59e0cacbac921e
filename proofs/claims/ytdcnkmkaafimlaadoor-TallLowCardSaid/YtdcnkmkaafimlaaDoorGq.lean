/- Contracts of tall's readers, over what each takes. No conditions but those that each fact names (text by gen_pg.py). Contracts of tall's readers, over what each takes. No conditions but those that each fact names (text by gen_pg.py). Contracts of tall's readers, over what each takes. No conditions but those that each fact names (text by gen_pg.py). -/
import Derived.Test.YtdcnkmkaafimlaaDoorRows
import Derived.Test.YtdcnkmkaafimlaaDoorPf
import Derived.Test.YtdcnkmkaafimlaaDoorGf
import Derived.Test.YtdcnkmkaafimlaaDoorGp

namespace Go.Proofs.YtdcnkmkaafimlaaDoor
open Go.ChangeShapes Go.WideShapes Go.ChangeAt Go.RowKit
namespace Tp
open Nm (I)
open Tl (IV)

set_option maxHeartbeats 2000000 in
theorem branch_c (X A B V p X1 q X2 r X3 : Int) (t : Bool) (w : World) (hoA : X / 65536 = A) (hoB : X % 65536 = B) (hoV : getV 4 A B = V) (h1 : X / 65536 % 2048 = p) (e1 : X - p * 65536 = X1) (h2 : X1 / 8192 % 2 = q) (e2 : X1 - q * 8192 = X2) (h3 : X2 % 4096 = r) (e3 : X2 - r = X3) (hx0 : 0 ≤ X) (hx1 : X < 4294967296) (hT : Tabs w) (c : Int) (hc : (leftI [(35, 4026568704), (36, 4026585088)] X3 = 35 ∧ c = 14) ∨ (leftI [(35, 4026568704), (36, 4026585088)] X3 ≠ 35 ∧ c = 0)) :
    Calls Tryd.prog 20 #[.agg #[.int .u32 X, .bool t]] w fun e w' => e = .returned (IV ⟨leftI [(35, 4026568704), (36, 4026585088)] X3, c, 0, 0, 0, V, 1, 0, false⟩) ∧ Below w.heap.size w w' := by
  have hb5 : 5 ≤ w.heap.size := hT.big
  obtain ⟨x10, x11⟩ := less h1 (by decide) (by decide) hx0 hx1
  rw [e1] at x10 x11
  obtain ⟨x20, x21⟩ := less h2 (by decide) (by decide) x10 x11
  rw [e2] at x20 x21
  obtain ⟨x30, x31⟩ := less0 h3 (by decide) x20 x21
  rw [e3] at x30 x31
  have H1 := Lib.hid (fun W hP hT => offset_c w.heap.size 4 X A B V X1 X2 X3 p q r t W (by decide) hoA hoB hoV h1 e1 h2 e2 h3 e3 hx0 hx1 hP hT hb5)
  obtain ⟨bl0, bh0⟩ := rem_bd h1 (by decide)
  obtain ⟨bl1, bh1⟩ := rem_bd h2 (by decide)
  obtain ⟨bl2, bh2⟩ := rem_bd h3 (by decide)
  have hS := Lib.hid (Stt.start (b := w.heap.size) (X := X) (t := t) ⟨by go_simp, by go_simp, by go_simp, by simp; omega⟩ (Tabs.alloc (Tabs.alloc hT (.cells #[.int .u32 X, .bool t] 33)) (.cells #[.int .i64 0, .int .i64 0, .int .i64 0, .int .i64 0, .int .i64 0, .int .i64 0, .int .i64 0, .int .i64 0, .bool false] 23)))
  have hR := Lib.hid (show InsAt ((w.alloc (.cells #[.int .u32 X, .bool t] 33)).alloc (.cells #[.int .i64 0, .int .i64 0, .int .i64 0, .int .i64 0, .int .i64 0, .int .i64 0, .int .i64 0, .int .i64 0, .bool false] 23)) (w.heap.size + 1) Tm.Z by have h := InsAt.new (w.alloc (.cells #[.int .u32 X, .bool t] 33)) Tm.Z; rw [World.size_alloc] at h; exact h)
  have hB := Lib.hid (al2 w (.cells #[.int .u32 X, .bool t] 33) (.cells #[.int .i64 0, .int .i64 0, .int .i64 0, .int .i64 0, .int .i64 0, .int .i64 0, .int .i64 0, .int .i64 0, .bool false] 23))
  clear hT h1 e1 x10 x11 h2 e2 x20 x21 h3 e3 x30 x31
  clear hoA hoB hoV
  replace hc := Lib.hid hc
  go_enter Tryd.func20, Tryd.ntmps20
  go_wp2_with fail
  refine (H1.out _ hS.out.pair hS.out.tabs).mono ?_
  rintro e w1 ⟨rfl, hP, hK⟩
  replace hS := Lib.hid (hS.out.call hb5 hP hK)
  clear hP hK
  have hw := hS.out.pair.word
  have hit := hS.out.pair.it
  have hlb := hS.out.pair.lt
  have hsz := hS.out.kept.size
  have hlr : w.heap.size + 1 < w1.heap.size := Nat.lt_of_lt_of_le hR.out.lt hsz
  obtain ⟨ne1, ne2⟩ := apart hlr
  go_wp2_with fail
  refine (left_c [(35, 4026568704), (36, 4026585088)] X3 t _ 2 _ _ rfl ?hc ?hl (by decide)).mono ?_
  case hc => exact rng2 _ _ _ _
  case hl => simp
  rintro e w9 ⟨rfl, hb9⟩
  have hI9 := ((InsAt.new w1 ⟨0, 0, 0, 0, 0, V, 1, 0, false⟩).below (al1 _ _)).below hb9
  have hR9 := (((hR.out.kept hS.out.kept (by omega)).below (al1 _ _)).below (al1 _ _)).below hb9
  have hB9 := Lib.hid (hB.out.trans ((hS.out.kept.below (Nat.le_trans (Nat.le_of_lt (Nat.lt_succ_self _)) (Nat.le_of_lt hR.out.lt))).trans (((al1 _ _).trans ((al1 _ _).mono (by simp))).trans (hb9.mono (by simp; omega)) |>.mono (by omega))))
  obtain ⟨hres, hfr, hlt⟩ := hI9
  obtain ⟨hrr, hrf, hrl⟩ := hR9
  unfold insC at hres
  unfold insC Tm.Z at hrr
  dsimp only at hres hrr
  generalize hVq : leftI [(35, 4026568704), (36, 4026585088)] X3 = K at *
  replace hVq := Lib.hid hVq
  clear hb9
  rcases hc.out with ⟨rfl, rfl⟩ | ⟨hn, rfl⟩
  · go_wp2
    refine bodyPost_ret (v := .agg #[.int .i64 35, .int .i64 14, .int .i64 0, .int .i64 0, .int .i64 0, .int .i64 V, .int .i64 1, .int .i64 0, .bool false]) (by simp [results, Tryd.f20, go_sem, hrr]) rfl ?_
    refine ⟨by rw [hVq.out]; rfl, ?_⟩
    exact nine_set ((hB9.out.setCell (p := ⟨w1.heap.size, 0, none⟩) (by show w.heap.size ≤ w1.heap.size; omega) _).setCell (p := ⟨w1.heap.size, 1, none⟩) (by show w.heap.size ≤ w1.heap.size; omega) _) (Nat.le_succ _) _ _ _ _ _ _ _ _ _
  · have hnb : (K == 35) = false := by simpa using hn
    clear hn
    go_wp2
    refine bodyPost_ret (v := .agg #[.int .i64 K, .int .i64 0, .int .i64 0, .int .i64 0, .int .i64 0, .int .i64 V, .int .i64 1, .int .i64 0, .bool false]) (by simp [results, Tryd.f20, go_sem, hrr]) rfl ?_
    refine ⟨by rw [hVq.out]; rfl, ?_⟩
    exact nine_set (hB9.out.setCell (p := ⟨w1.heap.size, 0, none⟩) (by show w.heap.size ≤ w1.heap.size; omega) _) (Nat.le_succ _) _ _ _ _ _ _ _ _ _
set_option maxHeartbeats 2000000 in
theorem branchOnCondition_al (X c X1 : Int) (t : Bool) (w : World) (h1 : X / 4194304 % 16 = c) (e1 : X - c * 4194304 = X1) (hx0 : 0 ≤ X) (hx1 : X < 4294967296) (hT : Tabs w) (hz : c = 14) :
    Calls Tryd.prog 19 #[.agg #[.int .u32 X, .bool t]] w fun e w' => e = .returned (IV Tm.Z) ∧ Below w.heap.size w w' := by
  have hb5 : 5 ≤ w.heap.size := hT.big
  obtain ⟨x10, x11⟩ := less h1 (by decide) (by decide) hx0 hx1
  rw [e1] at x10 x11
  have H1 := Lib.hid (fun W hP => take_n 25 22 4194304 16 (hi' := 25) (lo' := 22) w.heap.size X c X1 t W h1 e1 hx0 hx1 hP rfl rfl (by decide) (by decide) (by decide) (by decide))
  obtain ⟨bl0, bh0⟩ := rem_bd h1 (by decide)
  have hS := Lib.hid (Stt.start (b := w.heap.size) (X := X) (t := t) ⟨by go_simp, by go_simp, by go_simp, by simp; omega⟩ (Tabs.alloc (Tabs.alloc hT (.cells #[.int .u32 X, .bool t] 33)) (.cells #[.int .i64 0, .int .i64 0, .int .i64 0, .int .i64 0, .int .i64 0, .int .i64 0, .int .i64 0, .int .i64 0, .bool false] 23)))
  have hR := Lib.hid (show InsAt ((w.alloc (.cells #[.int .u32 X, .bool t] 33)).alloc (.cells #[.int .i64 0, .int .i64 0, .int .i64 0, .int .i64 0, .int .i64 0, .int .i64 0, .int .i64 0, .int .i64 0, .bool false] 23)) (w.heap.size + 1) Tm.Z by have h := InsAt.new (w.alloc (.cells #[.int .u32 X, .bool t] 33)) Tm.Z; rw [World.size_alloc] at h; exact h)
  have hB := Lib.hid (al2 w (.cells #[.int .u32 X, .bool t] 33) (.cells #[.int .i64 0, .int .i64 0, .int .i64 0, .int .i64 0, .int .i64 0, .int .i64 0, .int .i64 0, .int .i64 0, .bool false] 23))
  clear hT h1 e1 x10 x11
  subst hz
  go_enter Tryd.func19, Tryd.ntmps19
  go_wp2_with fail
  refine (H1.out _ hS.out.pair).mono ?_
  rintro e w1 ⟨rfl, hP, hK⟩
  replace hS := Lib.hid (hS.out.call hb5 hP hK)
  clear hP hK
  have hw := hS.out.pair.word
  have hit := hS.out.pair.it
  have hlb := hS.out.pair.lt
  have hsz := hS.out.kept.size
  have hlr : w.heap.size + 1 < w1.heap.size := Nat.lt_of_lt_of_le hR.out.lt hsz
  obtain ⟨ne1, ne2⟩ := apart hlr
  have hB9 := Lib.hid (hB.out.trans (hS.out.kept.below (Nat.le_trans (Nat.le_of_lt (Nat.lt_succ_self _)) (Nat.le_of_lt hR.out.lt))))
  obtain ⟨hrr, hrf, hrl⟩ := hR.out.kept hS.out.kept (by omega)
  unfold insC Tm.Z at hrr
  dsimp only at hrr
  go_wp2
  refine bodyPost_ret (v := .agg #[.int .i64 0, .int .i64 0, .int .i64 0, .int .i64 0, .int .i64 0, .int .i64 0, .int .i64 0, .int .i64 0, .bool false]) (by simp [results, Tryd.f19, go_sem, hrr, hrl]) rfl ?_
  refine ⟨rfl, ?_⟩
  exact nine_alloc hB9.out (Nat.le_succ _) (by omega) _ _ _ _ _ _ _ _ _ _
set_option maxHeartbeats 2000000 in
theorem branchOnCondition_it (X c X1 : Int) (t : Bool) (w : World) (h1 : X / 4194304 % 16 = c) (e1 : X - c * 4194304 = X1) (hx0 : 0 ≤ X) (hx1 : X < 4294967296) (hT : Tabs w) (hz : (c == 14) = false) (ht : t = true) :
    Calls Tryd.prog 19 #[.agg #[.int .u32 X, .bool t]] w fun e w' => e = .returned (IV Tm.Z) ∧ Below w.heap.size w w' := by
  have hb5 : 5 ≤ w.heap.size := hT.big
  obtain ⟨x10, x11⟩ := less h1 (by decide) (by decide) hx0 hx1
  rw [e1] at x10 x11
  have H1 := Lib.hid (fun W hP => take_n 25 22 4194304 16 (hi' := 25) (lo' := 22) w.heap.size X c X1 t W h1 e1 hx0 hx1 hP rfl rfl (by decide) (by decide) (by decide) (by decide))
  obtain ⟨bl0, bh0⟩ := rem_bd h1 (by decide)
  have hS := Lib.hid (Stt.start (b := w.heap.size) (X := X) (t := t) ⟨by go_simp, by go_simp, by go_simp, by simp; omega⟩ (Tabs.alloc (Tabs.alloc hT (.cells #[.int .u32 X, .bool t] 33)) (.cells #[.int .i64 0, .int .i64 0, .int .i64 0, .int .i64 0, .int .i64 0, .int .i64 0, .int .i64 0, .int .i64 0, .bool false] 23)))
  have hR := Lib.hid (show InsAt ((w.alloc (.cells #[.int .u32 X, .bool t] 33)).alloc (.cells #[.int .i64 0, .int .i64 0, .int .i64 0, .int .i64 0, .int .i64 0, .int .i64 0, .int .i64 0, .int .i64 0, .bool false] 23)) (w.heap.size + 1) Tm.Z by have h := InsAt.new (w.alloc (.cells #[.int .u32 X, .bool t] 33)) Tm.Z; rw [World.size_alloc] at h; exact h)
  have hB := Lib.hid (al2 w (.cells #[.int .u32 X, .bool t] 33) (.cells #[.int .i64 0, .int .i64 0, .int .i64 0, .int .i64 0, .int .i64 0, .int .i64 0, .int .i64 0, .int .i64 0, .bool false] 23))
  clear hT h1 e1 x10 x11
  subst ht
  go_enter Tryd.func19, Tryd.ntmps19
  go_wp2_with fail
  refine (H1.out _ hS.out.pair).mono ?_
  rintro e w1 ⟨rfl, hP, hK⟩
  replace hS := Lib.hid (hS.out.call hb5 hP hK)
  clear hP hK
  have hw := hS.out.pair.word
  have hit := hS.out.pair.it
  have hlb := hS.out.pair.lt
  have hsz := hS.out.kept.size
  have hlr : w.heap.size + 1 < w1.heap.size := Nat.lt_of_lt_of_le hR.out.lt hsz
  obtain ⟨ne1, ne2⟩ := apart hlr
  have hB9 := Lib.hid (hB.out.trans (hS.out.kept.below (Nat.le_trans (Nat.le_of_lt (Nat.lt_succ_self _)) (Nat.le_of_lt hR.out.lt))))
  obtain ⟨hrr, hrf, hrl⟩ := hR.out.kept hS.out.kept (by omega)
  unfold insC Tm.Z at hrr
  dsimp only at hrr
  go_wp2
  refine bodyPost_ret (v := .agg #[.int .i64 0, .int .i64 0, .int .i64 0, .int .i64 0, .int .i64 0, .int .i64 0, .int .i64 0, .int .i64 0, .bool false]) (by simp [results, Tryd.f19, go_sem, hrr, hrl]) rfl ?_
  refine ⟨rfl, ?_⟩
  exact nine_alloc hB9.out (Nat.le_succ _) (by omega) _ _ _ _ _ _ _ _ _ _
set_option maxHeartbeats 2000000 in
theorem branchOnCondition_c (X c X1 A B V p X2 q X3 r X4 : Int) (t : Bool) (w : World) (h1 : X / 4194304 % 16 = c) (e1 : X - c * 4194304 = X1) (hoA : X1 / 65536 = A) (hoB : X1 % 65536 = B) (hoV : getV 3 A B = V) (h2 : X1 / 65536 % 2048 = p) (e2 : X1 - p * 65536 = X2) (h3 : X2 / 8192 % 2 = q) (e3 : X2 - q * 8192 = X3) (h4 : X3 % 4096 = r) (e4 : X3 - r = X4) (hx0 : 0 ≤ X) (hx1 : X < 4294967296) (hT : Tabs w) (hz : (c == 14) = false) (ht : t = false) :
    Calls Tryd.prog 19 #[.agg #[.int .u32 X, .bool t]] w fun e w' => e = .returned (IV ⟨leftI [(35, 4026564608)] X4, c, 0, 0, 0, V, 1, 0, false⟩) ∧ Below w.heap.size w w' := by
  have hb5 : 5 ≤ w.heap.size := hT.big
  obtain ⟨x10, x11⟩ := less h1 (by decide) (by decide) hx0 hx1
  rw [e1] at x10 x11
  obtain ⟨x20, x21⟩ := less h2 (by decide) (by decide) x10 x11
  rw [e2] at x20 x21
  obtain ⟨x30, x31⟩ := less h3 (by decide) (by decide) x20 x21
  rw [e3] at x30 x31
  obtain ⟨x40, x41⟩ := less0 h4 (by decide) x30 x31
  rw [e4] at x40 x41
  have H1 := Lib.hid (fun W hP => take_n 25 22 4194304 16 (hi' := 25) (lo' := 22) w.heap.size X c X1 t W h1 e1 hx0 hx1 hP rfl rfl (by decide) (by decide) (by decide) (by decide))
  have H2 := Lib.hid (fun W hP hT => offset_c w.heap.size 3 X1 A B V X2 X3 X4 p q r t W (by decide) hoA hoB hoV h2 e2 h3 e3 h4 e4 x10 x11 hP hT hb5)
  obtain ⟨bl0, bh0⟩ := rem_bd h1 (by decide)
  obtain ⟨bl1, bh1⟩ := rem_bd h2 (by decide)
  obtain ⟨bl2, bh2⟩ := rem_bd h3 (by decide)
  obtain ⟨bl3, bh3⟩ := rem_bd h4 (by decide)
  have hS := Lib.hid (Stt.start (b := w.heap.size) (X := X) (t := t) ⟨by go_simp, by go_simp, by go_simp, by simp; omega⟩ (Tabs.alloc (Tabs.alloc hT (.cells #[.int .u32 X, .bool t] 33)) (.cells #[.int .i64 0, .int .i64 0, .int .i64 0, .int .i64 0, .int .i64 0, .int .i64 0, .int .i64 0, .int .i64 0, .bool false] 23)))
  have hR := Lib.hid (show InsAt ((w.alloc (.cells #[.int .u32 X, .bool t] 33)).alloc (.cells #[.int .i64 0, .int .i64 0, .int .i64 0, .int .i64 0, .int .i64 0, .int .i64 0, .int .i64 0, .int .i64 0, .bool false] 23)) (w.heap.size + 1) Tm.Z by have h := InsAt.new (w.alloc (.cells #[.int .u32 X, .bool t] 33)) Tm.Z; rw [World.size_alloc] at h; exact h)
  have hB := Lib.hid (al2 w (.cells #[.int .u32 X, .bool t] 33) (.cells #[.int .i64 0, .int .i64 0, .int .i64 0, .int .i64 0, .int .i64 0, .int .i64 0, .int .i64 0, .int .i64 0, .bool false] 23))
  clear hT h1 e1 x10 x11 h2 e2 x20 x21 h3 e3 x30 x31 h4 e4 x40 x41
  clear hoA hoB hoV
  subst ht
  go_enter Tryd.func19, Tryd.ntmps19
  go_wp2_with fail
  refine (H1.out _ hS.out.pair).mono ?_
  rintro e w1 ⟨rfl, hP, hK⟩
  replace hS := Lib.hid (hS.out.call hb5 hP hK)
  clear hP hK
  have hlr : w.heap.size + 1 < w1.heap.size := Nat.lt_of_lt_of_le hR.out.lt hS.out.kept.size
  obtain ⟨hw, hit, hpf, hlb⟩ := hS.out.pair
  have hI := Lib.hid (InsAt.new w1 ⟨0, c, 0, 0, 0, 0, 1, 0, false⟩)
  have hS2 := Lib.hid (hS.out.alloc (.cells #[.int .i64 0, .int .i64 c, .int .i64 0, .int .i64 0, .int .i64 0, .int .i64 0, .int .i64 1, .int .i64 0, .bool false] 23))
  go_wp2_with fail
  refine (H2.out _ hS2.out.pair hS2.out.tabs).mono ?_
  rintro e w2 ⟨rfl, hP, hK⟩
  replace hS2 := Lib.hid (hS2.out.call hb5 hP hK)
  replace hI := Lib.hid (hI.out.kept hK (by omega))
  clear hP hK hw hit hpf hlb
  have hw := hS2.out.pair.word
  have hit := hS2.out.pair.it
  have hlb := hS2.out.pair.lt
  obtain ⟨hres, hfr, hlt⟩ := hI.out
  unfold insC at hres
  dsimp only at hres
  have hl2 : w.heap.size + 1 < w2.heap.size := by omega
  obtain ⟨ne1, ne2⟩ := apart hlr
  obtain ⟨ne3, ne4⟩ := apart (show w.heap.size < w1.heap.size by omega)
  go_wp2_with fail
  refine (left_c [(35, 4026564608)] X4 false _ 1 _ _ rfl ?hc ?hl (by decide)).mono ?_
  case hc => exact rngS _ _ _ _ _
  case hl => simp
  rintro e w9 ⟨rfl, hb9⟩
  have hI9 := ((hI.out.set5 V).below (al1 _ _)).below hb9
  have hR9 := (((hR.out.kept hS2.out.kept (by omega)).other (show w.heap.size + 1 < w1.heap.size from hlr) 5 (.int .i64 V)).below (al1 _ _)).below hb9
  have hB9 := Lib.hid ((((hB.out.trans (hS2.out.kept.below (Nat.le_trans (Nat.le_of_lt (Nat.lt_succ_self _)) (Nat.le_of_lt hR.out.lt)))).setCell (p := ⟨w1.heap.size, 5, none⟩) (by show w.heap.size ≤ w1.heap.size; omega) (.int .i64 V))).trans (((al1 _ _).trans (hb9.mono (by simp))) |>.mono (by simp; omega)))
  clear hres hfr hlt
  obtain ⟨hres, hfr, hlt⟩ := hI9
  obtain ⟨hrr, hrf, hrl⟩ := hR9
  unfold insC at hres
  unfold insC Tm.Z at hrr
  dsimp only at hres hrr
  generalize hVq : leftI [(35, 4026564608)] X4 = K at *
  replace hVq := Lib.hid hVq
  clear hb9
  go_wp2
  refine bodyPost_ret (v := .agg #[.int .i64 K, .int .i64 c, .int .i64 0, .int .i64 0, .int .i64 0, .int .i64 V, .int .i64 1, .int .i64 0, .bool false]) (by simp [results, Tryd.f19, go_sem, hrr]) rfl ?_
  refine ⟨by rw [hVq.out]; rfl, ?_⟩
  exact nine_set (hB9.out.setCell (p := ⟨w1.heap.size, 0, none⟩) (by show w.heap.size ≤ w1.heap.size; omega) _) (Nat.le_succ _) _ _ _ _ _ _ _ _ _
end Tp
end Go.Proofs.YtdcnkmkaafimlaaDoor

namespace Go.Proofs.YtdcnkmkaafimlaaDoor
open Go.ChangeShapes Go.WideShapes Go.ChangeAt Go.RowKit
namespace Tp
open Nm (I)
open Tl (IV)

set_option maxHeartbeats 2000000 in
theorem expanded_n (X i X1 j X2 l X3 o X4 sv X5 d X6 r X7 : Int) (t : Bool) (w : World) (h1 : X / 67108864 % 2 = i) (e1 : X - i * 67108864 = X1) (h2 : X1 / 4096 % 8 = j) (e2 : X1 - j * 4096 = X2) (h3 : X2 % 256 = l) (e3 : X2 - l = X3) (h4 : X3 / 2097152 % 16 = o) (e4 : X3 - o * 2097152 = X4) (h5 : X4 / 1048576 % 2 = sv) (e5 : X4 - sv * 1048576 = X5) (h6 : X5 / 256 % 16 = d) (e6 : X5 - d * 256 = X6) (h7 : X6 / 65536 % 16 = r) (e7 : X6 - r * 65536 = X7) (hx0 : 0 ≤ X) (hx1 : X < 4294967296) (hT : Tabs w) (N y0 y1 y2 y3 y4 y5 y6 y7 : Int) (y8 : Bool) (hN : i * 2048 + j * 256 + l = N) (hq : numI o (sv == 1) r d X7 4026531840 = ⟨y0, y1, y2, y3, y4, y5, y6, y7, y8⟩) (hv : okB N = false) :
    Calls Tryd.prog 8 #[.agg #[.int .u32 X, .bool t]] w fun e w' => e = .returned (IV Tm.Z) ∧ Below w.heap.size w w' := by
  have hb5 : 5 ≤ w.heap.size := hT.big
  obtain ⟨x10, x11⟩ := less h1 (by decide) (by decide) hx0 hx1
  rw [e1] at x10 x11
  obtain ⟨x20, x21⟩ := less h2 (by decide) (by decide) x10 x11
  rw [e2] at x20 x21
  obtain ⟨x30, x31⟩ := less0 h3 (by decide) x20 x21
  rw [e3] at x30 x31
  obtain ⟨x40, x41⟩ := less h4 (by decide) (by decide) x30 x31
  rw [e4] at x40 x41
  obtain ⟨x50, x51⟩ := less h5 (by decide) (by decide) x40 x41
  rw [e5] at x50 x51
  obtain ⟨x60, x61⟩ := less h6 (by decide) (by decide) x50 x51
  rw [e6] at x60 x61
  obtain ⟨x70, x71⟩ := less h7 (by decide) (by decide) x60 x61
  rw [e7] at x70 x71
  have H1 := Lib.hid (fun W hP => by have h := twelve_c w.heap.size X i j l X1 X2 X3 t W h1 e1 h2 e2 h3 e3 hx0 hx1 hP; rw [hN] at h; exact h)
  have H2 := Lib.hid (fun W hP hT => by have h := numbered_c w.heap.size 4026531840 X3 o sv d r X4 X5 X6 X7 t W h4 e4 h5 e5 h6 e6 h7 e7 x30 x31 hP hT hb5; rw [hq] at h; unfold IV at h; dsimp only at h; exact h)
  obtain ⟨bl0, bh0⟩ := rem_bd h1 (by decide)
  obtain ⟨bl1, bh1⟩ := rem_bd h2 (by decide)
  obtain ⟨bl2, bh2⟩ := rem_bd h3 (by decide)
  obtain ⟨bl3, bh3⟩ := rem_bd h4 (by decide)
  obtain ⟨bl4, bh4⟩ := rem_bd h5 (by decide)
  obtain ⟨bl5, bh5⟩ := rem_bd h6 (by decide)
  obtain ⟨bl6, bh6⟩ := rem_bd h7 (by decide)
  have hS := Lib.hid (Stt.start (b := w.heap.size) (X := X) (t := t) ⟨by go_simp, by go_simp, by go_simp, by simp; omega⟩ (Tabs.alloc (Tabs.alloc hT (.cells #[.int .u32 X, .bool t] 33)) (.cells #[.int .i64 0, .int .i64 0, .int .i64 0, .int .i64 0, .int .i64 0, .int .i64 0, .int .i64 0, .int .i64 0, .bool false] 23)))
  have hR := Lib.hid (show InsAt ((w.alloc (.cells #[.int .u32 X, .bool t] 33)).alloc (.cells #[.int .i64 0, .int .i64 0, .int .i64 0, .int .i64 0, .int .i64 0, .int .i64 0, .int .i64 0, .int .i64 0, .bool false] 23)) (w.heap.size + 1) Tm.Z by have h := InsAt.new (w.alloc (.cells #[.int .u32 X, .bool t] 33)) Tm.Z; rw [World.size_alloc] at h; exact h)
  have hB := Lib.hid (al2 w (.cells #[.int .u32 X, .bool t] 33) (.cells #[.int .i64 0, .int .i64 0, .int .i64 0, .int .i64 0, .int .i64 0, .int .i64 0, .int .i64 0, .int .i64 0, .bool false] 23))
  clear hT h1 e1 x10 x11 h2 e2 x20 x21 h3 e3 x30 x31 h4 e4 x40 x41 h5 e5 x50 x51 h6 e6 x60 x61 h7 e7 x70 x71
  have hN0 : 0 ≤ N ∧ N < 4096 := by omega
  have HV := Lib.hid (fun W => by have h := valid_c N W; rw [hv] at h; exact h)
  clear hN hq hv hN0 bl0 bh0 bl1 bh1 bl2 bh2 bl3 bh3 bl4 bh4 bl5 bh5 bl6 bh6
  go_enter Tryd.func8, Tryd.ntmps8
  go_wp2_with fail
  refine (H1.out _ hS.out.pair).mono ?_
  rintro e w1 ⟨rfl, hP, hK⟩
  replace hS := Lib.hid (hS.out.call hb5 hP hK)
  clear hP hK
  go_wp2_with fail
  refine (H2.out _ hS.out.pair hS.out.tabs).mono ?_
  rintro e w2 ⟨rfl, hP, hK⟩
  replace hS := Lib.hid (hS.out.call hb5 hP hK)
  clear hP hK
  have hw := hS.out.pair.word
  have hit := hS.out.pair.it
  have hlb := hS.out.pair.lt
  have hsz := hS.out.kept.size
  have hlr : w.heap.size + 1 < w2.heap.size := Nat.lt_of_lt_of_le hR.out.lt hsz
  obtain ⟨ne1, ne2⟩ := apart hlr
  have hB9 := Lib.hid (hB.out.trans (hS.out.kept.below (Nat.le_trans (Nat.le_of_lt (Nat.lt_succ_self _)) (Nat.le_of_lt hR.out.lt))))
  obtain ⟨hrr, hrf, hrl⟩ := hR.out.kept hS.out.kept (by omega)
  unfold insC Tm.Z at hrr
  dsimp only at hrr
  go_wp2_with (first | (go_at_call 30; refine (HV.out _).mono ?_; rintro e w' ⟨rfl, n1, rfl⟩))
  refine bodyPost_ret (v := .agg #[.int .i64 0, .int .i64 0, .int .i64 0, .int .i64 0, .int .i64 0, .int .i64 0, .int .i64 0, .int .i64 0, .bool false]) (by simp [results, Tryd.f8, go_sem, hrr, hrl]) rfl ?_
  refine ⟨rfl, ?_⟩
  (repeat (first | with_reducible exact nine_alloc hB9.out (Nat.le_succ _) (by omega) _ _ _ _ _ _ _ _ _ _ | with_reducible apply below_drewN | with_reducible apply Below.drew | with_reducible exact hB9.out | (with_reducible refine Below.setCell ?_ ?_ _; rotate_left; (dsimp only; omega))))
set_option maxHeartbeats 2000000 in
theorem expanded_y (X i X1 j X2 l X3 o X4 sv X5 d X6 r X7 : Int) (t : Bool) (w : World) (h1 : X / 67108864 % 2 = i) (e1 : X - i * 67108864 = X1) (h2 : X1 / 4096 % 8 = j) (e2 : X1 - j * 4096 = X2) (h3 : X2 % 256 = l) (e3 : X2 - l = X3) (h4 : X3 / 2097152 % 16 = o) (e4 : X3 - o * 2097152 = X4) (h5 : X4 / 1048576 % 2 = sv) (e5 : X4 - sv * 1048576 = X5) (h6 : X5 / 256 % 16 = d) (e6 : X5 - d * 256 = X6) (h7 : X6 / 65536 % 16 = r) (e7 : X6 - r * 65536 = X7) (hx0 : 0 ≤ X) (hx1 : X < 4294967296) (hT : Tabs w) (N y0 y1 y2 y3 y4 y5 y6 y7 : Int) (y8 : Bool) (hN : i * 2048 + j * 256 + l = N) (hq : numI o (sv == 1) r d X7 4026531840 = ⟨y0, y1, y2, y3, y4, y5, y6, y7, y8⟩) (E : Int) (hv : okB N = true) (hE : expI N = E) :
    Calls Tryd.prog 8 #[.agg #[.int .u32 X, .bool t]] w fun e w' => e = .returned (IV ⟨y0, y1, y2, y3, y4, E, 1, y7, y8⟩) ∧ Below w.heap.size w w' := by
  have hb5 : 5 ≤ w.heap.size := hT.big
  obtain ⟨x10, x11⟩ := less h1 (by decide) (by decide) hx0 hx1
  rw [e1] at x10 x11
  obtain ⟨x20, x21⟩ := less h2 (by decide) (by decide) x10 x11
  rw [e2] at x20 x21
  obtain ⟨x30, x31⟩ := less0 h3 (by decide) x20 x21
  rw [e3] at x30 x31
  obtain ⟨x40, x41⟩ := less h4 (by decide) (by decide) x30 x31
  rw [e4] at x40 x41
  obtain ⟨x50, x51⟩ := less h5 (by decide) (by decide) x40 x41
  rw [e5] at x50 x51
  obtain ⟨x60, x61⟩ := less h6 (by decide) (by decide) x50 x51
  rw [e6] at x60 x61
  obtain ⟨x70, x71⟩ := less h7 (by decide) (by decide) x60 x61
  rw [e7] at x70 x71
  have H1 := Lib.hid (fun W hP => by have h := twelve_c w.heap.size X i j l X1 X2 X3 t W h1 e1 h2 e2 h3 e3 hx0 hx1 hP; rw [hN] at h; exact h)
  have H2 := Lib.hid (fun W hP hT => by have h := numbered_c w.heap.size 4026531840 X3 o sv d r X4 X5 X6 X7 t W h4 e4 h5 e5 h6 e6 h7 e7 x30 x31 hP hT hb5; rw [hq] at h; unfold IV at h; dsimp only at h; exact h)
  obtain ⟨bl0, bh0⟩ := rem_bd h1 (by decide)
  obtain ⟨bl1, bh1⟩ := rem_bd h2 (by decide)
  obtain ⟨bl2, bh2⟩ := rem_bd h3 (by decide)
  obtain ⟨bl3, bh3⟩ := rem_bd h4 (by decide)
  obtain ⟨bl4, bh4⟩ := rem_bd h5 (by decide)
  obtain ⟨bl5, bh5⟩ := rem_bd h6 (by decide)
  obtain ⟨bl6, bh6⟩ := rem_bd h7 (by decide)
  have hS := Lib.hid (Stt.start (b := w.heap.size) (X := X) (t := t) ⟨by go_simp, by go_simp, by go_simp, by simp; omega⟩ (Tabs.alloc (Tabs.alloc hT (.cells #[.int .u32 X, .bool t] 33)) (.cells #[.int .i64 0, .int .i64 0, .int .i64 0, .int .i64 0, .int .i64 0, .int .i64 0, .int .i64 0, .int .i64 0, .bool false] 23)))
  have hR := Lib.hid (show InsAt ((w.alloc (.cells #[.int .u32 X, .bool t] 33)).alloc (.cells #[.int .i64 0, .int .i64 0, .int .i64 0, .int .i64 0, .int .i64 0, .int .i64 0, .int .i64 0, .int .i64 0, .bool false] 23)) (w.heap.size + 1) Tm.Z by have h := InsAt.new (w.alloc (.cells #[.int .u32 X, .bool t] 33)) Tm.Z; rw [World.size_alloc] at h; exact h)
  have hB := Lib.hid (al2 w (.cells #[.int .u32 X, .bool t] 33) (.cells #[.int .i64 0, .int .i64 0, .int .i64 0, .int .i64 0, .int .i64 0, .int .i64 0, .int .i64 0, .int .i64 0, .bool false] 23))
  clear hT h1 e1 x10 x11 h2 e2 x20 x21 h3 e3 x30 x31 h4 e4 x40 x41 h5 e5 x50 x51 h6 e6 x60 x61 h7 e7 x70 x71
  have hN0 : 0 ≤ N ∧ N < 4096 := by omega
  have HV := Lib.hid (fun W => by have h := valid_c N W; rw [hv] at h; exact h)
  have hE0 : 0 ≤ E ∧ E < 4294967296 := by rw [← hE]; exact expI_bd N
  have HE := Lib.hid (fun W => by have h := exp_c N W (by omega) (by omega); rw [hE] at h; exact h)
  obtain ⟨hE1, hE2⟩ := hE0
  clear hE
  clear hN hq hv hN0 bl0 bh0 bl1 bh1 bl2 bh2 bl3 bh3 bl4 bh4 bl5 bh5 bl6 bh6
  go_enter Tryd.func8, Tryd.ntmps8
  go_wp2_with fail
  refine (H1.out _ hS.out.pair).mono ?_
  rintro e w1 ⟨rfl, hP, hK⟩
  replace hS := Lib.hid (hS.out.call hb5 hP hK)
  clear hP hK
  go_wp2_with fail
  refine (H2.out _ hS.out.pair hS.out.tabs).mono ?_
  rintro e w2 ⟨rfl, hP, hK⟩
  replace hS := Lib.hid (hS.out.call hb5 hP hK)
  clear hP hK
  have hw := hS.out.pair.word
  have hit := hS.out.pair.it
  have hlb := hS.out.pair.lt
  have hsz := hS.out.kept.size
  have hlr : w.heap.size + 1 < w2.heap.size := Nat.lt_of_lt_of_le hR.out.lt hsz
  obtain ⟨ne1, ne2⟩ := apart hlr
  have hB9 := Lib.hid (hB.out.trans (hS.out.kept.below (Nat.le_trans (Nat.le_of_lt (Nat.lt_succ_self _)) (Nat.le_of_lt hR.out.lt))))
  obtain ⟨hrr, hrf, hrl⟩ := hR.out.kept hS.out.kept (by omega)
  unfold insC Tm.Z at hrr
  dsimp only at hrr
  go_wp2_with (first | (go_at_call 30; refine (HV.out _).mono ?_; rintro e w' ⟨rfl, n1, rfl⟩) | (go_at_call 31; refine (HE.out _).mono ?_; rintro e w' ⟨rfl, n2, rfl⟩))
  refine bodyPost_ret (v := .agg #[.int .i64 y0, .int .i64 y1, .int .i64 y2, .int .i64 y3, .int .i64 y4, .int .i64 E, .int .i64 1, .int .i64 y7, .bool y8]) (by simp [results, Tryd.f8, go_sem, hrr, hrl]) rfl ?_
  refine ⟨rfl, ?_⟩
  (repeat (first | with_reducible exact nine_alloc hB9.out (Nat.le_succ _) (by omega) _ _ _ _ _ _ _ _ _ _ | with_reducible apply below_drewN | with_reducible apply Below.drew | with_reducible exact hB9.out | (with_reducible refine Below.setCell ?_ ?_ _; rotate_left; (dsimp only; omega))))
end Tp
end Go.Proofs.YtdcnkmkaafimlaaDoor

namespace Go.Proofs.YtdcnkmkaafimlaaDoor
open Go.ChangeShapes Go.WideShapes Go.ChangeAt Go.RowKit
namespace Tp
open Nm (I)
open Tl (IV)

set_option maxHeartbeats 2000000 in
theorem registers_d (X m X1 o X2 sv X3 d X4 r X5 : Int) (t : Bool) (w : World) (h1 : X % 16 = m) (e1 : X - m = X1) (h2 : X1 / 2097152 % 16 = o) (e2 : X1 - o * 2097152 = X2) (h3 : X2 / 1048576 % 2 = sv) (e3 : X2 - sv * 1048576 = X3) (h4 : X3 / 256 % 16 = d) (e4 : X3 - d * 256 = X4) (h5 : X4 / 65536 % 16 = r) (e5 : X4 - r * 65536 = X5) (hx0 : 0 ≤ X) (hx1 : X < 4294967296) (hT : Tabs w) (y0 y1 y2 y3 y4 y5 y6 y7 : Int) (y8 : Bool) (hq : numI o (sv == 1) r d X5 3925868544 = ⟨y0, y1, y2, y3, y4, y5, y6, y7, y8⟩) (hv : y2 = 13) :
    Calls Tryd.prog 10 #[.agg #[.int .u32 X, .bool t]] w fun e w' => e = .returned (IV Tm.Z) ∧ Below w.heap.size w w' := by
  have hb5 : 5 ≤ w.heap.size := hT.big
  obtain ⟨x10, x11⟩ := less0 h1 (by decide) hx0 hx1
  rw [e1] at x10 x11
  obtain ⟨x20, x21⟩ := less h2 (by decide) (by decide) x10 x11
  rw [e2] at x20 x21
  obtain ⟨x30, x31⟩ := less h3 (by decide) (by decide) x20 x21
  rw [e3] at x30 x31
  obtain ⟨x40, x41⟩ := less h4 (by decide) (by decide) x30 x31
  rw [e4] at x40 x41
  obtain ⟨x50, x51⟩ := less h5 (by decide) (by decide) x40 x41
  rw [e5] at x50 x51
  have H1 := Lib.hid (fun W hP => last_c w.heap.size X m X1 t W (by rw [Int.ediv_one]; exact h1) (by rw [Int.mul_one]; exact e1) hx0 hx1 hP)
  have H2 := Lib.hid (fun W hP hT => by have h := numbered_c w.heap.size 3925868544 X1 o sv d r X2 X3 X4 X5 t W h2 e2 h3 e3 h4 e4 h5 e5 x10 x11 hP hT hb5; rw [hq] at h; unfold IV at h; dsimp only at h; exact h)
  obtain ⟨bl0, bh0⟩ := rem_bd h1 (by decide)
  obtain ⟨bl1, bh1⟩ := rem_bd h2 (by decide)
  obtain ⟨bl2, bh2⟩ := rem_bd h3 (by decide)
  obtain ⟨bl3, bh3⟩ := rem_bd h4 (by decide)
  obtain ⟨bl4, bh4⟩ := rem_bd h5 (by decide)
  have hS := Lib.hid (Stt.start (b := w.heap.size) (X := X) (t := t) ⟨by go_simp, by go_simp, by go_simp, by simp; omega⟩ (Tabs.alloc (Tabs.alloc hT (.cells #[.int .u32 X, .bool t] 33)) (.cells #[.int .i64 0, .int .i64 0, .int .i64 0, .int .i64 0, .int .i64 0, .int .i64 0, .int .i64 0, .int .i64 0, .bool false] 23)))
  have hR := Lib.hid (show InsAt ((w.alloc (.cells #[.int .u32 X, .bool t] 33)).alloc (.cells #[.int .i64 0, .int .i64 0, .int .i64 0, .int .i64 0, .int .i64 0, .int .i64 0, .int .i64 0, .int .i64 0, .bool false] 23)) (w.heap.size + 1) Tm.Z by have h := InsAt.new (w.alloc (.cells #[.int .u32 X, .bool t] 33)) Tm.Z; rw [World.size_alloc] at h; exact h)
  have hB := Lib.hid (al2 w (.cells #[.int .u32 X, .bool t] 33) (.cells #[.int .i64 0, .int .i64 0, .int .i64 0, .int .i64 0, .int .i64 0, .int .i64 0, .int .i64 0, .int .i64 0, .bool false] 23))
  clear hT h1 e1 x10 x11 h2 e2 x20 x21 h3 e3 x30 x31 h4 e4 x40 x41 h5 e5 x50 x51
  clear hq bl0 bh0 bl1 bh1 bl2 bh2 bl3 bh3 bl4 bh4
  subst hv
  go_enter Tryd.func10, Tryd.ntmps10
  go_wp2_with fail
  refine (H1.out _ hS.out.pair).mono ?_
  rintro e w1 ⟨rfl, hP, hK⟩
  replace hS := Lib.hid (hS.out.call hb5 hP hK)
  clear hP hK
  go_wp2_with fail
  refine (H2.out _ hS.out.pair hS.out.tabs).mono ?_
  rintro e w2 ⟨rfl, hP, hK⟩
  replace hS := Lib.hid (hS.out.call hb5 hP hK)
  clear hP hK
  have hw := hS.out.pair.word
  have hit := hS.out.pair.it
  have hlb := hS.out.pair.lt
  have hsz := hS.out.kept.size
  have hlr : w.heap.size + 1 < w2.heap.size := Nat.lt_of_lt_of_le hR.out.lt hsz
  obtain ⟨ne1, ne2⟩ := apart hlr
  have hB9 := Lib.hid (hB.out.trans (hS.out.kept.below (Nat.le_trans (Nat.le_of_lt (Nat.lt_succ_self _)) (Nat.le_of_lt hR.out.lt))))
  obtain ⟨hrr, hrf, hrl⟩ := hR.out.kept hS.out.kept (by omega)
  unfold insC Tm.Z at hrr
  dsimp only at hrr
  go_wp2
  refine bodyPost_ret (v := .agg #[.int .i64 0, .int .i64 0, .int .i64 0, .int .i64 0, .int .i64 0, .int .i64 0, .int .i64 0, .int .i64 0, .bool false]) (by simp [results, Tryd.f10, go_sem, hrr, hrl]) rfl ?_
  refine ⟨rfl, ?_⟩
  (repeat (first | with_reducible exact nine_alloc hB9.out (Nat.le_succ _) (by omega) _ _ _ _ _ _ _ _ _ _ | with_reducible apply below_drewN | with_reducible apply Below.drew | with_reducible exact hB9.out | (with_reducible refine Below.setCell ?_ ?_ _; rotate_left; (dsimp only; omega))))
set_option maxHeartbeats 2000000 in
theorem registers_m (X m X1 o X2 sv X3 d X4 r X5 : Int) (t : Bool) (w : World) (h1 : X % 16 = m) (e1 : X - m = X1) (h2 : X1 / 2097152 % 16 = o) (e2 : X1 - o * 2097152 = X2) (h3 : X2 / 1048576 % 2 = sv) (e3 : X2 - sv * 1048576 = X3) (h4 : X3 / 256 % 16 = d) (e4 : X3 - d * 256 = X4) (h5 : X4 / 65536 % 16 = r) (e5 : X4 - r * 65536 = X5) (hx0 : 0 ≤ X) (hx1 : X < 4294967296) (hT : Tabs w) (y0 y1 y2 y3 y4 y5 y6 y7 : Int) (y8 : Bool) (hq : numI o (sv == 1) r d X5 3925868544 = ⟨y0, y1, y2, y3, y4, y5, y6, y7, y8⟩) (hv : (y2 == 13) = false) (hm : m = 13) :
    Calls Tryd.prog 10 #[.agg #[.int .u32 X, .bool t]] w fun e w' => e = .returned (IV Tm.Z) ∧ Below w.heap.size w w' := by
  have hb5 : 5 ≤ w.heap.size := hT.big
  obtain ⟨x10, x11⟩ := less0 h1 (by decide) hx0 hx1
  rw [e1] at x10 x11
  obtain ⟨x20, x21⟩ := less h2 (by decide) (by decide) x10 x11
  rw [e2] at x20 x21
  obtain ⟨x30, x31⟩ := less h3 (by decide) (by decide) x20 x21
  rw [e3] at x30 x31
  obtain ⟨x40, x41⟩ := less h4 (by decide) (by decide) x30 x31
  rw [e4] at x40 x41
  obtain ⟨x50, x51⟩ := less h5 (by decide) (by decide) x40 x41
  rw [e5] at x50 x51
  have H1 := Lib.hid (fun W hP => last_c w.heap.size X m X1 t W (by rw [Int.ediv_one]; exact h1) (by rw [Int.mul_one]; exact e1) hx0 hx1 hP)
  have H2 := Lib.hid (fun W hP hT => by have h := numbered_c w.heap.size 3925868544 X1 o sv d r X2 X3 X4 X5 t W h2 e2 h3 e3 h4 e4 h5 e5 x10 x11 hP hT hb5; rw [hq] at h; unfold IV at h; dsimp only at h; exact h)
  obtain ⟨bl0, bh0⟩ := rem_bd h1 (by decide)
  obtain ⟨bl1, bh1⟩ := rem_bd h2 (by decide)
  obtain ⟨bl2, bh2⟩ := rem_bd h3 (by decide)
  obtain ⟨bl3, bh3⟩ := rem_bd h4 (by decide)
  obtain ⟨bl4, bh4⟩ := rem_bd h5 (by decide)
  have hS := Lib.hid (Stt.start (b := w.heap.size) (X := X) (t := t) ⟨by go_simp, by go_simp, by go_simp, by simp; omega⟩ (Tabs.alloc (Tabs.alloc hT (.cells #[.int .u32 X, .bool t] 33)) (.cells #[.int .i64 0, .int .i64 0, .int .i64 0, .int .i64 0, .int .i64 0, .int .i64 0, .int .i64 0, .int .i64 0, .bool false] 23)))
  have hR := Lib.hid (show InsAt ((w.alloc (.cells #[.int .u32 X, .bool t] 33)).alloc (.cells #[.int .i64 0, .int .i64 0, .int .i64 0, .int .i64 0, .int .i64 0, .int .i64 0, .int .i64 0, .int .i64 0, .bool false] 23)) (w.heap.size + 1) Tm.Z by have h := InsAt.new (w.alloc (.cells #[.int .u32 X, .bool t] 33)) Tm.Z; rw [World.size_alloc] at h; exact h)
  have hB := Lib.hid (al2 w (.cells #[.int .u32 X, .bool t] 33) (.cells #[.int .i64 0, .int .i64 0, .int .i64 0, .int .i64 0, .int .i64 0, .int .i64 0, .int .i64 0, .int .i64 0, .bool false] 23))
  clear hT h1 e1 x10 x11 h2 e2 x20 x21 h3 e3 x30 x31 h4 e4 x40 x41 h5 e5 x50 x51
  clear hq bl0 bh0 bl1 bh1 bl2 bh2 bl3 bh3 bl4 bh4
  subst hm
  go_enter Tryd.func10, Tryd.ntmps10
  go_wp2_with fail
  refine (H1.out _ hS.out.pair).mono ?_
  rintro e w1 ⟨rfl, hP, hK⟩
  replace hS := Lib.hid (hS.out.call hb5 hP hK)
  clear hP hK
  go_wp2_with fail
  refine (H2.out _ hS.out.pair hS.out.tabs).mono ?_
  rintro e w2 ⟨rfl, hP, hK⟩
  replace hS := Lib.hid (hS.out.call hb5 hP hK)
  clear hP hK
  have hw := hS.out.pair.word
  have hit := hS.out.pair.it
  have hlb := hS.out.pair.lt
  have hsz := hS.out.kept.size
  have hlr : w.heap.size + 1 < w2.heap.size := Nat.lt_of_lt_of_le hR.out.lt hsz
  obtain ⟨ne1, ne2⟩ := apart hlr
  have hB9 := Lib.hid (hB.out.trans (hS.out.kept.below (Nat.le_trans (Nat.le_of_lt (Nat.lt_succ_self _)) (Nat.le_of_lt hR.out.lt))))
  obtain ⟨hrr, hrf, hrl⟩ := hR.out.kept hS.out.kept (by omega)
  unfold insC Tm.Z at hrr
  dsimp only at hrr
  go_wp2
  refine bodyPost_ret (v := .agg #[.int .i64 0, .int .i64 0, .int .i64 0, .int .i64 0, .int .i64 0, .int .i64 0, .int .i64 0, .int .i64 0, .bool false]) (by simp [results, Tryd.f10, go_sem, hrr, hrl]) rfl ?_
  refine ⟨rfl, ?_⟩
  (repeat (first | with_reducible exact nine_alloc hB9.out (Nat.le_succ _) (by omega) _ _ _ _ _ _ _ _ _ _ | with_reducible apply below_drewN | with_reducible apply Below.drew | with_reducible exact hB9.out | (with_reducible refine Below.setCell ?_ ?_ _; rotate_left; (dsimp only; omega))))
set_option maxHeartbeats 2000000 in
theorem registers_y (X m X1 o X2 sv X3 d X4 r X5 : Int) (t : Bool) (w : World) (h1 : X % 16 = m) (e1 : X - m = X1) (h2 : X1 / 2097152 % 16 = o) (e2 : X1 - o * 2097152 = X2) (h3 : X2 / 1048576 % 2 = sv) (e3 : X2 - sv * 1048576 = X3) (h4 : X3 / 256 % 16 = d) (e4 : X3 - d * 256 = X4) (h5 : X4 / 65536 % 16 = r) (e5 : X4 - r * 65536 = X5) (hx0 : 0 ≤ X) (hx1 : X < 4294967296) (hT : Tabs w) (y0 y1 y2 y3 y4 y5 y6 y7 : Int) (y8 : Bool) (hq : numI o (sv == 1) r d X5 3925868544 = ⟨y0, y1, y2, y3, y4, y5, y6, y7, y8⟩) (hv : (y2 == 13) = false) (hm : (m == 13) = false) :
    Calls Tryd.prog 10 #[.agg #[.int .u32 X, .bool t]] w fun e w' => e = .returned (IV ⟨y0, y1, y2, y3, m, y5, 2, y7, y8⟩) ∧ Below w.heap.size w w' := by
  have hb5 : 5 ≤ w.heap.size := hT.big
  obtain ⟨x10, x11⟩ := less0 h1 (by decide) hx0 hx1
  rw [e1] at x10 x11
  obtain ⟨x20, x21⟩ := less h2 (by decide) (by decide) x10 x11
  rw [e2] at x20 x21
  obtain ⟨x30, x31⟩ := less h3 (by decide) (by decide) x20 x21
  rw [e3] at x30 x31
  obtain ⟨x40, x41⟩ := less h4 (by decide) (by decide) x30 x31
  rw [e4] at x40 x41
  obtain ⟨x50, x51⟩ := less h5 (by decide) (by decide) x40 x41
  rw [e5] at x50 x51
  have H1 := Lib.hid (fun W hP => last_c w.heap.size X m X1 t W (by rw [Int.ediv_one]; exact h1) (by rw [Int.mul_one]; exact e1) hx0 hx1 hP)
  have H2 := Lib.hid (fun W hP hT => by have h := numbered_c w.heap.size 3925868544 X1 o sv d r X2 X3 X4 X5 t W h2 e2 h3 e3 h4 e4 h5 e5 x10 x11 hP hT hb5; rw [hq] at h; unfold IV at h; dsimp only at h; exact h)
  obtain ⟨bl0, bh0⟩ := rem_bd h1 (by decide)
  obtain ⟨bl1, bh1⟩ := rem_bd h2 (by decide)
  obtain ⟨bl2, bh2⟩ := rem_bd h3 (by decide)
  obtain ⟨bl3, bh3⟩ := rem_bd h4 (by decide)
  obtain ⟨bl4, bh4⟩ := rem_bd h5 (by decide)
  have hS := Lib.hid (Stt.start (b := w.heap.size) (X := X) (t := t) ⟨by go_simp, by go_simp, by go_simp, by simp; omega⟩ (Tabs.alloc (Tabs.alloc hT (.cells #[.int .u32 X, .bool t] 33)) (.cells #[.int .i64 0, .int .i64 0, .int .i64 0, .int .i64 0, .int .i64 0, .int .i64 0, .int .i64 0, .int .i64 0, .bool false] 23)))
  have hR := Lib.hid (show InsAt ((w.alloc (.cells #[.int .u32 X, .bool t] 33)).alloc (.cells #[.int .i64 0, .int .i64 0, .int .i64 0, .int .i64 0, .int .i64 0, .int .i64 0, .int .i64 0, .int .i64 0, .bool false] 23)) (w.heap.size + 1) Tm.Z by have h := InsAt.new (w.alloc (.cells #[.int .u32 X, .bool t] 33)) Tm.Z; rw [World.size_alloc] at h; exact h)
  have hB := Lib.hid (al2 w (.cells #[.int .u32 X, .bool t] 33) (.cells #[.int .i64 0, .int .i64 0, .int .i64 0, .int .i64 0, .int .i64 0, .int .i64 0, .int .i64 0, .int .i64 0, .bool false] 23))
  clear hT h1 e1 x10 x11 h2 e2 x20 x21 h3 e3 x30 x31 h4 e4 x40 x41 h5 e5 x50 x51
  clear hq bl0 bh0 bl1 bh1 bl2 bh2 bl3 bh3 bl4 bh4
  go_enter Tryd.func10, Tryd.ntmps10
  go_wp2_with fail
  refine (H1.out _ hS.out.pair).mono ?_
  rintro e w1 ⟨rfl, hP, hK⟩
  replace hS := Lib.hid (hS.out.call hb5 hP hK)
  clear hP hK
  go_wp2_with fail
  refine (H2.out _ hS.out.pair hS.out.tabs).mono ?_
  rintro e w2 ⟨rfl, hP, hK⟩
  replace hS := Lib.hid (hS.out.call hb5 hP hK)
  clear hP hK
  have hw := hS.out.pair.word
  have hit := hS.out.pair.it
  have hlb := hS.out.pair.lt
  have hsz := hS.out.kept.size
  have hlr : w.heap.size + 1 < w2.heap.size := Nat.lt_of_lt_of_le hR.out.lt hsz
  obtain ⟨ne1, ne2⟩ := apart hlr
  have hB9 := Lib.hid (hB.out.trans (hS.out.kept.below (Nat.le_trans (Nat.le_of_lt (Nat.lt_succ_self _)) (Nat.le_of_lt hR.out.lt))))
  obtain ⟨hrr, hrf, hrl⟩ := hR.out.kept hS.out.kept (by omega)
  unfold insC Tm.Z at hrr
  dsimp only at hrr
  go_wp2
  refine bodyPost_ret (v := .agg #[.int .i64 y0, .int .i64 y1, .int .i64 y2, .int .i64 y3, .int .i64 m, .int .i64 y5, .int .i64 2, .int .i64 y7, .bool y8]) (by simp [results, Tryd.f10, go_sem, hrr, hrl]) rfl ?_
  refine ⟨rfl, ?_⟩
  (repeat (first | with_reducible exact nine_alloc hB9.out (Nat.le_succ _) (by omega) _ _ _ _ _ _ _ _ _ _ | with_reducible apply below_drewN | with_reducible apply Below.drew | with_reducible exact hB9.out | (with_reducible refine Below.setCell ?_ ?_ _; rotate_left; (dsimp only; omega))))
end Tp
end Go.Proofs.YtdcnkmkaafimlaaDoor
