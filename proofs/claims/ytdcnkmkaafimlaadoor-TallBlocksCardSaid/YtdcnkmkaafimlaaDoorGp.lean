/- Contracts of tall's readers, over what each takes. No conditions but those that each fact names (text by gen_pg.py). Contracts of tall's readers, over what each takes. No conditions but those that each fact names (text by gen_pg.py). Contracts of tall's readers, over what each takes. No conditions but those that each fact names (text by gen_pg.py). Contracts of tall's readers, over what each takes. No conditions but those that each fact names (text by gen_pg.py). Contracts of tall's readers, over what each takes. No conditions but those that each fact names (text by gen_pg.py). -/
import Derived.Test.YtdcnkmkaafimlaaDoorRows
import Derived.Test.YtdcnkmkaafimlaaDoorPf
import Derived.Test.YtdcnkmkaafimlaaDoorGf
import Derived.Test.YtdcnkmkaafimlaaDoorGh

namespace Go.Proofs.YtdcnkmkaafimlaaDoor
open Go.ChangeShapes Go.WideShapes Go.ChangeAt Go.RowKit
namespace Tp
open Nm (I)
open Tl (IV)

theorem rem_bd {X c v : Int} (h : X % c = v) (hc : 0 < c) : 0 ≤ v ∧ v < c := by rw [← h]; exact ⟨Int.emod_nonneg _ (Int.ne_of_gt hc), Int.emod_lt_of_pos _ hc⟩
theorem less0 {X c v : Int} (h : X % c = v) (hc : 0 < c) (h0 : 0 ≤ X) (h1 : X < 4294967296) : 0 ≤ X - v ∧ X - v < 4294967296 := by
  have h2 : X / 1 % c = v := by rw [Int.ediv_one]; exact h
  have := less h2 (by decide) hc h0 h1
  rwa [Int.mul_one] at this
theorem al1 (w : World) (a : Obj) : Below w.heap.size w (w.alloc a) := (Below.refl w.heap.size w).alloc (Nat.le_refl _) a
theorem al2 (w : World) (a b : Obj) : Below w.heap.size w ((w.alloc a).alloc b) := (al1 w a).alloc (by simp) b
theorem rng3 (w : World) (a b : Obj) (cs : Array Value) (t : TypeId) : (((w.alloc a).alloc b).alloc (.cells cs t)).rangeAt (w.heap.size + 1 + 1) 0 cs.toList := fun j v hv => by
  have h := World.cell?_alloc_new ((w.alloc a).alloc b) cs t j
  rw [World.size_alloc, World.size_alloc] at h
  rw [Nat.zero_add, h]
  simpa using hv
theorem rngS (w : World) (p : Addr) (v : Value) (cs : Array Value) (t : TypeId) : ((w.setCell p v).alloc (.cells cs t)).rangeAt w.heap.size 0 cs.toList := fun j u hu => by
  have h := World.cell?_alloc_new (w.setCell p v) cs t j
  rw [show (w.setCell p v).heap.size = w.heap.size by simp] at h
  rw [Nat.zero_add, h]
  simpa using hu
theorem exp_lt : Em.all 4096 (fun i => decide (Em.expN i < 4294967296)) = true := by decide +kernel
theorem expI_bd (n : Int) : 0 ≤ expI n ∧ expI n < 4294967296 := by
  have := Em.all_of exp_lt (n % 4096).toNat (by omega)
  simp only [decide_eq_true_eq] at this
  unfold expI
  omega
theorem rng2 (w : World) (a : Obj) (cs : Array Value) (t : TypeId) : ((w.alloc a).alloc (.cells cs t)).rangeAt (w.heap.size + 1) 0 cs.toList := fun j v hv => by
  have h := World.cell?_alloc_new (w.alloc a) cs t j
  rw [World.size_alloc] at h
  rw [Nat.zero_add, h]
  simpa using hv
set_option maxHeartbeats 2000000 in
theorem plain_c (X d X1 r X2 i X3 j X4 l X5 : Int) (t : Bool) (w : World) (h1 : X / 256 % 16 = d) (e1 : X - d * 256 = X1) (h2 : X1 / 65536 % 16 = r) (e2 : X1 - r * 65536 = X2) (h3 : X2 / 67108864 % 2 = i) (e3 : X2 - i * 67108864 = X3) (h4 : X3 / 4096 % 8 = j) (e4 : X3 - j * 4096 = X4) (h5 : X4 % 256 = l) (e5 : X4 - l = X5) (hx0 : 0 ≤ X) (hx1 : X < 4294967296) (hT : Tabs w) :
    Calls Tryd.prog 9 #[.agg #[.int .u32 X, .bool t]] w fun e w' => e = .returned (IV ⟨leftI [(5, 4060086272), (7, 4070572032)] X5, 0, d, r, 0, i * 2048 + j * 256 + l, 1, 0, false⟩) ∧ Below w.heap.size w w' := by
  have hb5 : 5 ≤ w.heap.size := hT.big
  obtain ⟨x10, x11⟩ := less h1 (by decide) (by decide) hx0 hx1
  rw [e1] at x10 x11
  obtain ⟨x20, x21⟩ := less h2 (by decide) (by decide) x10 x11
  rw [e2] at x20 x21
  obtain ⟨x30, x31⟩ := less h3 (by decide) (by decide) x20 x21
  rw [e3] at x30 x31
  obtain ⟨x40, x41⟩ := less h4 (by decide) (by decide) x30 x31
  rw [e4] at x40 x41
  obtain ⟨x50, x51⟩ := less0 h5 (by decide) x40 x41
  rw [e5] at x50 x51
  have H1 := Lib.hid (fun W hP => result_c w.heap.size X d X1 t W h1 e1 hx0 hx1 hP)
  have H2 := Lib.hid (fun W hP => base_c w.heap.size X1 r X2 t W h2 e2 x10 x11 hP)
  have H3 := Lib.hid (fun W hP => twelve_c w.heap.size X2 i j l X3 X4 X5 t W h3 e3 h4 e4 h5 e5 x20 x21 hP)
  obtain ⟨bl0, bh0⟩ := rem_bd h1 (by decide)
  obtain ⟨bl1, bh1⟩ := rem_bd h2 (by decide)
  obtain ⟨bl2, bh2⟩ := rem_bd h3 (by decide)
  obtain ⟨bl3, bh3⟩ := rem_bd h4 (by decide)
  obtain ⟨bl4, bh4⟩ := rem_bd h5 (by decide)
  have hS := Lib.hid (Stt.start (b := w.heap.size) (X := X) (t := t) ⟨by go_simp, by go_simp, by go_simp, by simp; omega⟩ (Tabs.alloc (Tabs.alloc hT (.cells #[.int .u32 X, .bool t] 33)) (.cells #[.int .i64 0, .int .i64 0, .int .i64 0, .int .i64 0, .int .i64 0, .int .i64 0, .int .i64 0, .int .i64 0, .bool false] 23)))
  have hR := Lib.hid (show InsAt ((w.alloc (.cells #[.int .u32 X, .bool t] 33)).alloc (.cells #[.int .i64 0, .int .i64 0, .int .i64 0, .int .i64 0, .int .i64 0, .int .i64 0, .int .i64 0, .int .i64 0, .bool false] 23)) (w.heap.size + 1) Tm.Z by have h := InsAt.new (w.alloc (.cells #[.int .u32 X, .bool t] 33)) Tm.Z; rw [World.size_alloc] at h; exact h)
  have hB := Lib.hid (al2 w (.cells #[.int .u32 X, .bool t] 33) (.cells #[.int .i64 0, .int .i64 0, .int .i64 0, .int .i64 0, .int .i64 0, .int .i64 0, .int .i64 0, .int .i64 0, .bool false] 23))
  clear hT h1 e1 x10 x11 h2 e2 x20 x21 h3 e3 x30 x31 h4 e4 x40 x41 h5 e5 x50 x51
  go_enter Tryd.func9, Tryd.ntmps9
  go_wp2_with fail
  refine (H1.out _ hS.out.pair).mono ?_
  rintro e w1 ⟨rfl, hP, hK⟩
  replace hS := Lib.hid (hS.out.call hb5 hP hK)
  clear hP hK
  go_wp2_with fail
  refine (H2.out _ hS.out.pair).mono ?_
  rintro e w2 ⟨rfl, hP, hK⟩
  replace hS := Lib.hid (hS.out.call hb5 hP hK)
  clear hP hK
  go_wp2_with fail
  refine (H3.out _ hS.out.pair).mono ?_
  rintro e w3 ⟨rfl, hP, hK⟩
  replace hS := Lib.hid (hS.out.call hb5 hP hK)
  clear hP hK
  have hw := hS.out.pair.word
  have hit := hS.out.pair.it
  have hlb := hS.out.pair.lt
  have hsz := hS.out.kept.size
  have hlr : w.heap.size + 1 < w3.heap.size := Nat.lt_of_lt_of_le hR.out.lt hsz
  obtain ⟨ne1, ne2⟩ := apart hlr
  go_wp2_with fail
  refine (left_c [(5, 4060086272), (7, 4070572032)] X5 t _ 2 _ _ rfl ?hc ?hl (by decide)).mono ?_
  case hc => exact rng2 _ _ _ _
  case hl => simp
  rintro e w9 ⟨rfl, hb9⟩
  have hI9 := ((InsAt.new w3 ⟨0, 0, d, r, 0, i * 2048 + j * 256 + l, 1, 0, false⟩).below (al1 _ _)).below hb9
  have hR9 := (((hR.out.kept hS.out.kept (by omega)).below (al1 _ _)).below (al1 _ _)).below hb9
  have hB9 := Lib.hid (hB.out.trans ((hS.out.kept.below (Nat.le_trans (Nat.le_of_lt (Nat.lt_succ_self _)) (Nat.le_of_lt hR.out.lt))).trans (((al1 _ _).trans ((al1 _ _).mono (by simp))).trans (hb9.mono (by simp; omega)) |>.mono (by omega))))
  obtain ⟨hres, hfr, hlt⟩ := hI9
  obtain ⟨hrr, hrf, hrl⟩ := hR9
  unfold insC at hres
  unfold insC Tm.Z at hrr
  dsimp only at hres hrr
  generalize hVq : leftI [(5, 4060086272), (7, 4070572032)] X5 = V at *
  replace hVq := Lib.hid hVq
  clear hb9
  go_wp2
  refine bodyPost_ret (v := .agg #[.int .i64 V, .int .i64 0, .int .i64 d, .int .i64 r, .int .i64 0, .int .i64 (i * 2048 + j * 256 + l), .int .i64 1, .int .i64 0, .bool false]) (by simp [results, Tryd.f9, go_sem, hrr]) rfl ?_
  refine ⟨by rw [hVq.out]; rfl, ?_⟩
  exact nine_set (hB9.out.setCell (p := ⟨w3.heap.size, 0, none⟩) (by show w.heap.size ≤ w3.heap.size; omega) _) (Nat.le_succ _) _ _ _ _ _ _ _ _ _
set_option maxHeartbeats 2000000 in
theorem shiftedByRegister_c (X sv X1 d X2 r X3 m X4 : Int) (t : Bool) (w : World) (h1 : X / 1048576 % 2 = sv) (e1 : X - sv * 1048576 = X1) (h2 : X1 / 256 % 16 = d) (e2 : X1 - d * 256 = X2) (h3 : X2 / 65536 % 16 = r) (e3 : X2 - r * 65536 = X3) (h4 : X3 % 16 = m) (e4 : X3 - m = X4) (hx0 : 0 ≤ X) (hx1 : X < 4294967296) (hT : Tabs w) :
    Calls Tryd.prog 12 #[.agg #[.int .u32 X, .bool t]] w fun e w' => e = .returned (IV ⟨leftI [(16, 4194365440), (17, 4196462592), (18, 4198559744), (19, 4200656896)] X4, 0, d, r, m, 0, 2, 0, (sv == 1)⟩) ∧ Below w.heap.size w w' := by
  have hb5 : 5 ≤ w.heap.size := hT.big
  obtain ⟨x10, x11⟩ := less h1 (by decide) (by decide) hx0 hx1
  rw [e1] at x10 x11
  obtain ⟨x20, x21⟩ := less h2 (by decide) (by decide) x10 x11
  rw [e2] at x20 x21
  obtain ⟨x30, x31⟩ := less h3 (by decide) (by decide) x20 x21
  rw [e3] at x30 x31
  obtain ⟨x40, x41⟩ := less0 h4 (by decide) x30 x31
  rw [e4] at x40 x41
  have H1 := Lib.hid (fun W hP => sets_c w.heap.size X sv X1 t W h1 e1 hx0 hx1 hP)
  have H2 := Lib.hid (fun W hP => result_c w.heap.size X1 d X2 t W h2 e2 x10 x11 hP)
  have H3 := Lib.hid (fun W hP => base_c w.heap.size X2 r X3 t W h3 e3 x20 x21 hP)
  have H4 := Lib.hid (fun W hP => last_c w.heap.size X3 m X4 t W (by rw [Int.ediv_one]; exact h4) (by rw [Int.mul_one]; exact e4) x30 x31 hP)
  obtain ⟨bl0, bh0⟩ := rem_bd h1 (by decide)
  obtain ⟨bl1, bh1⟩ := rem_bd h2 (by decide)
  obtain ⟨bl2, bh2⟩ := rem_bd h3 (by decide)
  obtain ⟨bl3, bh3⟩ := rem_bd h4 (by decide)
  have hS := Lib.hid (Stt.start (b := w.heap.size) (X := X) (t := t) ⟨by go_simp, by go_simp, by go_simp, by simp; omega⟩ (Tabs.alloc (Tabs.alloc hT (.cells #[.int .u32 X, .bool t] 33)) (.cells #[.int .i64 0, .int .i64 0, .int .i64 0, .int .i64 0, .int .i64 0, .int .i64 0, .int .i64 0, .int .i64 0, .bool false] 23)))
  have hR := Lib.hid (show InsAt ((w.alloc (.cells #[.int .u32 X, .bool t] 33)).alloc (.cells #[.int .i64 0, .int .i64 0, .int .i64 0, .int .i64 0, .int .i64 0, .int .i64 0, .int .i64 0, .int .i64 0, .bool false] 23)) (w.heap.size + 1) Tm.Z by have h := InsAt.new (w.alloc (.cells #[.int .u32 X, .bool t] 33)) Tm.Z; rw [World.size_alloc] at h; exact h)
  have hB := Lib.hid (al2 w (.cells #[.int .u32 X, .bool t] 33) (.cells #[.int .i64 0, .int .i64 0, .int .i64 0, .int .i64 0, .int .i64 0, .int .i64 0, .int .i64 0, .int .i64 0, .bool false] 23))
  clear hT h1 e1 x10 x11 h2 e2 x20 x21 h3 e3 x30 x31 h4 e4 x40 x41
  go_enter Tryd.func12, Tryd.ntmps12
  go_wp2_with fail
  refine (H1.out _ hS.out.pair).mono ?_
  rintro e w1 ⟨rfl, hP, hK⟩
  replace hS := Lib.hid (hS.out.call hb5 hP hK)
  clear hP hK
  go_wp2_with fail
  refine (H2.out _ hS.out.pair).mono ?_
  rintro e w2 ⟨rfl, hP, hK⟩
  replace hS := Lib.hid (hS.out.call hb5 hP hK)
  clear hP hK
  go_wp2_with fail
  refine (H3.out _ hS.out.pair).mono ?_
  rintro e w3 ⟨rfl, hP, hK⟩
  replace hS := Lib.hid (hS.out.call hb5 hP hK)
  clear hP hK
  go_wp2_with fail
  refine (H4.out _ hS.out.pair).mono ?_
  rintro e w4 ⟨rfl, hP, hK⟩
  replace hS := Lib.hid (hS.out.call hb5 hP hK)
  clear hP hK
  have hw := hS.out.pair.word
  have hit := hS.out.pair.it
  have hlb := hS.out.pair.lt
  have hsz := hS.out.kept.size
  have hlr : w.heap.size + 1 < w4.heap.size := Nat.lt_of_lt_of_le hR.out.lt hsz
  obtain ⟨ne1, ne2⟩ := apart hlr
  go_wp2_with fail
  refine (left_c [(16, 4194365440), (17, 4196462592), (18, 4198559744), (19, 4200656896)] X4 t _ 4 _ _ rfl ?hc ?hl (by decide)).mono ?_
  case hc => exact rng2 _ _ _ _
  case hl => simp
  rintro e w9 ⟨rfl, hb9⟩
  have hI9 := ((InsAt.new w4 ⟨0, 0, d, r, m, 0, 2, 0, (sv == 1)⟩).below (al1 _ _)).below hb9
  have hR9 := (((hR.out.kept hS.out.kept (by omega)).below (al1 _ _)).below (al1 _ _)).below hb9
  have hB9 := Lib.hid (hB.out.trans ((hS.out.kept.below (Nat.le_trans (Nat.le_of_lt (Nat.lt_succ_self _)) (Nat.le_of_lt hR.out.lt))).trans (((al1 _ _).trans ((al1 _ _).mono (by simp))).trans (hb9.mono (by simp; omega)) |>.mono (by omega))))
  obtain ⟨hres, hfr, hlt⟩ := hI9
  obtain ⟨hrr, hrf, hrl⟩ := hR9
  unfold insC at hres
  unfold insC Tm.Z at hrr
  dsimp only at hres hrr
  generalize hVq : leftI [(16, 4194365440), (17, 4196462592), (18, 4198559744), (19, 4200656896)] X4 = V at *
  replace hVq := Lib.hid hVq
  clear hb9
  go_wp2
  refine bodyPost_ret (v := .agg #[.int .i64 V, .int .i64 0, .int .i64 d, .int .i64 r, .int .i64 m, .int .i64 0, .int .i64 2, .int .i64 0, .bool (sv == 1)]) (by simp [results, Tryd.f12, go_sem, hrr]) rfl ?_
  refine ⟨by rw [hVq.out]; rfl, ?_⟩
  exact nine_set (hB9.out.setCell (p := ⟨w4.heap.size, 0, none⟩) (by show w.heap.size ≤ w4.heap.size; omega) _) (Nat.le_succ _) _ _ _ _ _ _ _ _ _
set_option maxHeartbeats 2000000 in
theorem product_c (X d X1 r X2 m X3 : Int) (t : Bool) (w : World) (h1 : X / 256 % 16 = d) (e1 : X - d * 256 = X1) (h2 : X1 / 65536 % 16 = r) (e2 : X1 - r * 65536 = X2) (h3 : X2 % 16 = m) (e3 : X2 - m = X3) (hx0 : 0 ≤ X) (hx1 : X < 4294967296) (hT : Tabs w) :
    Calls Tryd.prog 13 #[.agg #[.int .u32 X, .bool t]] w fun e w' => e = .returned (IV ⟨leftI [(20, 4211142656), (22, 4220580080), (21, 4222677232)] X3, 0, d, r, m, 0, 2, 0, false⟩) ∧ Below w.heap.size w w' := by
  have hb5 : 5 ≤ w.heap.size := hT.big
  obtain ⟨x10, x11⟩ := less h1 (by decide) (by decide) hx0 hx1
  rw [e1] at x10 x11
  obtain ⟨x20, x21⟩ := less h2 (by decide) (by decide) x10 x11
  rw [e2] at x20 x21
  obtain ⟨x30, x31⟩ := less0 h3 (by decide) x20 x21
  rw [e3] at x30 x31
  have H1 := Lib.hid (fun W hP => result_c w.heap.size X d X1 t W h1 e1 hx0 hx1 hP)
  have H2 := Lib.hid (fun W hP => base_c w.heap.size X1 r X2 t W h2 e2 x10 x11 hP)
  have H3 := Lib.hid (fun W hP => last_c w.heap.size X2 m X3 t W (by rw [Int.ediv_one]; exact h3) (by rw [Int.mul_one]; exact e3) x20 x21 hP)
  obtain ⟨bl0, bh0⟩ := rem_bd h1 (by decide)
  obtain ⟨bl1, bh1⟩ := rem_bd h2 (by decide)
  obtain ⟨bl2, bh2⟩ := rem_bd h3 (by decide)
  have hS := Lib.hid (Stt.start (b := w.heap.size) (X := X) (t := t) ⟨by go_simp, by go_simp, by go_simp, by simp; omega⟩ (Tabs.alloc (Tabs.alloc hT (.cells #[.int .u32 X, .bool t] 33)) (.cells #[.int .i64 0, .int .i64 0, .int .i64 0, .int .i64 0, .int .i64 0, .int .i64 0, .int .i64 0, .int .i64 0, .bool false] 23)))
  have hR := Lib.hid (show InsAt ((w.alloc (.cells #[.int .u32 X, .bool t] 33)).alloc (.cells #[.int .i64 0, .int .i64 0, .int .i64 0, .int .i64 0, .int .i64 0, .int .i64 0, .int .i64 0, .int .i64 0, .bool false] 23)) (w.heap.size + 1) Tm.Z by have h := InsAt.new (w.alloc (.cells #[.int .u32 X, .bool t] 33)) Tm.Z; rw [World.size_alloc] at h; exact h)
  have hB := Lib.hid (al2 w (.cells #[.int .u32 X, .bool t] 33) (.cells #[.int .i64 0, .int .i64 0, .int .i64 0, .int .i64 0, .int .i64 0, .int .i64 0, .int .i64 0, .int .i64 0, .bool false] 23))
  clear hT h1 e1 x10 x11 h2 e2 x20 x21 h3 e3 x30 x31
  go_enter Tryd.func13, Tryd.ntmps13
  go_wp2_with fail
  refine (H1.out _ hS.out.pair).mono ?_
  rintro e w1 ⟨rfl, hP, hK⟩
  replace hS := Lib.hid (hS.out.call hb5 hP hK)
  clear hP hK
  go_wp2_with fail
  refine (H2.out _ hS.out.pair).mono ?_
  rintro e w2 ⟨rfl, hP, hK⟩
  replace hS := Lib.hid (hS.out.call hb5 hP hK)
  clear hP hK
  go_wp2_with fail
  refine (H3.out _ hS.out.pair).mono ?_
  rintro e w3 ⟨rfl, hP, hK⟩
  replace hS := Lib.hid (hS.out.call hb5 hP hK)
  clear hP hK
  have hw := hS.out.pair.word
  have hit := hS.out.pair.it
  have hlb := hS.out.pair.lt
  have hsz := hS.out.kept.size
  have hlr : w.heap.size + 1 < w3.heap.size := Nat.lt_of_lt_of_le hR.out.lt hsz
  obtain ⟨ne1, ne2⟩ := apart hlr
  go_wp2_with fail
  refine (left_c [(20, 4211142656), (22, 4220580080), (21, 4222677232)] X3 t _ 3 _ _ rfl ?hc ?hl (by decide)).mono ?_
  case hc => exact rng2 _ _ _ _
  case hl => simp
  rintro e w9 ⟨rfl, hb9⟩
  have hI9 := ((InsAt.new w3 ⟨0, 0, d, r, m, 0, 2, 0, false⟩).below (al1 _ _)).below hb9
  have hR9 := (((hR.out.kept hS.out.kept (by omega)).below (al1 _ _)).below (al1 _ _)).below hb9
  have hB9 := Lib.hid (hB.out.trans ((hS.out.kept.below (Nat.le_trans (Nat.le_of_lt (Nat.lt_succ_self _)) (Nat.le_of_lt hR.out.lt))).trans (((al1 _ _).trans ((al1 _ _).mono (by simp))).trans (hb9.mono (by simp; omega)) |>.mono (by omega))))
  obtain ⟨hres, hfr, hlt⟩ := hI9
  obtain ⟨hrr, hrf, hrl⟩ := hR9
  unfold insC at hres
  unfold insC Tm.Z at hrr
  dsimp only at hres hrr
  generalize hVq : leftI [(20, 4211142656), (22, 4220580080), (21, 4222677232)] X3 = V at *
  replace hVq := Lib.hid hVq
  clear hb9
  go_wp2
  refine bodyPost_ret (v := .agg #[.int .i64 V, .int .i64 0, .int .i64 d, .int .i64 r, .int .i64 m, .int .i64 0, .int .i64 2, .int .i64 0, .bool false]) (by simp [results, Tryd.f13, go_sem, hrr]) rfl ?_
  refine ⟨by rw [hVq.out]; rfl, ?_⟩
  exact nine_set (hB9.out.setCell (p := ⟨w3.heap.size, 0, none⟩) (by show w.heap.size ≤ w3.heap.size; omega) _) (Nat.le_succ _) _ _ _ _ _ _ _ _ _
set_option maxHeartbeats 2000000 in
theorem loadByNumber_c (X d X1 r X2 n X3 : Int) (t : Bool) (w : World) (h1 : X / 4096 % 16 = d) (e1 : X - d * 4096 = X1) (h2 : X1 / 65536 % 16 = r) (e2 : X1 - r * 65536 = X2) (h3 : X2 % 4096 = n) (e3 : X2 - n = X3) (hx0 : 0 ≤ X) (hx1 : X < 4294967296) (hT : Tabs w) :
    Calls Tryd.prog 15 #[.agg #[.int .u32 X, .bool t]] w fun e w' => e = .returned (IV ⟨leftI [(29, 4169138176), (26, 4170186752), (30, 4171235328), (27, 4172283904), (28, 4173332480), (25, 4174381056)] X3, 0, d, r, 0, n, 1, 0, false⟩) ∧ Below w.heap.size w w' := by
  have hb5 : 5 ≤ w.heap.size := hT.big
  obtain ⟨x10, x11⟩ := less h1 (by decide) (by decide) hx0 hx1
  rw [e1] at x10 x11
  obtain ⟨x20, x21⟩ := less h2 (by decide) (by decide) x10 x11
  rw [e2] at x20 x21
  obtain ⟨x30, x31⟩ := less0 h3 (by decide) x20 x21
  rw [e3] at x30 x31
  have H1 := Lib.hid (fun W hP => loaded_c w.heap.size X d X1 t W h1 e1 hx0 hx1 hP)
  have H2 := Lib.hid (fun W hP => base_c w.heap.size X1 r X2 t W h2 e2 x10 x11 hP)
  have H3 := Lib.hid (fun W hP => take_n 11 0 1 4096 (hi' := 11) (lo' := 0) w.heap.size X2 n X3 t W (by rw [Int.ediv_one]; exact h3) (by rw [Int.mul_one]; exact e3) x20 x21 hP rfl rfl (by decide) (by decide) (by decide) (by decide))
  obtain ⟨bl0, bh0⟩ := rem_bd h1 (by decide)
  obtain ⟨bl1, bh1⟩ := rem_bd h2 (by decide)
  obtain ⟨bl2, bh2⟩ := rem_bd h3 (by decide)
  have hS := Lib.hid (Stt.start (b := w.heap.size) (X := X) (t := t) ⟨by go_simp, by go_simp, by go_simp, by simp; omega⟩ (Tabs.alloc (Tabs.alloc hT (.cells #[.int .u32 X, .bool t] 33)) (.cells #[.int .i64 0, .int .i64 0, .int .i64 0, .int .i64 0, .int .i64 0, .int .i64 0, .int .i64 0, .int .i64 0, .bool false] 23)))
  have hR := Lib.hid (show InsAt ((w.alloc (.cells #[.int .u32 X, .bool t] 33)).alloc (.cells #[.int .i64 0, .int .i64 0, .int .i64 0, .int .i64 0, .int .i64 0, .int .i64 0, .int .i64 0, .int .i64 0, .bool false] 23)) (w.heap.size + 1) Tm.Z by have h := InsAt.new (w.alloc (.cells #[.int .u32 X, .bool t] 33)) Tm.Z; rw [World.size_alloc] at h; exact h)
  have hB := Lib.hid (al2 w (.cells #[.int .u32 X, .bool t] 33) (.cells #[.int .i64 0, .int .i64 0, .int .i64 0, .int .i64 0, .int .i64 0, .int .i64 0, .int .i64 0, .int .i64 0, .bool false] 23))
  clear hT h1 e1 x10 x11 h2 e2 x20 x21 h3 e3 x30 x31
  go_enter Tryd.func15, Tryd.ntmps15
  go_wp2_with fail
  refine (H1.out _ hS.out.pair).mono ?_
  rintro e w1 ⟨rfl, hP, hK⟩
  replace hS := Lib.hid (hS.out.call hb5 hP hK)
  clear hP hK
  go_wp2_with fail
  refine (H2.out _ hS.out.pair).mono ?_
  rintro e w2 ⟨rfl, hP, hK⟩
  replace hS := Lib.hid (hS.out.call hb5 hP hK)
  clear hP hK
  go_wp2_with fail
  refine (H3.out _ hS.out.pair).mono ?_
  rintro e w3 ⟨rfl, hP, hK⟩
  replace hS := Lib.hid (hS.out.call hb5 hP hK)
  clear hP hK
  have hw := hS.out.pair.word
  have hit := hS.out.pair.it
  have hlb := hS.out.pair.lt
  have hsz := hS.out.kept.size
  have hlr : w.heap.size + 1 < w3.heap.size := Nat.lt_of_lt_of_le hR.out.lt hsz
  obtain ⟨ne1, ne2⟩ := apart hlr
  go_wp2_with fail
  refine (left_c [(29, 4169138176), (26, 4170186752), (30, 4171235328), (27, 4172283904), (28, 4173332480), (25, 4174381056)] X3 t _ 6 _ _ rfl ?hc ?hl (by decide)).mono ?_
  case hc => exact rng2 _ _ _ _
  case hl => simp
  rintro e w9 ⟨rfl, hb9⟩
  have hI9 := ((InsAt.new w3 ⟨0, 0, d, r, 0, n, 1, 0, false⟩).below (al1 _ _)).below hb9
  have hR9 := (((hR.out.kept hS.out.kept (by omega)).below (al1 _ _)).below (al1 _ _)).below hb9
  have hB9 := Lib.hid (hB.out.trans ((hS.out.kept.below (Nat.le_trans (Nat.le_of_lt (Nat.lt_succ_self _)) (Nat.le_of_lt hR.out.lt))).trans (((al1 _ _).trans ((al1 _ _).mono (by simp))).trans (hb9.mono (by simp; omega)) |>.mono (by omega))))
  obtain ⟨hres, hfr, hlt⟩ := hI9
  obtain ⟨hrr, hrf, hrl⟩ := hR9
  unfold insC at hres
  unfold insC Tm.Z at hrr
  dsimp only at hres hrr
  generalize hVq : leftI [(29, 4169138176), (26, 4170186752), (30, 4171235328), (27, 4172283904), (28, 4173332480), (25, 4174381056)] X3 = V at *
  replace hVq := Lib.hid hVq
  clear hb9
  go_wp2
  refine bodyPost_ret (v := .agg #[.int .i64 V, .int .i64 0, .int .i64 d, .int .i64 r, .int .i64 0, .int .i64 n, .int .i64 1, .int .i64 0, .bool false]) (by simp [results, Tryd.f15, go_sem, hrr]) rfl ?_
  refine ⟨by rw [hVq.out]; rfl, ?_⟩
  exact nine_set (hB9.out.setCell (p := ⟨w3.heap.size, 0, none⟩) (by show w.heap.size ≤ w3.heap.size; omega) _) (Nat.le_succ _) _ _ _ _ _ _ _ _ _
set_option maxHeartbeats 2000000 in
theorem loadByRegister_c (X d X1 r X2 m X3 : Int) (t : Bool) (w : World) (h1 : X / 4096 % 16 = d) (e1 : X - d * 4096 = X1) (h2 : X1 / 65536 % 16 = r) (e2 : X1 - r * 65536 = X2) (h3 : X2 % 16 = m) (e3 : X2 - m = X3) (hx0 : 0 ≤ X) (hx1 : X < 4294967296) (hT : Tabs w) :
    Calls Tryd.prog 16 #[.agg #[.int .u32 X, .bool t]] w fun e w' => e = .returned (IV ⟨leftI [(29, 4160749568), (26, 4161798144), (30, 4162846720), (27, 4163895296), (28, 4164943872), (25, 4165992448)] X3, 0, d, r, m, 0, 2, 0, false⟩) ∧ Below w.heap.size w w' := by
  have hb5 : 5 ≤ w.heap.size := hT.big
  obtain ⟨x10, x11⟩ := less h1 (by decide) (by decide) hx0 hx1
  rw [e1] at x10 x11
  obtain ⟨x20, x21⟩ := less h2 (by decide) (by decide) x10 x11
  rw [e2] at x20 x21
  obtain ⟨x30, x31⟩ := less0 h3 (by decide) x20 x21
  rw [e3] at x30 x31
  have H1 := Lib.hid (fun W hP => loaded_c w.heap.size X d X1 t W h1 e1 hx0 hx1 hP)
  have H2 := Lib.hid (fun W hP => base_c w.heap.size X1 r X2 t W h2 e2 x10 x11 hP)
  have H3 := Lib.hid (fun W hP => last_c w.heap.size X2 m X3 t W (by rw [Int.ediv_one]; exact h3) (by rw [Int.mul_one]; exact e3) x20 x21 hP)
  obtain ⟨bl0, bh0⟩ := rem_bd h1 (by decide)
  obtain ⟨bl1, bh1⟩ := rem_bd h2 (by decide)
  obtain ⟨bl2, bh2⟩ := rem_bd h3 (by decide)
  have hS := Lib.hid (Stt.start (b := w.heap.size) (X := X) (t := t) ⟨by go_simp, by go_simp, by go_simp, by simp; omega⟩ (Tabs.alloc (Tabs.alloc hT (.cells #[.int .u32 X, .bool t] 33)) (.cells #[.int .i64 0, .int .i64 0, .int .i64 0, .int .i64 0, .int .i64 0, .int .i64 0, .int .i64 0, .int .i64 0, .bool false] 23)))
  have hR := Lib.hid (show InsAt ((w.alloc (.cells #[.int .u32 X, .bool t] 33)).alloc (.cells #[.int .i64 0, .int .i64 0, .int .i64 0, .int .i64 0, .int .i64 0, .int .i64 0, .int .i64 0, .int .i64 0, .bool false] 23)) (w.heap.size + 1) Tm.Z by have h := InsAt.new (w.alloc (.cells #[.int .u32 X, .bool t] 33)) Tm.Z; rw [World.size_alloc] at h; exact h)
  have hB := Lib.hid (al2 w (.cells #[.int .u32 X, .bool t] 33) (.cells #[.int .i64 0, .int .i64 0, .int .i64 0, .int .i64 0, .int .i64 0, .int .i64 0, .int .i64 0, .int .i64 0, .bool false] 23))
  clear hT h1 e1 x10 x11 h2 e2 x20 x21 h3 e3 x30 x31
  go_enter Tryd.func16, Tryd.ntmps16
  go_wp2_with fail
  refine (H1.out _ hS.out.pair).mono ?_
  rintro e w1 ⟨rfl, hP, hK⟩
  replace hS := Lib.hid (hS.out.call hb5 hP hK)
  clear hP hK
  go_wp2_with fail
  refine (H2.out _ hS.out.pair).mono ?_
  rintro e w2 ⟨rfl, hP, hK⟩
  replace hS := Lib.hid (hS.out.call hb5 hP hK)
  clear hP hK
  go_wp2_with fail
  refine (H3.out _ hS.out.pair).mono ?_
  rintro e w3 ⟨rfl, hP, hK⟩
  replace hS := Lib.hid (hS.out.call hb5 hP hK)
  clear hP hK
  have hw := hS.out.pair.word
  have hit := hS.out.pair.it
  have hlb := hS.out.pair.lt
  have hsz := hS.out.kept.size
  have hlr : w.heap.size + 1 < w3.heap.size := Nat.lt_of_lt_of_le hR.out.lt hsz
  obtain ⟨ne1, ne2⟩ := apart hlr
  go_wp2_with fail
  refine (left_c [(29, 4160749568), (26, 4161798144), (30, 4162846720), (27, 4163895296), (28, 4164943872), (25, 4165992448)] X3 t _ 6 _ _ rfl ?hc ?hl (by decide)).mono ?_
  case hc => exact rng2 _ _ _ _
  case hl => simp
  rintro e w9 ⟨rfl, hb9⟩
  have hI9 := ((InsAt.new w3 ⟨0, 0, d, r, m, 0, 2, 0, false⟩).below (al1 _ _)).below hb9
  have hR9 := (((hR.out.kept hS.out.kept (by omega)).below (al1 _ _)).below (al1 _ _)).below hb9
  have hB9 := Lib.hid (hB.out.trans ((hS.out.kept.below (Nat.le_trans (Nat.le_of_lt (Nat.lt_succ_self _)) (Nat.le_of_lt hR.out.lt))).trans (((al1 _ _).trans ((al1 _ _).mono (by simp))).trans (hb9.mono (by simp; omega)) |>.mono (by omega))))
  obtain ⟨hres, hfr, hlt⟩ := hI9
  obtain ⟨hrr, hrf, hrl⟩ := hR9
  unfold insC at hres
  unfold insC Tm.Z at hrr
  dsimp only at hres hrr
  generalize hVq : leftI [(29, 4160749568), (26, 4161798144), (30, 4162846720), (27, 4163895296), (28, 4164943872), (25, 4165992448)] X3 = V at *
  replace hVq := Lib.hid hVq
  clear hb9
  go_wp2
  refine bodyPost_ret (v := .agg #[.int .i64 V, .int .i64 0, .int .i64 d, .int .i64 r, .int .i64 m, .int .i64 0, .int .i64 2, .int .i64 0, .bool false]) (by simp [results, Tryd.f16, go_sem, hrr]) rfl ?_
  refine ⟨by rw [hVq.out]; rfl, ?_⟩
  exact nine_set (hB9.out.setCell (p := ⟨w3.heap.size, 0, none⟩) (by show w.heap.size ≤ w3.heap.size; omega) _) (Nat.le_succ _) _ _ _ _ _ _ _ _ _
set_option maxHeartbeats 2000000 in
theorem block_c (X r X1 n X2 : Int) (t : Bool) (w : World) (h1 : X / 65536 % 16 = r) (e1 : X - r * 65536 = X1) (h2 : X1 % 65536 = n) (e2 : X1 - n = X2) (hx0 : 0 ≤ X) (hx1 : X < 4294967296) (hT : Tabs w) :
    Calls Tryd.prog 17 #[.agg #[.int .u32 X, .bool t]] w fun e w' => e = .returned (IV ⟨leftI [(32, 3902799872), (31, 3903848448)] X2, 0, 0, r, 0, 0, 0, n, false⟩) ∧ Below w.heap.size w w' := by
  have hb5 : 5 ≤ w.heap.size := hT.big
  obtain ⟨x10, x11⟩ := less h1 (by decide) (by decide) hx0 hx1
  rw [e1] at x10 x11
  obtain ⟨x20, x21⟩ := less0 h2 (by decide) x10 x11
  rw [e2] at x20 x21
  have H1 := Lib.hid (fun W hP => base_c w.heap.size X r X1 t W h1 e1 hx0 hx1 hP)
  have H2 := Lib.hid (fun W hP => take_n 15 0 1 65536 (hi' := 15) (lo' := 0) w.heap.size X1 n X2 t W (by rw [Int.ediv_one]; exact h2) (by rw [Int.mul_one]; exact e2) x10 x11 hP rfl rfl (by decide) (by decide) (by decide) (by decide))
  obtain ⟨bl0, bh0⟩ := rem_bd h1 (by decide)
  obtain ⟨bl1, bh1⟩ := rem_bd h2 (by decide)
  have hS := Lib.hid (Stt.start (b := w.heap.size) (X := X) (t := t) ⟨by go_simp, by go_simp, by go_simp, by simp; omega⟩ (Tabs.alloc (Tabs.alloc hT (.cells #[.int .u32 X, .bool t] 33)) (.cells #[.int .i64 0, .int .i64 0, .int .i64 0, .int .i64 0, .int .i64 0, .int .i64 0, .int .i64 0, .int .i64 0, .bool false] 23)))
  have hR := Lib.hid (show InsAt ((w.alloc (.cells #[.int .u32 X, .bool t] 33)).alloc (.cells #[.int .i64 0, .int .i64 0, .int .i64 0, .int .i64 0, .int .i64 0, .int .i64 0, .int .i64 0, .int .i64 0, .bool false] 23)) (w.heap.size + 1) Tm.Z by have h := InsAt.new (w.alloc (.cells #[.int .u32 X, .bool t] 33)) Tm.Z; rw [World.size_alloc] at h; exact h)
  have hB := Lib.hid (al2 w (.cells #[.int .u32 X, .bool t] 33) (.cells #[.int .i64 0, .int .i64 0, .int .i64 0, .int .i64 0, .int .i64 0, .int .i64 0, .int .i64 0, .int .i64 0, .bool false] 23))
  clear hT h1 e1 x10 x11 h2 e2 x20 x21
  go_enter Tryd.func17, Tryd.ntmps17
  go_wp2_with fail
  refine (H1.out _ hS.out.pair).mono ?_
  rintro e w1 ⟨rfl, hP, hK⟩
  replace hS := Lib.hid (hS.out.call hb5 hP hK)
  clear hP hK
  go_wp2_with fail
  refine (H2.out _ hS.out.pair).mono ?_
  rintro e w2 ⟨rfl, hP, hK⟩
  replace hS := Lib.hid (hS.out.call hb5 hP hK)
  clear hP hK
  have hw := hS.out.pair.word
  have hit := hS.out.pair.it
  have hlb := hS.out.pair.lt
  have hsz := hS.out.kept.size
  have hlr : w.heap.size + 1 < w2.heap.size := Nat.lt_of_lt_of_le hR.out.lt hsz
  obtain ⟨ne1, ne2⟩ := apart hlr
  go_wp2_with fail
  refine (left_c [(32, 3902799872), (31, 3903848448)] X2 t _ 2 _ _ rfl ?hc ?hl (by decide)).mono ?_
  case hc => exact rng2 _ _ _ _
  case hl => simp
  rintro e w9 ⟨rfl, hb9⟩
  have hI9 := ((InsAt.new w2 ⟨0, 0, 0, r, 0, 0, 0, n, false⟩).below (al1 _ _)).below hb9
  have hR9 := (((hR.out.kept hS.out.kept (by omega)).below (al1 _ _)).below (al1 _ _)).below hb9
  have hB9 := Lib.hid (hB.out.trans ((hS.out.kept.below (Nat.le_trans (Nat.le_of_lt (Nat.lt_succ_self _)) (Nat.le_of_lt hR.out.lt))).trans (((al1 _ _).trans ((al1 _ _).mono (by simp))).trans (hb9.mono (by simp; omega)) |>.mono (by omega))))
  obtain ⟨hres, hfr, hlt⟩ := hI9
  obtain ⟨hrr, hrf, hrl⟩ := hR9
  unfold insC at hres
  unfold insC Tm.Z at hrr
  dsimp only at hres hrr
  generalize hVq : leftI [(32, 3902799872), (31, 3903848448)] X2 = V at *
  replace hVq := Lib.hid hVq
  clear hb9
  go_wp2
  refine bodyPost_ret (v := .agg #[.int .i64 V, .int .i64 0, .int .i64 0, .int .i64 r, .int .i64 0, .int .i64 0, .int .i64 0, .int .i64 n, .bool false]) (by simp [results, Tryd.f17, go_sem, hrr]) rfl ?_
  refine ⟨by rw [hVq.out]; rfl, ?_⟩
  exact nine_set (hB9.out.setCell (p := ⟨w2.heap.size, 0, none⟩) (by show w.heap.size ≤ w2.heap.size; omega) _) (Nat.le_succ _) _ _ _ _ _ _ _ _ _
set_option maxHeartbeats 2000000 in
theorem jump_c (X r X1 m X2 : Int) (t : Bool) (w : World) (h1 : X / 65536 % 16 = r) (e1 : X - r * 65536 = X1) (h2 : X1 % 16 = m) (e2 : X1 - m = X2) (hx0 : 0 ≤ X) (hx1 : X < 4294967296) (hT : Tabs w) :
    Calls Tryd.prog 24 #[.agg #[.int .u32 X, .bool t]] w fun e w' => e = .returned (IV ⟨leftI [(45, 3906007040)] X2, 0, 0, r, m, 0, 2, 0, false⟩) ∧ Below w.heap.size w w' := by
  have hb5 : 5 ≤ w.heap.size := hT.big
  obtain ⟨x10, x11⟩ := less h1 (by decide) (by decide) hx0 hx1
  rw [e1] at x10 x11
  obtain ⟨x20, x21⟩ := less0 h2 (by decide) x10 x11
  rw [e2] at x20 x21
  have H1 := Lib.hid (fun W hP => base_c w.heap.size X r X1 t W h1 e1 hx0 hx1 hP)
  have H2 := Lib.hid (fun W hP => last_c w.heap.size X1 m X2 t W (by rw [Int.ediv_one]; exact h2) (by rw [Int.mul_one]; exact e2) x10 x11 hP)
  obtain ⟨bl0, bh0⟩ := rem_bd h1 (by decide)
  obtain ⟨bl1, bh1⟩ := rem_bd h2 (by decide)
  have hS := Lib.hid (Stt.start (b := w.heap.size) (X := X) (t := t) ⟨by go_simp, by go_simp, by go_simp, by simp; omega⟩ (Tabs.alloc (Tabs.alloc hT (.cells #[.int .u32 X, .bool t] 33)) (.cells #[.int .i64 0, .int .i64 0, .int .i64 0, .int .i64 0, .int .i64 0, .int .i64 0, .int .i64 0, .int .i64 0, .bool false] 23)))
  have hR := Lib.hid (show InsAt ((w.alloc (.cells #[.int .u32 X, .bool t] 33)).alloc (.cells #[.int .i64 0, .int .i64 0, .int .i64 0, .int .i64 0, .int .i64 0, .int .i64 0, .int .i64 0, .int .i64 0, .bool false] 23)) (w.heap.size + 1) Tm.Z by have h := InsAt.new (w.alloc (.cells #[.int .u32 X, .bool t] 33)) Tm.Z; rw [World.size_alloc] at h; exact h)
  have hB := Lib.hid (al2 w (.cells #[.int .u32 X, .bool t] 33) (.cells #[.int .i64 0, .int .i64 0, .int .i64 0, .int .i64 0, .int .i64 0, .int .i64 0, .int .i64 0, .int .i64 0, .bool false] 23))
  clear hT h1 e1 x10 x11 h2 e2 x20 x21
  go_enter Tryd.func24, Tryd.ntmps24
  go_wp2_with fail
  refine (H1.out _ hS.out.pair).mono ?_
  rintro e w1 ⟨rfl, hP, hK⟩
  replace hS := Lib.hid (hS.out.call hb5 hP hK)
  clear hP hK
  go_wp2_with fail
  refine (H2.out _ hS.out.pair).mono ?_
  rintro e w2 ⟨rfl, hP, hK⟩
  replace hS := Lib.hid (hS.out.call hb5 hP hK)
  clear hP hK
  have hw := hS.out.pair.word
  have hit := hS.out.pair.it
  have hlb := hS.out.pair.lt
  have hsz := hS.out.kept.size
  have hlr : w.heap.size + 1 < w2.heap.size := Nat.lt_of_lt_of_le hR.out.lt hsz
  obtain ⟨ne1, ne2⟩ := apart hlr
  go_wp2_with fail
  refine (left_c [(45, 3906007040)] X2 t _ 1 _ _ rfl ?hc ?hl (by decide)).mono ?_
  case hc => exact rng2 _ _ _ _
  case hl => simp
  rintro e w9 ⟨rfl, hb9⟩
  have hI9 := ((InsAt.new w2 ⟨0, 0, 0, r, m, 0, 2, 0, false⟩).below (al1 _ _)).below hb9
  have hR9 := (((hR.out.kept hS.out.kept (by omega)).below (al1 _ _)).below (al1 _ _)).below hb9
  have hB9 := Lib.hid (hB.out.trans ((hS.out.kept.below (Nat.le_trans (Nat.le_of_lt (Nat.lt_succ_self _)) (Nat.le_of_lt hR.out.lt))).trans (((al1 _ _).trans ((al1 _ _).mono (by simp))).trans (hb9.mono (by simp; omega)) |>.mono (by omega))))
  obtain ⟨hres, hfr, hlt⟩ := hI9
  obtain ⟨hrr, hrf, hrl⟩ := hR9
  unfold insC at hres
  unfold insC Tm.Z at hrr
  dsimp only at hres hrr
  generalize hVq : leftI [(45, 3906007040)] X2 = V at *
  replace hVq := Lib.hid hVq
  clear hb9
  go_wp2
  refine bodyPost_ret (v := .agg #[.int .i64 V, .int .i64 0, .int .i64 0, .int .i64 r, .int .i64 m, .int .i64 0, .int .i64 2, .int .i64 0, .bool false]) (by simp [results, Tryd.f24, go_sem, hrr]) rfl ?_
  refine ⟨by rw [hVq.out]; rfl, ?_⟩
  exact nine_set (hB9.out.setCell (p := ⟨w2.heap.size, 0, none⟩) (by show w.heap.size ≤ w2.heap.size; omega) _) (Nat.le_succ _) _ _ _ _ _ _ _ _ _
end Tp
end Go.Proofs.YtdcnkmkaafimlaaDoor

namespace Go.Proofs.YtdcnkmkaafimlaaDoor
open Go.ChangeShapes Go.WideShapes Go.ChangeAt Go.RowKit
namespace Tp
open Nm (I)
open Tl (IV)

set_option maxHeartbeats 2000000 in
theorem half_c (X d X1 r X2 i X3 j X4 l X5 : Int) (t : Bool) (w : World) (h1 : X / 256 % 16 = d) (e1 : X - d * 256 = X1) (h2 : X1 / 65536 % 16 = r) (e2 : X1 - r * 65536 = X2) (h3 : X2 / 67108864 % 2 = i) (e3 : X2 - i * 67108864 = X3) (h4 : X3 / 4096 % 8 = j) (e4 : X3 - j * 4096 = X4) (h5 : X4 % 256 = l) (e5 : X4 - l = X5) (hx0 : 0 ≤ X) (hx1 : X < 4294967296) (hT : Tabs w) (N q : Int) (hN : i * 2048 + j * 256 + l = N) (hq : r * 4096 + N = q) :
    Calls Tryd.prog 14 #[.agg #[.int .u32 X, .bool t]] w fun e w' => e = .returned (IV ⟨leftI [(23, 4064280576), (24, 4072669184)] X5, 0, d, 0, 0, q, 1, 0, false⟩) ∧ Below w.heap.size w w' := by
  have hb5 : 5 ≤ w.heap.size := hT.big
  obtain ⟨x10, x11⟩ := less h1 (by decide) (by decide) hx0 hx1
  rw [e1] at x10 x11
  obtain ⟨x20, x21⟩ := less h2 (by decide) (by decide) x10 x11
  rw [e2] at x20 x21
  obtain ⟨x30, x31⟩ := less h3 (by decide) (by decide) x20 x21
  rw [e3] at x30 x31
  obtain ⟨x40, x41⟩ := less h4 (by decide) (by decide) x30 x31
  rw [e4] at x40 x41
  obtain ⟨x50, x51⟩ := less0 h5 (by decide) x40 x41
  rw [e5] at x50 x51
  have H1 := Lib.hid (fun W hP => result_c w.heap.size X d X1 t W h1 e1 hx0 hx1 hP)
  have H2 := Lib.hid (fun W hP => base_c w.heap.size X1 r X2 t W h2 e2 x10 x11 hP)
  have H3 := Lib.hid (fun W hP => by have h := twelve_c w.heap.size X2 i j l X3 X4 X5 t W h3 e3 h4 e4 h5 e5 x20 x21 hP; rw [hN] at h; exact h)
  obtain ⟨bl0, bh0⟩ := rem_bd h1 (by decide)
  obtain ⟨bl1, bh1⟩ := rem_bd h2 (by decide)
  obtain ⟨bl2, bh2⟩ := rem_bd h3 (by decide)
  obtain ⟨bl3, bh3⟩ := rem_bd h4 (by decide)
  obtain ⟨bl4, bh4⟩ := rem_bd h5 (by decide)
  have hS := Lib.hid (Stt.start (b := w.heap.size) (X := X) (t := t) ⟨by go_simp, by go_simp, by go_simp, by simp; omega⟩ (Tabs.alloc (Tabs.alloc hT (.cells #[.int .u32 X, .bool t] 33)) (.cells #[.int .i64 0, .int .i64 0, .int .i64 0, .int .i64 0, .int .i64 0, .int .i64 0, .int .i64 0, .int .i64 0, .bool false] 23)))
  have hR := Lib.hid (show InsAt ((w.alloc (.cells #[.int .u32 X, .bool t] 33)).alloc (.cells #[.int .i64 0, .int .i64 0, .int .i64 0, .int .i64 0, .int .i64 0, .int .i64 0, .int .i64 0, .int .i64 0, .bool false] 23)) (w.heap.size + 1) Tm.Z by have h := InsAt.new (w.alloc (.cells #[.int .u32 X, .bool t] 33)) Tm.Z; rw [World.size_alloc] at h; exact h)
  have hB := Lib.hid (al2 w (.cells #[.int .u32 X, .bool t] 33) (.cells #[.int .i64 0, .int .i64 0, .int .i64 0, .int .i64 0, .int .i64 0, .int .i64 0, .int .i64 0, .int .i64 0, .bool false] 23))
  clear hT h1 e1 x10 x11 h2 e2 x20 x21 h3 e3 x30 x31 h4 e4 x40 x41 h5 e5 x50 x51
  have hN0 : 0 ≤ N ∧ N < 4096 := by omega
  have hor : bits .or .i64 (r * 4096) N = q := by rw [← hq]; exact Ow.or_low _ _ 12 4096 (by decide) (by omega) (by omega) (by omega) (by omega) hN0.1 hN0.2
  clear hq hN hN0 bl2 bl3 bl4 bh2 bh3 bh4
  go_enter Tryd.func14, Tryd.ntmps14
  go_wp2_with fail
  refine (H1.out _ hS.out.pair).mono ?_
  rintro e w1 ⟨rfl, hP, hK⟩
  replace hS := Lib.hid (hS.out.call hb5 hP hK)
  clear hP hK
  go_wp2_with fail
  refine (H2.out _ hS.out.pair).mono ?_
  rintro e w2 ⟨rfl, hP, hK⟩
  replace hS := Lib.hid (hS.out.call hb5 hP hK)
  clear hP hK
  go_wp2_with fail
  refine (H3.out _ hS.out.pair).mono ?_
  rintro e w3 ⟨rfl, hP, hK⟩
  replace hS := Lib.hid (hS.out.call hb5 hP hK)
  clear hP hK
  have hw := hS.out.pair.word
  have hit := hS.out.pair.it
  have hlb := hS.out.pair.lt
  have hsz := hS.out.kept.size
  have hlr : w.heap.size + 1 < w3.heap.size := Nat.lt_of_lt_of_le hR.out.lt hsz
  obtain ⟨ne1, ne2⟩ := apart hlr
  go_wp2_with fail
  refine (left_c [(23, 4064280576), (24, 4072669184)] X5 t _ 2 _ _ rfl ?hc ?hl (by decide)).mono ?_
  case hc => exact rng2 _ _ _ _
  case hl => simp
  rintro e w9 ⟨rfl, hb9⟩
  have hI9 := ((InsAt.new w3 ⟨0, 0, d, 0, 0, q, 1, 0, false⟩).below (al1 _ _)).below hb9
  have hR9 := (((hR.out.kept hS.out.kept (by omega)).below (al1 _ _)).below (al1 _ _)).below hb9
  have hB9 := Lib.hid (hB.out.trans ((hS.out.kept.below (Nat.le_trans (Nat.le_of_lt (Nat.lt_succ_self _)) (Nat.le_of_lt hR.out.lt))).trans (((al1 _ _).trans ((al1 _ _).mono (by simp))).trans (hb9.mono (by simp; omega)) |>.mono (by omega))))
  obtain ⟨hres, hfr, hlt⟩ := hI9
  obtain ⟨hrr, hrf, hrl⟩ := hR9
  unfold insC at hres
  unfold insC Tm.Z at hrr
  dsimp only at hres hrr
  generalize hVq : leftI [(23, 4064280576), (24, 4072669184)] X5 = V at *
  replace hVq := Lib.hid hVq
  clear hb9
  go_wp2
  refine bodyPost_ret (v := .agg #[.int .i64 V, .int .i64 0, .int .i64 d, .int .i64 0, .int .i64 0, .int .i64 q, .int .i64 1, .int .i64 0, .bool false]) (by simp [results, Tryd.f14, go_sem, hrr]) rfl ?_
  refine ⟨by rw [hVq.out]; rfl, ?_⟩
  exact nine_set (hB9.out.setCell (p := ⟨w3.heap.size, 0, none⟩) (by show w.heap.size ≤ w3.heap.size; omega) _) (Nat.le_succ _) _ _ _ _ _ _ _ _ _
end Tp
end Go.Proofs.YtdcnkmkaafimlaaDoor

namespace Go.Proofs.YtdcnkmkaafimlaaDoor
open Go.ChangeShapes Go.WideShapes Go.ChangeAt Go.RowKit
namespace Tp
open Nm (I)
open Tl (IV)

set_option maxHeartbeats 2000000 in
theorem stack_z (X n X1 : Int) (t : Bool) (w : World) (h1 : X % 65536 = n) (e1 : X - n = X1) (hx0 : 0 ≤ X) (hx1 : X < 4294967296) (hT : Tabs w) (hz : bits .and .i64 n (n - 1) = 0) :
    Calls Tryd.prog 18 #[.agg #[.int .u32 X, .bool t]] w fun e w' => e = .returned (IV Tm.Z) ∧ Below w.heap.size w w' := by
  have hb5 : 5 ≤ w.heap.size := hT.big
  obtain ⟨x10, x11⟩ := less0 h1 (by decide) hx0 hx1
  rw [e1] at x10 x11
  have H1 := Lib.hid (fun W hP => take_n 15 0 1 65536 (hi' := 15) (lo' := 0) w.heap.size X n X1 t W (by rw [Int.ediv_one]; exact h1) (by rw [Int.mul_one]; exact e1) hx0 hx1 hP rfl rfl (by decide) (by decide) (by decide) (by decide))
  obtain ⟨bl0, bh0⟩ := rem_bd h1 (by decide)
  have hS := Lib.hid (Stt.start (b := w.heap.size) (X := X) (t := t) ⟨by go_simp, by go_simp, by go_simp, by simp; omega⟩ (Tabs.alloc (Tabs.alloc hT (.cells #[.int .u32 X, .bool t] 33)) (.cells #[.int .i64 0, .int .i64 0, .int .i64 0, .int .i64 0, .int .i64 0, .int .i64 0, .int .i64 0, .int .i64 0, .bool false] 23)))
  have hR := Lib.hid (show InsAt ((w.alloc (.cells #[.int .u32 X, .bool t] 33)).alloc (.cells #[.int .i64 0, .int .i64 0, .int .i64 0, .int .i64 0, .int .i64 0, .int .i64 0, .int .i64 0, .int .i64 0, .bool false] 23)) (w.heap.size + 1) Tm.Z by have h := InsAt.new (w.alloc (.cells #[.int .u32 X, .bool t] 33)) Tm.Z; rw [World.size_alloc] at h; exact h)
  have hB := Lib.hid (al2 w (.cells #[.int .u32 X, .bool t] 33) (.cells #[.int .i64 0, .int .i64 0, .int .i64 0, .int .i64 0, .int .i64 0, .int .i64 0, .int .i64 0, .int .i64 0, .bool false] 23))
  clear hT h1 e1 x10 x11
  go_enter Tryd.func18, Tryd.ntmps18
  go_wp2_with fail
  refine (H1.out _ hS.out.pair).mono ?_
  rintro e w1 ⟨rfl, hP, hK⟩
  replace hS := Lib.hid (hS.out.call hb5 hP hK)
  clear hP hK
  have hw := hS.out.pair.word
  have hit := hS.out.pair.it
  have hlb := hS.out.pair.lt
  have hsz := hS.out.kept.size
  have hlr : w.heap.size + 1 < w1.heap.size := Nat.lt_of_lt_of_le hR.out.lt hsz
  obtain ⟨ne1, ne2⟩ := apart hlr
  have hB9 := Lib.hid (hB.out.trans (hS.out.kept.below (Nat.le_trans (Nat.le_of_lt (Nat.lt_succ_self _)) (Nat.le_of_lt hR.out.lt))))
  obtain ⟨hrr, hrf, hrl⟩ := hR.out.kept hS.out.kept (by omega)
  unfold insC Tm.Z at hrr
  dsimp only at hrr
  go_wp2
  refine bodyPost_ret (v := .agg #[.int .i64 0, .int .i64 0, .int .i64 0, .int .i64 0, .int .i64 0, .int .i64 0, .int .i64 0, .int .i64 0, .bool false]) (by simp [results, Tryd.f18, go_sem, hrr, hrl]) rfl ?_
  refine ⟨rfl, ?_⟩
  exact nine_alloc hB9.out (Nat.le_succ _) (by omega) _ _ _ _ _ _ _ _ _ _
set_option maxHeartbeats 2000000 in
theorem stack_c (X n X1 : Int) (t : Bool) (w : World) (h1 : X % 65536 = n) (e1 : X - n = X1) (hx0 : 0 ≤ X) (hx1 : X < 4294967296) (hT : Tabs w) (hz : (bits .and .i64 n (n - 1) == 0) = false) :
    Calls Tryd.prog 18 #[.agg #[.int .u32 X, .bool t]] w fun e w' => e = .returned (IV ⟨leftI [(33, 3912040448), (34, 3904700416)] X1, 0, 0, 0, 0, 0, 0, n, false⟩) ∧ Below w.heap.size w w' := by
  have hb5 : 5 ≤ w.heap.size := hT.big
  obtain ⟨x10, x11⟩ := less0 h1 (by decide) hx0 hx1
  rw [e1] at x10 x11
  have H1 := Lib.hid (fun W hP => take_n 15 0 1 65536 (hi' := 15) (lo' := 0) w.heap.size X n X1 t W (by rw [Int.ediv_one]; exact h1) (by rw [Int.mul_one]; exact e1) hx0 hx1 hP rfl rfl (by decide) (by decide) (by decide) (by decide))
  obtain ⟨bl0, bh0⟩ := rem_bd h1 (by decide)
  have hS := Lib.hid (Stt.start (b := w.heap.size) (X := X) (t := t) ⟨by go_simp, by go_simp, by go_simp, by simp; omega⟩ (Tabs.alloc (Tabs.alloc hT (.cells #[.int .u32 X, .bool t] 33)) (.cells #[.int .i64 0, .int .i64 0, .int .i64 0, .int .i64 0, .int .i64 0, .int .i64 0, .int .i64 0, .int .i64 0, .bool false] 23)))
  have hR := Lib.hid (show InsAt ((w.alloc (.cells #[.int .u32 X, .bool t] 33)).alloc (.cells #[.int .i64 0, .int .i64 0, .int .i64 0, .int .i64 0, .int .i64 0, .int .i64 0, .int .i64 0, .int .i64 0, .bool false] 23)) (w.heap.size + 1) Tm.Z by have h := InsAt.new (w.alloc (.cells #[.int .u32 X, .bool t] 33)) Tm.Z; rw [World.size_alloc] at h; exact h)
  have hB := Lib.hid (al2 w (.cells #[.int .u32 X, .bool t] 33) (.cells #[.int .i64 0, .int .i64 0, .int .i64 0, .int .i64 0, .int .i64 0, .int .i64 0, .int .i64 0, .int .i64 0, .bool false] 23))
  clear hT h1 e1 x10 x11
  go_enter Tryd.func18, Tryd.ntmps18
  go_wp2_with fail
  refine (H1.out _ hS.out.pair).mono ?_
  rintro e w1 ⟨rfl, hP, hK⟩
  replace hS := Lib.hid (hS.out.call hb5 hP hK)
  clear hP hK
  have hw := hS.out.pair.word
  have hit := hS.out.pair.it
  have hlb := hS.out.pair.lt
  have hsz := hS.out.kept.size
  have hlr : w.heap.size + 1 < w1.heap.size := Nat.lt_of_lt_of_le hR.out.lt hsz
  obtain ⟨ne1, ne2⟩ := apart hlr
  go_wp2_with fail
  refine (left_c [(33, 3912040448), (34, 3904700416)] X1 t _ 2 _ _ rfl ?hc ?hl (by decide)).mono ?_
  case hc => exact rng2 _ _ _ _
  case hl => simp
  rintro e w9 ⟨rfl, hb9⟩
  have hI9 := ((InsAt.new w1 ⟨0, 0, 0, 0, 0, 0, 0, n, false⟩).below (al1 _ _)).below hb9
  have hR9 := (((hR.out.kept hS.out.kept (by omega)).below (al1 _ _)).below (al1 _ _)).below hb9
  have hB9 := Lib.hid (hB.out.trans ((hS.out.kept.below (Nat.le_trans (Nat.le_of_lt (Nat.lt_succ_self _)) (Nat.le_of_lt hR.out.lt))).trans (((al1 _ _).trans ((al1 _ _).mono (by simp))).trans (hb9.mono (by simp; omega)) |>.mono (by omega))))
  obtain ⟨hres, hfr, hlt⟩ := hI9
  obtain ⟨hrr, hrf, hrl⟩ := hR9
  unfold insC at hres
  unfold insC Tm.Z at hrr
  dsimp only at hres hrr
  generalize hVq : leftI [(33, 3912040448), (34, 3904700416)] X1 = V at *
  replace hVq := Lib.hid hVq
  clear hb9
  go_wp2
  refine bodyPost_ret (v := .agg #[.int .i64 V, .int .i64 0, .int .i64 0, .int .i64 0, .int .i64 0, .int .i64 0, .int .i64 0, .int .i64 n, .bool false]) (by simp [results, Tryd.f18, go_sem, hrr]) rfl ?_
  refine ⟨by rw [hVq.out]; rfl, ?_⟩
  exact nine_set (hB9.out.setCell (p := ⟨w1.heap.size, 0, none⟩) (by show w.heap.size ≤ w1.heap.size; omega) _) (Nat.le_succ _) _ _ _ _ _ _ _ _ _
set_option maxHeartbeats 2000000 in
theorem nop_c (X  : Int) (t : Bool) (w : World)  (_hx0 : 0 ≤ X) (_hx1 : X < 4294967296) (hT : Tabs w) :
    Calls Tryd.prog 23 #[.agg #[.int .u32 X, .bool t]] w fun e w' => e = .returned (IV ⟨leftI [(43, 4088365056)] X, 0, 0, 0, 0, 0, 0, 0, false⟩) ∧ Below w.heap.size w w' := by
  have hb5 : 5 ≤ w.heap.size := hT.big
  have hS := Lib.hid (Stt.start (b := w.heap.size) (X := X) (t := t) ⟨by go_simp, by go_simp, by go_simp, by simp; omega⟩ (Tabs.alloc (Tabs.alloc hT (.cells #[.int .u32 X, .bool t] 33)) (.cells #[.int .i64 0, .int .i64 0, .int .i64 0, .int .i64 0, .int .i64 0, .int .i64 0, .int .i64 0, .int .i64 0, .bool false] 23)))
  have hR := Lib.hid (show InsAt ((w.alloc (.cells #[.int .u32 X, .bool t] 33)).alloc (.cells #[.int .i64 0, .int .i64 0, .int .i64 0, .int .i64 0, .int .i64 0, .int .i64 0, .int .i64 0, .int .i64 0, .bool false] 23)) (w.heap.size + 1) Tm.Z by have h := InsAt.new (w.alloc (.cells #[.int .u32 X, .bool t] 33)) Tm.Z; rw [World.size_alloc] at h; exact h)
  have hB := Lib.hid (al2 w (.cells #[.int .u32 X, .bool t] 33) (.cells #[.int .i64 0, .int .i64 0, .int .i64 0, .int .i64 0, .int .i64 0, .int .i64 0, .int .i64 0, .int .i64 0, .bool false] 23))
  clear hT
  go_enter Tryd.func23, Tryd.ntmps23
  go_wp2_with fail
  refine (left_c [(43, 4088365056)] X t _ 1 _ _ rfl ?hc ?hl (by decide)).mono ?_
  case hc => exact rng3 _ _ _ _ _
  case hl => simp
  rintro e w9 ⟨rfl, hb9⟩
  have hR9 := (hR.out.below (al1 _ _)).below hb9
  have hB9 := Lib.hid (hB.out.trans ((al1 _ _).trans (hb9.mono (by simp)) |>.mono (by simp; omega)))
  obtain ⟨hrr, hrf, hrl⟩ := hR9
  unfold insC Tm.Z at hrr
  dsimp only at hrr
  generalize hVq : leftI [(43, 4088365056)] X = V at *
  replace hVq := Lib.hid hVq
  clear hb9
  go_wp2
  refine bodyPost_ret (v := .agg #[.int .i64 V, .int .i64 0, .int .i64 0, .int .i64 0, .int .i64 0, .int .i64 0, .int .i64 0, .int .i64 0, .bool false]) (by simp [results, Tryd.f23, go_sem, hrr]) rfl ?_
  refine ⟨by rw [hVq.out]; rfl, ?_⟩
  (repeat (first | with_reducible exact hB9.out | (with_reducible refine Below.setCell ?_ ?_ _; rotate_left; (dsimp only; omega)) | (with_reducible refine Below.drew ?_) | (with_reducible refine below_drewN ?_ _)))
end Tp
end Go.Proofs.YtdcnkmkaafimlaaDoor

namespace Go.Proofs.YtdcnkmkaafimlaaDoor
open Go.ChangeShapes Go.WideShapes Go.ChangeAt Go.RowKit
namespace Tp
open Nm (I)
open Tl (IV)

set_option maxHeartbeats 2000000 in
theorem literal_c (X d X1 n X2 : Int) (t : Bool) (w : World) (h1 : X / 4096 % 16 = d) (e1 : X - d * 4096 = X1) (h2 : X1 % 4096 = n) (e2 : X1 - n = X2) (hx0 : 0 ≤ X) (hx1 : X < 4294967296) (hT : Tabs w) :
    Calls Tryd.prog 21 #[.agg #[.int .u32 X, .bool t]] w fun e w' => e = .returned (IV (sideI ⟨40, 0, d, 0, 0, n, 1, 0, false⟩ X2 4175364096 4166975488)) ∧ Below w.heap.size w w' := by
  have hb5 : 5 ≤ w.heap.size := hT.big
  obtain ⟨x10, x11⟩ := less h1 (by decide) (by decide) hx0 hx1
  rw [e1] at x10 x11
  obtain ⟨x20, x21⟩ := less0 h2 (by decide) x10 x11
  rw [e2] at x20 x21
  have H1 := Lib.hid (fun W hP => loaded_c w.heap.size X d X1 t W h1 e1 hx0 hx1 hP)
  have H2 := Lib.hid (fun W hP => take_n 11 0 1 4096 (hi' := 11) (lo' := 0) w.heap.size X1 n X2 t W (by rw [Int.ediv_one]; exact h2) (by rw [Int.mul_one]; exact e2) x10 x11 hP rfl rfl (by decide) (by decide) (by decide) (by decide))
  obtain ⟨bl0, bh0⟩ := rem_bd h1 (by decide)
  obtain ⟨bl1, bh1⟩ := rem_bd h2 (by decide)
  have hS := Lib.hid (Stt.start (b := w.heap.size) (X := X) (t := t) ⟨by go_simp, by go_simp, by go_simp, by simp; omega⟩ (Tabs.alloc (Tabs.alloc hT (.cells #[.int .u32 X, .bool t] 33)) (.cells #[.int .i64 0, .int .i64 0, .int .i64 0, .int .i64 0, .int .i64 0, .int .i64 0, .int .i64 0, .int .i64 0, .bool false] 23)))
  have hR := Lib.hid (show InsAt ((w.alloc (.cells #[.int .u32 X, .bool t] 33)).alloc (.cells #[.int .i64 0, .int .i64 0, .int .i64 0, .int .i64 0, .int .i64 0, .int .i64 0, .int .i64 0, .int .i64 0, .bool false] 23)) (w.heap.size + 1) Tm.Z by have h := InsAt.new (w.alloc (.cells #[.int .u32 X, .bool t] 33)) Tm.Z; rw [World.size_alloc] at h; exact h)
  have hB := Lib.hid (al2 w (.cells #[.int .u32 X, .bool t] 33) (.cells #[.int .i64 0, .int .i64 0, .int .i64 0, .int .i64 0, .int .i64 0, .int .i64 0, .int .i64 0, .int .i64 0, .bool false] 23))
  clear hT h1 e1 x10 x11 h2 e2 x20 x21
  go_enter Tryd.func21, Tryd.ntmps21
  go_wp2_with fail
  refine (H1.out _ hS.out.pair).mono ?_
  rintro e w1 ⟨rfl, hP, hK⟩
  replace hS := Lib.hid (hS.out.call hb5 hP hK)
  clear hP hK
  go_wp2_with fail
  refine (H2.out _ hS.out.pair).mono ?_
  rintro e w2 ⟨rfl, hP, hK⟩
  replace hS := Lib.hid (hS.out.call hb5 hP hK)
  clear hP hK
  have hw := hS.out.pair.word
  have hit := hS.out.pair.it
  have hlb := hS.out.pair.lt
  have hsz := hS.out.kept.size
  have hlr : w.heap.size + 1 < w2.heap.size := Nat.lt_of_lt_of_le hR.out.lt hsz
  obtain ⟨ne1, ne2⟩ := apart hlr
  go_wp2_with fail
  refine (side_c X2 4175364096 4166975488 t (40) (0) (d) (0) (0) (n) (1) (0) (false) _ (by omega) (by omega)).mono ?_
  rintro e w9 ⟨rfl, hb9⟩
  have hR9 := ((hR.out.kept hS.out.kept (by omega)).below (al1 _ _)).below hb9
  have hB9 := Lib.hid (hB.out.trans ((hS.out.kept.below (Nat.le_trans (Nat.le_of_lt (Nat.lt_succ_self _)) (Nat.le_of_lt hR.out.lt))).trans (((al1 _ _).trans (hb9.mono (by simp))) |>.mono (by omega))))
  obtain ⟨hrr, hrf, hrl⟩ := hR9
  unfold insC Tm.Z at hrr
  dsimp only at hrr
  clear hb9
  obtain ⟨V, hVq⟩ : ∃ V, sideI ⟨40, 0, d, 0, 0, n, 1, 0, false⟩ X2 4175364096 4166975488 = V := ⟨_, rfl⟩
  rw [hVq]
  replace hVq := Lib.hid hVq
  obtain ⟨y0, y1, y2, y3, y4, y5, y6, y7, y8⟩ := V
  unfold IV
  dsimp only
  go_wp2
  refine bodyPost_ret (v := .agg #[.int .i64 y0, .int .i64 y1, .int .i64 y2, .int .i64 y3, .int .i64 y4, .int .i64 y5, .int .i64 y6, .int .i64 y7, .bool y8]) (by simp [results, Tryd.f21, go_sem, hrr]) rfl ?_
  refine ⟨by rw [hVq.out]; rfl, ?_⟩
  (repeat (first | with_reducible exact hB9.out | (with_reducible refine Below.setCell ?_ ?_ _; rotate_left; (dsimp only; omega)) | (with_reducible refine Below.drew ?_) | (with_reducible refine below_drewN ?_ _)))
set_option maxHeartbeats 2000000 in
theorem address_c (X d X1 i X2 j X3 l X4 : Int) (t : Bool) (w : World) (h1 : X / 256 % 16 = d) (e1 : X - d * 256 = X1) (h2 : X1 / 67108864 % 2 = i) (e2 : X1 - i * 67108864 = X2) (h3 : X2 / 4096 % 8 = j) (e3 : X2 - j * 4096 = X3) (h4 : X3 % 256 = l) (e4 : X3 - l = X4) (hx0 : 0 ≤ X) (hx1 : X < 4294967296) (hT : Tabs w) :
    Calls Tryd.prog 22 #[.agg #[.int .u32 X, .bool t]] w fun e w' => e = .returned (IV (sideI ⟨41, 0, d, 0, 0, i * 2048 + j * 256 + l, 1, 0, false⟩ X4 4061069312 4071555072)) ∧ Below w.heap.size w w' := by
  have hb5 : 5 ≤ w.heap.size := hT.big
  obtain ⟨x10, x11⟩ := less h1 (by decide) (by decide) hx0 hx1
  rw [e1] at x10 x11
  obtain ⟨x20, x21⟩ := less h2 (by decide) (by decide) x10 x11
  rw [e2] at x20 x21
  obtain ⟨x30, x31⟩ := less h3 (by decide) (by decide) x20 x21
  rw [e3] at x30 x31
  obtain ⟨x40, x41⟩ := less0 h4 (by decide) x30 x31
  rw [e4] at x40 x41
  have H1 := Lib.hid (fun W hP => result_c w.heap.size X d X1 t W h1 e1 hx0 hx1 hP)
  have H2 := Lib.hid (fun W hP => twelve_c w.heap.size X1 i j l X2 X3 X4 t W h2 e2 h3 e3 h4 e4 x10 x11 hP)
  obtain ⟨bl0, bh0⟩ := rem_bd h1 (by decide)
  obtain ⟨bl1, bh1⟩ := rem_bd h2 (by decide)
  obtain ⟨bl2, bh2⟩ := rem_bd h3 (by decide)
  obtain ⟨bl3, bh3⟩ := rem_bd h4 (by decide)
  have hS := Lib.hid (Stt.start (b := w.heap.size) (X := X) (t := t) ⟨by go_simp, by go_simp, by go_simp, by simp; omega⟩ (Tabs.alloc (Tabs.alloc hT (.cells #[.int .u32 X, .bool t] 33)) (.cells #[.int .i64 0, .int .i64 0, .int .i64 0, .int .i64 0, .int .i64 0, .int .i64 0, .int .i64 0, .int .i64 0, .bool false] 23)))
  have hR := Lib.hid (show InsAt ((w.alloc (.cells #[.int .u32 X, .bool t] 33)).alloc (.cells #[.int .i64 0, .int .i64 0, .int .i64 0, .int .i64 0, .int .i64 0, .int .i64 0, .int .i64 0, .int .i64 0, .bool false] 23)) (w.heap.size + 1) Tm.Z by have h := InsAt.new (w.alloc (.cells #[.int .u32 X, .bool t] 33)) Tm.Z; rw [World.size_alloc] at h; exact h)
  have hB := Lib.hid (al2 w (.cells #[.int .u32 X, .bool t] 33) (.cells #[.int .i64 0, .int .i64 0, .int .i64 0, .int .i64 0, .int .i64 0, .int .i64 0, .int .i64 0, .int .i64 0, .bool false] 23))
  clear hT h1 e1 x10 x11 h2 e2 x20 x21 h3 e3 x30 x31 h4 e4 x40 x41
  go_enter Tryd.func22, Tryd.ntmps22
  go_wp2_with fail
  refine (H1.out _ hS.out.pair).mono ?_
  rintro e w1 ⟨rfl, hP, hK⟩
  replace hS := Lib.hid (hS.out.call hb5 hP hK)
  clear hP hK
  go_wp2_with fail
  refine (H2.out _ hS.out.pair).mono ?_
  rintro e w2 ⟨rfl, hP, hK⟩
  replace hS := Lib.hid (hS.out.call hb5 hP hK)
  clear hP hK
  have hw := hS.out.pair.word
  have hit := hS.out.pair.it
  have hlb := hS.out.pair.lt
  have hsz := hS.out.kept.size
  have hlr : w.heap.size + 1 < w2.heap.size := Nat.lt_of_lt_of_le hR.out.lt hsz
  obtain ⟨ne1, ne2⟩ := apart hlr
  go_wp2_with fail
  refine (side_c X4 4061069312 4071555072 t (41) (0) (d) (0) (0) (i * 2048 + j * 256 + l) (1) (0) (false) _ (by omega) (by omega)).mono ?_
  rintro e w9 ⟨rfl, hb9⟩
  have hR9 := ((hR.out.kept hS.out.kept (by omega)).below (al1 _ _)).below hb9
  have hB9 := Lib.hid (hB.out.trans ((hS.out.kept.below (Nat.le_trans (Nat.le_of_lt (Nat.lt_succ_self _)) (Nat.le_of_lt hR.out.lt))).trans (((al1 _ _).trans (hb9.mono (by simp))) |>.mono (by omega))))
  obtain ⟨hrr, hrf, hrl⟩ := hR9
  unfold insC Tm.Z at hrr
  dsimp only at hrr
  clear hb9
  obtain ⟨V, hVq⟩ : ∃ V, sideI ⟨41, 0, d, 0, 0, i * 2048 + j * 256 + l, 1, 0, false⟩ X4 4061069312 4071555072 = V := ⟨_, rfl⟩
  rw [hVq]
  replace hVq := Lib.hid hVq
  obtain ⟨y0, y1, y2, y3, y4, y5, y6, y7, y8⟩ := V
  unfold IV
  dsimp only
  go_wp2
  refine bodyPost_ret (v := .agg #[.int .i64 y0, .int .i64 y1, .int .i64 y2, .int .i64 y3, .int .i64 y4, .int .i64 y5, .int .i64 y6, .int .i64 y7, .bool y8]) (by simp [results, Tryd.f22, go_sem, hrr]) rfl ?_
  refine ⟨by rw [hVq.out]; rfl, ?_⟩
  (repeat (first | with_reducible exact hB9.out | (with_reducible refine Below.setCell ?_ ?_ _; rotate_left; (dsimp only; omega)) | (with_reducible refine Below.drew ?_) | (with_reducible refine below_drewN ?_ _)))
end Tp
end Go.Proofs.YtdcnkmkaafimlaaDoor

namespace Go.Proofs.YtdcnkmkaafimlaaDoor
open Go.ChangeShapes Go.WideShapes Go.ChangeAt Go.RowKit
namespace Tp
open Nm (I)
open Tl (IV)

set_option maxHeartbeats 2000000 in
theorem shiftedByNumber_c (X sv X1 d X2 m X3 u X4 v X5 : Int) (t : Bool) (w : World) (h1 : X / 1048576 % 2 = sv) (e1 : X - sv * 1048576 = X1) (h2 : X1 / 256 % 16 = d) (e2 : X1 - d * 256 = X2) (h3 : X2 % 16 = m) (e3 : X2 - m = X3) (h4 : X3 / 4096 % 8 = u) (e4 : X3 - u * 4096 = X4) (h5 : X4 / 64 % 4 = v) (e5 : X4 - v * 64 = X5) (hx0 : 0 ≤ X) (hx1 : X < 4294967296) (hT : Tabs w) (p q : Int) (hp : u * 4 + v = p) (hq : (p = 0 ∧ q = 32) ∨ (p ≠ 0 ∧ q = p)) :
    Calls Tryd.prog 11 #[.agg #[.int .u32 X, .bool t]] w fun e w' => e = .returned (IV ⟨leftI [(16, 3931045888), (17, 3931045904), (18, 3931045920), (19, 3931045936)] X5, 0, d, m, 0, q, 1, 0, (sv == 1)⟩) ∧ Below w.heap.size w w' := by
  have hb5 : 5 ≤ w.heap.size := hT.big
  obtain ⟨x10, x11⟩ := less h1 (by decide) (by decide) hx0 hx1
  rw [e1] at x10 x11
  obtain ⟨x20, x21⟩ := less h2 (by decide) (by decide) x10 x11
  rw [e2] at x20 x21
  obtain ⟨x30, x31⟩ := less0 h3 (by decide) x20 x21
  rw [e3] at x30 x31
  obtain ⟨x40, x41⟩ := less h4 (by decide) (by decide) x30 x31
  rw [e4] at x40 x41
  obtain ⟨x50, x51⟩ := less h5 (by decide) (by decide) x40 x41
  rw [e5] at x50 x51
  have H1 := Lib.hid (fun W hP => sets_c w.heap.size X sv X1 t W h1 e1 hx0 hx1 hP)
  have H2 := Lib.hid (fun W hP => result_c w.heap.size X1 d X2 t W h2 e2 x10 x11 hP)
  have H3 := Lib.hid (fun W hP => last_c w.heap.size X2 m X3 t W (by rw [Int.ediv_one]; exact h3) (by rw [Int.mul_one]; exact e3) x20 x21 hP)
  have H4 := Lib.hid (fun W hP => take_n 14 12 4096 8 (hi' := 14) (lo' := 12) w.heap.size X3 u X4 t W h4 e4 x30 x31 hP rfl rfl (by decide) (by decide) (by decide) (by decide))
  have H5 := Lib.hid (fun W hP => take_n 7 6 64 4 (hi' := 7) (lo' := 6) w.heap.size X4 v X5 t W h5 e5 x40 x41 hP rfl rfl (by decide) (by decide) (by decide) (by decide))
  obtain ⟨bl0, bh0⟩ := rem_bd h1 (by decide)
  obtain ⟨bl1, bh1⟩ := rem_bd h2 (by decide)
  obtain ⟨bl2, bh2⟩ := rem_bd h3 (by decide)
  obtain ⟨bl3, bh3⟩ := rem_bd h4 (by decide)
  obtain ⟨bl4, bh4⟩ := rem_bd h5 (by decide)
  have hS := Lib.hid (Stt.start (b := w.heap.size) (X := X) (t := t) ⟨by go_simp, by go_simp, by go_simp, by simp; omega⟩ (Tabs.alloc (Tabs.alloc hT (.cells #[.int .u32 X, .bool t] 33)) (.cells #[.int .i64 0, .int .i64 0, .int .i64 0, .int .i64 0, .int .i64 0, .int .i64 0, .int .i64 0, .int .i64 0, .bool false] 23)))
  have hR := Lib.hid (show InsAt ((w.alloc (.cells #[.int .u32 X, .bool t] 33)).alloc (.cells #[.int .i64 0, .int .i64 0, .int .i64 0, .int .i64 0, .int .i64 0, .int .i64 0, .int .i64 0, .int .i64 0, .bool false] 23)) (w.heap.size + 1) Tm.Z by have h := InsAt.new (w.alloc (.cells #[.int .u32 X, .bool t] 33)) Tm.Z; rw [World.size_alloc] at h; exact h)
  have hB := Lib.hid (al2 w (.cells #[.int .u32 X, .bool t] 33) (.cells #[.int .i64 0, .int .i64 0, .int .i64 0, .int .i64 0, .int .i64 0, .int .i64 0, .int .i64 0, .int .i64 0, .bool false] 23))
  clear hT h1 e1 x10 x11 h2 e2 x20 x21 h3 e3 x30 x31 h4 e4 x40 x41 h5 e5 x50 x51
  have hor : bits .or .i64 (u * 4) v = p := by rw [← hp]; exact Ow.or_low _ _ 2 4 (by decide) (by omega) (by omega) (by omega) (by omega) (by omega) (by omega)
  replace hq := Lib.hid hq
  clear hp
  go_enter Tryd.func11, Tryd.ntmps11
  go_wp2_with fail
  refine (H1.out _ hS.out.pair).mono ?_
  rintro e w1 ⟨rfl, hP, hK⟩
  replace hS := Lib.hid (hS.out.call hb5 hP hK)
  clear hP hK
  go_wp2_with fail
  refine (H2.out _ hS.out.pair).mono ?_
  rintro e w2 ⟨rfl, hP, hK⟩
  replace hS := Lib.hid (hS.out.call hb5 hP hK)
  clear hP hK
  go_wp2_with fail
  refine (H3.out _ hS.out.pair).mono ?_
  rintro e w3 ⟨rfl, hP, hK⟩
  replace hS := Lib.hid (hS.out.call hb5 hP hK)
  clear hP hK
  go_wp2_with fail
  refine (H4.out _ hS.out.pair).mono ?_
  rintro e w4 ⟨rfl, hP, hK⟩
  replace hS := Lib.hid (hS.out.call hb5 hP hK)
  clear hP hK
  go_wp2_with fail
  refine (H5.out _ hS.out.pair).mono ?_
  rintro e w5 ⟨rfl, hP, hK⟩
  replace hS := Lib.hid (hS.out.call hb5 hP hK)
  clear hP hK
  have hw := hS.out.pair.word
  have hit := hS.out.pair.it
  have hlb := hS.out.pair.lt
  have hsz := hS.out.kept.size
  have hlr : w.heap.size + 1 < w5.heap.size := Nat.lt_of_lt_of_le hR.out.lt hsz
  obtain ⟨ne1, ne2⟩ := apart hlr
  rcases hq.out with ⟨rfl, rfl⟩ | ⟨hz, rfl⟩
  · go_wp2_with fail
    refine (left_c [(16, 3931045888), (17, 3931045904), (18, 3931045920), (19, 3931045936)] X5 t _ 4 _ _ rfl ?hc ?hl (by decide)).mono ?_
    case hc => exact rng2 _ _ _ _
    case hl => simp
    rintro e w9 ⟨rfl, hb9⟩
    have hI9 := ((InsAt.new w5 ⟨0, 0, d, m, 0, 32, 1, 0, (sv == 1)⟩).below (al1 _ _)).below hb9
    have hR9 := (((hR.out.kept hS.out.kept (by omega)).below (al1 _ _)).below (al1 _ _)).below hb9
    have hB9 := Lib.hid (hB.out.trans ((hS.out.kept.below (Nat.le_trans (Nat.le_of_lt (Nat.lt_succ_self _)) (Nat.le_of_lt hR.out.lt))).trans (((al1 _ _).trans ((al1 _ _).mono (by simp))).trans (hb9.mono (by simp; omega)) |>.mono (by omega))))
    obtain ⟨hres, hfr, hlt⟩ := hI9
    obtain ⟨hrr, hrf, hrl⟩ := hR9
    unfold insC at hres
    unfold insC Tm.Z at hrr
    dsimp only at hres hrr
    generalize hVq : leftI [(16, 3931045888), (17, 3931045904), (18, 3931045920), (19, 3931045936)] X5 = V at *
    replace hVq := Lib.hid hVq
    clear hb9
    go_wp2
    refine bodyPost_ret (v := .agg #[.int .i64 V, .int .i64 0, .int .i64 d, .int .i64 m, .int .i64 0, .int .i64 32, .int .i64 1, .int .i64 0, .bool (sv == 1)]) (by simp [results, Tryd.f11, go_sem, hrr]) rfl ?_
    refine ⟨by rw [hVq.out]; rfl, ?_⟩
    exact nine_set (hB9.out.setCell (p := ⟨w5.heap.size, 0, none⟩) (by show w.heap.size ≤ w5.heap.size; omega) _) (Nat.le_succ _) _ _ _ _ _ _ _ _ _
  · have hzb : (q == 0) = false := by simpa using hz
    clear hz
    go_wp2_with fail
    refine (left_c [(16, 3931045888), (17, 3931045904), (18, 3931045920), (19, 3931045936)] X5 t _ 4 _ _ rfl ?hc ?hl (by decide)).mono ?_
    case hc => exact rng2 _ _ _ _
    case hl => simp
    rintro e w9 ⟨rfl, hb9⟩
    have hI9 := ((InsAt.new w5 ⟨0, 0, d, m, 0, q, 1, 0, (sv == 1)⟩).below (al1 _ _)).below hb9
    have hR9 := (((hR.out.kept hS.out.kept (by omega)).below (al1 _ _)).below (al1 _ _)).below hb9
    have hB9 := Lib.hid (hB.out.trans ((hS.out.kept.below (Nat.le_trans (Nat.le_of_lt (Nat.lt_succ_self _)) (Nat.le_of_lt hR.out.lt))).trans (((al1 _ _).trans ((al1 _ _).mono (by simp))).trans (hb9.mono (by simp; omega)) |>.mono (by omega))))
    obtain ⟨hres, hfr, hlt⟩ := hI9
    obtain ⟨hrr, hrf, hrl⟩ := hR9
    unfold insC at hres
    unfold insC Tm.Z at hrr
    dsimp only at hres hrr
    generalize hVq : leftI [(16, 3931045888), (17, 3931045904), (18, 3931045920), (19, 3931045936)] X5 = V at *
    replace hVq := Lib.hid hVq
    clear hb9
    go_wp2
    refine bodyPost_ret (v := .agg #[.int .i64 V, .int .i64 0, .int .i64 d, .int .i64 m, .int .i64 0, .int .i64 q, .int .i64 1, .int .i64 0, .bool (sv == 1)]) (by simp [results, Tryd.f11, go_sem, hrr]) rfl ?_
    refine ⟨by rw [hVq.out]; rfl, ?_⟩
    exact nine_set (hB9.out.setCell (p := ⟨w5.heap.size, 0, none⟩) (by show w.heap.size ≤ w5.heap.size; omega) _) (Nat.le_succ _) _ _ _ _ _ _ _ _ _
end Tp
end Go.Proofs.YtdcnkmkaafimlaaDoor
