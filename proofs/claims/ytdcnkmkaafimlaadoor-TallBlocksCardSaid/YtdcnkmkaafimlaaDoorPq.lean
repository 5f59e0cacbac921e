/- tall's Decode: the readers one by one. No conditions but those that each fact names (text by gen_pq.py). -/
import Derived.Test.YtdcnkmkaafimlaaDoorRows
import Derived.Test.YtdcnkmkaafimlaaDoorGr
import Derived.Test.YtdcnkmkaafimlaaDoorGs
import Derived.Test.YtdcnkmkaafimlaaDoorGt
import Derived.Test.YtdcnkmkaafimlaaDoorIc
namespace Go.Proofs.YtdcnkmkaafimlaaDoor
open Go.ChangeShapes Go.WideShapes Go.ChangeAt Go.RowKit
namespace Tp
open Nm (I)
open Tl (IV decV)

def fnAt (k : Nat) : FuncId := match k with
  | 0 => 8
  | 1 => 9
  | 2 => 10
  | 3 => 11
  | 4 => 12
  | 5 => 13
  | 6 => 14
  | 7 => 15
  | 8 => 16
  | 9 => 17
  | 10 => 18
  | 11 => 19
  | 12 => 20
  | 13 => 21
  | 14 => 22
  | 15 => 23
  | _ => 24
theorem rd_at (X : Int) (t : Bool) (hx0 : 0 ≤ X) (hx1 : X < 4294967296) (k : Nat) (hk : k < 17) : RdOk (fnAt k) X t (PA k (X / 65536) (X % 65536) t) := by
  rcases (by omega : k = 0 ∨ k = 1 ∨ k = 2 ∨ k = 3 ∨ k = 4 ∨ k = 5 ∨ k = 6 ∨ k = 7 ∨ k = 8 ∨ k = 9 ∨ k = 10 ∨ k = 11 ∨ k = 12 ∨ k = 13 ∨ k = 14 ∨ k = 15 ∨ k = 16) with rfl | rfl | rfl | rfl | rfl | rfl | rfl | rfl | rfl | rfl | rfl | rfl | rfl | rfl | rfl | rfl | rfl
  · exact rd_expanded X t hx0 hx1
  · exact rd_plain X t hx0 hx1
  · exact rd_registers X t hx0 hx1
  · exact rd_shn X t hx0 hx1
  · exact rd_sreg X t hx0 hx1
  · exact rd_product X t hx0 hx1
  · exact rd_half X t hx0 hx1
  · exact rd_ldnum X t hx0 hx1
  · exact rd_ldreg X t hx0 hx1
  · exact rd_block X t hx0 hx1
  · exact rd_stack X t hx0 hx1
  · exact rd_boc X t hx0 hx1
  · exact rd_branch X t hx0 hx1
  · exact rd_literal X t hx0 hx1
  · exact rd_address X t hx0 hx1
  · exact rd_nop X t hx0 hx1
  · exact rd_jump X t hx0 hx1
/-- the readers' answers -/
theorem all_read (X : Int) (t : Bool) (hx0 : 0 ≤ X) (hx1 : X < 4294967296) : ∃ f : Nat → I,
    (∀ k, k < 17 → ∀ w, Tabs w → Calls Tryd.prog (fnAt k) #[.agg #[.int .u32 X, .bool t]] w fun e w' => e = .returned (IV (f k)) ∧ Below w.heap.size w w') ∧
    (∀ k, k < 17 → Nm.okB (f k) = true → Tm.tallP Wm.tellF Tm.validI (X / 65536) (X % 65536) t = some (f k)) ∧
    ((∀ k, k < 17 → Nm.okB (f k) = false) → Tm.tallP Wm.tellF Tm.validI (X / 65536) (X % 65536) t = none) := by
  have h1 : ∀ k : Nat, ∃ i : I, k < 17 → ((∀ w, Tabs w → Calls Tryd.prog (fnAt k) #[.agg #[.int .u32 X, .bool t]] w fun e w' => e = .returned (IV i) ∧ Below w.heap.size w w') ∧ (Nm.okB i = true → PA k (X / 65536) (X % 65536) t) ∧ (PA k (X / 65536) (X % 65536) t → i = Tm.tallS Wm.tellF Tm.validI (X / 65536) (X % 65536) t)) := by
    intro k
    by_cases hk : k < 17
    · obtain ⟨i, hi⟩ := rd_at X t hx0 hx1 k hk
      exact ⟨i, fun _ => hi⟩
    · exact ⟨Tm.Z, fun q => absurd q hk⟩
  obtain ⟨f, hf⟩ := Classical.axiomOfChoice h1
  refine ⟨f, fun k hk => (hf k hk).1, fun k hk hok => ?_, fun hno => ?_⟩
  · obtain ⟨_, h2, h3⟩ := hf k hk
    have h4 := h3 (h2 hok)
    unfold Tm.tallP
    rw [← h4, if_pos hok]
  · unfold Tm.tallP
    rw [if_neg]
    intro hok
    obtain ⟨k, hk, hP⟩ := cov Wm.tellF (X / 65536) (X % 65536) t (by omega) hok
    obtain ⟨_, h2, h3⟩ := hf k hk
    have h4 := h3 hP
    have h5 := hno k hk
    rw [h4, hok] at h5
    cases h5
theorem fn_enter (k : Nat) (hk : k < 17) (xs : Array Value) (W : World) : Sem.run Tryd.prog (callFunc (fnAt k) xs) W = .ok (.enter (fnAt k) xs) W := by
  rcases (by omega : k = 0 ∨ k = 1 ∨ k = 2 ∨ k = 3 ∨ k = 4 ∨ k = 5 ∨ k = 6 ∨ k = 7 ∨ k = 8 ∨ k = 9 ∨ k = 10 ∨ k = 11 ∨ k = 12 ∨ k = 13 ∨ k = 14 ∨ k = 15 ∨ k = 16) with rfl | rfl | rfl | rfl | rfl | rfl | rfl | rfl | rfl | rfl | rfl | rfl | rfl | rfl | rfl | rfl | rfl <;> kernel_rfl
def pairV (X : Int) (t : Bool) : Value := .agg #[.int .u32 X, .bool t]
def fnsV (p : Value) : Value := .agg #[.func (.func 8) #[p] #[], .func (.func 9) #[p] #[], .func (.func 10) #[p] #[], .func (.func 11) #[p] #[], .func (.func 12) #[p] #[], .func (.func 13) #[p] #[], .func (.func 14) #[p] #[], .func (.func 15) #[p] #[], .func (.func 16) #[p] #[], .func (.func 17) #[p] #[], .func (.func 18) #[p] #[], .func (.func 19) #[p] #[], .func (.func 20) #[p] #[], .func (.func 21) #[p] #[], .func (.func 22) #[p] #[], .func (.func 23) #[p] #[], .func (.func 24) #[p] #[]]
theorem index_fn (p : Value) (k : Nat) (hk : k < 17) (W : World) : (Instr.index 35 (fnsV p) (.int .i64 (k : Int))).run Tryd.prog W = .ok (.func (.func (fnAt k)) #[p] #[]) W := by
  rcases (by omega : k = 0 ∨ k = 1 ∨ k = 2 ∨ k = 3 ∨ k = 4 ∨ k = 5 ∨ k = 6 ∨ k = 7 ∨ k = 8 ∨ k = 9 ∨ k = 10 ∨ k = 11 ∨ k = 12 ∨ k = 13 ∨ k = 14 ∨ k = 15 ∨ k = 16) with rfl | rfl | rfl | rfl | rfl | rfl | rfl | rfl | rfl | rfl | rfl | rfl | rfl | rfl | rfl | rfl | rfl <;> kernel_rfl
theorem word_is (a b : Int) : bits .or .u32 (a % 65536 * 65536) (b % 65536) = a % 65536 * 65536 + b % 65536 := by
  have h : ∀ A B : Nat, A < 65536 → B < 65536 → bits .or .u32 ((A : Int) * 65536) (B : Int) = (A : Int) * 65536 + B := by
    intro A B hA hB
    have e1 : (A : Int) * 65536 = ((A * 65536 : Nat) : Int) := by omega
    rw [e1, u32_or_nat _ _ (by omega) (by omega)]
    have := Nat.two_pow_add_eq_or_of_lt (i := 16) (b := B) (by omega) A
    have e2 : A * 65536 ||| B = A * 65536 + B := by rw [show A * 65536 = 2 ^ 16 * A by omega, ← this]
    rw [e2]; omega
  obtain ⟨A, hA⟩ := Int.eq_ofNat_of_zero_le (show 0 ≤ a % 65536 by omega)
  obtain ⟨B, hB⟩ := Int.eq_ofNat_of_zero_le (show 0 ≤ b % 65536 by omega)
  rw [hA, hB]
  exact h A B (by omega) (by omega)
set_option maxRecDepth 20000 in
set_option maxHeartbeats 4000000 in
theorem decode_c (a b : Int) (t : Bool) (w : World) (hT : Tabs w) : Calls Tryd.prog 5 #[.int .i64 a, .int .i64 b, .bool t] w fun e w' => e = .returned (decV (Tm.tallP Wm.tellF Tm.validI (a % 65536) (b % 65536) t)) ∧ Below w.heap.size w w' := by
  obtain ⟨X, hX⟩ : ∃ X, a % 65536 * 65536 + b % 65536 = X := ⟨_, rfl⟩
  have hx0 : 0 ≤ X := by omega
  have hx1 : X < 4294967296 := by omega
  obtain ⟨f, hf1, hf2, hf3⟩ := all_read X t hx0 hx1
  rw [show X / 65536 = a % 65536 by omega, show X % 65536 = b % 65536 by omega] at hf2 hf3
  obtain ⟨V, hV⟩ : ∃ V, Tm.tallP Wm.tellF Tm.validI (a % 65536) (b % 65536) t = V := ⟨_, rfl⟩
  rw [hV] at hf2 hf3
  rw [hV]
  have hg := fun (x : Int) W => get_c (x % 4294967296) 15 0 W (by omega) (by omega)
  have hge : ∀ x : Int, getI (x % 4294967296) 15 0 = x % 65536 := fun x => by
    rw [Om.get_n (x % 4294967296) 15 0 1 65536 (hi' := 15) (lo' := 0) rfl rfl (by decide) (by decide) (by decide) (by decide) (by omega), Int.ediv_one]; omega
  have HG := Lib.hid (fun (x : Int) W => by have h := hg x W; rw [hge x] at h; exact h)
  clear hg hge
  have ea : IntKind.u32.wrap a = a % 4294967296 := IntKind.wrap_u32 a
  have eb : IntKind.u32.wrap b = b % 4294967296 := IntKind.wrap_u32 b
  have eo : bits .or .u32 (a % 65536 * 65536) (b % 65536) = X := by rw [word_is, hX]
  have Hf1 := Lib.hid hf1
  have Hf2 := Lib.hid hf2
  have Hf3 := Lib.hid hf3
  have HT := Lib.hid hT
  clear hf1 hf2 hf3 hX hV hT
  go_enter Tryd.func5, Tryd.ntmps5
  go_wp2_with (go_at_call 7; refine (HG.out _ _).mono ?_; rintro e w' ⟨rfl, n, rfl⟩)
  have hI0 := Lib.hid (show InsAt (((w.alloc (.cells #[.int .i64 0, .int .i64 0, .int .i64 0, .int .i64 0, .int .i64 0, .int .i64 0, .int .i64 0, .int .i64 0, .bool false] 23)).alloc (.cells #[.int .u32 X, .bool t] 33))) w.heap.size Tm.Z from (InsAt.new w Tm.Z).below (al1 _ _))
  have hB0 := Lib.hid (al2 w (.cells #[.int .i64 0, .int .i64 0, .int .i64 0, .int .i64 0, .int .i64 0, .int .i64 0, .int .i64 0, .int .i64 0, .bool false] 23) (.cells #[.int .u32 X, .bool t] 33))
  go_loopw [57] (fun iv wr => ∃ k : Nat, k ≤ 17 ∧ iv = .int .i64 (k : Int) ∧ RowKit.Hid (∀ j, j < k → Nm.okB (f j) = false) ∧ RowKit.Hid (InsAt wr w.heap.size Tm.Z) ∧ RowKit.Hid (Below w.heap.size w wr)) (fun iv _ => (17 - intOf iv).toNat)
  case atStart => exact ⟨0, by omega, rfl, Lib.hid (fun j hj => absurd hj (Nat.not_lt_zero _)), Lib.hid (by first | exact hI0.out | exact ⟨hI0.out.cell, hI0.out.free, hI0.out.lt⟩), Lib.hid (by first | exact hB0.out | exact below_drewN hB0.out _)⟩
  case round =>
    obtain ⟨k, hk17, rfl, HX, HI, HW⟩ := hrel
    clear hI0 hB0
    by_cases hk : k < 17
    · have hidx := fun W => index_fn (.agg #[.int .u32 X, .bool t]) k hk W
      unfold fnsV at hidx
      have het := Lib.hid (fun xs W => fn_enter k hk xs W)
      have Hc := Lib.hid (Hf1.out k hk)
      obtain ⟨y0, y1, y2, y3, y4, y5, y6, y7, y8, hy⟩ : ∃ y0 y1 y2 y3 y4 y5 y6 y7 y8, f k = ⟨y0, y1, y2, y3, y4, y5, y6, y7, y8⟩ := ⟨_, _, _, _, _, _, _, _, _, rfl⟩
      have Hy := Lib.hid hy
      clear hy
      generalize hfk : fnAt k = fk at *
      go_wp2_with fail
      rw [het.out, Oper.upon_enter]
      refine (Hc.out _ (HT.out.below HW.out HT.out.big)).mono ?_
      rintro e w5 ⟨rfl, hb5⟩
      rw [Hy.out]
      unfold IV
      dsimp only
      have hI5 := Lib.hid (HI.out.below hb5)
      have hW5 := Lib.hid (HW.out.trans (hb5.mono HW.out.size))
      clear hb5 hidx
      go_wp2_with fail
      refine (check_c y0 y1 y2 y3 y4 y5 y6 y7 y8 _).mono ?_
      rintro e w6 ⟨rfl, hb6⟩
      have hJ6 := (InsAt.new w5 ⟨y0, y1, y2, y3, y4, y5, y6, y7, y8⟩).below hb6
      have hI6 := Lib.hid ((hI5.out.below (al1 w5 (.cells #[.int .i64 y0, .int .i64 y1, .int .i64 y2, .int .i64 y3, .int .i64 y4, .int .i64 y5, .int .i64 y6, .int .i64 y7, .bool y8] 23))).below hb6)
      have hW6 := Lib.hid (hW5.out.trans (((al1 w5 (.cells #[.int .i64 y0, .int .i64 y1, .int .i64 y2, .int .i64 y3, .int .i64 y4, .int .i64 y5, .int .i64 y6, .int .i64 y7, .bool y8] 23)).trans (hb6.mono (by simp))).mono hW5.out.size))
      have hl5 : w.heap.size < w5.heap.size := hI5.out.lt
      obtain ⟨hres, hfr, hlt⟩ := hJ6
      obtain ⟨hrr, hrf, hrl⟩ := hI6.out
      unfold insC at hres
      unfold insC Tm.Z at hrr
      dsimp only at hres hrr
      clear hb6
      cases hok : Im.checkB y0 y1 y2 y3 y4 y5 y6 y7 y8 with
      | false =>
        have hno : Nm.okB (f k) = false := by rw [Hy.out]; exact hok
        have HX2 := Lib.hid (show ∀ j, j < k + 1 → Nm.okB (f j) = false from fun j hj => by
          rcases Nat.lt_or_eq_of_le (Nat.le_of_lt_succ hj) with h | h
          · exact HX.out j h
          · rw [h]; exact hno)
        have hE : Im.errI false = 6 := rfl
        clear hno HX
        go_wp2
        go_roundw
        case rel => exact ⟨k + 1, by omega, rfl, HX2, hI6, hW6⟩
        case measure => simp [intOf]; omega
      | true =>
        have hv : V = some ⟨y0, y1, y2, y3, y4, y5, y6, y7, y8⟩ := by
          have h := Hf2.out k hk (by rw [Hy.out]; exact hok)
          rw [h, Hy.out]
        have hE : Im.errI true = 0 := rfl
        subst hv
        obtain ⟨ne1, ne2⟩ := apart hl5
        go_wp2
        refine bodyPost_ret (v := .tuple #[.agg #[.int .i64 y0, .int .i64 y1, .int .i64 y2, .int .i64 y3, .int .i64 y4, .int .i64 y5, .int .i64 y6, .int .i64 y7, .bool y8], .bool true]) (by simp [results, Tryd.f5, go_sem, hrr]) rfl ?_
        refine ⟨rfl, ?_⟩
        exact nine_set hW6.out (Nat.le_refl _) _ _ _ _ _ _ _ _ _
    · have hk' : k = 17 := by omega
      subst hk'
      have hv : V = none := Hf3.out fun j hj => HX.out j hj
      subst hv
      obtain ⟨hrr, hrf, hrl⟩ := HI.out
      unfold insC Tm.Z at hrr
      dsimp only at hrr
      go_wp2
      refine bodyPost_ret (v := .tuple #[.agg #[.int .i64 0, .int .i64 0, .int .i64 0, .int .i64 0, .int .i64 0, .int .i64 0, .int .i64 0, .int .i64 0, .bool false], .bool false]) (by simp [results, Tryd.f5, go_sem, hrr]) rfl ?_
      refine ⟨rfl, ?_⟩
      (repeat (first | with_reducible exact HW.out | (with_reducible refine Below.setCell ?_ ?_ _; rotate_left; (dsimp only; omega))))
end Tp
end Go.Proofs.YtdcnkmkaafimlaaDoor
