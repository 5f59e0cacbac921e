/- Short's pieces and beginnings: last, beginOf, the beginning that fits. No conditions but those that each fact names. Short's search over a row's beginnings. No conditions but those that each fact names. Short's allows. No conditions but those that each fact names (text by gen_ye.py). -/
import Derived.Test.YtcphhojdfpedkaaDoorGe
import Derived.Test.YtcphhojdfpedkaaDoorGy
import Derived.Test.YtcphhojdfpedkaaDoorSq
import Derived.Test.YtcphhojdfpedkaaDoorGa
import Derived.LaidMore
import Derived.Lib.LaidTab
import Derived.Deep.RegionHeld3

namespace Go.Proofs.YtcphhojdfpedkaaDoor
open Go.ChangeShapes Go.WideShapes Go.ChangeAt Go.RowKit
namespace Ys
open Sp (P bitsP clearP)
def okP (p : P) : Prop := 0 ≤ p.at_ ∧ p.at_ ≤ 16 ∧ 0 ≤ p.count ∧ p.count ≤ 16 ∧ 0 ≤ p.up ∧ p.up ≤ 15 ∧ 0 ≤ p.field ∧ p.field ≤ 8
theorem last_c (f c a u : Int) (ha : 0 ≤ a ∧ a ≤ 16) (hc : 0 ≤ c ∧ c ≤ 16) (w : World) : Calls Tryd.prog 63 #[pieceV f c a u] w fun e w' => e = .returned (.int .i64 (a + c - 1)) ∧ Below w.heap.size w w' := by
  obtain ⟨ha0, ha1⟩ := ha
  obtain ⟨hc0, hc1⟩ := hc
  unfold pieceV
  go_enter Tryd.func63, Tryd.ntmps63
  go_wp2
  go_ret
  exact ⟨rfl, (Below.refl _ _).alloc (Nat.le_refl _) _⟩
theorem bits_lt (p : P) (h : Int) (hc : p.count ≤ 16) : 0 ≤ bitsP p h ∧ bitsP p h < 65536 := by
  unfold bitsP
  have h2 : (0 : Int) < 2 ^ p.count.toNat := Int.pow_pos (by decide)
  have h3 : (2 : Int) ^ p.count.toNat ≤ 2 ^ 16 := by
    have := Nat.pow_le_pow_right (n := 2) (by decide) (show p.count.toNat ≤ 16 by omega)
    exact_mod_cast this
  have h4 := Int.emod_nonneg (h / 2 ^ p.at_.toNat) (Int.ne_of_gt h2)
  have h5 := Int.emod_lt_of_pos (h / 2 ^ p.at_.toNat) h2
  omega
theorem get_piece (p : P) (h : Int) (hp : okP p) (h0 : 0 ≤ h) : getI h (p.at_ + p.count - 1) p.at_ = bitsP p h := by
  obtain ⟨a0, a1, c0, c1, _⟩ := hp
  obtain ⟨X, rfl⟩ := Int.eq_ofNat_of_zero_le h0
  unfold getI bitsP
  by_cases hc : p.count = 0
  · rw [if_neg (by omega), hc]
    simp
  · rw [if_pos (by omega)]
    unfold Bm.getB
    rw [show (p.at_ + p.count - 1).toNat + 1 - p.at_.toNat = p.count.toNat by omega]
    simp
theorem put_piece (p : P) (h : Int) (hp : okP p) (h0 : 0 ≤ h) (h1 : h < 65536) : putI h (p.at_ + p.count - 1) p.at_ 0 = clearP h p := by
  obtain ⟨a0, a1, c0, c1, _⟩ := hp
  obtain ⟨X, rfl⟩ := Int.eq_ofNat_of_zero_le h0
  unfold putI clearP bitsP
  by_cases hc : p.count = 0
  · rw [if_neg (by omega), hc]
    simp
  · rw [if_pos (by omega)]
    have e1 : (p.at_ + p.count - 1).toNat + 1 - p.at_.toNat = p.count.toNat := by omega
    rw [e1]
    simp only [Int.toNat_natCast, Int.toNat_zero]
    generalize hl : p.at_.toNat = lo at *
    generalize hn : p.count.toNat = n at *
    have hX : X < 4294967296 := by omega
    have h2 := Bm.put_back (V := 0) (lo := lo) (n := n) hX (by omega) (by omega)
    have h3 := Bm.got_put (X := X) (V := 0) (lo := lo) (n := n) (by omega) (by omega)
    have h4 : Bm.getB 0 (n - 1) 0 = 0 := by simp [Bm.getB]
    rw [h4] at h3
    have h5 := Bm.put_lt X lo n 0 hX
    generalize Bm.putU X lo n 0 = Y at *
    unfold Bm.getB at h2 h3
    rw [show lo + n - 1 + 1 - lo = n by omega] at h2 h3
    rw [Om.putU_add h5 (by omega) h3 (Nat.mod_lt _ (Nat.two_pow_pos n))] at h2
    have h6 : ((Y + X / 2 ^ lo % 2 ^ n * 2 ^ lo : Nat) : Int) = ((X : Nat) : Int) := by rw [h2]
    simp only [Int.natCast_add, Int.natCast_mul, Int.natCast_emod, Int.natCast_ediv, Int.natCast_pow] at h6
    have h7 : ((X : Int) / 2 ^ lo % 2 ^ n) * 2 ^ lo = (X : Int) - Y := by
      have : ((2 : Nat) : Int) = 2 := rfl
      rw [this] at h6
      omega
    rw [h7]
    omega
theorem clear_bd (p : P) (h : Int) (hp : okP p) (h0 : 0 ≤ h) : 0 ≤ clearP h p ∧ clearP h p ≤ h := by
  obtain ⟨a0, a1, c0, c1, _⟩ := hp
  unfold clearP bitsP
  generalize p.at_.toNat = lo
  generalize p.count.toNat = n
  have hp2 : (0 : Int) < 2 ^ lo := Int.pow_pos (by decide)
  have hn2 : (0 : Int) < 2 ^ n := Int.pow_pos (by decide)
  have h2 := Int.emod_nonneg (h / 2 ^ lo) (Int.ne_of_gt hn2)
  have h3 : h / 2 ^ lo % 2 ^ n ≤ h / 2 ^ lo := by
    have q1 := Int.emod_def (h / 2 ^ lo) (2 ^ n)
    have q2 := Int.mul_nonneg (Int.le_of_lt hn2) (Int.ediv_nonneg (Int.ediv_nonneg h0 (Int.le_of_lt hp2)) (Int.le_of_lt hn2))
    omega
  have h4 : h / 2 ^ lo * 2 ^ lo ≤ h := Int.ediv_mul_le _ (Int.ne_of_gt hp2)
  have h5 := Int.mul_le_mul_of_nonneg_right h3 (Int.le_of_lt hp2)
  have h6 := Int.mul_nonneg h2 (Int.le_of_lt hp2)
  omega
/-! a row's cells -/
structure okR (r : Sp.R) : Prop where
  six : r.of_.length = 6
  five : r.pcs.length = 5
  fits : ∀ p ∈ r.pcs, okP p
  says : r.says = 0 ∨ r.says = 1 ∨ r.says = 2 ∨ r.says = 4 ∨ r.says = 5 ∨ r.says = 9 ∨ r.says = 16
theorem flat2 (f : Int × Int → List Value) (hf : ∀ b, (f b).length = 2) : ∀ l : List (Int × Int), (l.map f).flatten.length = 2 * l.length
  | [] => rfl
  | b :: l => by simp only [List.map_cons, List.flatten_cons, List.length_append, hf, flat2 f hf l, List.length_cons]; omega
theorem flat4 (f : P → List Value) (hf : ∀ b, (f b).length = 4) : ∀ l : List P, (l.map f).flatten.length = 4 * l.length
  | [] => rfl
  | b :: l => by simp only [List.map_cons, List.flatten_cons, List.length_append, hf, flat4 f hf l, List.length_cons]; omega
theorem of_len {r : Sp.R} (h : okR r) : (r.of_.map bgC).flatten.length = 12 := by rw [flat2 bgC (fun _ => rfl), h.six]
theorem pcs_len {r : Sp.R} (h : okR r) : (r.pcs.map pcC).flatten.length = 20 := by rw [flat4 pcC (fun _ => rfl), h.five]
theorem row_len {r : Sp.R} (h : okR r) : (rowC r).length = 42 := by
  unfold rowC
  simp only [List.length_append, of_len h, pcs_len h]
  rfl
def RowAt (w : World) (b : Nat) (r : Sp.R) : Prop := ∀ j, w.cell? ⟨b, j, none⟩ = (rowC r)[j]?
theorem RowAt.new (w : World) (r : Sp.R) (t : TypeId) : RowAt (w.alloc (.cells (rowC r).toArray t)) w.heap.size r := fun j => by
  rw [World.cell?_alloc_new]; simp
theorem RowAt.below {w w' : World} {b : Nat} {r : Sp.R} (h : RowAt w b r) (hb : Below w.heap.size w w') (hlt : b < w.heap.size) : RowAt w' b r := fun j => (hb.cell (p := ⟨b, j, none⟩) hlt).trans (h j)
theorem RowAt.all {w : World} {b : Nat} {r : Sp.R} (h : RowAt w b r) : w.rangeAt b 0 (rowC r) := fun j v hv => by rw [Nat.zero_add, h j]; exact hv
theorem RowAt.of {w : World} {b : Nat} {r : Sp.R} (h : RowAt w b r) : w.rangeAt b 0 (r.of_.map bgC).flatten := fun j v hv => by
  rw [Nat.zero_add, h j]
  unfold rowC
  have hj := (List.getElem?_eq_some_iff.1 hv).1
  rw [List.getElem?_append_left (by simp only [List.length_append]; omega), List.getElem?_append_left (by simp only [List.length_append]; omega), List.getElem?_append_left hj]
  exact hv
theorem RowAt.known {w : World} {b : Nat} {r : Sp.R} (h : RowAt w b r) (ho : okR r) : w.rangeAt b 12 (insC r.known) := fun j v hv => by
  rw [h (12 + j)]
  unfold rowC
  have hj := (List.getElem?_eq_some_iff.1 hv).1
  have hl := of_len ho
  rw [List.getElem?_append_left (by simp only [List.length_append]; omega), List.getElem?_append_left (by simp only [List.length_append]; omega), List.getElem?_append_right (by omega), hl, show 12 + j - 12 = j by omega]
  exact hv
theorem RowAt.says {w : World} {b : Nat} {r : Sp.R} (h : RowAt w b r) (ho : okR r) : w.cell? ⟨b, 21, none⟩ = some (.int .i64 r.says) := by
  rw [h 21]
  unfold rowC
  have hl := of_len ho
  have h9 : (insC r.known).length = 9 := rfl
  rw [List.getElem?_append_left (by simp only [List.length_append, hl, h9, List.length_cons, List.length_nil]; omega), List.getElem?_append_right (by simp only [List.length_append]; omega)]
  simp [hl, h9]
theorem RowAt.pcs {w : World} {b : Nat} {r : Sp.R} (h : RowAt w b r) (ho : okR r) : w.rangeAt b 22 (r.pcs.map pcC).flatten := fun j v hv => by
  rw [h (22 + j)]
  unfold rowC
  have hl := of_len ho
  have h9 : (insC r.known).length = 9 := rfl
  rw [List.getElem?_append_right (by simp only [List.length_append, List.length_cons, List.length_nil]; omega)]
  simp only [List.length_append, hl, h9, List.length_cons, List.length_nil]
  rw [show 22 + j - (12 + 9 + (0 + 1)) = j by omega]
  exact hv
theorem underPs : Tryd.prog.underlying 43 = some (.array 5 41) := by kernel_rfl
theorem infoPs : (Tryd.prog.info? 43).map (·.size) = some 20 := by kernel_rfl
theorem index_five (f0 c0 a0 u0 f1 c1 a1 u1 f2 c2 a2 u2 f3 c3 a3 u3 f4 c4 a4 u4 : Int) (k : Nat) (hk : k < 5) (w : World) : (Instr.index 43 (.agg (([⟨f0, c0, a0, u0⟩, ⟨f1, c1, a1, u1⟩, ⟨f2, c2, a2, u2⟩, ⟨f3, c3, a3, u3⟩, ⟨f4, c4, a4, u4⟩] : List P).map pcC).flatten.toArray) (.int .i64 (k : Int))).run Tryd.prog w = .ok (.agg (pcC (([⟨f0, c0, a0, u0⟩, ⟨f1, c1, a1, u1⟩, ⟨f2, c2, a2, u2⟩, ⟨f3, c3, a3, u3⟩, ⟨f4, c4, a4, u4⟩] : List P).getD k ⟨0, 0, 0, 0⟩)).toArray) w := by
  rcases (by omega : k = 0 ∨ k = 1 ∨ k = 2 ∨ k = 3 ∨ k = 4) with rfl | rfl | rfl | rfl | rfl <;> kernel_rfl
theorem index_pc (l : List P) (h : l.length = 5) (k : Nat) (hk : k < 5) (w : World) : (Instr.index 43 (.agg (l.map pcC).flatten.toArray) (.int .i64 (k : Int))).run Tryd.prog w = .ok (.agg (pcC (l.getD k ⟨0, 0, 0, 0⟩)).toArray) w := by
  match l, h with
  | [⟨f0, c0, a0, u0⟩, ⟨f1, c1, a1, u1⟩, ⟨f2, c2, a2, u2⟩, ⟨f3, c3, a3, u3⟩, ⟨f4, c4, a4, u4⟩], _ => exact index_five f0 c0 a0 u0 f1 c1 a1 u1 f2 c2 a2 u2 f3 c3 a3 u3 f4 c4 a4 u4 k hk w
theorem clears_step (l : List P) (k : Nat) (hk : k < l.length) (h : Int) : Sp.clears (l.take (k + 1)) h = clearP (Sp.clears (l.take k) h) (l.getD k ⟨0, 0, 0, 0⟩) := by
  unfold Sp.clears
  rw [List.take_add_one, List.foldl_append, List.getD_eq_getElem?_getD, List.getElem?_eq_getElem hk]
  rfl
theorem getD_mem {l : List P} {k : Nat} (hk : k < l.length) (d : P) : l.getD k d ∈ l := by
  rw [List.getD_eq_getElem?_getD, List.getElem?_eq_getElem hk]
  exact List.getElem_mem _
set_option maxRecDepth 20000 in
set_option maxHeartbeats 1000000 in
theorem beginOf_c (r : Sp.R) (ho : okR r) (h : Int) (h0 : 0 ≤ h) (h1 : h < 65536) (w : World) :
    Calls Tryd.prog 37 #[.agg (rowC r).toArray, .int .u32 h] w fun e w' => e = .returned (.int .u32 (Sp.clears r.pcs h)) ∧ Below w.heap.size w w' := by
  have hrow := RowAt.new w r 45
  have hps := hrow.pcs ho
  have hidx := Lib.hid (fun k hk W => index_pc r.pcs ho.five k hk W)
  have hl20 : (Tryd.prog.info? 43).map (·.size) = some (r.pcs.map pcC).flatten.length := by rw [pcs_len ho]; exact infoPs
  have HF := Lib.hid ho.fits
  have h5 := Lib.hid ho.five
  have hb0 : Below w.heap.size w (w.alloc (.cells (rowC r).toArray 45)) := (Below.refl _ _).alloc (Nat.le_refl _) _
  have hz0 : w.heap.size < (w.alloc (.cells (rowC r).toArray 45)).heap.size := by simp
  clear ho hrow
  obtain ⟨C, hC⟩ : ∃ C, Sp.clears r.pcs h = C := ⟨_, rfl⟩
  rw [hC]
  generalize r.pcs = l at *
  generalize (rowC r).toArray = R at *
  generalize (l.map pcC).flatten = A at *
  have HC := Lib.hid hC
  clear hC
  go_enter Tryd.func37, Tryd.ntmps37
  go_wp2_with (refine wpList_load_mid rfl 43 (.tmp 7) rfl w.heap.size 22 rfl A _ hps underPs rfl hl20 ?_)
  clear hps
  go_loopw [1, 9] (fun hv iv wr => ∃ (k : Nat) (X : Int), k ≤ 5 ∧ iv = .int .i64 (k : Int) ∧ hv = .int .u32 X ∧ RowKit.Hid (Sp.clears (l.take k) h = X) ∧ 0 ≤ X ∧ X < 65536 ∧ Below w.heap.size w wr) (fun _ iv _ => (5 - intOf iv).toNat)
  case atStart => exact ⟨0, h, by omega, rfl, rfl, Lib.hid rfl, h0, h1, hb0⟩
  case round =>
    obtain ⟨k, X, hk5, rfl, rfl, HX, hX0, hX1, hbel⟩ := hrel
    by_cases hk : k < 5
    · have hidx2 := fun W => hidx.out k hk W
      have hkl : k < l.length := by rw [h5.out]; exact hk
      have hp := HF.out _ (getD_mem hkl ⟨0, 0, 0, 0⟩)
      have hN : Sp.clears (l.take (k + 1)) h = clearP X (l.getD k ⟨0, 0, 0, 0⟩) := by rw [clears_step l k hkl, HX.out]
      have hbd := clear_bd _ X hp hX0
      have hput := put_piece _ X hp hX0 hX1
      clear HX hkl
      generalize l.getD k ⟨0, 0, 0, 0⟩ = pc at *
      obtain ⟨f, c, a, u⟩ := pc
      unfold pcC at hidx2
      dsimp only at hidx2 hput
      have HN := Lib.hid hN
      have HU := Lib.hid hput
      have HB := Lib.hid hbd
      have HL := Lib.hid (fun W => last_c f c a u ⟨hp.1, hp.2.1⟩ ⟨hp.2.2.1, hp.2.2.2.1⟩ W)
      have hsz := hbel.size
      clear hN hput hbd hp
      go_wp2
      go_region_held3 (fun w' => w'.cell? ⟨wr.heap.size, 0, none⟩ = some (.int .i64 f) ∧ w'.cell? ⟨wr.heap.size, 1, none⟩ = some (.int .i64 c) ∧ w'.cell? ⟨wr.heap.size, 2, none⟩ = some (.int .i64 a) ∧ w'.cell? ⟨wr.heap.size, 3, none⟩ = some (.int .i64 u) ∧ wr.heap.size < w'.heap.size ∧ Below w.heap.size w w')
        (first
          | (go_split_ands; refine ⟨by assumption, by assumption, by assumption, by assumption, by assumption, by first | exact below_drewN (by assumption) _ | exact below_other (by assumption) _⟩)
          | (go_split_ands; refine ⟨(hbel2.cell (by assumption)).trans (by assumption), (hbel2.cell (by assumption)).trans (by assumption), (hbel2.cell (by assumption)).trans (by assumption), (hbel2.cell (by assumption)).trans (by assumption), Nat.lt_of_lt_of_le (by assumption) hbel2.size, Below.trans (by assumption) (hbel2.mono (by omega))⟩)
          | (refine ⟨by go_simp, by go_simp, by go_simp, by go_simp, by simp, (hbel.alloc (by omega) _).drew⟩))
        (first
          | (go_at_call 63; refine (HL.out _).mono ?_; rintro e w' ⟨rfl, hbel2⟩)
          | (go_at_call 62; refine (put_c _ _ _ _ _ hX0 (by omega) (by decide) (by decide)).mono ?_; rintro e w' ⟨rfl, n2, rfl⟩))
      all_goals
        go_split_ands
        go_wp2
        go_roundw
        case rel => exact ⟨k + 1, clearP X ⟨f, c, a, u⟩, by omega, rfl, by rw [HU.out], Lib.hid HN.out, HB.out.1, by have := HB.out.2; omega, by first | assumption | exact below_other (by assumption) _⟩
        case measure => simp [intOf]; omega
    · have hk' : k = 5 := by omega
      subst hk'
      have hE : X = C := by rw [← HX.out, ← HC.out, List.take_of_length_le (by rw [h5.out]; exact Nat.le_refl _)]
      subst hE
      go_wp2
      go_ret
      exact ⟨rfl, by first | assumption | exact below_other (by assumption) _⟩
end Ys
end Go.Proofs.YtcphhojdfpedkaaDoor

namespace Go.Proofs.YtcphhojdfpedkaaDoor
open Go.ChangeShapes Go.WideShapes Go.ChangeAt Go.RowKit
namespace Ys
open Sp (P findB)
theorem fits_c (o hh X : Int) (g : Nat) (w : World) (hg : w.cell? ⟨g, 0, none⟩ = some (.int .u32 X)) :
    Calls Tryd.prog 39 #[.agg #[.int .i64 o, .int .u32 hh], .pointer (some ⟨g, 0, none⟩)] w fun e w' => e = .returned (.tuple #[.int .i64 o, .bool (decide (hh = X))]) ∧ Below w.heap.size w w' := by
  have hlt : g < w.heap.size := World.block_lt_of_cell? w _ hg
  have hg2 : (w.alloc (.cells #[.int .i64 o, .int .u32 hh] 37)).cell? ⟨g, 0, none⟩ = some (.int .u32 X) := (World.cell?_alloc_lt w _ ⟨g, 0, none⟩ hlt).trans hg
  clear hg
  go_enter Tryd.func39, Tryd.ntmps39
  go_wp2
  go_quiet (fail)
  go_wp2
  refine bodyPost_ret (v := .tuple #[.int .i64 o, .bool (hh == X)]) (by simp [results, Tryd.results39, go_sem]) rfl ?_
  refine ⟨?_, below_drewN ((Below.refl _ _).alloc (Nat.le_refl _) _) _⟩
  by_cases h : hh = X <;> simp [h]
def optB : Option Int → Value
  | none => .tuple #[.int .i64 0, .bool false]
  | some o => .tuple #[.int .i64 o, .bool true]
theorem bg_cells (l : List (Int × Int)) : ∀ k, k < l.length → (l.map bgC).flatten[k * 2]? = some (.int .i64 (l.getD k (0, 0)).1) ∧ (l.map bgC).flatten[k * 2 + 1]? = some (.int .u32 (l.getD k (0, 0)).2) := by
  induction l with
  | nil => intro k hk; cases hk
  | cons b l ih =>
    intro k hk
    cases k with
    | zero => exact ⟨rfl, rfl⟩
    | succ k =>
      have := ih k (by simpa using hk)
      rw [show (k + 1) * 2 = k * 2 + 2 by omega, show k * 2 + 2 + 1 = k * 2 + 1 + 2 by omega]
      exact this
set_option maxRecDepth 20000 in
set_option maxHeartbeats 1000000 in
theorem firstB_c (l : List (Int × Int)) (h6 : l.length = 6) (X : Int) (b g cp : Nat) (w : World) (hb : w.rangeAt b 0 (l.map bgC).flatten) (hlt : b < w.heap.size) (hg : w.cell? ⟨g, 0, none⟩ = some (.int .u32 X)) :
    Calls Tryd.prog 38 #[.slice (some ⟨b, 0, none⟩) 6 cp, .func (.func 39) #[] #[.pointer (some ⟨g, 0, none⟩)]] w fun e w' => e = .returned (optB (findB l X)) ∧ Below w.heap.size w w' := by
  have hlg : g < w.heap.size := World.block_lt_of_cell? w _ hg
  have hcs := Lib.hid (fun k (hk : k < 6) => bg_cells l k (by omega))
  obtain ⟨V, hV⟩ : ∃ V, findB l X = V := ⟨_, rfl⟩
  rw [hV]
  have HB := Lib.hid hb
  have HG := Lib.hid hg
  clear hb hg
  go_enter Tryd.func38, Tryd.ntmps38
  go_wp2
  go_loopw [13] (fun iv wr => ∃ k : Nat, k ≤ 6 ∧ iv = .int .i64 (k : Int) ∧ RowKit.Hid (findB (l.drop k) X = V) ∧ Below w.heap.size w wr) (fun iv _ => (6 - intOf iv).toNat)
  case atStart => exact ⟨0, by omega, rfl, Lib.hid hV, Below.refl _ _⟩
  case round =>
    obtain ⟨k, hk6, rfl, HX, hbel⟩ := hrel
    by_cases hk : k < 6
    · obtain ⟨e0, e1⟩ := hcs.out k hk
      have c0 : wr.cell? ⟨b, k * 2, none⟩ = some (.int .i64 (l.getD k (0, 0)).1) := (hbel.cell (p := ⟨b, k * 2, none⟩) hlt).trans (by have := HB.out _ _ e0; rwa [Nat.zero_add] at this)
      have c1 : wr.cell? ⟨b, k * 2 + 1, none⟩ = some (.int .u32 (l.getD k (0, 0)).2) := (hbel.cell (p := ⟨b, k * 2 + 1, none⟩) hlt).trans (by have := HB.out _ _ e1; rwa [Nat.zero_add] at this)
      have hkl : k < l.length := by omega
      have hN : findB (l.getD k (0, 0) :: l.drop (k + 1)) X = V := by
        rw [← HX.out, List.drop_eq_getElem_cons hkl, List.getD_eq_getElem?_getD, List.getElem?_eq_getElem hkl]; rfl
      have hG2 : wr.cell? ⟨g, 0, none⟩ = some (.int .u32 X) := (hbel.cell (p := ⟨g, 0, none⟩) hlg).trans HG.out
      have hsz := hbel.size
      clear HX e0 e1 hkl
      generalize l.getD k (0, 0) = bg at *
      obtain ⟨o, hh⟩ := bg
      unfold findB at hN
      dsimp only at hN c0 c1
      have HN := Lib.hid hN
      clear hN
      have HC := Lib.hid (fun W h => fits_c o hh X g W h)
      by_cases hq : hh = X
      · have HC2 := Lib.hid (fun W h => by have := HC.out W h; rwa [decide_eq_true hq] at this)
        have HV := HN.out
        rw [if_pos hq] at HV
        subst HV
        clear HC HN hq
        go_wp2_with (go_at_call 39; refine (HC2.out _ ((World.cell?_alloc_lt wr _ ⟨g, 0, none⟩ (Nat.lt_of_lt_of_le hlg hsz)).trans hG2)).mono ?_; rintro e w1 ⟨rfl, hb1⟩)
        refine bodyPost_ret (v := .tuple #[.int .i64 o, .bool true]) (by simp [results, Tryd.results38, go_sem]) rfl ?_
        exact ⟨rfl, (hbel.alloc (by omega) _).trans (hb1.mono (by simp; omega))⟩
      · have HC2 := Lib.hid (fun W h => by have := HC.out W h; rwa [decide_eq_false hq] at this)
        have HV := HN.out
        rw [if_neg hq] at HV
        have HV2 := Lib.hid HV
        clear HC HN hq HV
        go_wp2_with (go_at_call 39; refine (HC2.out _ ((World.cell?_alloc_lt wr _ ⟨g, 0, none⟩ (Nat.lt_of_lt_of_le hlg hsz)).trans hG2)).mono ?_; rintro e w1 ⟨rfl, hb1⟩)
        go_roundw
        case rel => exact ⟨k + 1, by omega, rfl, HV2, (hbel.alloc (by omega) _).trans (hb1.mono (by simp; omega))⟩
        case measure => simp [intOf]; omega
    · have hk' : k = 6 := by omega
      subst hk'
      have HV := HX.out
      rw [List.drop_of_length_le (by omega)] at HV
      subst HV
      clear HX
      go_wp2
      refine bodyPost_ret (v := .tuple #[.int .i64 0, .bool false]) (by simp [results, Tryd.results38, go_sem]) rfl ?_
      exact ⟨rfl, hbel⟩
end Ys
end Go.Proofs.YtcphhojdfpedkaaDoor

namespace Go.Proofs.YtcphhojdfpedkaaDoor
open Go.ChangeShapes Go.WideShapes Go.ChangeAt Go.RowKit
namespace Ys
theorem two_b (w : World) (a b : Obj) : Below w.heap.size w ((w.alloc a).alloc b) := ((Below.refl _ _).alloc (Nat.le_refl _) _).alloc (by simp) _
set_option maxRecDepth 20000 in
theorem allows_s0 (R : Array Value) (hR : R[21]? = some (.int .i64 0)) (op cond rd rn rm imm mode list : Int) (s it : Bool) (w : World) :
    Calls Tryd.prog 41 #[.agg R, .agg #[.int .i64 op, .int .i64 cond, .int .i64 rd, .int .i64 rn, .int .i64 rm, .int .i64 imm, .int .i64 mode, .int .i64 list, .bool s], .bool it] w fun e w' => e = .returned (.bool (true)) ∧ Below w.heap.size w w' := by
  have m1 : bits .and .i64 0 1 = 0 := by kernel_rfl
  have m2 : bits .and .i64 0 2 = 0 := by kernel_rfl
  have m8 : bits .and .i64 0 8 = 0 := by kernel_rfl
  have m16 : bits .and .i64 0 16 = 0 := by kernel_rfl
  go_enter Tryd.func41, Tryd.ntmps41
  go_wp2
  refine bodyPost_ret (v := .bool true) (by simp [results, Tryd.results41, go_sem]) rfl ?_
  exact ⟨rfl, two_b _ _ _⟩
set_option maxRecDepth 20000 in
theorem allows_s1 (R : Array Value) (hR : R[21]? = some (.int .i64 1)) (op cond rd rn rm imm mode list : Int) (s it : Bool) (w : World) :
    Calls Tryd.prog 41 #[.agg R, .agg #[.int .i64 op, .int .i64 cond, .int .i64 rd, .int .i64 rn, .int .i64 rm, .int .i64 imm, .int .i64 mode, .int .i64 list, .bool s], .bool it] w fun e w' => e = .returned (.bool (!it)) ∧ Below w.heap.size w w' := by
  have m1 : bits .and .i64 1 1 = 1 := by kernel_rfl
  have m2 : bits .and .i64 1 2 = 0 := by kernel_rfl
  have m8 : bits .and .i64 1 8 = 0 := by kernel_rfl
  have m16 : bits .and .i64 1 16 = 0 := by kernel_rfl
  cases it
  · go_enter Tryd.func41, Tryd.ntmps41
    go_wp2
    refine bodyPost_ret (v := .bool true) (by simp [results, Tryd.results41, go_sem]) rfl ?_
    exact ⟨rfl, two_b _ _ _⟩
  · go_enter Tryd.func41, Tryd.ntmps41
    go_wp2
    refine bodyPost_ret (v := .bool false) (by simp [results, Tryd.results41, go_sem]) rfl ?_
    exact ⟨rfl, two_b _ _ _⟩
set_option maxRecDepth 20000 in
theorem allows_s2 (R : Array Value) (hR : R[21]? = some (.int .i64 2)) (op cond rd rn rm imm mode list : Int) (s it : Bool) (w : World) :
    Calls Tryd.prog 41 #[.agg R, .agg #[.int .i64 op, .int .i64 cond, .int .i64 rd, .int .i64 rn, .int .i64 rm, .int .i64 imm, .int .i64 mode, .int .i64 list, .bool s], .bool it] w fun e w' => e = .returned (.bool (it)) ∧ Below w.heap.size w w' := by
  have m1 : bits .and .i64 2 1 = 0 := by kernel_rfl
  have m2 : bits .and .i64 2 2 = 2 := by kernel_rfl
  have m8 : bits .and .i64 2 8 = 0 := by kernel_rfl
  have m16 : bits .and .i64 2 16 = 0 := by kernel_rfl
  cases it
  · go_enter Tryd.func41, Tryd.ntmps41
    go_wp2
    refine bodyPost_ret (v := .bool false) (by simp [results, Tryd.results41, go_sem]) rfl ?_
    exact ⟨rfl, two_b _ _ _⟩
  · go_enter Tryd.func41, Tryd.ntmps41
    go_wp2
    refine bodyPost_ret (v := .bool true) (by simp [results, Tryd.results41, go_sem]) rfl ?_
    exact ⟨rfl, two_b _ _ _⟩
set_option maxRecDepth 20000 in
theorem allows_s4 (R : Array Value) (hR : R[21]? = some (.int .i64 4)) (op cond rd rn rm imm mode list : Int) (s it : Bool) (w : World) :
    Calls Tryd.prog 41 #[.agg R, .agg #[.int .i64 op, .int .i64 cond, .int .i64 rd, .int .i64 rn, .int .i64 rm, .int .i64 imm, .int .i64 mode, .int .i64 list, .bool s], .bool it] w fun e w' => e = .returned (.bool (true)) ∧ Below w.heap.size w w' := by
  have m1 : bits .and .i64 4 1 = 0 := by kernel_rfl
  have m2 : bits .and .i64 4 2 = 0 := by kernel_rfl
  have m8 : bits .and .i64 4 8 = 0 := by kernel_rfl
  have m16 : bits .and .i64 4 16 = 0 := by kernel_rfl
  go_enter Tryd.func41, Tryd.ntmps41
  go_wp2
  refine bodyPost_ret (v := .bool true) (by simp [results, Tryd.results41, go_sem]) rfl ?_
  exact ⟨rfl, two_b _ _ _⟩
set_option maxRecDepth 20000 in
theorem allows_s5 (R : Array Value) (hR : R[21]? = some (.int .i64 5)) (op cond rd rn rm imm mode list : Int) (s it : Bool) (w : World) :
    Calls Tryd.prog 41 #[.agg R, .agg #[.int .i64 op, .int .i64 cond, .int .i64 rd, .int .i64 rn, .int .i64 rm, .int .i64 imm, .int .i64 mode, .int .i64 list, .bool s], .bool it] w fun e w' => e = .returned (.bool (!it)) ∧ Below w.heap.size w w' := by
  have m1 : bits .and .i64 5 1 = 1 := by kernel_rfl
  have m2 : bits .and .i64 5 2 = 0 := by kernel_rfl
  have m8 : bits .and .i64 5 8 = 0 := by kernel_rfl
  have m16 : bits .and .i64 5 16 = 0 := by kernel_rfl
  cases it
  · go_enter Tryd.func41, Tryd.ntmps41
    go_wp2
    refine bodyPost_ret (v := .bool true) (by simp [results, Tryd.results41, go_sem]) rfl ?_
    exact ⟨rfl, two_b _ _ _⟩
  · go_enter Tryd.func41, Tryd.ntmps41
    go_wp2
    refine bodyPost_ret (v := .bool false) (by simp [results, Tryd.results41, go_sem]) rfl ?_
    exact ⟨rfl, two_b _ _ _⟩
set_option maxRecDepth 20000 in
theorem allows_s9 (R : Array Value) (hR : R[21]? = some (.int .i64 9)) (op cond rd rn rm imm mode list : Int) (s it : Bool) (w : World) :
    Calls Tryd.prog 41 #[.agg R, .agg #[.int .i64 op, .int .i64 cond, .int .i64 rd, .int .i64 rn, .int .i64 rm, .int .i64 imm, .int .i64 mode, .int .i64 list, .bool s], .bool it] w fun e w' => e = .returned (.bool ((!it && !(cond == 14)))) ∧ Below w.heap.size w w' := by
  have m1 : bits .and .i64 9 1 = 1 := by kernel_rfl
  have m2 : bits .and .i64 9 2 = 0 := by kernel_rfl
  have m8 : bits .and .i64 9 8 = 8 := by kernel_rfl
  have m16 : bits .and .i64 9 16 = 0 := by kernel_rfl
  cases it
  · by_cases hc : cond = 14
    · subst hc
      go_enter Tryd.func41, Tryd.ntmps41
      go_wp2
      refine bodyPost_ret (v := .bool false) (by simp [results, Tryd.results41, go_sem]) rfl ?_
      exact ⟨rfl, two_b _ _ _⟩
    · have hcb : (cond == 14) = false := by simp [hc]
      rw [hcb]
      go_enter Tryd.func41, Tryd.ntmps41
      go_wp2
      refine bodyPost_ret (v := .bool true) (by simp [results, Tryd.results41, go_sem]) rfl ?_
      exact ⟨rfl, two_b _ _ _⟩
  · go_enter Tryd.func41, Tryd.ntmps41
    go_wp2
    refine bodyPost_ret (v := .bool false) (by simp [results, Tryd.results41, go_sem]) rfl ?_
    exact ⟨rfl, two_b _ _ _⟩
set_option maxRecDepth 20000 in
theorem allows_s16 (R : Array Value) (hR : R[21]? = some (.int .i64 16)) (op cond rd rn rm imm mode list : Int) (s it : Bool) (w : World) :
    Calls Tryd.prog 41 #[.agg R, .agg #[.int .i64 op, .int .i64 cond, .int .i64 rd, .int .i64 rn, .int .i64 rm, .int .i64 imm, .int .i64 mode, .int .i64 list, .bool s], .bool it] w fun e w' => e = .returned (.bool (!(decide (rn < 8) && decide (rm < 8)))) ∧ Below w.heap.size w w' := by
  have m1 : bits .and .i64 16 1 = 0 := by kernel_rfl
  have m2 : bits .and .i64 16 2 = 0 := by kernel_rfl
  have m8 : bits .and .i64 16 8 = 0 := by kernel_rfl
  have m16 : bits .and .i64 16 16 = 16 := by kernel_rfl
  by_cases h1 : rn < 8
  · have d1 : decide (rn < 8) = true := decide_eq_true h1
    by_cases h2 : rm < 8
    · have d2 : decide (rm < 8) = true := decide_eq_true h2
      rw [d1, d2]
      go_enter Tryd.func41, Tryd.ntmps41
      go_wp2
      refine bodyPost_ret (v := .bool false) (by simp [results, Tryd.results41, go_sem]) rfl ?_
      exact ⟨rfl, two_b _ _ _⟩
    · have d2 : decide (rm < 8) = false := decide_eq_false h2
      rw [d1, d2]
      go_enter Tryd.func41, Tryd.ntmps41
      go_wp2
      refine bodyPost_ret (v := .bool true) (by simp [results, Tryd.results41, go_sem]) rfl ?_
      exact ⟨rfl, two_b _ _ _⟩
  · have d1 : decide (rn < 8) = false := decide_eq_false h1
    rw [d1]
    go_enter Tryd.func41, Tryd.ntmps41
    go_wp2
    refine bodyPost_ret (v := .bool true) (by simp [results, Tryd.results41, go_sem]) rfl ?_
    exact ⟨rfl, two_b _ _ _⟩
theorem row_says {r : Sp.R} (ho : okR r) : (rowC r).toArray[21]? = some (.int .i64 r.says) := by
  have h := (RowAt.new { (default : World) with heap := #[] } r 0).says ho
  rw [← h, World.cell?_alloc_new]
theorem allows_c (r : Sp.R) (ho : okR r) (i : Nm.I) (it : Bool) (w : World) :
    Calls Tryd.prog 41 #[.agg (rowC r).toArray, .agg (insC i).toArray, .bool it] w fun e w' => e = .returned (.bool (Sp.allowsB r.says i it)) ∧ Below w.heap.size w w' := by
  have hR := row_says ho
  generalize (rowC r).toArray = R at *
  obtain ⟨op, cond, rd, rn, rm, imm, mode, list, s⟩ := i
  have hs := ho.says
  clear ho
  generalize r.says = sy at *
  rcases hs with rfl | rfl | rfl | rfl | rfl | rfl | rfl
  · rw [Sp.allow_0]; exact allows_s0 R hR op cond rd rn rm imm mode list s it w
  · rw [Sp.allow_1]; exact allows_s1 R hR op cond rd rn rm imm mode list s it w
  · rw [Sp.allow_2]; exact allows_s2 R hR op cond rd rn rm imm mode list s it w
  · rw [Sp.allow_4]; exact allows_s4 R hR op cond rd rn rm imm mode list s it w
  · rw [Sp.allow_5]; exact allows_s5 R hR op cond rd rn rm imm mode list s it w
  · rw [Sp.allow_9]; exact allows_s9 R hR op cond rd rn rm imm mode list s it w
  · rw [Sp.allow_16]; exact allows_s16 R hR op cond rd rn rm imm mode list s it w
end Ys
end Go.Proofs.YtcphhojdfpedkaaDoor
