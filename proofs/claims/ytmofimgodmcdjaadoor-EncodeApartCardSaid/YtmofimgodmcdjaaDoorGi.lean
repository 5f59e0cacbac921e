/- The contracts of wide's functions that take pieces of an instruction, as chains of bitwise sums. No conditions but those that each fact names. The contracts of wide's functions that take an instruction or not. No conditions but those that each fact names. The contracts of the functions in wide's forms, by number. No conditions but those that each fact names. -/
import Derived.Test.YtmofimgodmcdjaaDoorRows
import Derived.Test.YtmofimgodmcdjaaDoorGj
import Derived.Test.YtmofimgodmcdjaaDoorGe
import Derived.Test.YtmofimgodmcdjaaDoorGx
import Derived.Deep.RegionHeld3
import Derived.Test.YtmofimgodmcdjaaDoorXt

namespace Go.Proofs.YtmofimgodmcdjaaDoor
open Go.ChangeShapes Go.WideShapes Go.ChangeAt Go.RowKit
namespace Xw

/-- w's instruction lies in the block behind it, and all that was there at w -/
structure Box (w : World) (op cond rd rn rm imm mode list : Int) (s : Bool) (W : World) : Prop where
  bel : Below w.heap.size w W
  c : ∀ j, W.cell? ⟨w.heap.size, j, none⟩ = (#[.int .i64 op, .int .i64 cond, .int .i64 rd, .int .i64 rn, .int .i64 rm, .int .i64 imm, .int .i64 mode, .int .i64 list, .bool s] : Array Value)[j]?
  lt : w.heap.size < W.heap.size
theorem Box.step {w W W' : World} {op cond rd rn rm imm mode list : Int} {s : Bool} (h : Box w op cond rd rn rm imm mode list s W) (hb : Below W.heap.size W W') : Box w op cond rd rn rm imm mode list s W' :=
  ⟨h.bel.trans (hb.mono h.bel.size), fun j => (hb.cell (p := ⟨w.heap.size, j, none⟩) h.lt).trans (h.c j), Nat.lt_of_lt_of_le h.lt hb.size⟩
theorem Box.start (w : World) (op cond rd rn rm imm mode list : Int) (s : Bool) (t : TypeId) : Box w op cond rd rn rm imm mode list s (w.alloc (.cells #[.int .i64 op, .int .i64 cond, .int .i64 rd, .int .i64 rn, .int .i64 rm, .int .i64 imm, .int .i64 mode, .int .i64 list, .bool s] t)) :=
  ⟨one_b _ _, fun j => World.cell?_alloc_new w _ t j, by simp⟩
theorem Box.drewn {w W : World} {op cond rd rn rm imm mode list : Int} {s : Bool} (h : Box w op cond rd rn rm imm mode list s W) (m : Nat) : Box w op cond rd rn rm imm mode list s (W.drewN m) := h.step (below_drewN (Below.refl _ _) _)
theorem Box.drew {w W : World} {op cond rd rn rm imm mode list : Int} {s : Bool} (h : Box w op cond rd rn rm imm mode list s W) : Box w op cond rd rn rm imm mode list s W.drew := h.drewn 1
theorem Box.other {w W : World} {op cond rd rn rm imm mode list : Int} {s : Bool} {a : Nat} (h : Box w op cond rd rn rm imm mode list s (W.drewN a)) (b : Nat) : Box w op cond rd rn rm imm mode list s (W.drewN b) :=
  ⟨⟨h.bel.os, h.bel.tape, h.bel.output, h.bel.size, h.bel.block⟩, h.c, h.lt⟩
def HeldQ (w : World) (op cond rd rn rm imm mode list : Int) (s : Bool) (w' : World) : Prop := w'.cell? ⟨w.heap.size, 0, none⟩ = some (.int .i64 op) ∧ w'.cell? ⟨w.heap.size, 1, none⟩ = some (.int .i64 cond) ∧ w'.cell? ⟨w.heap.size, 2, none⟩ = some (.int .i64 rd) ∧ w'.cell? ⟨w.heap.size, 3, none⟩ = some (.int .i64 rn) ∧ w'.cell? ⟨w.heap.size, 4, none⟩ = some (.int .i64 rm) ∧ w'.cell? ⟨w.heap.size, 5, none⟩ = some (.int .i64 imm) ∧ w'.cell? ⟨w.heap.size, 6, none⟩ = some (.int .i64 mode) ∧ w'.cell? ⟨w.heap.size, 7, none⟩ = some (.int .i64 list) ∧ w'.cell? ⟨w.heap.size, 8, none⟩ = some (.bool s) ∧ Box w op cond rd rn rm imm mode list s w'
theorem Box.held {w W : World} {op cond rd rn rm imm mode list : Int} {s : Bool} (h : Box w op cond rd rn rm imm mode list s W) : HeldQ w op cond rd rn rm imm mode list s W := ⟨h.c 0, h.c 1, h.c 2, h.c 3, h.c 4, h.c 5, h.c 6, h.c 7, h.c 8, h⟩

def regR (rn rd rm : Int) (s : Bool) : Int :=
  if s = true then bits .or .u32 (bits .or .u32 (bits .or .u32 (rn % 4294967296 * 65536 % 4294967296) (rd % 4294967296 * 256 % 4294967296)) (rm % 4294967296)) 1048576
  else bits .or .u32 (bits .or .u32 (rn % 4294967296 * 65536 % 4294967296) (rd % 4294967296 * 256 % 4294967296)) (rm % 4294967296)
def x12R (n : Int) : Int := bits .or .u32 (bits .or .u32 (getI n 11 11 * 67108864 % 4294967296) (getI n 10 8 * 4096 % 4294967296)) (getI n 7 0)
def distR (n : Int) : Int := if n < 0 then wrap64 (-n) % 4294967296 else n % 4294967296
def offA (k n : Int) : Int := if fitsB k n = true then putA k n else 0
def offB (k n : Int) : Int := if fitsB k n = true then putB k n else 0
def offR (k n : Int) : Int := bits .or .u32 (offA k n % 4294967296 * 65536 % 4294967296) (offB k n % 4294967296)
def expandedR (rn rd rm imm : Int) (s : Bool) : Int := bits .or .u32 (regR rn rd rm s) (x12R (findI (imm % 4294967296) % 4294967296))
def amountR (rn rd rm imm : Int) (s : Bool) : Int := bits .or .u32 (regR rn rd rm s) (x12R (distR imm))
def shiftedR (rn rd rm imm : Int) (s : Bool) : Int :=
  bits .or .u32 (bits .or .u32 (bits .or .u32 (regR 0 rd rm s) (rn % 4294967296)) (getI (imm % 4294967296) 4 2 * 4096 % 4294967296)) (getI (imm % 4294967296) 1 0 * 64 % 4294967296)
def halfR (rn rd rm imm : Int) (s : Bool) : Int := bits .or .u32 (bits .or .u32 (regR rn rd rm s) (getI (imm % 4294967296) 15 12 * 65536 % 4294967296)) (x12R (imm % 4294967296))
def loadedR (rn rd rm imm : Int) : Int := bits .or .u32 (bits .or .u32 (bits .or .u32 (rn % 4294967296 * 65536 % 4294967296) (rd % 4294967296 * 4096 % 4294967296)) (distR imm)) (rm % 4294967296)
def listedR (rn list : Int) : Int := bits .or .u32 (rn % 4294967296 * 65536 % 4294967296) (list % 4294967296)
def nearR (cond imm : Int) : Int := bits .or .u32 (cond % 4294967296 * 4194304 % 4294967296) (offR 3 imm)

theorem m32 (x : Int) : 0 ≤ x % 4294967296 ∧ x % 4294967296 < 4294967296 := by omega
theorem dist_bd (n : Int) : 0 ≤ distR n ∧ distR n < 4294967296 := by unfold distR; split <;> omega
set_option maxRecDepth 100000 in
theorem registers_c (op cond rd rn rm imm mode list : Int) (s : Bool) (w : World) :
    Calls Tryd.prog 32 #[.agg #[.int .i64 op, .int .i64 cond, .int .i64 rd, .int .i64 rn, .int .i64 rm, .int .i64 imm, .int .i64 mode, .int .i64 list, .bool s]] w fun e w' => e = .returned (.int .u32 (regR rn rd rm s)) ∧ Below w.heap.size w w' := by
  cases s with
  | true =>
    go_enter Tryd.func32, Tryd.ntmps32
    go_wp2
    go_ret
    exact ⟨rfl, (Below.refl _ _).alloc (Nat.le_refl _) _⟩
  | false =>
    go_enter Tryd.func32, Tryd.ntmps32
    go_wp2
    go_ret
    exact ⟨rfl, (Below.refl _ _).alloc (Nat.le_refl _) _⟩
theorem distance_c (n : Int) (w : World) :
    Calls Tryd.prog 61 #[.int .i64 n] w fun e w' => e = .returned (.int .u32 (distR n)) ∧ ∃ k, w' = w.drewN k := by
  unfold distR
  by_cases h : n < 0
  · rw [if_pos h]
    go_enter Tryd.func61, Tryd.ntmps61
    go_wp2
    go_ret
    exact ⟨rfl, 0, rfl⟩
  · rw [if_neg h]
    go_enter Tryd.func61, Tryd.ntmps61
    go_wp2
    go_ret
    exact ⟨rfl, 0, rfl⟩
theorem x12_c (n : Int) (w : World) (h0 : 0 ≤ n) (h1 : n < 4294967296) :
    Calls Tryd.prog 60 #[.int .u32 n] w fun e w' => e = .returned (.int .u32 (x12R n)) ∧ ∃ k, w' = w.drewN k := by
  go_enter Tryd.func60, Tryd.ntmps60
  go_wp2_with fail
  refine (get_c _ _ _ _ h0 h1).mono ?_
  rintro e w1 ⟨rfl, n1, rfl⟩
  go_wp2_with fail
  refine (get_c _ _ _ _ h0 h1).mono ?_
  rintro e w2 ⟨rfl, n2, rfl⟩
  go_wp2_with fail
  refine (get_c _ _ _ _ h0 h1).mono ?_
  rintro e w3 ⟨rfl, n3, rfl⟩
  go_wp2
  go_ret
  exact ⟨rfl, n1 + n2 + n3, rfl⟩
theorem offset_c (k n : Int) (w : World) (hT : Tabs w) :
    Calls Tryd.prog 62 #[.int .i64 k, .int .i64 n] w fun e w' => e = .returned (.int .u32 (offR k n)) ∧ Below w.heap.size w w' := by
  unfold offR offA offB
  cases hf : fitsB k n with
  | true =>
    have hc := oput_c k n w hT hf
    rw [if_pos rfl, if_pos rfl]
    generalize putA k n = a at *
    generalize putB k n = b at *
    have HC := Lib.hid hc
    clear hc hf
    go_enter Tryd.func62, Tryd.ntmps62
    go_wp2_with fail
    refine HC.out.mono ?_
    rintro e w1 ⟨rfl, hb⟩
    go_wp2
    go_ret
    exact ⟨rfl, hb⟩
  | false =>
    have HC := Lib.hid (oput_no k n w hT hf)
    clear hf
    rw [if_neg Bool.false_ne_true, if_neg Bool.false_ne_true]
    go_enter Tryd.func62, Tryd.ntmps62
    go_wp2_with fail
    refine HC.out.mono ?_
    rintro e w1 ⟨rfl, hb⟩
    go_wp2
    go_ret
    exact ⟨rfl, hb⟩
set_option maxRecDepth 100000 in
theorem expanded_c (op cond rd rn rm imm mode list : Int) (s : Bool) (w : World) :
    Calls Tryd.prog 28 #[.agg #[.int .i64 op, .int .i64 cond, .int .i64 rd, .int .i64 rn, .int .i64 rm, .int .i64 imm, .int .i64 mode, .int .i64 list, .bool s]] w fun e w' => e = .returned (.int .u32 (expandedR rn rd rm imm s)) ∧ Below w.heap.size w w' := by
  unfold expandedR
  obtain ⟨h0, h1⟩ := m32 imm
  obtain ⟨h2, h3⟩ := m32 (findI (imm % 4294967296))
  have HF := Lib.hid (fun W => find_c (imm % 4294967296) W h0 h1)
  have HX := Lib.hid (fun W => x12_c (findI (imm % 4294967296) % 4294967296) W h2 h3)
  clear h0 h1 h2 h3
  have HR := Lib.hid (fun W => registers_c op cond rd rn rm imm mode list s W)
  generalize findI (imm % 4294967296) = f at *
  generalize x12R (f % 4294967296) = x at *
  generalize regR rn rd rm s = r at *
  go_enter Tryd.func28, Tryd.ntmps28
  go_wp2_with fail
  refine (HF.out _).mono ?_
  rintro e w1 ⟨rfl, n1, rfl⟩
  go_wp2_with fail
  refine (HR.out _).mono ?_
  rintro e w2 ⟨rfl, hb⟩
  go_wp2_with fail
  refine (HX.out _).mono ?_
  rintro e w3 ⟨rfl, n3, rfl⟩
  go_wp2
  go_ret
  exact ⟨rfl, below_drewN ((below_drewN ((Below.refl _ _).alloc (Nat.le_refl _) _) _).trans (hb.mono (by simp))) _⟩
set_option maxRecDepth 100000 in
theorem half_c (op cond rd rn rm imm mode list : Int) (s : Bool) (w : World) :
    Calls Tryd.prog 37 #[.agg #[.int .i64 op, .int .i64 cond, .int .i64 rd, .int .i64 rn, .int .i64 rm, .int .i64 imm, .int .i64 mode, .int .i64 list, .bool s]] w fun e w' => e = .returned (.int .u32 (halfR rn rd rm imm s)) ∧ Below w.heap.size w w' := by
  unfold halfR
  obtain ⟨h0, h1⟩ := m32 imm
  have HG := Lib.hid (fun W => get_c (imm % 4294967296) 15 12 W h0 h1)
  have HX := Lib.hid (fun W => x12_c (imm % 4294967296) W h0 h1)
  clear h0 h1
  have HR := Lib.hid (fun W => registers_c op cond rd rn rm imm mode list s W)
  generalize x12R (imm % 4294967296) = x at *
  generalize getI (imm % 4294967296) 15 12 = g at *
  generalize regR rn rd rm s = r at *
  go_enter Tryd.func37, Tryd.ntmps37
  go_wp2_with fail
  refine (HR.out _).mono ?_
  rintro e w2 ⟨rfl, hb⟩
  go_wp2_with fail
  refine (HG.out _).mono ?_
  rintro e w1 ⟨rfl, n1, rfl⟩
  go_wp2_with fail
  refine (HX.out _).mono ?_
  rintro e w3 ⟨rfl, n3, rfl⟩
  go_wp2
  go_ret
  exact ⟨rfl, below_drewN (((Below.refl _ _).alloc (Nat.le_refl _) _).trans (hb.mono (by simp))) _⟩
set_option maxRecDepth 100000 in
theorem shifted_c (op cond rd rn rm imm mode list : Int) (s : Bool) (w : World) :
    Calls Tryd.prog 34 #[.agg #[.int .i64 op, .int .i64 cond, .int .i64 rd, .int .i64 rn, .int .i64 rm, .int .i64 imm, .int .i64 mode, .int .i64 list, .bool s]] w fun e w' => e = .returned (.int .u32 (shiftedR rn rd rm imm s)) ∧ Below w.heap.size w w' := by
  unfold shiftedR
  obtain ⟨h0, h1⟩ := m32 imm
  have HG := Lib.hid (fun W => get_c (imm % 4294967296) 4 2 W h0 h1)
  have HX := Lib.hid (fun W => get_c (imm % 4294967296) 1 0 W h0 h1)
  clear h0 h1
  have HR := Lib.hid (fun W => registers_c op cond rd 0 rm imm mode list s W)
  generalize getI (imm % 4294967296) 4 2 = g at *
  generalize getI (imm % 4294967296) 1 0 = x at *
  generalize regR 0 rd rm s = r at *
  go_enter Tryd.func34, Tryd.ntmps34
  go_wp2_with fail
  go_quiet (fail)
  go_wp2_with fail
  refine (HR.out _).mono ?_
  rintro e w2 ⟨rfl, hb⟩
  go_wp2_with fail
  refine (HG.out _).mono ?_
  rintro e w1 ⟨rfl, n1, rfl⟩
  go_wp2_with fail
  refine (HX.out _).mono ?_
  rintro e w3 ⟨rfl, n3, rfl⟩
  go_wp2
  go_ret
  exact ⟨rfl, below_drewN ((below_drewN ((Below.refl _ _).alloc (Nat.le_refl _) _) _).trans (hb.mono (by simp))) _⟩
set_option maxHeartbeats 4000000 in
set_option maxRecDepth 100000 in
theorem amount_c (op cond rd rn rm imm mode list : Int) (s : Bool) (w : World) :
    Calls Tryd.prog 30 #[.agg #[.int .i64 op, .int .i64 cond, .int .i64 rd, .int .i64 rn, .int .i64 rm, .int .i64 imm, .int .i64 mode, .int .i64 list, .bool s]] w fun e w' => e = .returned (.int .u32 (amountR rn rd rm imm s)) ∧ Below w.heap.size w w' := by
  unfold amountR
  have HB := Lib.hid (Box.start w op cond rd rn rm imm mode list s 23)
  obtain ⟨h0, h1⟩ := dist_bd imm
  have HX := Lib.hid (fun W => x12_c (distR imm) W h0 h1)
  clear h0 h1
  have HD := Lib.hid (fun W => distance_c imm W)
  have HR := Lib.hid (fun W => registers_c op cond rd rn rm imm mode list s W)
  generalize x12R (distR imm) = x at *
  generalize distR imm = d at *
  generalize regR rn rd rm s = r at *
  go_enter Tryd.func30, Tryd.ntmps30
  go_wp2_with fail
  go_region_held3 (fun w' => w'.cell? ⟨w.heap.size, 0, none⟩ = some (.int .i64 op) ∧ w'.cell? ⟨w.heap.size, 1, none⟩ = some (.int .i64 cond) ∧ w'.cell? ⟨w.heap.size, 2, none⟩ = some (.int .i64 rd) ∧ w'.cell? ⟨w.heap.size, 3, none⟩ = some (.int .i64 rn) ∧ w'.cell? ⟨w.heap.size, 4, none⟩ = some (.int .i64 rm) ∧ w'.cell? ⟨w.heap.size, 5, none⟩ = some (.int .i64 imm) ∧ w'.cell? ⟨w.heap.size, 6, none⟩ = some (.int .i64 mode) ∧ w'.cell? ⟨w.heap.size, 7, none⟩ = some (.int .i64 list) ∧ w'.cell? ⟨w.heap.size, 8, none⟩ = some (.bool s) ∧ Box w op cond rd rn rm imm mode list s w')
    (first
      | (exact HB.out.drew.held)
      | (exact HB.out.held)
      | (exact (HB.out.other _).held)
      | (go_split_ands; exact (Box.drewn (by assumption) _).held)
      | (go_split_ands; exact (Box.other (by assumption) _).held)
      | (go_split_ands; exact (Box.step (by assumption) hbel).held))
    (first
      | (go_at_call 32; refine (HR.out _).mono ?_; rintro e w' ⟨rfl, hbel⟩)
      | (go_at_call 61; refine (HD.out _).mono ?_; rintro e w' ⟨rfl, n1, rfl⟩)
      | (go_at_call 60; refine (HX.out _).mono ?_; rintro e w' ⟨rfl, n2, rfl⟩))
  all_goals
    go_split_ands
    go_wp2
    go_ret
    exact ⟨rfl, (Box.bel (by assumption))⟩
set_option maxRecDepth 100000 in
theorem loaded_c (op cond rd rn rm imm mode list : Int) (s : Bool) (w : World) :
    Calls Tryd.prog 38 #[.agg #[.int .i64 op, .int .i64 cond, .int .i64 rd, .int .i64 rn, .int .i64 rm, .int .i64 imm, .int .i64 mode, .int .i64 list, .bool s]] w fun e w' => e = .returned (.int .u32 (loadedR rn rd rm imm)) ∧ Below w.heap.size w w' := by
  unfold loadedR
  have HD := fun W => distance_c imm W
  generalize distR imm = d at *
  replace HD := Lib.hid HD
  go_enter Tryd.func38, Tryd.ntmps38
  go_wp2_with fail
  go_quiet ((go_at_call 61; first | exact Calls.quiet_of (HD.out _) | exact drawn_on (HD.out _)))
  go_wp2
  go_ret
  exact ⟨rfl, below_drewN ((Below.refl _ _).alloc (Nat.le_refl _) _) _⟩
theorem listed_c (op cond rd rn rm imm mode list : Int) (s : Bool) (w : World) :
    Calls Tryd.prog 39 #[.agg #[.int .i64 op, .int .i64 cond, .int .i64 rd, .int .i64 rn, .int .i64 rm, .int .i64 imm, .int .i64 mode, .int .i64 list, .bool s]] w fun e w' => e = .returned (.int .u32 (listedR rn list)) ∧ Below w.heap.size w w' := by
  go_enter Tryd.func39, Tryd.ntmps39
  go_wp2
  go_ret
  exact ⟨rfl, (Below.refl _ _).alloc (Nat.le_refl _) _⟩
set_option maxHeartbeats 4000000 in
theorem nearBranch_c (op cond rd rn rm imm mode list : Int) (s : Bool) (w : World) (hT : Tabs w) :
    Calls Tryd.prog 42 #[.agg #[.int .i64 op, .int .i64 cond, .int .i64 rd, .int .i64 rn, .int .i64 rm, .int .i64 imm, .int .i64 mode, .int .i64 list, .bool s]] w fun e w' => e = .returned (.int .u32 (nearR cond imm)) ∧ Below w.heap.size w w' := by
  unfold nearR
  have HB := Lib.hid (Box.start w op cond rd rn rm imm mode list s 23)
  have hO : ∀ W, Below w.heap.size w W → Calls Tryd.prog 62 #[.int .i64 3, .int .i64 imm] W fun e w' => e = .returned (.int .u32 (offR 3 imm)) ∧ Below W.heap.size W w' := fun W hb => offset_c 3 imm W (hT.below hb hT.big)
  generalize offR 3 imm = x at *
  replace hO := Lib.hid hO
  clear hT
  go_enter Tryd.func42, Tryd.ntmps42
  go_wp2_with fail
  go_region_held3 (fun w' => w'.cell? ⟨w.heap.size, 0, none⟩ = some (.int .i64 op) ∧ w'.cell? ⟨w.heap.size, 1, none⟩ = some (.int .i64 cond) ∧ w'.cell? ⟨w.heap.size, 2, none⟩ = some (.int .i64 rd) ∧ w'.cell? ⟨w.heap.size, 3, none⟩ = some (.int .i64 rn) ∧ w'.cell? ⟨w.heap.size, 4, none⟩ = some (.int .i64 rm) ∧ w'.cell? ⟨w.heap.size, 5, none⟩ = some (.int .i64 imm) ∧ w'.cell? ⟨w.heap.size, 6, none⟩ = some (.int .i64 mode) ∧ w'.cell? ⟨w.heap.size, 7, none⟩ = some (.int .i64 list) ∧ w'.cell? ⟨w.heap.size, 8, none⟩ = some (.bool s) ∧ Box w op cond rd rn rm imm mode list s w')
    (first
      | (exact HB.out.drew.held)
      | (exact HB.out.held)
      | (exact (HB.out.other _).held)
      | (go_split_ands; exact (Box.drewn (by assumption) _).held)
      | (go_split_ands; exact (Box.other (by assumption) _).held)
      | (go_split_ands; exact (Box.step (by assumption) hbel).held))
    (first
      | (go_at_call 62; refine (hO.out _ (by first | assumption | exact (Box.bel (by assumption)) | exact HB.out.bel | exact HB.out.drew.bel | exact (HB.out.other _).bel)).mono ?_; rintro e w' ⟨rfl, hbel⟩))
  all_goals
    go_split_ands
    go_wp2
    go_ret
    exact ⟨rfl, (Box.bel (by assumption))⟩
theorem farBranch_c (op cond rd rn rm imm mode list : Int) (s : Bool) (w : World) (hT : Tabs w) :
    Calls Tryd.prog 44 #[.agg #[.int .i64 op, .int .i64 cond, .int .i64 rd, .int .i64 rn, .int .i64 rm, .int .i64 imm, .int .i64 mode, .int .i64 list, .bool s]] w fun e w' => e = .returned (.int .u32 (offR 4 imm)) ∧ Below w.heap.size w w' := by
  have hT1 : ∀ o, Tabs (w.alloc o) := fun o => hT.below (n := w.heap.size) ((Below.refl _ _).alloc (Nat.le_refl _) _) hT.big
  have HO := Lib.hid (fun o => offset_c 4 imm (w.alloc o) (hT1 o))
  clear hT hT1
  generalize offR 4 imm = x at *
  go_enter Tryd.func44, Tryd.ntmps44
  go_wp2_with fail
  refine (HO.out _).mono ?_
  rintro e w1 ⟨rfl, hb⟩
  go_wp2
  go_ret
  exact ⟨rfl, ((Below.refl _ _).alloc (Nat.le_refl _) _).trans (hb.mono (by simp))⟩
end Xw
end Go.Proofs.YtmofimgodmcdjaaDoor

namespace Go.Proofs.YtmofimgodmcdjaaDoor
open Go.ChangeShapes Go.WideShapes Go.ChangeAt Go.RowKit
namespace Xw

def severalB (list : Int) : Bool := bits .and .i64 list (wrap64 (list - 1)) != 0
theorem always_c (op cond rd rn rm imm mode list : Int) (s it : Bool) (w : World) :
    Calls Tryd.prog 36 #[.agg #[.int .i64 op, .int .i64 cond, .int .i64 rd, .int .i64 rn, .int .i64 rm, .int .i64 imm, .int .i64 mode, .int .i64 list, .bool s], .bool it] w fun e w' => e = .returned (.bool (true)) ∧ Below w.heap.size w w' := by
  go_enter Tryd.func36, Tryd.ntmps36
  go_wp2
  go_ret
  exact ⟨rfl, (Below.refl _ _).alloc (Nat.le_refl _) _⟩
theorem isByNumber_c (op cond rd rn rm imm mode list : Int) (s it : Bool) (w : World) :
    Calls Tryd.prog 33 #[.agg #[.int .i64 op, .int .i64 cond, .int .i64 rd, .int .i64 rn, .int .i64 rm, .int .i64 imm, .int .i64 mode, .int .i64 list, .bool s], .bool it] w fun e w' => e = .returned (.bool (mode == 1)) ∧ Below w.heap.size w w' := by
  go_enter Tryd.func33, Tryd.ntmps33
  go_wp2
  go_ret
  exact ⟨rfl, (Below.refl _ _).alloc (Nat.le_refl _) _⟩
theorem isByRegister_c (op cond rd rn rm imm mode list : Int) (s it : Bool) (w : World) :
    Calls Tryd.prog 35 #[.agg #[.int .i64 op, .int .i64 cond, .int .i64 rd, .int .i64 rn, .int .i64 rm, .int .i64 imm, .int .i64 mode, .int .i64 list, .bool s], .bool it] w fun e w' => e = .returned (.bool (mode == 2)) ∧ Below w.heap.size w w' := by
  go_enter Tryd.func35, Tryd.ntmps35
  go_wp2
  go_ret
  exact ⟨rfl, (Below.refl _ _).alloc (Nat.le_refl _) _⟩
theorem isOnNone_c (op cond rd rn rm imm mode list : Int) (s it : Bool) (w : World) :
    Calls Tryd.prog 43 #[.agg #[.int .i64 op, .int .i64 cond, .int .i64 rd, .int .i64 rn, .int .i64 rm, .int .i64 imm, .int .i64 mode, .int .i64 list, .bool s], .bool it] w fun e w' => e = .returned (.bool (cond == 14)) ∧ Below w.heap.size w w' := by
  go_enter Tryd.func43, Tryd.ntmps43
  go_wp2
  go_ret
  exact ⟨rfl, (Below.refl _ _).alloc (Nat.le_refl _) _⟩
theorem isAhead_c (op cond rd rn rm imm mode list : Int) (s it : Bool) (w : World) :
    Calls Tryd.prog 45 #[.agg #[.int .i64 op, .int .i64 cond, .int .i64 rd, .int .i64 rn, .int .i64 rm, .int .i64 imm, .int .i64 mode, .int .i64 list, .bool s], .bool it] w fun e w' => e = .returned (.bool (decide (0 ≤ imm))) ∧ Below w.heap.size w w' := by
  go_enter Tryd.func45, Tryd.ntmps45
  go_wp2
  go_ret
  exact ⟨rfl, (Below.refl _ _).alloc (Nat.le_refl _) _⟩
theorem isBehind_c (op cond rd rn rm imm mode list : Int) (s it : Bool) (w : World) :
    Calls Tryd.prog 46 #[.agg #[.int .i64 op, .int .i64 cond, .int .i64 rd, .int .i64 rn, .int .i64 rm, .int .i64 imm, .int .i64 mode, .int .i64 list, .bool s], .bool it] w fun e w' => e = .returned (.bool (decide (imm < 0))) ∧ Below w.heap.size w w' := by
  go_enter Tryd.func46, Tryd.ntmps46
  go_wp2
  go_ret
  exact ⟨rfl, (Below.refl _ _).alloc (Nat.le_refl _) _⟩
theorem isOfSeveral_c (op cond rd rn rm imm mode list : Int) (s it : Bool) (w : World) :
    Calls Tryd.prog 40 #[.agg #[.int .i64 op, .int .i64 cond, .int .i64 rd, .int .i64 rn, .int .i64 rm, .int .i64 imm, .int .i64 mode, .int .i64 list, .bool s], .bool it] w fun e w' => e = .returned (.bool (severalB list)) ∧ Below w.heap.size w w' := by
  unfold severalB
  go_enter Tryd.func40, Tryd.ntmps40
  go_wp2
  go_ret
  exact ⟨rfl, (Below.refl _ _).alloc (Nat.le_refl _) _⟩
set_option maxRecDepth 100000 in
theorem isExpanded_c (op cond rd rn rm imm mode list : Int) (s it : Bool) (w : World) :
    Calls Tryd.prog 27 #[.agg #[.int .i64 op, .int .i64 cond, .int .i64 rd, .int .i64 rn, .int .i64 rm, .int .i64 imm, .int .i64 mode, .int .i64 list, .bool s], .bool it] w fun e w' => e = .returned (.bool (findB (imm % 4294967296) && mode == 1)) ∧ Below w.heap.size w w' := by
  obtain ⟨h0, h1⟩ := m32 imm
  have HF := Lib.hid (fun W => find_c (imm % 4294967296) W h0 h1)
  clear h0 h1
  have HN := Lib.hid (fun W => isByNumber_c op cond rd rn rm imm mode list s it W)
  generalize findI (imm % 4294967296) = f at *
  generalize findB (imm % 4294967296) = fb at *
  cases fb with
  | true =>
    rw [Bool.true_and]
    generalize (mode == 1) = b at *
    go_enter Tryd.func27, Tryd.ntmps27
    go_wp2_with fail
    refine (HF.out _).mono ?_
    rintro e w1 ⟨rfl, n1, rfl⟩
    go_wp2_with fail
    refine (HN.out _).mono ?_
    rintro e w2 ⟨rfl, hb⟩
    go_wp2
    go_ret
    exact ⟨rfl, (below_drewN ((Below.refl _ _).alloc (Nat.le_refl _) _) _).trans (hb.mono (by simp))⟩
  | false =>
    rw [Bool.false_and]
    clear HN
    go_enter Tryd.func27, Tryd.ntmps27
    go_wp2_with fail
    refine (HF.out _).mono ?_
    rintro e w1 ⟨rfl, n1, rfl⟩
    go_wp2
    go_ret
    exact ⟨rfl, below_drewN ((Below.refl _ _).alloc (Nat.le_refl _) _) _⟩
set_option maxRecDepth 100000 in
theorem isPlain_c (op cond rd rn rm imm mode list : Int) (s it : Bool) (w : World) :
    Calls Tryd.prog 29 #[.agg #[.int .i64 op, .int .i64 cond, .int .i64 rd, .int .i64 rn, .int .i64 rm, .int .i64 imm, .int .i64 mode, .int .i64 list, .bool s], .bool it] w fun e w' => e = .returned (.bool ((mode == 1) && (decide (imm ≤ 4095) && !s))) ∧ Below w.heap.size w w' := by
  have HN := fun W => isByNumber_c op cond rd rn rm imm mode list s it W
  generalize (mode == 1) = b at *
  replace HN := Lib.hid HN
  cases b with
  | false =>
    go_enter Tryd.func29, Tryd.ntmps29
    go_wp2_with fail
    refine (HN.out _).mono ?_
    rintro e w2 ⟨rfl, hb⟩
    have hA : ∀ j, w2.cell? ⟨w.heap.size, j, none⟩ = (#[.int .i64 op, .int .i64 cond, .int .i64 rd, .int .i64 rn, .int .i64 rm, .int .i64 imm, .int .i64 mode, .int .i64 list, .bool s] : Array Value)[j]? := fun j => (hb.cell (p := ⟨w.heap.size, j, none⟩) (by simp)).trans (World.cell?_alloc_new w _ _ j)
    go_wp2
    go_ret
    exact ⟨rfl, ((Below.refl _ _).alloc (Nat.le_refl _) _).trans (hb.mono (by simp))⟩
  | true =>
    by_cases hi : imm ≤ 4095
    · rw [decide_eq_true hi]
      cases s with
      | true =>
        go_enter Tryd.func29, Tryd.ntmps29
        go_wp2_with fail
        refine (HN.out _).mono ?_
        rintro e w2 ⟨rfl, hb⟩
        have hA : ∀ j, w2.cell? ⟨w.heap.size, j, none⟩ = (#[.int .i64 op, .int .i64 cond, .int .i64 rd, .int .i64 rn, .int .i64 rm, .int .i64 imm, .int .i64 mode, .int .i64 list, .bool true] : Array Value)[j]? := fun j => (hb.cell (p := ⟨w.heap.size, j, none⟩) (by simp)).trans (World.cell?_alloc_new w _ _ j)
        go_wp2
        go_ret
        exact ⟨rfl, ((Below.refl _ _).alloc (Nat.le_refl _) _).trans (hb.mono (by simp))⟩
      | false =>
        go_enter Tryd.func29, Tryd.ntmps29
        go_wp2_with fail
        refine (HN.out _).mono ?_
        rintro e w2 ⟨rfl, hb⟩
        have hA : ∀ j, w2.cell? ⟨w.heap.size, j, none⟩ = (#[.int .i64 op, .int .i64 cond, .int .i64 rd, .int .i64 rn, .int .i64 rm, .int .i64 imm, .int .i64 mode, .int .i64 list, .bool false] : Array Value)[j]? := fun j => (hb.cell (p := ⟨w.heap.size, j, none⟩) (by simp)).trans (World.cell?_alloc_new w _ _ j)
        go_wp2
        go_ret
        exact ⟨rfl, ((Below.refl _ _).alloc (Nat.le_refl _) _).trans (hb.mono (by simp))⟩
    · rw [decide_eq_false hi]
      go_enter Tryd.func29, Tryd.ntmps29
      go_wp2_with fail
      refine (HN.out _).mono ?_
      rintro e w2 ⟨rfl, hb⟩
      have hA : ∀ j, w2.cell? ⟨w.heap.size, j, none⟩ = (#[.int .i64 op, .int .i64 cond, .int .i64 rd, .int .i64 rn, .int .i64 rm, .int .i64 imm, .int .i64 mode, .int .i64 list, .bool s] : Array Value)[j]? := fun j => (hb.cell (p := ⟨w.heap.size, j, none⟩) (by simp)).trans (World.cell?_alloc_new w _ _ j)
      go_wp2
      go_ret
      exact ⟨rfl, ((Below.refl _ _).alloc (Nat.le_refl _) _).trans (hb.mono (by simp))⟩
set_option maxRecDepth 100000 in
theorem isOfRegisters_c (op cond rd rn rm imm mode list : Int) (s it : Bool) (w : World) :
    Calls Tryd.prog 31 #[.agg #[.int .i64 op, .int .i64 cond, .int .i64 rd, .int .i64 rn, .int .i64 rm, .int .i64 imm, .int .i64 mode, .int .i64 list, .bool s], .bool it] w fun e w' => e = .returned (.bool ((mode == 2) && ((rd != 13) && (rm != 13)))) ∧ Below w.heap.size w w' := by
  have HN := fun W => isByRegister_c op cond rd rn rm imm mode list s it W
  generalize (mode == 2) = b at *
  replace HN := Lib.hid HN
  cases b with
  | false =>
    go_enter Tryd.func31, Tryd.ntmps31
    go_wp2_with fail
    refine (HN.out _).mono ?_
    rintro e w2 ⟨rfl, hb⟩
    have hA : ∀ j, w2.cell? ⟨w.heap.size, j, none⟩ = (#[.int .i64 op, .int .i64 cond, .int .i64 rd, .int .i64 rn, .int .i64 rm, .int .i64 imm, .int .i64 mode, .int .i64 list, .bool s] : Array Value)[j]? := fun j => (hb.cell (p := ⟨w.heap.size, j, none⟩) (by simp)).trans (World.cell?_alloc_new w _ _ j)
    go_wp2
    go_ret
    exact ⟨rfl, ((Below.refl _ _).alloc (Nat.le_refl _) _).trans (hb.mono (by simp))⟩
  | true =>
    cases hd : (rd != 13) with
    | false =>
      go_enter Tryd.func31, Tryd.ntmps31
      go_wp2_with fail
      refine (HN.out _).mono ?_
      rintro e w2 ⟨rfl, hb⟩
      have hA : ∀ j, w2.cell? ⟨w.heap.size, j, none⟩ = (#[.int .i64 op, .int .i64 cond, .int .i64 rd, .int .i64 rn, .int .i64 rm, .int .i64 imm, .int .i64 mode, .int .i64 list, .bool s] : Array Value)[j]? := fun j => (hb.cell (p := ⟨w.heap.size, j, none⟩) (by simp)).trans (World.cell?_alloc_new w _ _ j)
      go_wp2
      go_ret
      exact ⟨rfl, ((Below.refl _ _).alloc (Nat.le_refl _) _).trans (hb.mono (by simp))⟩
    | true =>
      go_enter Tryd.func31, Tryd.ntmps31
      go_wp2_with fail
      refine (HN.out _).mono ?_
      rintro e w2 ⟨rfl, hb⟩
      have hA : ∀ j, w2.cell? ⟨w.heap.size, j, none⟩ = (#[.int .i64 op, .int .i64 cond, .int .i64 rd, .int .i64 rn, .int .i64 rm, .int .i64 imm, .int .i64 mode, .int .i64 list, .bool s] : Array Value)[j]? := fun j => (hb.cell (p := ⟨w.heap.size, j, none⟩) (by simp)).trans (World.cell?_alloc_new w _ _ j)
      go_wp2
      go_ret
      exact ⟨rfl, ((Below.refl _ _).alloc (Nat.le_refl _) _).trans (hb.mono (by simp))⟩
set_option maxRecDepth 100000 in
theorem isOnCondition_c (op cond rd rn rm imm mode list : Int) (s it : Bool) (w : World) (hT : Tabs w) :
    Calls Tryd.prog 41 #[.agg #[.int .i64 op, .int .i64 cond, .int .i64 rd, .int .i64 rn, .int .i64 rm, .int .i64 imm, .int .i64 mode, .int .i64 list, .bool s], .bool it] w fun e w' => e = .returned (.bool ((cond != 14) && (!it && fitsB 3 imm))) ∧ Below w.heap.size w w' := by
  have hT1 : ∀ o, Tabs (w.alloc o) := fun o => hT.below (n := w.heap.size) ((Below.refl _ _).alloc (Nat.le_refl _) _) hT.big
  have HF := fun o => fits_c 3 imm (w.alloc o) (hT1 o)
  clear hT hT1
  generalize fitsB 3 imm = fb at *
  replace HF := Lib.hid HF
  cases hc : (cond != 14) with
  | false =>
    go_enter Tryd.func41, Tryd.ntmps41
    go_wp2
    go_ret
    exact ⟨rfl, (Below.refl _ _).alloc (Nat.le_refl _) _⟩
  | true =>
    cases it with
    | true =>
      go_enter Tryd.func41, Tryd.ntmps41
      go_wp2
      go_ret
      exact ⟨rfl, (Below.refl _ _).alloc (Nat.le_refl _) _⟩
    | false =>
      go_enter Tryd.func41, Tryd.ntmps41
      go_wp2_with fail
      refine (HF.out _).mono ?_
      rintro e w2 ⟨rfl, hb⟩
      go_wp2
      go_ret
      exact ⟨rfl, ((Below.refl _ _).alloc (Nat.le_refl _) _).trans (hb.mono (by simp))⟩
end Xw
end Go.Proofs.YtmofimgodmcdjaaDoor

namespace Go.Proofs.YtmofimgodmcdjaaDoor
open Go.ChangeShapes Go.WideShapes Go.ChangeAt Go.RowKit
namespace Xw

/-- whether the functions of the forms' fields take an instruction; what they tell of it -/
def takesP (n : Nat) (cond rd rm imm mode list : Int) (s it : Bool) : Bool :=
  if n = 0 then (true) else if n = 1 then (mode == 1) else if n = 2 then (mode == 2) else if n = 3 then (findB (imm % 4294967296) && mode == 1) else if n = 4 then ((mode == 1) && (decide (imm ≤ 4095) && !s)) else if n = 5 then ((mode == 2) && ((rd != 13) && (rm != 13))) else if n = 6 then (severalB list) else if n = 7 then ((cond != 14) && (!it && fitsB 3 imm)) else if n = 8 then (cond == 14) else if n = 9 then (decide (0 ≤ imm)) else decide (imm < 0)
def fieldsP (n : Nat) (cond rd rn rm imm list : Int) (s : Bool) : Int :=
  if n = 0 then expandedR rn rd rm imm s else if n = 1 then amountR rn rd rm imm s else if n = 2 then regR rn rd rm s else if n = 3 then shiftedR rn rd rm imm s else if n = 4 then halfR rn rd rm imm s else if n = 5 then loadedR rn rd rm imm else if n = 6 then listedR rn list else if n = 7 then nearR cond imm else offR 4 imm
theorem tkF_0 : tkF 0 = 36 := rfl
theorem takesP_0 (cond rd rm imm mode list : Int) (s it : Bool) : takesP 0 cond rd rm imm mode list s it = (true) := by
  unfold takesP
  repeat first | rw [if_pos rfl] | rw [if_neg (by decide)]
theorem tkF_1 : tkF 1 = 33 := rfl
theorem takesP_1 (cond rd rm imm mode list : Int) (s it : Bool) : takesP 1 cond rd rm imm mode list s it = (mode == 1) := by
  unfold takesP
  repeat first | rw [if_pos rfl] | rw [if_neg (by decide)]
theorem tkF_2 : tkF 2 = 35 := rfl
theorem takesP_2 (cond rd rm imm mode list : Int) (s it : Bool) : takesP 2 cond rd rm imm mode list s it = (mode == 2) := by
  unfold takesP
  repeat first | rw [if_pos rfl] | rw [if_neg (by decide)]
theorem tkF_3 : tkF 3 = 27 := rfl
theorem takesP_3 (cond rd rm imm mode list : Int) (s it : Bool) : takesP 3 cond rd rm imm mode list s it = (findB (imm % 4294967296) && mode == 1) := by
  unfold takesP
  repeat first | rw [if_pos rfl] | rw [if_neg (by decide)]
theorem tkF_4 : tkF 4 = 29 := rfl
theorem takesP_4 (cond rd rm imm mode list : Int) (s it : Bool) : takesP 4 cond rd rm imm mode list s it = ((mode == 1) && (decide (imm ≤ 4095) && !s)) := by
  unfold takesP
  repeat first | rw [if_pos rfl] | rw [if_neg (by decide)]
theorem tkF_5 : tkF 5 = 31 := rfl
theorem takesP_5 (cond rd rm imm mode list : Int) (s it : Bool) : takesP 5 cond rd rm imm mode list s it = ((mode == 2) && ((rd != 13) && (rm != 13))) := by
  unfold takesP
  repeat first | rw [if_pos rfl] | rw [if_neg (by decide)]
theorem tkF_6 : tkF 6 = 40 := rfl
theorem takesP_6 (cond rd rm imm mode list : Int) (s it : Bool) : takesP 6 cond rd rm imm mode list s it = (severalB list) := by
  unfold takesP
  repeat first | rw [if_pos rfl] | rw [if_neg (by decide)]
theorem tkF_7 : tkF 7 = 41 := rfl
theorem takesP_7 (cond rd rm imm mode list : Int) (s it : Bool) : takesP 7 cond rd rm imm mode list s it = ((cond != 14) && (!it && fitsB 3 imm)) := by
  unfold takesP
  repeat first | rw [if_pos rfl] | rw [if_neg (by decide)]
theorem tkF_8 : tkF 8 = 43 := rfl
theorem takesP_8 (cond rd rm imm mode list : Int) (s it : Bool) : takesP 8 cond rd rm imm mode list s it = (cond == 14) := by
  unfold takesP
  repeat first | rw [if_pos rfl] | rw [if_neg (by decide)]
theorem tkF_9 : tkF 9 = 45 := rfl
theorem takesP_9 (cond rd rm imm mode list : Int) (s it : Bool) : takesP 9 cond rd rm imm mode list s it = (decide (0 ≤ imm)) := by
  unfold takesP
  repeat first | rw [if_pos rfl] | rw [if_neg (by decide)]
theorem tkF_10 : tkF 10 = 46 := rfl
theorem takesP_10 (cond rd rm imm mode list : Int) (s it : Bool) : takesP 10 cond rd rm imm mode list s it = (decide (imm < 0)) := by
  unfold takesP
  repeat first | rw [if_pos rfl] | rw [if_neg (by decide)]
theorem fdF_0 : fdF 0 = 28 := rfl
theorem fieldsP_0 (cond rd rn rm imm list : Int) (s : Bool) : fieldsP 0 cond rd rn rm imm list s = expandedR rn rd rm imm s := by
  unfold fieldsP
  repeat first | rw [if_pos rfl] | rw [if_neg (by decide)]
theorem fdF_1 : fdF 1 = 30 := rfl
theorem fieldsP_1 (cond rd rn rm imm list : Int) (s : Bool) : fieldsP 1 cond rd rn rm imm list s = amountR rn rd rm imm s := by
  unfold fieldsP
  repeat first | rw [if_pos rfl] | rw [if_neg (by decide)]
theorem fdF_2 : fdF 2 = 32 := rfl
theorem fieldsP_2 (cond rd rn rm imm list : Int) (s : Bool) : fieldsP 2 cond rd rn rm imm list s = regR rn rd rm s := by
  unfold fieldsP
  repeat first | rw [if_pos rfl] | rw [if_neg (by decide)]
theorem fdF_3 : fdF 3 = 34 := rfl
theorem fieldsP_3 (cond rd rn rm imm list : Int) (s : Bool) : fieldsP 3 cond rd rn rm imm list s = shiftedR rn rd rm imm s := by
  unfold fieldsP
  repeat first | rw [if_pos rfl] | rw [if_neg (by decide)]
theorem fdF_4 : fdF 4 = 37 := rfl
theorem fieldsP_4 (cond rd rn rm imm list : Int) (s : Bool) : fieldsP 4 cond rd rn rm imm list s = halfR rn rd rm imm s := by
  unfold fieldsP
  repeat first | rw [if_pos rfl] | rw [if_neg (by decide)]
theorem fdF_5 : fdF 5 = 38 := rfl
theorem fieldsP_5 (cond rd rn rm imm list : Int) (s : Bool) : fieldsP 5 cond rd rn rm imm list s = loadedR rn rd rm imm := by
  unfold fieldsP
  repeat first | rw [if_pos rfl] | rw [if_neg (by decide)]
theorem fdF_6 : fdF 6 = 39 := rfl
theorem fieldsP_6 (cond rd rn rm imm list : Int) (s : Bool) : fieldsP 6 cond rd rn rm imm list s = listedR rn list := by
  unfold fieldsP
  repeat first | rw [if_pos rfl] | rw [if_neg (by decide)]
theorem fdF_7 : fdF 7 = 42 := rfl
theorem fieldsP_7 (cond rd rn rm imm list : Int) (s : Bool) : fieldsP 7 cond rd rn rm imm list s = nearR cond imm := by
  unfold fieldsP
  repeat first | rw [if_pos rfl] | rw [if_neg (by decide)]
theorem fdF_8 : fdF 8 = 44 := rfl
theorem fieldsP_8 (cond rd rn rm imm list : Int) (s : Bool) : fieldsP 8 cond rd rn rm imm list s = offR 4 imm := by
  unfold fieldsP
  repeat first | rw [if_pos rfl] | rw [if_neg (by decide)]
theorem takes_c (n : Nat) (hn : n < 11) (op cond rd rn rm imm mode list : Int) (s it : Bool) (w : World) (hT : Tabs w) :
    Calls Tryd.prog (tkF n) #[.agg #[.int .i64 op, .int .i64 cond, .int .i64 rd, .int .i64 rn, .int .i64 rm, .int .i64 imm, .int .i64 mode, .int .i64 list, .bool s], .bool it] w fun e w' => e = .returned (.bool (takesP n cond rd rm imm mode list s it)) ∧ Below w.heap.size w w' := by
  rcases (by omega : n = 0 ∨ n = 1 ∨ n = 2 ∨ n = 3 ∨ n = 4 ∨ n = 5 ∨ n = 6 ∨ n = 7 ∨ n = 8 ∨ n = 9 ∨ n = 10) with rfl | rfl | rfl | rfl | rfl | rfl | rfl | rfl | rfl | rfl | rfl
  · rw [tkF_0, takesP_0]; exact always_c op cond rd rn rm imm mode list s it w
  · rw [tkF_1, takesP_1]; exact isByNumber_c op cond rd rn rm imm mode list s it w
  · rw [tkF_2, takesP_2]; exact isByRegister_c op cond rd rn rm imm mode list s it w
  · rw [tkF_3, takesP_3]; exact isExpanded_c op cond rd rn rm imm mode list s it w
  · rw [tkF_4, takesP_4]; exact isPlain_c op cond rd rn rm imm mode list s it w
  · rw [tkF_5, takesP_5]; exact isOfRegisters_c op cond rd rn rm imm mode list s it w
  · rw [tkF_6, takesP_6]; exact isOfSeveral_c op cond rd rn rm imm mode list s it w
  · rw [tkF_7, takesP_7]; exact isOnCondition_c op cond rd rn rm imm mode list s it w hT
  · rw [tkF_8, takesP_8]; exact isOnNone_c op cond rd rn rm imm mode list s it w
  · rw [tkF_9, takesP_9]; exact isAhead_c op cond rd rn rm imm mode list s it w
  · rw [tkF_10, takesP_10]; exact isBehind_c op cond rd rn rm imm mode list s it w
theorem fields_c (n : Nat) (hn : n < 9) (op cond rd rn rm imm mode list : Int) (s : Bool) (w : World) (hT : Tabs w) :
    Calls Tryd.prog (fdF n) #[.agg #[.int .i64 op, .int .i64 cond, .int .i64 rd, .int .i64 rn, .int .i64 rm, .int .i64 imm, .int .i64 mode, .int .i64 list, .bool s]] w fun e w' => e = .returned (.int .u32 (fieldsP n cond rd rn rm imm list s)) ∧ Below w.heap.size w w' := by
  rcases (by omega : n = 0 ∨ n = 1 ∨ n = 2 ∨ n = 3 ∨ n = 4 ∨ n = 5 ∨ n = 6 ∨ n = 7 ∨ n = 8) with rfl | rfl | rfl | rfl | rfl | rfl | rfl | rfl | rfl
  · rw [fdF_0, fieldsP_0]; exact expanded_c op cond rd rn rm imm mode list s w
  · rw [fdF_1, fieldsP_1]; exact amount_c op cond rd rn rm imm mode list s w
  · rw [fdF_2, fieldsP_2]; exact registers_c op cond rd rn rm imm mode list s w
  · rw [fdF_3, fieldsP_3]; exact shifted_c op cond rd rn rm imm mode list s w
  · rw [fdF_4, fieldsP_4]; exact half_c op cond rd rn rm imm mode list s w
  · rw [fdF_5, fieldsP_5]; exact loaded_c op cond rd rn rm imm mode list s w
  · rw [fdF_6, fieldsP_6]; exact listed_c op cond rd rn rm imm mode list s w
  · rw [fdF_7, fieldsP_7]; exact nearBranch_c op cond rd rn rm imm mode list s w hT
  · rw [fdF_8, fieldsP_8]; exact farBranch_c op cond rd rn rm imm mode list s w hT
theorem takes_enter (n : Nat) (hn : n < 11) (xs : Array Value) (W : World) : Sem.run Tryd.prog (callFunc (tkF n) xs) W = .ok (.enter (tkF n) xs) W := by
  rcases (by omega : n = 0 ∨ n = 1 ∨ n = 2 ∨ n = 3 ∨ n = 4 ∨ n = 5 ∨ n = 6 ∨ n = 7 ∨ n = 8 ∨ n = 9 ∨ n = 10) with rfl | rfl | rfl | rfl | rfl | rfl | rfl | rfl | rfl | rfl | rfl <;> kernel_rfl
theorem fields_enter (n : Nat) (hn : n < 9) (xs : Array Value) (W : World) : Sem.run Tryd.prog (callFunc (fdF n) xs) W = .ok (.enter (fdF n) xs) W := by
  rcases (by omega : n = 0 ∨ n = 1 ∨ n = 2 ∨ n = 3 ∨ n = 4 ∨ n = 5 ∨ n = 6 ∨ n = 7 ∨ n = 8) with rfl | rfl | rfl | rfl | rfl | rfl | rfl | rfl | rfl <;> kernel_rfl
end Xw
end Go.Proofs.YtmofimgodmcdjaaDoor
