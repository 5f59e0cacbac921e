/- The contracts of wide's functions that take pieces of an instruction, as chains of bitwise sums. No conditions but those that each fact names. -/
import Derived.Test.YtgjipmlegpbaaaaDoorRows
import Derived.Test.YtgjipmlegpbaaaaDoorGj
import Derived.Test.YtgjipmlegpbaaaaDoorGe
import Derived.Test.YtgjipmlegpbaaaaDoorGx
import Derived.Deep.RegionHeld3
namespace Go.Proofs.YtgjipmlegpbaaaaDoor
open Go.ChangeShapes Go.WideShapes Go.ChangeAt Go.RowKit
namespace Xw

/-- w's instruction lies in the block behind it, and all that was there at w -/
structure Box (w : World) (op cond rd rn rm imm mode list : Int) (s : Bool) (W : World) : Prop where
  bel : Below w.heap.size w W
  c : ∀ j, W.cell? ⟨w.heap.size, j, none⟩ = (#[.int .i64 op, .int .i64 cond, .int .i64 rd, .int .i64 rn, .int .i64 rm, .int .i64 imm, .int .i64 mode, .int .i64 list, .bool s] : Array Value)[j]?
  lt : w.heap.size < W.heap.size
theorem Box.step {w W W' : World} {op cond rd rn rm imm mode list : Int} {s : Bool} (h : Box w op cond rd rn rm imm mode list s W) (hb : Below W.heap.size W W') : Box w op cond rd rn rm imm mode list s W' :=
  ⟨h.bel.trans (hb.mono h.bel.size), fun j => (hb.cell (p := ⟨w.heap.size, j, none⟩) h.lt).trans (h.c j), Nat.lt_of_lt_of_le h.lt hb.size⟩
theorem Box.start (w : World) (op cond rd rn rm imm mode list : Int) (s : Bool) (t : TypeId) : Box w op cond rd rn rm imm mode list s (w.alloc (.cells #[.int .i64 op, .int .i64 cond, .int .i64 rd, .int .i64 rn, .int .i64 rm, .int .i64 imm, .int .i64 mode, .int .i64 list, .bool s] t)) :=
  ⟨one_b _ _, fun j => World.cell?_alloc_new w _ t j, by simp⟩
theorem Box.drewn {w W : World} {op cond rd rn rm imm mode list : Int} {s : Bool} (h : Box w op cond rd rn rm imm mode list s W) (m : Nat) : Box w op cond rd rn rm imm mode list s (W.drewN m) := h.step (below_drewN (Below.refl _ _) _)
theorem Box.drew {w W : World} {op cond rd rn rm imm mode list : Int} {s : Bool} (h : Box w op cond rd rn rm imm mode list s W) : Box w op cond rd rn rm imm mode list s W.drew := h.drewn 1
theorem Box.other {w W : World} {op cond rd rn rm imm mode list : Int} {s : Bool} {a : Nat} (h : Box w op cond rd rn rm imm mode list s (W.drewN a)) (b : Nat) : Box w op cond rd rn rm imm mode list s (W.drewN b) :=
  ⟨⟨h.bel.os, h.bel.tape, h.bel.output, h.bel.size, h.bel.block⟩, h.c, h.lt⟩
def HeldQ (w : World) (op cond rd rn rm imm mode list : Int) (s : Bool) (w' : World) : Prop := w'.cell? ⟨w.heap.size, 0, none⟩ = some (.int .i64 op) ∧ w'.cell? ⟨w.heap.size, 1, none⟩ = some (.int .i64 cond) ∧ w'.cell? ⟨w.heap.size, 2, none⟩ = some (.int .i64 rd) ∧ w'.cell? ⟨w.heap.size, 3, none⟩ = some (.int .i64 rn) ∧ w'.cell? ⟨w.heap.size, 4, none⟩ = some (.int .i64 rm) ∧ w'.cell? ⟨w.heap.size, 5, none⟩ = some (.int .i64 imm) ∧ w'.cell? ⟨w.heap.size, 6, none⟩ = some (.int .i64 mode) ∧ w'.cell? ⟨w.heap.size, 7, none⟩ = some (.int .i64 list) ∧ w'.cell? ⟨w.heap.size, 8, none⟩ = some (.bool s) ∧ Box w op cond rd rn rm imm mode list s w'
theorem Box.held {w W : World} {op cond rd rn rm imm mode list : Int} {s : Bool} (h : Box w op cond rd rn rm imm mode list s W) : HeldQ w op cond rd rn rm imm mode list s W := ⟨h.c 0, h.c 1, h.c 2, h.c 3, h.c 4, h.c 5, h.c 6, h.c 7, h.c 8, h⟩

def regR (rn rd rm : Int) (s : Bool) : Int :=
  if s = true then bits .or .u32 (bits .or .u32 (bits .or .u32 (rn % 4294967296 * 65536 % 4294967296) (rd % 4294967296 * 256 % 4294967296)) (rm % 4294967296)) 1048576
  else bits .or .u32 (bits .or .u32 (rn % 4294967296 * 65536 % 4294967296) (rd % 4294967296 * 256 % 4294967296)) (rm % 4294967296)
def x12R (n : Int) : Int := bits .or .u32 (bits .or .u32 (getI n 11 11 * 67108864 % 4294967296) (getI n 10 8 * 4096 % 4294967296)) (getI n 7 0)
def distR (n : Int) : Int := if n < 0 then wrap64 (-n) % 4294967296 else n % 4294967296
def offA (k n : Int) : Int := if fitsB k n = true then putA k n else 0
def offB (k n : Int) : Int := if fitsB k n = true then putB k n else 0
def offR (k n : Int) : Int := bits .or .u32 (offA k n % 4294967296 * 65536 % 4294967296) (offB k n % 4294967296)
def expandedR (rn rd rm imm : Int) (s : Bool) : Int := bits .or .u32 (regR rn rd rm s) (x12R (findI (imm % 4294967296) % 4294967296))
def amountR (rn rd rm imm : Int) (s : Bool) : Int := bits .or .u32 (regR rn rd rm s) (x12R (distR imm))
def shiftedR (rn rd rm imm : Int) (s : Bool) : Int :=
  bits .or .u32 (bits .or .u32 (bits .or .u32 (regR 0 rd rm s) (rn % 4294967296)) (getI (imm % 4294967296) 4 2 * 4096 % 4294967296)) (getI (imm % 4294967296) 1 0 * 64 % 4294967296)
def halfR (rn rd rm imm : Int) (s : Bool) : Int := bits .or .u32 (bits .or .u32 (regR rn rd rm s) (getI (imm % 4294967296) 15 12 * 65536 % 4294967296)) (x12R (imm % 4294967296))
def loadedR (rn rd rm imm : Int) : Int := bits .or .u32 (bits .or .u32 (bits .or .u32 (rn % 4294967296 * 65536 % 4294967296) (rd % 4294967296 * 4096 % 4294967296)) (distR imm)) (rm % 4294967296)
def listedR (rn list : Int) : Int := bits .or .u32 (rn % 4294967296 * 65536 % 4294967296) (list % 4294967296)
def nearR (cond imm : Int) : Int := bits .or .u32 (cond % 4294967296 * 4194304 % 4294967296) (offR 3 imm)

theorem m32 (x : Int) : 0 ≤ x % 4294967296 ∧ x % 4294967296 < 4294967296 := by omega
theorem dist_bd (n : Int) : 0 ≤ distR n ∧ distR n < 4294967296 := by unfold distR; split <;> omega
set_option maxRecDepth 100000 in
theorem registers_c (op cond rd rn rm imm mode list : Int) (s : Bool) (w : World) :
    Calls Tryd.prog 34 #[.agg #[.int .i64 op, .int .i64 cond, .int .i64 rd, .int .i64 rn, .int .i64 rm, .int .i64 imm, .int .i64 mode, .int .i64 list, .bool s]] w fun e w' => e = .returned (.int .u32 (regR rn rd rm s)) ∧ Below w.heap.size w w' := by
  cases s with
  | true =>
    go_enter Tryd.func34, Tryd.ntmps34
    go_wp2
    go_ret
    exact ⟨rfl, (Below.refl _ _).alloc (Nat.le_refl _) _⟩
  | false =>
    go_enter Tryd.func34, Tryd.ntmps34
    go_wp2
    go_ret
    exact ⟨rfl, (Below.refl _ _).alloc (Nat.le_refl _) _⟩
theorem distance_c (n : Int) (w : World) :
    Calls Tryd.prog 67 #[.int .i64 n] w fun e w' => e = .returned (.int .u32 (distR n)) ∧ ∃ k, w' = w.drewN k := by
  unfold distR
  by_cases h : n < 0
  · rw [if_pos h]
    go_enter Tryd.func67, Tryd.ntmps67
    go_wp2
    go_ret
    exact ⟨rfl, 0, rfl⟩
  · rw [if_neg h]
    go_enter Tryd.func67, Tryd.ntmps67
    go_wp2
    go_ret
    exact ⟨rfl, 0, rfl⟩
theorem x12_c (n : Int) (w : World) (h0 : 0 ≤ n) (h1 : n < 4294967296) :
    Calls Tryd.prog 66 #[.int .u32 n] w fun e w' => e = .returned (.int .u32 (x12R n)) ∧ ∃ k, w' = w.drewN k := by
  go_enter Tryd.func66, Tryd.ntmps66
  go_wp2_with fail
  refine (get_c _ _ _ _ h0 h1).mono ?_
  rintro e w1 ⟨rfl, n1, rfl⟩
  go_wp2_with fail
  refine (get_c _ _ _ _ h0 h1).mono ?_
  rintro e w2 ⟨rfl, n2, rfl⟩
  go_wp2_with fail
  refine (get_c _ _ _ _ h0 h1).mono ?_
  rintro e w3 ⟨rfl, n3, rfl⟩
  go_wp2
  go_ret
  exact ⟨rfl, n1 + n2 + n3, rfl⟩
theorem offset_c (k n : Int) (w : World) (hT : Tabs w) :
    Calls Tryd.prog 69 #[.int .i64 k, .int .i64 n] w fun e w' => e = .returned (.int .u32 (offR k n)) ∧ Below w.heap.size w w' := by
  unfold offR offA offB
  cases hf : fitsB k n with
  | true =>
    have hc := oput_c k n w hT hf
    rw [if_pos rfl, if_pos rfl]
    generalize putA k n = a at *
    generalize putB k n = b at *
    have HC := Lib.hid hc
    clear hc hf
    go_enter Tryd.func69, Tryd.ntmps69
    go_wp2_with fail
    refine HC.out.mono ?_
    rintro e w1 ⟨rfl, hb⟩
    go_wp2
    go_ret
    exact ⟨rfl, hb⟩
  | false =>
    have HC := Lib.hid (oput_no k n w hT hf)
    clear hf
    rw [if_neg Bool.false_ne_true, if_neg Bool.false_ne_true]
    go_enter Tryd.func69, Tryd.ntmps69
    go_wp2_with fail
    refine HC.out.mono ?_
    rintro e w1 ⟨rfl, hb⟩
    go_wp2
    go_ret
    exact ⟨rfl, hb⟩
set_option maxRecDepth 100000 in
theorem expanded_c (op cond rd rn rm imm mode list : Int) (s : Bool) (w : World) :
    Calls Tryd.prog 30 #[.agg #[.int .i64 op, .int .i64 cond, .int .i64 rd, .int .i64 rn, .int .i64 rm, .int .i64 imm, .int .i64 mode, .int .i64 list, .bool s]] w fun e w' => e = .returned (.int .u32 (expandedR rn rd rm imm s)) ∧ Below w.heap.size w w' := by
  unfold expandedR
  obtain ⟨h0, h1⟩ := m32 imm
  obtain ⟨h2, h3⟩ := m32 (findI (imm % 4294967296))
  have HF := Lib.hid (fun W => find_c (imm % 4294967296) W h0 h1)
  have HX := Lib.hid (fun W => x12_c (findI (imm % 4294967296) % 4294967296) W h2 h3)
  clear h0 h1 h2 h3
  have HR := Lib.hid (fun W => registers_c op cond rd rn rm imm mode list s W)
  generalize findI (imm % 4294967296) = f at *
  generalize x12R (f % 4294967296) = x at *
  generalize regR rn rd rm s = r at *
  go_enter Tryd.func30, Tryd.ntmps30
  go_wp2_with fail
  refine (HF.out _).mono ?_
  rintro e w1 ⟨rfl, n1, rfl⟩
  go_wp2_with fail
  refine (HR.out _).mono ?_
  rintro e w2 ⟨rfl, hb⟩
  go_wp2_with fail
  refine (HX.out _).mono ?_
  rintro e w3 ⟨rfl, n3, rfl⟩
  go_wp2
  go_ret
  exact ⟨rfl, below_drewN ((below_drewN ((Below.refl _ _).alloc (Nat.le_refl _) _) _).trans (hb.mono (by simp))) _⟩
set_option maxRecDepth 100000 in
theorem half_c (op cond rd rn rm imm mode list : Int) (s : Bool) (w : World) :
    Calls Tryd.prog 39 #[.agg #[.int .i64 op, .int .i64 cond, .int .i64 rd, .int .i64 rn, .int .i64 rm, .int .i64 imm, .int .i64 mode, .int .i64 list, .bool s]] w fun e w' => e = .returned (.int .u32 (halfR rn rd rm imm s)) ∧ Below w.heap.size w w' := by
  unfold halfR
  obtain ⟨h0, h1⟩ := m32 imm
  have HG := Lib.hid (fun W => get_c (imm % 4294967296) 15 12 W h0 h1)
  have HX := Lib.hid (fun W => x12_c (imm % 4294967296) W h0 h1)
  clear h0 h1
  have HR := Lib.hid (fun W => registers_c op cond rd rn rm imm mode list s W)
  generalize x12R (imm % 4294967296) = x at *
  generalize getI (imm % 4294967296) 15 12 = g at *
  generalize regR rn rd rm s = r at *
  go_enter Tryd.func39, Tryd.ntmps39
  go_wp2_with fail
  refine (HR.out _).mono ?_
  rintro e w2 ⟨rfl, hb⟩
  go_wp2_with fail
  refine (HG.out _).mono ?_
  rintro e w1 ⟨rfl, n1, rfl⟩
  go_wp2_with fail
  refine (HX.out _).mono ?_
  rintro e w3 ⟨rfl, n3, rfl⟩
  go_wp2
  go_ret
  exact ⟨rfl, below_drewN (((Below.refl _ _).alloc (Nat.le_refl _) _).trans (hb.mono (by simp))) _⟩
set_option maxRecDepth 100000 in
theorem shifted_c (op cond rd rn rm imm mode list : Int) (s : Bool) (w : World) :
    Calls Tryd.prog 36 #[.agg #[.int .i64 op, .int .i64 cond, .int .i64 rd, .int .i64 rn, .int .i64 rm, .int .i64 imm, .int .i64 mode, .int .i64 list, .bool s]] w fun e w' => e = .returned (.int .u32 (shiftedR rn rd rm imm s)) ∧ Below w.heap.size w w' := by
  unfold shiftedR
  obtain ⟨h0, h1⟩ := m32 imm
  have HG := Lib.hid (fun W => get_c (imm % 4294967296) 4 2 W h0 h1)
  have HX := Lib.hid (fun W => get_c (imm % 4294967296) 1 0 W h0 h1)
  clear h0 h1
  have HR := Lib.hid (fun W => registers_c op cond rd 0 rm imm mode list s W)
  generalize getI (imm % 4294967296) 4 2 = g at *
  generalize getI (imm % 4294967296) 1 0 = x at *
  generalize regR 0 rd rm s = r at *
  go_enter Tryd.func36, Tryd.ntmps36
  go_wp2_with fail
  go_quiet (fail)
  go_wp2_with fail
  refine (HR.out _).mono ?_
  rintro e w2 ⟨rfl, hb⟩
  go_wp2_with fail
  refine (HG.out _).mono ?_
  rintro e w1 ⟨rfl, n1, rfl⟩
  go_wp2_with fail
  refine (HX.out _).mono ?_
  rintro e w3 ⟨rfl, n3, rfl⟩
  go_wp2
  go_ret
  exact ⟨rfl, below_drewN ((below_drewN ((Below.refl _ _).alloc (Nat.le_refl _) _) _).trans (hb.mono (by simp))) _⟩
set_option maxHeartbeats 4000000 in
set_option maxRecDepth 100000 in
theorem amount_c (op cond rd rn rm imm mode list : Int) (s : Bool) (w : World) :
    Calls Tryd.prog 32 #[.agg #[.int .i64 op, .int .i64 cond, .int .i64 rd, .int .i64 rn, .int .i64 rm, .int .i64 imm, .int .i64 mode, .int .i64 list, .bool s]] w fun e w' => e = .returned (.int .u32 (amountR rn rd rm imm s)) ∧ Below w.heap.size w w' := by
  unfold amountR
  have HB := Lib.hid (Box.start w op cond rd rn rm imm mode list s 23)
  obtain ⟨h0, h1⟩ := dist_bd imm
  have HX := Lib.hid (fun W => x12_c (distR imm) W h0 h1)
  clear h0 h1
  have HD := Lib.hid (fun W => distance_c imm W)
  have HR := Lib.hid (fun W => registers_c op cond rd rn rm imm mode list s W)
  generalize x12R (distR imm) = x at *
  generalize distR imm = d at *
  generalize regR rn rd rm s = r at *
  go_enter Tryd.func32, Tryd.ntmps32
  go_wp2_with fail
  go_region_held3 (fun w' => w'.cell? ⟨w.heap.size, 0, none⟩ = some (.int .i64 op) ∧ w'.cell? ⟨w.heap.size, 1, none⟩ = some (.int .i64 cond) ∧ w'.cell? ⟨w.heap.size, 2, none⟩ = some (.int .i64 rd) ∧ w'.cell? ⟨w.heap.size, 3, none⟩ = some (.int .i64 rn) ∧ w'.cell? ⟨w.heap.size, 4, none⟩ = some (.int .i64 rm) ∧ w'.cell? ⟨w.heap.size, 5, none⟩ = some (.int .i64 imm) ∧ w'.cell? ⟨w.heap.size, 6, none⟩ = some (.int .i64 mode) ∧ w'.cell? ⟨w.heap.size, 7, none⟩ = some (.int .i64 list) ∧ w'.cell? ⟨w.heap.size, 8, none⟩ = some (.bool s) ∧ Box w op cond rd rn rm imm mode list s w')
    (first
      | (exact HB.out.drew.held)
      | (exact HB.out.held)
      | (exact (HB.out.other _).held)
      | (go_split_ands; exact (Box.drewn (by assumption) _).held)
      | (go_split_ands; exact (Box.other (by assumption) _).held)
      | (go_split_ands; exact (Box.step (by assumption) hbel).held))
    (first
      | (go_at_call 34; refine (HR.out _).mono ?_; rintro e w' ⟨rfl, hbel⟩)
      | (go_at_call 67; refine (HD.out _).mono ?_; rintro e w' ⟨rfl, n1, rfl⟩)
      | (go_at_call 66; refine (HX.out _).mono ?_; rintro e w' ⟨rfl, n2, rfl⟩))
  all_goals
    go_split_ands
    go_wp2
    go_ret
    exact ⟨rfl, (Box.bel (by assumption))⟩
set_option maxRecDepth 100000 in
theorem loaded_c (op cond rd rn rm imm mode list : Int) (s : Bool) (w : World) :
    Calls Tryd.prog 40 #[.agg #[.int .i64 op, .int .i64 cond, .int .i64 rd, .int .i64 rn, .int .i64 rm, .int .i64 imm, .int .i64 mode, .int .i64 list, .bool s]] w fun e w' => e = .returned (.int .u32 (loadedR rn rd rm imm)) ∧ Below w.heap.size w w' := by
  unfold loadedR
  have HD := fun W => distance_c imm W
  generalize distR imm = d at *
  replace HD := Lib.hid HD
  go_enter Tryd.func40, Tryd.ntmps40
  go_wp2_with fail
  go_quiet ((go_at_call 67; first | exact Calls.quiet_of (HD.out _) | exact drawn_on (HD.out _)))
  go_wp2
  go_ret
  exact ⟨rfl, below_drewN ((Below.refl _ _).alloc (Nat.le_refl _) _) _⟩
theorem listed_c (op cond rd rn rm imm mode list : Int) (s : Bool) (w : World) :
    Calls Tryd.prog 41 #[.agg #[.int .i64 op, .int .i64 cond, .int .i64 rd, .int .i64 rn, .int .i64 rm, .int .i64 imm, .int .i64 mode, .int .i64 list, .bool s]] w fun e w' => e = .returned (.int .u32 (listedR rn list)) ∧ Below w.heap.size w w' := by
  go_enter Tryd.func41, Tryd.ntmps41
  go_wp2
  go_ret
  exact ⟨rfl, (Below.refl _ _).alloc (Nat.le_refl _) _⟩
set_option maxHeartbeats 4000000 in
theorem nearBranch_c (op cond rd rn rm imm mode list : Int) (s : Bool) (w : World) (hT : Tabs w) :
    Calls Tryd.prog 44 #[.agg #[.int .i64 op, .int .i64 cond, .int .i64 rd, .int .i64 rn, .int .i64 rm, .int .i64 imm, .int .i64 mode, .int .i64 list, .bool s]] w fun e w' => e = .returned (.int .u32 (nearR cond imm)) ∧ Below w.heap.size w w' := by
  unfold nearR
  have HB := Lib.hid (Box.start w op cond rd rn rm imm mode list s 23)
  have hO : ∀ W, Below w.heap.size w W → Calls Tryd.prog 69 #[.int .i64 3, .int .i64 imm] W fun e w' => e = .returned (.int .u32 (offR 3 imm)) ∧ Below W.heap.size W w' := fun W hb => offset_c 3 imm W (hT.below hb hT.big)
  generalize offR 3 imm = x at *
  replace hO := Lib.hid hO
  clear hT
  go_enter Tryd.func44, Tryd.ntmps44
  go_wp2_with fail
  go_region_held3 (fun w' => w'.cell? ⟨w.heap.size, 0, none⟩ = some (.int .i64 op) ∧ w'.cell? ⟨w.heap.size, 1, none⟩ = some (.int .i64 cond) ∧ w'.cell? ⟨w.heap.size, 2, none⟩ = some (.int .i64 rd) ∧ w'.cell? ⟨w.heap.size, 3, none⟩ = some (.int .i64 rn) ∧ w'.cell? ⟨w.heap.size, 4, none⟩ = some (.int .i64 rm) ∧ w'.cell? ⟨w.heap.size, 5, none⟩ = some (.int .i64 imm) ∧ w'.cell? ⟨w.heap.size, 6, none⟩ = some (.int .i64 mode) ∧ w'.cell? ⟨w.heap.size, 7, none⟩ = some (.int .i64 list) ∧ w'.cell? ⟨w.heap.size, 8, none⟩ = some (.bool s) ∧ Box w op cond rd rn rm imm mode list s w')
    (first
      | (exact HB.out.drew.held)
      | (exact HB.out.held)
      | (exact (HB.out.other _).held)
      | (go_split_ands; exact (Box.drewn (by assumption) _).held)
      | (go_split_ands; exact (Box.other (by assumption) _).held)
      | (go_split_ands; exact (Box.step (by assumption) hbel).held))
    (first
      | (go_at_call 69; refine (hO.out _ (by first | assumption | exact (Box.bel (by assumption)) | exact HB.out.bel | exact HB.out.drew.bel | exact (HB.out.other _).bel)).mono ?_; rintro e w' ⟨rfl, hbel⟩))
  all_goals
    go_split_ands
    go_wp2
    go_ret
    exact ⟨rfl, (Box.bel (by assumption))⟩
theorem farBranch_c (op cond rd rn rm imm mode list : Int) (s : Bool) (w : World) (hT : Tabs w) :
    Calls Tryd.prog 46 #[.agg #[.int .i64 op, .int .i64 cond, .int .i64 rd, .int .i64 rn, .int .i64 rm, .int .i64 imm, .int .i64 mode, .int .i64 list, .bool s]] w fun e w' => e = .returned (.int .u32 (offR 4 imm)) ∧ Below w.heap.size w w' := by
  have hT1 : ∀ o, Tabs (w.alloc o) := fun o => hT.below (n := w.heap.size) ((Below.refl _ _).alloc (Nat.le_refl _) _) hT.big
  have HO := Lib.hid (fun o => offset_c 4 imm (w.alloc o) (hT1 o))
  clear hT hT1
  generalize offR 4 imm = x at *
  go_enter Tryd.func46, Tryd.ntmps46
  go_wp2_with fail
  refine (HO.out _).mono ?_
  rintro e w1 ⟨rfl, hb⟩
  go_wp2
  go_ret
  exact ⟨rfl, ((Below.refl _ _).alloc (Nat.le_refl _) _).trans (hb.mono (by simp))⟩
end Xw
end Go.Proofs.YtgjipmlegpbaaaaDoor
