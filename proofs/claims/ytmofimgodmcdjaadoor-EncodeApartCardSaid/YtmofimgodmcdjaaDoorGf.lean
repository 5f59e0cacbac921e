/- The contracts of wide's find and numbered. No conditions. The contract of wide's numbered: each of its words joined with a word. No conditions. The contract of wide's forms; a form read out of the table. No conditions. -/
import Derived.Test.YtmofimgodmcdjaaDoorRows
import Derived.Test.YtmofimgodmcdjaaDoorKr
import Derived.Test.YtmofimgodmcdjaaDoorXt
import Derived.Test.YtmofimgodmcdjaaDoorGj

namespace Go.Proofs.YtmofimgodmcdjaaDoor
open Go.ChangeShapes Go.WideShapes Go.ChangeAt Go.RowKit
namespace Xw

theorem list15 (l : List (Int × Int)) (h : l.length = 15) : ∃ (o0 o1 o2 o3 o4 o5 o6 o7 o8 o9 o10 o11 o12 o13 o14 v0 v1 v2 v3 v4 v5 v6 v7 v8 v9 v10 v11 v12 v13 v14 : Int), l = [(o0, v0), (o1, v1), (o2, v2), (o3, v3), (o4, v4), (o5, v5), (o6, v6), (o7, v7), (o8, v8), (o9, v9), (o10, v10), (o11, v11), (o12, v12), (o13, v13), (o14, v14)] := by
  match l, h with
  | [(o0, v0), (o1, v1), (o2, v2), (o3, v3), (o4, v4), (o5, v5), (o6, v6), (o7, v7), (o8, v8), (o9, v9), (o10, v10), (o11, v11), (o12, v12), (o13, v13), (o14, v14)], _ => exact ⟨o0, o1, o2, o3, o4, o5, o6, o7, o8, o9, o10, o11, o12, o13, o14, v0, v1, v2, v3, v4, v5, v6, v7, v8, v9, v10, v11, v12, v13, v14, rfl⟩
theorem index_bg (o0 o1 o2 o3 o4 o5 o6 o7 o8 o9 o10 o11 o12 o13 o14 v0 v1 v2 v3 v4 v5 v6 v7 v8 v9 v10 v11 v12 v13 v14 : Int) (k : Nat) (hk : k < 15) (w : World) : (Instr.index 45 (.agg #[.int .i64 o0, .int .u32 v0, .int .i64 o1, .int .u32 v1, .int .i64 o2, .int .u32 v2, .int .i64 o3, .int .u32 v3, .int .i64 o4, .int .u32 v4, .int .i64 o5, .int .u32 v5, .int .i64 o6, .int .u32 v6, .int .i64 o7, .int .u32 v7, .int .i64 o8, .int .u32 v8, .int .i64 o9, .int .u32 v9, .int .i64 o10, .int .u32 v10, .int .i64 o11, .int .u32 v11, .int .i64 o12, .int .u32 v12, .int .i64 o13, .int .u32 v13, .int .i64 o14, .int .u32 v14]) (.int .i64 (k : Int))).run Tryd.prog w = .ok (.agg (bgC (([(o0, v0), (o1, v1), (o2, v2), (o3, v3), (o4, v4), (o5, v5), (o6, v6), (o7, v7), (o8, v8), (o9, v9), (o10, v10), (o11, v11), (o12, v12), (o13, v13), (o14, v14)] : List (Int × Int)).getD k (0, 0))).toArray) w := by
  rcases (by omega : k = 0 ∨ k = 1 ∨ k = 2 ∨ k = 3 ∨ k = 4 ∨ k = 5 ∨ k = 6 ∨ k = 7 ∨ k = 8 ∨ k = 9 ∨ k = 10 ∨ k = 11 ∨ k = 12 ∨ k = 13 ∨ k = 14) with rfl | rfl | rfl | rfl | rfl | rfl | rfl | rfl | rfl | rfl | rfl | rfl | rfl | rfl | rfl <;> kernel_rfl
theorem underB : Tryd.prog.underlying 45 = some (.array 15 43) := by kernel_rfl
theorem infoB : (Tryd.prog.info? 45).map (·.size) = some 30 := by kernel_rfl

set_option maxRecDepth 100000 in
set_option maxHeartbeats 4000000 in
theorem find_l (o0 o1 o2 o3 o4 o5 o6 o7 o8 o9 o10 o11 o12 o13 o14 v0 v1 v2 v3 v4 v5 v6 v7 v8 v9 v10 v11 v12 v13 v14 op : Int) (w : World) :
    Calls Tryd.prog 15 #[.agg #[.int .i64 o0, .int .u32 v0, .int .i64 o1, .int .u32 v1, .int .i64 o2, .int .u32 v2, .int .i64 o3, .int .u32 v3, .int .i64 o4, .int .u32 v4, .int .i64 o5, .int .u32 v5, .int .i64 o6, .int .u32 v6, .int .i64 o7, .int .u32 v7, .int .i64 o8, .int .u32 v8, .int .i64 o9, .int .u32 v9, .int .i64 o10, .int .u32 v10, .int .i64 o11, .int .u32 v11, .int .i64 o12, .int .u32 v12, .int .i64 o13, .int .u32 v13, .int .i64 o14, .int .u32 v14], .int .i64 op] w fun e w' => e = .returned (findV (findP op [(o0, v0), (o1, v1), (o2, v2), (o3, v3), (o4, v4), (o5, v5), (o6, v6), (o7, v7), (o8, v8), (o9, v9), (o10, v10), (o11, v11), (o12, v12), (o13, v13), (o14, v14)])) ∧ Below w.heap.size w w' := by
  have hbg := fun k hk W => index_bg o0 o1 o2 o3 o4 o5 o6 o7 o8 o9 o10 o11 o12 o13 o14 v0 v1 v2 v3 v4 v5 v6 v7 v8 v9 v10 v11 v12 v13 v14 k hk W
  have hlen : ([(o0, v0), (o1, v1), (o2, v2), (o3, v3), (o4, v4), (o5, v5), (o6, v6), (o7, v7), (o8, v8), (o9, v9), (o10, v10), (o11, v11), (o12, v12), (o13, v13), (o14, v14)] : List (Int × Int)).length = 15 := rfl
  generalize [(o0, v0), (o1, v1), (o2, v2), (o3, v3), (o4, v4), (o5, v5), (o6, v6), (o7, v7), (o8, v8), (o9, v9), (o10, v10), (o11, v11), (o12, v12), (o13, v13), (o14, v14)] = l at *
  obtain ⟨R, hR⟩ : ∃ R, findP op l = R := ⟨_, rfl⟩
  rw [hR]
  have HR := Lib.hid hR
  have HI := Lib.hid hbg
  have HL := Lib.hid hlen
  clear hR hbg hlen
  go_enter Tryd.func15, Tryd.ntmps15
  go_wp2_with (refine wpList_load_mid rfl 45 (.tmp 2) rfl w.heap.size 0 rfl [.int .i64 o0, .int .u32 v0, .int .i64 o1, .int .u32 v1, .int .i64 o2, .int .u32 v2, .int .i64 o3, .int .u32 v3, .int .i64 o4, .int .u32 v4, .int .i64 o5, .int .u32 v5, .int .i64 o6, .int .u32 v6, .int .i64 o7, .int .u32 v7, .int .i64 o8, .int .u32 v8, .int .i64 o9, .int .u32 v9, .int .i64 o10, .int .u32 v10, .int .i64 o11, .int .u32 v11, .int .i64 o12, .int .u32 v12, .int .i64 o13, .int .u32 v13, .int .i64 o14, .int .u32 v14] _ (fun j v hv => by rw [Nat.zero_add]; exact (World.cell?_alloc_new w _ _ j).trans (by simpa using hv)) underB rfl infoB ?_)
  go_loopw [9] (fun iv wr => ∃ k : Nat, k ≤ 15 ∧ iv = .int .i64 (k : Int) ∧ RowKit.Hid (findP op (l.drop k) = R) ∧ Below w.heap.size w wr) (fun iv _ => (15 - intOf iv).toNat)
  case atStart => exact ⟨0, by omega, rfl, HR, (Below.refl _ _).alloc (Nat.le_refl _) _⟩
  case round =>
    obtain ⟨k, hk15, rfl, HX, hbel⟩ := hrel
    by_cases hi : k < 15
    · have hidx := fun W => HI.out k hi W
      have hkl : k < l.length := by rw [HL.out]; exact hi
      have hN : findP op (l.getD k (0, 0) :: l.drop (k + 1)) = R := by
        rw [← HX.out, List.drop_eq_getElem_cons hkl, List.getD_eq_getElem?_getD, List.getElem?_eq_getElem hkl]; rfl
      clear HX hkl
      generalize l.getD k (0, 0) = bg at *
      obtain ⟨b0, b1⟩ := bg
      unfold bgC at hidx
      dsimp only at hidx
      have hidx2 : ∀ W : World, (Instr.index 45 (.agg #[.int .i64 o0, .int .u32 v0, .int .i64 o1, .int .u32 v1, .int .i64 o2, .int .u32 v2, .int .i64 o3, .int .u32 v3, .int .i64 o4, .int .u32 v4, .int .i64 o5, .int .u32 v5, .int .i64 o6, .int .u32 v6, .int .i64 o7, .int .u32 v7, .int .i64 o8, .int .u32 v8, .int .i64 o9, .int .u32 v9, .int .i64 o10, .int .u32 v10, .int .i64 o11, .int .u32 v11, .int .i64 o12, .int .u32 v12, .int .i64 o13, .int .u32 v13, .int .i64 o14, .int .u32 v14]) (.int .i64 (k : Int))).run Tryd.prog W = .ok (.agg #[.int .i64 b0, .int .u32 b1]) W := hidx
      clear hidx
      unfold findP at hN
      have hdk : decide ((k : Int) < 15) = true := by simp; omega
      by_cases hop : b0 = op
      · subst hop
        rw [if_pos rfl] at hN
        dsimp only at hN
        subst hN
        go_wp2
        try rw [Exit.noGoto_ret]
        go_ret2
        exact ⟨rfl, hbel.alloc (by have := hbel.size; omega) _⟩
      · rw [if_neg hop] at hN
        have hopB : (b0 == op) = false := by simp [hop]
        have HN := Lib.hid hN
        clear hN
        replace hop := Lib.hid hop
        go_wp2
        go_roundw
        case rel => exact ⟨k + 1, by omega, rfl, HN, hbel.alloc (by have := hbel.size; omega) _⟩
        case measure => simp [intOf]; omega
    · have hk' : k = 15 := by omega
      subst hk'
      have hRn : R = none := by rw [← HX.out, List.drop_of_length_le (by rw [HL.out]; exact Nat.le_refl _)]; rfl
      subst hRn
      go_wp2
      try rw [Exit.noGoto_ret]
      go_ret2
      exact ⟨rfl, hbel⟩
theorem find_w (l : List (Int × Int)) (hl : l.length = 15) (op : Int) (w : World) :
    Calls Tryd.prog 15 #[.agg (l.flatMap bgC).toArray, .int .i64 op] w fun e w' => e = .returned (findV (findP op l)) ∧ Below w.heap.size w w' := by
  obtain ⟨o0, o1, o2, o3, o4, o5, o6, o7, o8, o9, o10, o11, o12, o13, o14, v0, v1, v2, v3, v4, v5, v6, v7, v8, v9, v10, v11, v12, v13, v14, rfl⟩ := list15 l hl
  exact find_l o0 o1 o2 o3 o4 o5 o6 o7 o8 o9 o10 o11 o12 o13 o14 v0 v1 v2 v3 v4 v5 v6 v7 v8 v9 v10 v11 v12 v13 v14 op w
end Xw
end Go.Proofs.YtmofimgodmcdjaaDoor

namespace Go.Proofs.YtmofimgodmcdjaaDoor
open Go.ChangeShapes Go.WideShapes Go.ChangeAt Go.RowKit
namespace Xw

theorem Meets.lit {a : Act} {n : Nat} {e : Nat → Value} (h : Meets a n e) : a.tmps = ((List.range n).map e).toArray := by
  apply Array.ext
  · simp [h.1]
  · intro i h1 h2
    have h3 := h.2 i
    have e1 : a.tmps.getD i undef = a.tmps[i] := by simp [Array.getD, h1]
    rw [e1] at h3
    rw [h3]
    simp
theorem below_cells {B b : Nat} {a : World} (hb : B ≤ b) : ∀ (vs : List Value) (o : Nat) {w : World}, Below B a w → Below B a (w.setCells b o vs)
  | [], _, _, h => h
  | v :: r, o, _, h => below_cells hb r (o + 1) (h.setCell (p := ⟨b, o, none⟩) hb v)
/-- the op of number j, its word -/
def opAt (j : Nat) : Int := (numT.getD j (0, 0)).1
def wAt (j : Nat) : Int := (numT.getD j (0, 0)).2
/-- the cells behind k rounds -/
def numAt (x : Int) (k j : Nat) : Value := if j % 2 = 0 then .int .i64 (opAt (j / 2)) else .int .u32 (if j / 2 < k then bits .or .u32 (wAt (j / 2)) x else wAt (j / 2))
def numL (x : Int) (k : Nat) : List Value := (List.range 30).map (numAt x k)
theorem numL_at (x : Int) (k j : Nat) : (numL x k)[j]? = if j < 30 then some (numAt x k j) else none := by
  unfold numL
  rw [List.getElem?_map]
  by_cases h : j < 30
  · rw [if_pos h, List.getElem?_range h]; rfl
  · rw [if_neg h, List.getElem?_eq_none (by simp; omega)]; rfl
theorem numAt_step (x : Int) (k j : Nat) (h : j ≠ k * 2 + 1) : numAt x (k + 1) j = numAt x k j := by
  unfold numAt
  by_cases h0 : j % 2 = 0
  · rw [if_pos h0, if_pos h0]
  · rw [if_neg h0, if_neg h0]
    by_cases h1 : j / 2 < k
    · rw [if_pos h1, if_pos (by omega)]
    · rw [if_neg h1, if_neg (by omega)]
theorem numAt_new (x : Int) (k : Nat) : numAt x (k + 1) (k * 2 + 1) = .int .u32 (bits .or .u32 (wAt k) x) := by
  unfold numAt
  rw [if_neg (by omega), if_pos (by omega), show (k * 2 + 1) / 2 = k by omega]
theorem numAt_old (x : Int) (k : Nat) : numAt x k (k * 2 + 1) = .int .u32 (wAt k) := by
  unfold numAt
  rw [if_neg (by omega), if_neg (by omega), show (k * 2 + 1) / 2 = k by omega]

theorem num_one (x : Int) : (numL x 15).toArray.all (·.oneCell') = true := by
  rw [List.all_toArray]
  refine List.all_eq_true.2 fun v hv => ?_
  unfold numL at hv
  obtain ⟨j, _, rfl⟩ := List.mem_map.1 hv
  unfold numAt
  split <;> rfl
theorem num0 (x : Int) : (numL 0 0).toArray = (numL x 0).toArray := by
  have e : (numL 0 0) = numL x 0 := by
    unfold numL
    refine List.map_congr_left fun j _ => ?_
    unfold numAt
    rw [if_neg (Nat.not_lt_zero _), if_neg (Nat.not_lt_zero _)]
  exact congrArg List.toArray e
set_option maxRecDepth 100000 in
set_option maxHeartbeats 4000000 in
theorem numbered_c (x : Int) (w : World) :
    Calls Tryd.prog 26 #[.int .u32 x] w fun e w' => e = .returned (.agg (numL x 15).toArray) ∧ Below w.heap.size w w' := by
  go_enter Tryd.func26, Tryd.ntmps26
  apply wp_seq_k; intro K hK
  apply wp_region_lit
  refine wpList_firstE 1 34 _ ⟨rfl, fun _ => rfl⟩ (fun e => (e 0, e 2)) (.int .u32 x, .pointer (some ⟨w.heap.size, 0, none⟩)) (w.alloc (.cells #[.int .i64 0, .int .u32 0, .int .i64 0, .int .u32 0, .int .i64 0, .int .u32 0, .int .i64 0, .int .u32 0, .int .i64 0, .int .u32 0, .int .i64 0, .int .u32 0, .int .i64 0, .int .u32 0, .int .i64 0, .int .u32 0, .int .i64 0, .int .u32 0, .int .i64 0, .int .u32 0, .int .i64 0, .int .u32 0, .int .i64 0, .int .u32 0, .int .i64 0, .int .u32 0, .int .i64 0, .int .u32 0, .int .i64 0, .int .u32 0] 45)) (by kernel_rfl) (fun a1 e1 hv1 hm1 hd1 => ?_)
  refine wpList_nil ?_
  refine hK _ _ ?_
  clear hK K
  apply wp_seq_k; intro K hK
  apply wp_region_lit
  simp only [Prod.mk.injEq] at hv1
  obtain ⟨hx1, hp1⟩ := hv1
  refine wpList_firstE 17 34 e1 hm1 (fun e => ((e 0, e 2), e 3, e 20)) ((e1 0, e1 2), .pointer (some ⟨(w.alloc (.cells #[.int .i64 0, .int .u32 0, .int .i64 0, .int .u32 0, .int .i64 0, .int .u32 0, .int .i64 0, .int .u32 0, .int .i64 0, .int .u32 0, .int .i64 0, .int .u32 0, .int .i64 0, .int .u32 0, .int .i64 0, .int .u32 0, .int .i64 0, .int .u32 0, .int .i64 0, .int .u32 0, .int .i64 0, .int .u32 0, .int .i64 0, .int .u32 0, .int .i64 0, .int .u32 0, .int .i64 0, .int .u32 0, .int .i64 0, .int .u32 0] 45)).heap.size, 0, none⟩), .agg (numL 0 0).toArray) ((w.alloc (.cells #[.int .i64 0, .int .u32 0, .int .i64 0, .int .u32 0, .int .i64 0, .int .u32 0, .int .i64 0, .int .u32 0, .int .i64 0, .int .u32 0, .int .i64 0, .int .u32 0, .int .i64 0, .int .u32 0, .int .i64 0, .int .u32 0, .int .i64 0, .int .u32 0, .int .i64 0, .int .u32 0, .int .i64 0, .int .u32 0, .int .i64 0, .int .u32 0, .int .i64 0, .int .u32 0, .int .i64 0, .int .u32 0, .int .i64 0, .int .u32 0] 45)).alloc (.cells #[.int .i64 0, .int .u32 0, .int .i64 0, .int .u32 0, .int .i64 0, .int .u32 0, .int .i64 0, .int .u32 0, .int .i64 0, .int .u32 0, .int .i64 0, .int .u32 0, .int .i64 0, .int .u32 0, .int .i64 0, .int .u32 0, .int .i64 0, .int .u32 0, .int .i64 0, .int .u32 0, .int .i64 0, .int .u32 0, .int .i64 0, .int .u32 0, .int .i64 0, .int .u32 0, .int .i64 0, .int .u32 0, .int .i64 0, .int .u32 0] 45)) (by kernel_rfl) (fun a2 e2 hv2 hm2 hd2 => ?_)
  have hd0 : a2.defers = [] := hd2.trans hd1
  simp only [Prod.mk.injEq] at hv2
  obtain ⟨⟨hx2, hp2⟩, hq2, hs2⟩ := hv2
  rw [hx1] at hx2
  rw [hp1] at hp2
  clear hx1 hp1 hm1 hd1 hd2
  refine wpList_store_new rfl rfl 45 (.tmp 3) (.tmp 20) rfl _ (numL 0 0) ?_ ?_ rfl (by kernel_rfl) (by kernel_rfl) ?_
  · rw [hm2.eval]; exact hq2
  · rw [hm2.eval]; exact hs2
  refine wpList_nil ?_
  refine hK _ _ ?_
  clear hK K
  obtain ⟨tm, df⟩ := a2
  have ht := Meets.lit hm2
  dsimp only at ht hd0
  subst hd0 ht
  rw [show ((List.range 34).map e2).toArray = #[e2 0, e2 1, e2 2, e2 3, e2 4, e2 5, e2 6, e2 7, e2 8, e2 9, e2 10, e2 11, e2 12, e2 13, e2 14, e2 15, e2 16, e2 17, e2 18, e2 19, e2 20, e2 21, e2 22, e2 23, e2 24, e2 25, e2 26, e2 27, e2 28, e2 29, e2 30, e2 31, e2 32, e2 33] from rfl, hx2, hp2, hq2]
  rw [show (w.alloc (.cells #[.int .i64 0, .int .u32 0, .int .i64 0, .int .u32 0, .int .i64 0, .int .u32 0, .int .i64 0, .int .u32 0, .int .i64 0, .int .u32 0, .int .i64 0, .int .u32 0, .int .i64 0, .int .u32 0, .int .i64 0, .int .u32 0, .int .i64 0, .int .u32 0, .int .i64 0, .int .u32 0, .int .i64 0, .int .u32 0, .int .i64 0, .int .u32 0, .int .i64 0, .int .u32 0, .int .i64 0, .int .u32 0, .int .i64 0, .int .u32 0] 45)).heap.size = w.heap.size + 1 by simp]
  clear hm2 hs2 hx2 hp2 hq2
  generalize e2 1 = u1
  generalize e2 4 = u4
  generalize e2 5 = u5
  generalize e2 6 = u6
  generalize e2 7 = u7
  generalize e2 8 = u8
  generalize e2 9 = u9
  generalize e2 10 = u10
  generalize e2 11 = u11
  generalize e2 12 = u12
  generalize e2 13 = u13
  generalize e2 14 = u14
  generalize e2 15 = u15
  generalize e2 16 = u16
  generalize e2 17 = u17
  generalize e2 18 = u18
  generalize e2 19 = u19
  generalize e2 20 = u20
  generalize e2 21 = u21
  generalize e2 22 = u22
  generalize e2 23 = u23
  generalize e2 24 = u24
  generalize e2 25 = u25
  generalize e2 26 = u26
  generalize e2 27 = u27
  generalize e2 28 = u28
  generalize e2 29 = u29
  generalize e2 30 = u30
  generalize e2 31 = u31
  generalize e2 32 = u32
  generalize e2 33 = u33
  have hL0 : ∀ j : Nat, ((numL 0 0).toArray)[j]? = (numL x 0)[j]? := fun j => by
    rw [num0 x, List.getElem?_toArray]
  generalize hZ : (#[.int .i64 0, .int .u32 0, .int .i64 0, .int .u32 0, .int .i64 0, .int .u32 0, .int .i64 0, .int .u32 0, .int .i64 0, .int .u32 0, .int .i64 0, .int .u32 0, .int .i64 0, .int .u32 0, .int .i64 0, .int .u32 0, .int .i64 0, .int .u32 0, .int .i64 0, .int .u32 0, .int .i64 0, .int .u32 0, .int .i64 0, .int .u32 0, .int .i64 0, .int .u32 0, .int .i64 0, .int .u32 0, .int .i64 0, .int .u32 0] : Array Value) = Z at *
  generalize hC0 : (numL 0 0).toArray = C0 at *
  have hZ30 : Z.size = 30 := by rw [← hZ]; rfl
  clear hZ hC0
  go_wp2_with fail
  have hst : ∀ j : Nat, ((w.alloc (.cells Z 45)).alloc (.cells C0 45)).cell? ⟨w.heap.size + 1, j, none⟩ = (numL x 0)[j]? := fun j => by
    have h := World.cell?_alloc_new (w.alloc (.cells Z 45)) C0 45 j
    rw [show (w.alloc (.cells Z 45)).heap.size = w.heap.size + 1 by simp] at h
    exact h.trans (hL0 j)
  have hfr : ∀ j : Nat, ((w.alloc (.cells Z 45)).alloc (.cells C0 45)).frozen? ⟨w.heap.size + 1, j, none⟩ = false := fun j => by
    have h := World.frozen?_alloc_new (w.alloc (.cells Z 45)) C0 45 j
    rwa [show (w.alloc (.cells Z 45)).heap.size = w.heap.size + 1 by simp] at h
  have hth : ((w.alloc (.cells Z 45)).alloc (.cells C0 45)).there w.heap.size 0 30 := by
    have h := there_new w Z 45 30 (by omega)
    exact fun j hj => ⟨by rw [World.cell?_alloc_lt _ _ _ (by simp)]; exact (h j hj).1, by rw [World.frozen?_alloc_past _ _ _ (by simp)]; exact (h j hj).2⟩
  replace hst := Lib.hid hst
  replace hfr := Lib.hid hfr
  clear hL0
  go_loopw [21] (fun iv wr => ∃ k : Nat, k ≤ 15 ∧ iv = .int .i64 (k : Int) ∧ RowKit.Hid (∀ j : Nat, wr.cell? ⟨w.heap.size + 1, j, none⟩ = (numL x k)[j]?) ∧ RowKit.Hid (∀ j : Nat, wr.frozen? ⟨w.heap.size + 1, j, none⟩ = false) ∧ wr.there w.heap.size 0 30 ∧ w.heap.size + 1 < wr.heap.size ∧ Below w.heap.size w wr) (fun iv _ => (15 - intOf iv).toNat)
  case atStart => exact ⟨0, by omega, rfl, hst, hfr, hth, by simp, ((Below.refl _ _).alloc (Nat.le_refl _) _).alloc (by simp) _⟩
  case round =>
    obtain ⟨k, hk15, rfl, HC, HF, hth, hsz, hbel⟩ := hrel
    by_cases hi : k < 15
    · have h1 : wr.cell? ⟨w.heap.size + 1, k * 2 + 1, none⟩ = some (.int .u32 (wAt k)) := by rw [HC.out, numL_at, if_pos (by omega), numAt_old]
      have h2 := HF.out (k * 2 + 1)
      obtain ⟨wk, hwk⟩ : ∃ v, wAt k = v := ⟨_, rfl⟩
      rw [hwk] at h1
      have HW := Lib.hid hwk
      clear hwk
      go_wp2
      go_roundw
      case rel =>
        refine ⟨k + 1, by omega, rfl, Lib.hid (fun j => ?_), Lib.hid (fun j => by rw [World.frozen?_setCell]; exact HF.out j), ?_, ?_, ?_⟩
        · by_cases hj : j = k * 2 + 1
          · subst hj
            rw [World.cell?_setCell_same wr _ _ h1, numL_at, if_pos (by omega), numAt_new, HW.out]
          · rw [World.cell?_setCell_other wr ⟨w.heap.size + 1, k * 2 + 1, none⟩ ⟨w.heap.size + 1, j, none⟩ _ (fun h => hj (by injection h with _ h2; exact h2.symm)), HC.out, numL_at, numL_at, numAt_step x k j hj]
        · exact World.there_setCells hth (w.heap.size + 1) (k * 2 + 1) [_]
        · simpa [World.setCell] using hsz
        · exact hbel.setCell (p := ⟨w.heap.size + 1, k * 2 + 1, none⟩) (by simp) _
      case measure => simp [intOf]; omega
    · have hk : k = 15 := by omega
      subst hk
      have hdk : decide (((15 : Nat) : Int) < 15) = false := by decide
      have hrng : wr.rangeAt (w.heap.size + 1) 0 (numL x 15) := fun j v hv => by
        rw [Nat.zero_add]
        exact (HC.out j).trans hv
      have hlen : (numL x 15).length = 30 := by unfold numL; simp
      generalize hN : numL x 15 = N at *
      have HN := Lib.hid hN
      clear hN HC HF
      go_wp2_with (first
        | (refine wpList_load_mid rfl 45 (.tmp 3) rfl (w.heap.size + 1) 0 rfl N _ hrng underB rfl (by rw [infoB, hlen]) ?_)
        | (refine wpList_store_mid rfl 45 (.tmp 2) (.tmp 33) rfl w.heap.size 0 N.toArray rfl rfl (by simpa [hlen] using hth) (by rw [infoB]; simp [hlen]) ?_ ?_))
      · rw [← HN.out]; exact num_one x
      · have hr := World.rangeAt_setCells_same wr w.heap.size 0 N (by rw [hlen]; exact hth)
        refine bodyPost_ret (v := .agg N.toArray) ?_ rfl ⟨by rw [HN.out], below_cells (Nat.le_refl _) _ _ hbel⟩
        exact results_cell (P := Tryd.prog) 2 45 w.heap.size N _ (by kernel_rfl) rfl hr underB rfl (by rw [infoB, hlen])
end Xw
end Go.Proofs.YtmofimgodmcdjaaDoor

namespace Go.Proofs.YtmofimgodmcdjaaDoor
open Go.ChangeShapes Go.WideShapes Go.ChangeAt Go.RowKit
namespace Xw

/-- a call of a Go function, ahead of the rest -/
theorem wpList_call_one {P : Program} {ops : Array Oper} {Q : Exit → Act → World → Prop} {l : List Oper} {a : Act} {w : World} (f : FuncId) (args : Array Value) (d : Tmp) (v : Value) (R : World → Prop)
    (hg : (l.take 1).map (·.guard) = [none]) (hd : (l.take 1).map (·.dst) = [some d])
    (hr : (l.take 1).map (fun o => (execOp a.eval o).run P w) = [.ok (.enter f args) w])
    (hc : Calls P f args w fun e w' => e = .returned v ∧ R w')
    (h : ∀ w', R w' → wpList P ops Q (l.drop 1) (a.put (some d) v) w') : wpList P ops Q l a w := by
  cases l with
  | nil => cases hg
  | cons op r =>
    simp only [List.take_succ_cons, List.take_zero, List.map_cons, List.map_nil, List.cons.injEq, and_true] at hg hd hr
    refine wpList_plain hg fun K hK => ?_
    unfold Oper.wp
    rw [hr, Oper.upon_enter]
    refine hc.mono ?_
    rintro e w' ⟨rfl, hw⟩
    rw [hd]
    exact hK _ _ (h w' hw)
theorem underF : Tryd.prog.underlying 50 = some (.array 21 49) := by kernel_rfl
theorem infoF : (Tryd.prog.info? 50).map (·.size) = some formCells.length := by kernel_rfl
theorem info672 : formCells.length = 672 := by kernel_rfl
theorem oneF : formCells.toArray.all (·.oneCell') = true := by kernel_rfl
def zeroForm : List Value := (List.replicate 15 [.int .i64 0, .int .u32 0]).flatten ++ [.nilFunc, .nilFunc]
def zeros : List Value := (List.replicate 21 zeroForm).flatten
theorem zeroF : ((Tryd.prog.info? 50).bind (·.zero)).map (·.cells) = some zeros.toArray := by kernel_rfl
theorem zeros672 : zeros.toArray.size = 672 := by kernel_rfl
theorem sizeF : (Tryd.prog.info? 49).map (·.size) = some 32 := by kernel_rfl
theorem zip_maps {e : Nat → Value} : ∀ {l : List Nat} {r : List (List Value)}, l.map e = (r.map fun v => Value.agg v.toArray) → ∀ k, ((l.zipIdx k).map fun (x : Nat × Nat) => (x.2, e x.1)) = (r.zipIdx k).map fun (x : List Value × Nat) => (x.2, Value.agg x.1.toArray)
  | [], [], _, _ => rfl
  | a :: l, v :: r, h, k => by
    simp only [List.map_cons, List.cons.injEq] at h
    simp only [List.zipIdx_cons, List.map_cons, h.1, zip_maps h.2 (k + 1)]
def formSlots : List Nat := [2, 6, 8, 14, 20, 23, 27, 31, 39, 47, 51, 55, 58, 61, 64, 67, 70, 73, 76, 79, 82]
def formRows : List (List Value) := formT.map fmC
theorem rows32 : ∀ v ∈ formRows, v.length = 32 := by
  have h : (formRows.all fun v => v.length == 32) = true := by kernel_rfl
  intro v hv
  simpa using List.all_eq_true.1 h v hv
theorem rowsFlat : formRows.flatten = formCells := rfl
def row (n : Nat) : Value := .agg (fmC (formT.getD n ⟨[], 0, 0⟩)).toArray

set_option maxRecDepth 100000 in
theorem forms_c (w : World) :
    Calls Tryd.prog 14 #[] w fun e w' => e = .returned (.agg formCells.toArray) ∧ Below w.heap.size w w' := by
  go_enter Tryd.func14, Tryd.ntmps14
  apply wp_seq_k; intro K hK
  apply wp_region_lit
  refine wpList_firstE 1 84 _ ⟨rfl, fun _ => rfl⟩ (fun e => e 0) (.pointer (some ⟨w.heap.size, 0, none⟩)) (w.alloc (.cells zeros.toArray 50)) (by kernel_rfl) (fun a1 e1 hv1 hm1 hd1 => ?_)
  refine wpList_nil ?_
  refine hK _ _ ?_
  clear hK K
  apply wp_seq_k; intro K hK
  apply wp_region_lit
  have hb0 : Below w.heap.size w (w.alloc (.cells zeros.toArray 50)) := (Below.refl _ _).alloc (Nat.le_refl _) _
  have hT0 : (w.alloc (.cells zeros.toArray 50)).there w.heap.size 0 672 := there_new w zeros.toArray _ _ (Nat.le_of_eq zeros672.symm)
  have hs0 : w.heap.size < (w.alloc (.cells zeros.toArray 50)).heap.size := by simp
  generalize w.alloc (.cells zeros.toArray 50) = W at *
  have hlater : ∀ {V V' : World}, V.there w.heap.size 0 672 → w.heap.size < V.heap.size → Below V.heap.size V V' → V'.there w.heap.size 0 672 := fun h hs hb j hj => by
    have hj' := h j hj
    exact ⟨by rw [hb.cell (p := ⟨w.heap.size, 0 + j, none⟩) hs]; exact hj'.1, by rw [hb.frozen (p := ⟨w.heap.size, 0 + j, none⟩) hs]; exact hj'.2⟩
  refine wpList_call_one 26 #[.int .u32 4026531840] 1 (.agg (numL 4026531840 15).toArray) (Below W.heap.size W) (by kernel_rfl) (by kernel_rfl) (by kernel_rfl) (numbered_c _ _) (fun W1 hb1 => ?_)
  have hT1 := hlater hT0 hs0 hb1
  have hs1 := Nat.lt_of_lt_of_le hs0 hb1.size
  have hm1' := hm1.put 1 (.agg (numL 4026531840 15).toArray) (by decide)
  refine wpList_firstE 5 84 _ hm1' (fun e => (e 0, e 2, e 6)) (e1 0, row 0, row 1) W1 (by kernel_rfl) (fun a2 e2 hv2 hm2 hd2 => ?_)
  refine wpList_call_one 26 #[.int .u32 3925868544] 7 (.agg (numL 3925868544 15).toArray) (Below W1.heap.size W1) (by kernel_rfl) (by kernel_rfl) (by kernel_rfl) (numbered_c _ _) (fun W2 hb2 => ?_)
  have hT2 := hlater hT1 hs1 hb2
  have hs2 := Nat.lt_of_lt_of_le hs1 hb2.size
  have hm2' := hm2.put 7 (.agg (numL 3925868544 15).toArray) (by decide)
  refine wpList_firstE 75 84 _ hm2' (fun e => (e 0, (e 2, e 6), (formSlots.drop 2).map e)) (e2 0, (e2 2, e2 6), (formRows.drop 2).map fun v => .agg v.toArray) W2 (by kernel_rfl) (fun a3 e3 hv3 hm3 hd3 => ?_)
  have hd0 : a3.defers = [] := hd3.trans (hd2.trans hd1)
  simp only [Prod.mk.injEq] at hv2 hv3
  obtain ⟨hp2, hq2, hr2⟩ := hv2
  obtain ⟨hp3, ⟨hq3, hr3⟩, hs3⟩ := hv3
  have hp : e3 0 = .pointer (some ⟨w.heap.size, 0, none⟩) := hp3.trans (hp2.trans hv1)
  have hs : formSlots.map e3 = formRows.map fun v => .agg v.toArray := by
    show e3 2 :: e3 6 :: (formSlots.drop 2).map e3 = row 0 :: row 1 :: (formRows.drop 2).map fun v => .agg v.toArray
    rw [hs3, hq3, hr3, hq2, hr2]
  clear hv1 hm1 hm1' hd1 hm2 hm2' hd2 hd3 hp2 hq2 hr2 hp3 hq3 hr3 hs3
  refine wpList_build_one 50 ((formSlots.zipIdx 0).map fun (x : Nat × Nat) => (x.2, Operand.tmp x.1)).toArray 83 formCells.toArray (by kernel_rfl) (by kernel_rfl) (by kernel_rfl) ?_ ?_
  · rw [hm3.eval, ← rowsFlat]
    have h := built_all (P := Tryd.prog) 32 zeros formRows underF zeroF sizeF rows32 (by kernel_rfl)
    rw [← h]
    have e3' : ((formSlots.zipIdx 0).map fun (x : Nat × Nat) => (x.2, e3 x.1)) = (formRows.zipIdx 0).map fun (x : List Value × Nat) => (x.2, Value.agg x.1.toArray) := zip_maps hs 0
    rw [← e3']
    simp [evalE]
    rfl
  · have hm := hm3.put 83 (.agg formCells.toArray) (by decide)
    have hT : W2.there w.heap.size 0 formCells.toArray.toList.length := by
      have e : formCells.toArray.toList.length = 672 := info672
      rw [e]; exact hT2
    refine wpList_last_store 50 (.tmp 0) (.tmp 83) w.heap.size formCells.toArray (by kernel_rfl) (by kernel_rfl) (by kernel_rfl) ?_ ?_ ?_ ?_ oneF ?_
    · rw [hm.eval]; exact hp
    · rw [hm.eval]; rfl
    · simpa using hT
    · rw [infoF]; simp
    · refine hK _ _ ?_
      clear hK K
      apply wp_ret
      have hr := World.rangeAt_setCells_same W2 w.heap.size 0 formCells.toArray.toList hT
      refine bodyPost_ret (v := .agg formCells.toArray) ?_ hd0 ⟨rfl, ?_⟩
      · have h := results_cell (P := Tryd.prog) (fn := Tryd.f14) (tmps := (a3.put (some 83) (.agg formCells.toArray)).tmps) 0 50 w.heap.size formCells.toArray.toList _ (by kernel_rfl) (by rw [hm.2]; exact hp) hr underF rfl (by rw [infoF])
        rw [h]
      · exact below_cells (Nat.le_refl _) _ _ ((hb0.trans (hb1.mono (Nat.le_of_lt hs0))).trans (hb2.mono (Nat.le_of_lt hs1)))

theorem index_form_0 (w : World) : (Instr.index 50 (.agg formCells.toArray) (.int .i64 0)).run Tryd.prog w = .ok (row 0) w := by kernel_rfl
theorem index_form_1 (w : World) : (Instr.index 50 (.agg formCells.toArray) (.int .i64 1)).run Tryd.prog w = .ok (row 1) w := by kernel_rfl
theorem index_form_2 (w : World) : (Instr.index 50 (.agg formCells.toArray) (.int .i64 2)).run Tryd.prog w = .ok (row 2) w := by kernel_rfl
theorem index_form_3 (w : World) : (Instr.index 50 (.agg formCells.toArray) (.int .i64 3)).run Tryd.prog w = .ok (row 3) w := by kernel_rfl
theorem index_form_4 (w : World) : (Instr.index 50 (.agg formCells.toArray) (.int .i64 4)).run Tryd.prog w = .ok (row 4) w := by kernel_rfl
theorem index_form_5 (w : World) : (Instr.index 50 (.agg formCells.toArray) (.int .i64 5)).run Tryd.prog w = .ok (row 5) w := by kernel_rfl
theorem index_form_6 (w : World) : (Instr.index 50 (.agg formCells.toArray) (.int .i64 6)).run Tryd.prog w = .ok (row 6) w := by kernel_rfl
theorem index_form_7 (w : World) : (Instr.index 50 (.agg formCells.toArray) (.int .i64 7)).run Tryd.prog w = .ok (row 7) w := by kernel_rfl
theorem index_form_8 (w : World) : (Instr.index 50 (.agg formCells.toArray) (.int .i64 8)).run Tryd.prog w = .ok (row 8) w := by kernel_rfl
theorem index_form_9 (w : World) : (Instr.index 50 (.agg formCells.toArray) (.int .i64 9)).run Tryd.prog w = .ok (row 9) w := by kernel_rfl
theorem index_form_10 (w : World) : (Instr.index 50 (.agg formCells.toArray) (.int .i64 10)).run Tryd.prog w = .ok (row 10) w := by kernel_rfl
theorem index_form_11 (w : World) : (Instr.index 50 (.agg formCells.toArray) (.int .i64 11)).run Tryd.prog w = .ok (row 11) w := by kernel_rfl
theorem index_form_12 (w : World) : (Instr.index 50 (.agg formCells.toArray) (.int .i64 12)).run Tryd.prog w = .ok (row 12) w := by kernel_rfl
theorem index_form_13 (w : World) : (Instr.index 50 (.agg formCells.toArray) (.int .i64 13)).run Tryd.prog w = .ok (row 13) w := by kernel_rfl
theorem index_form_14 (w : World) : (Instr.index 50 (.agg formCells.toArray) (.int .i64 14)).run Tryd.prog w = .ok (row 14) w := by kernel_rfl
theorem index_form_15 (w : World) : (Instr.index 50 (.agg formCells.toArray) (.int .i64 15)).run Tryd.prog w = .ok (row 15) w := by kernel_rfl
theorem index_form_16 (w : World) : (Instr.index 50 (.agg formCells.toArray) (.int .i64 16)).run Tryd.prog w = .ok (row 16) w := by kernel_rfl
theorem index_form_17 (w : World) : (Instr.index 50 (.agg formCells.toArray) (.int .i64 17)).run Tryd.prog w = .ok (row 17) w := by kernel_rfl
theorem index_form_18 (w : World) : (Instr.index 50 (.agg formCells.toArray) (.int .i64 18)).run Tryd.prog w = .ok (row 18) w := by kernel_rfl
theorem index_form_19 (w : World) : (Instr.index 50 (.agg formCells.toArray) (.int .i64 19)).run Tryd.prog w = .ok (row 19) w := by kernel_rfl
theorem index_form_20 (w : World) : (Instr.index 50 (.agg formCells.toArray) (.int .i64 20)).run Tryd.prog w = .ok (row 20) w := by kernel_rfl
theorem index_form : ∀ (k : Nat), k < 21 → ∀ w : World, (Instr.index 50 (.agg formCells.toArray) (.int .i64 (k : Int))).run Tryd.prog w = .ok (row k) w
  | 0, _, w => index_form_0 w
  | 1, _, w => index_form_1 w
  | 2, _, w => index_form_2 w
  | 3, _, w => index_form_3 w
  | 4, _, w => index_form_4 w
  | 5, _, w => index_form_5 w
  | 6, _, w => index_form_6 w
  | 7, _, w => index_form_7 w
  | 8, _, w => index_form_8 w
  | 9, _, w => index_form_9 w
  | 10, _, w => index_form_10 w
  | 11, _, w => index_form_11 w
  | 12, _, w => index_form_12 w
  | 13, _, w => index_form_13 w
  | 14, _, w => index_form_14 w
  | 15, _, w => index_form_15 w
  | 16, _, w => index_form_16 w
  | 17, _, w => index_form_17 w
  | 18, _, w => index_form_18 w
  | 19, _, w => index_form_19 w
  | 20, _, w => index_form_20 w
  | n + 21, h, _ => by omega
theorem underFm : Tryd.prog.underlying 49 = some (.struct (Tryd.prog.fieldsOf 49)) := by kernel_rfl
end Xw
end Go.Proofs.YtmofimgodmcdjaaDoor
