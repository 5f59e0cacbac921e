/- Short's Decode: the search over its rows; Long. No conditions but those that each fact names (text by gen_yd.py). What the laws of short ask of the program: it reads what the document's rows say. No conditions. -/
import Derived.Test.YtcphhojdfpedkaaDoorSr
import Derived.Test.YtcphhojdfpedkaaDoorYr
import Derived.Test.YtcphhojdfpedkaaDoorSh

namespace Go.Proofs.YtcphhojdfpedkaaDoor
open Go.ChangeShapes Go.WideShapes Go.ChangeAt Go.RowKit
namespace Ys
open Sp (P readP searchP)
theorem decO_open (O : Option Nm.I) : ∃ (op cond rd rn rm imm mode list : Int) (s b : Bool), decO O = .tuple #[.agg #[.int .i64 op, .int .i64 cond, .int .i64 rd, .int .i64 rn, .int .i64 rm, .int .i64 imm, .int .i64 mode, .int .i64 list, .bool s], .bool b] := by
  cases O with
  | none => exact ⟨0, 0, 0, 0, 0, 0, 0, 0, false, false, rfl⟩
  | some i => exact ⟨i.op, i.cond, i.rd, i.rn, i.rm, i.imm, i.mode, i.list, i.s, true, rfl⟩
set_option maxRecDepth 20000 in
set_option maxHeartbeats 1000000 in
theorem dec1_c (r : Sp.R) (ho : okR r) (h : Int) (it : Bool) (h0 : 0 ≤ h) (h1 : h < 65536) (g q : Nat) (w : World) (hg : w.cell? ⟨g, 0, none⟩ = some (.int .u32 h)) (hq : w.cell? ⟨q, 0, none⟩ = some (.bool it)) (hT : Tabs w) :
    Calls Tryd.prog 18 #[.agg (rowC r).toArray, .pointer (some ⟨g, 0, none⟩), .pointer (some ⟨q, 0, none⟩)] w fun e w' => e = .returned (decO (readP r h it)) ∧ Below w.heap.size w w' := by
  have hlg : g < w.heap.size := World.block_lt_of_cell? w _ hg
  have hlq : q < w.heap.size := World.block_lt_of_cell? w _ hq
  have hR0 := RdAt.start w r 45 23
  have hrow0 := hR0.row.all
  have hl42 : (Tryd.prog.info? 45).map (·.size) = some (rowC r).length := by rw [row_len ho]; exact sizeT
  have hg2 : ((w.alloc (.cells (rowC r).toArray 45)).alloc (.cells #[.int .i64 0, .int .i64 0, .int .i64 0, .int .i64 0, .int .i64 0, .int .i64 0, .int .i64 0, .int .i64 0, .bool false] 23)).cell? ⟨g, 0, none⟩ = some (.int .u32 h) := (hR0.bel.cell (p := ⟨g, 0, none⟩) hlg).trans hg
  have hq2 : ((w.alloc (.cells (rowC r).toArray 45)).alloc (.cells #[.int .i64 0, .int .i64 0, .int .i64 0, .int .i64 0, .int .i64 0, .int .i64 0, .int .i64 0, .int .i64 0, .bool false] 23)).cell? ⟨q, 0, none⟩ = some (.bool it) := (hR0.bel.cell (p := ⟨q, 0, none⟩) hlq).trans hq
  have HC := Lib.hid (fun W hT => read_c r ho h it h0 h1 W hT)
  have hT2 := Lib.hid (hT.below hR0.bel hT.big)
  replace hR0 := Lib.hid hR0
  obtain ⟨O, hO⟩ : ∃ O, decO (readP r h it) = O := ⟨_, rfl⟩
  rw [hO] at HC
  rw [hO]
  obtain ⟨op, cond, rd, rn, rm, imm, mode, list, s, b, rfl⟩ : ∃ (op cond rd rn rm imm mode list : Int) (s b : Bool), O = .tuple #[.agg #[.int .i64 op, .int .i64 cond, .int .i64 rd, .int .i64 rn, .int .i64 rm, .int .i64 imm, .int .i64 mode, .int .i64 list, .bool s], .bool b] := by rw [← hO]; exact decO_open _
  clear hg hq hO ho hT
  generalize hL : rowC r = L at *
  go_enter Tryd.func18, Tryd.ntmps18
  go_wp2_with (refine wpList_load_mid rfl 45 (.tmp 3) rfl w.heap.size 0 rfl L _ hrow0 underR rfl hl42 ?_)
  refine (HC.out _ hT2.out).mono ?_
  rintro e w2 ⟨rfl, hb2⟩
  have hR3 := hR0.out.step hb2
  have hres := hR3.res
  have hfr := hR3.free
  have hlt := hR3.lt
  have hbel := Lib.hid hR3.bel
  unfold insC Sm.noneI at hres
  dsimp only at hres
  clear hR3 hb2 hR0 hg2 hq2 hrow0
  go_wp2
  refine bodyPost_ret (v := .tuple #[.agg #[.int .i64 op, .int .i64 cond, .int .i64 rd, .int .i64 rn, .int .i64 rm, .int .i64 imm, .int .i64 mode, .int .i64 list, .bool s], .bool b]) (by simp [results, Tryd.f18, go_sem, hres]) rfl ?_
  refine ⟨rfl, ?_⟩
  iterate 9 refine Below.setCell ?_ (Nat.le_succ _) _
  exact hbel.out
/-! the table lies at block t -/
def TabAt (w : World) (t : Nat) : Prop := w.rangeAt t 0 tabC
theorem flat_at : ∀ (L : List (List Value)), (∀ v ∈ L, v.length = 42) → ∀ k j v, k < L.length → (L.getD k [])[j]? = some v → L.flatten[k * 42 + j]? = some v
  | [], _, k, j, v, hk, _ => absurd hk (Nat.not_lt_zero _)
  | a :: L, hL, k, j, v, hk, h => by
    have ha := hL a (by simp)
    cases k with
    | zero =>
      have hj := (List.getElem?_eq_some_iff.1 h).1
      simp only [List.getD_cons_zero] at h hj
      rw [List.flatten_cons, Nat.zero_mul, Nat.zero_add, List.getElem?_append_left hj]
      exact h
    | succ k =>
      have := flat_at L (fun v hv => hL v (by simp [hv])) k j v (by simpa using hk) (by simpa using h)
      rw [List.flatten_cons, List.getElem?_append_right (by omega), show (k + 1) * 42 + j - a.length = k * 42 + j by omega]
      exact this
theorem TabAt.row {w : World} {t : Nat} (h : TabAt w t) (k : Nat) (hk : k < 34) : w.rangeAt t (k * 42) (rowC (Sp.rowsT.getD k ⟨[], Sm.noneI, 0, []⟩)) := fun j v hv => by
  have h1 : (Sp.rowsT.map rowC).getD k [] = rowC (Sp.rowsT.getD k ⟨[], Sm.noneI, 0, []⟩) := by
    have hl : k < Sp.rowsT.length := hk
    rw [List.getD_eq_getElem?_getD, List.getD_eq_getElem?_getD, List.getElem?_map, List.getElem?_eq_getElem hl]
    rfl
  rw [← h1] at hv
  have := h _ _ (flat_at (Sp.rowsT.map rowC) rows42 k j v hk hv)
  rwa [Nat.zero_add] at this
def okRB (r : Sp.R) : Bool := (r.of_.length == 6) && (r.pcs.length == 5) && (r.pcs.all fun p => decide (0 ≤ p.at_) && decide (p.at_ ≤ 16) && decide (0 ≤ p.count) && decide (p.count ≤ 16) && decide (0 ≤ p.up) && decide (p.up ≤ 15) && decide (0 ≤ p.field) && decide (p.field ≤ 8)) &&
  (r.says == 0 || r.says == 1 || r.says == 2 || r.says == 4 || r.says == 5 || r.says == 9 || r.says == 16)
theorem okR_of {r : Sp.R} (h : okRB r = true) : okR r := by
  unfold okRB at h
  simp only [Bool.and_eq_true, Bool.or_eq_true, beq_iff_eq, List.all_eq_true, decide_eq_true_eq] at h
  obtain ⟨⟨⟨h1, h2⟩, h3⟩, h4⟩ := h
  refine ⟨h1, h2, fun p hp => ?_, by omega⟩
  have := h3 p hp
  unfold okP
  omega
theorem rows_ok : ∀ r ∈ Sp.rowsT, okR r := by
  have h : (Sp.rowsT.all okRB) = true := by decide +kernel
  exact fun r hr => okR_of (List.all_eq_true.1 h r hr)
theorem rows_len : Sp.rowsT.length = 34 := rfl
theorem nine_alloc {B b : Nat} {a w' : World} (hb : Below B a w') (hB : B ≤ b) (hz : B ≤ w'.heap.size) (v0 v1 v2 v3 v4 v5 v6 v7 v8 : Value) (o : Obj) : Below B a ((((((((((w'.setCell ⟨b, 0, none⟩ v0).setCell ⟨b, 1, none⟩ v1).setCell ⟨b, 2, none⟩ v2).setCell ⟨b, 3, none⟩ v3).setCell ⟨b, 4, none⟩ v4).setCell ⟨b, 5, none⟩ v5).setCell ⟨b, 6, none⟩ v6).setCell ⟨b, 7, none⟩ v7).setCell ⟨b, 8, none⟩ v8).alloc o) :=
  (((((((((hb.setCell (p := ⟨b, 0, none⟩) hB v0).setCell (p := ⟨b, 1, none⟩) hB v1).setCell (p := ⟨b, 2, none⟩) hB v2).setCell (p := ⟨b, 3, none⟩) hB v3).setCell (p := ⟨b, 4, none⟩) hB v4).setCell (p := ⟨b, 5, none⟩) hB v5).setCell (p := ⟨b, 6, none⟩) hB v6).setCell (p := ⟨b, 7, none⟩) hB v7).setCell (p := ⟨b, 8, none⟩) hB v8).alloc (by simpa using hz) o
set_option maxRecDepth 20000 in
set_option maxHeartbeats 2000000 in
theorem first_c (h : Int) (it : Bool) (h0 : 0 ≤ h) (h1 : h < 65536) (t g q cp : Nat) (w : World) (ht : TabAt w t) (hlt : t < w.heap.size) (hg : w.cell? ⟨g, 0, none⟩ = some (.int .u32 h)) (hq : w.cell? ⟨q, 0, none⟩ = some (.bool it)) (hT : Tabs w) :
    Calls Tryd.prog 17 #[.slice (some ⟨t, 0, none⟩) 34 cp, .func (.func 18) #[] #[.pointer (some ⟨g, 0, none⟩), .pointer (some ⟨q, 0, none⟩)]] w fun e w' => e = .returned (decO (searchP Sp.rowsT h it)) ∧ Below w.heap.size w w' := by
  have hlg : g < w.heap.size := World.block_lt_of_cell? w _ hg
  have hlq : q < w.heap.size := World.block_lt_of_cell? w _ hq
  obtain ⟨V, hV⟩ : ∃ V, searchP Sp.rowsT h it = V := ⟨_, rfl⟩
  obtain ⟨O, hO⟩ : ∃ O, decO V = O := ⟨_, rfl⟩
  rw [hV, hO]
  have HOO := Lib.hid hO
  have HT := Lib.hid ht
  have HG := Lib.hid hg
  have HQ := Lib.hid hq
  have HTT := Lib.hid hT
  clear ht hg hq hO hT
  have hb0 : Below w.heap.size w (w.alloc (.cells #[.int .i64 0, .int .i64 0, .int .i64 0, .int .i64 0, .int .i64 0, .int .i64 0, .int .i64 0, .int .i64 0, .bool false] 23)) := (Below.refl _ _).alloc (Nat.le_refl _) _
  have hz0 : w.heap.size < (w.alloc (.cells #[.int .i64 0, .int .i64 0, .int .i64 0, .int .i64 0, .int .i64 0, .int .i64 0, .int .i64 0, .int .i64 0, .bool false] 23)).heap.size := by simp
  have hres0 : ∀ j, (w.alloc (.cells #[.int .i64 0, .int .i64 0, .int .i64 0, .int .i64 0, .int .i64 0, .int .i64 0, .int .i64 0, .int .i64 0, .bool false] 23)).cell? ⟨w.heap.size, j, none⟩ = (insC Sm.noneI)[j]? := fun j => by rw [World.cell?_alloc_new]; simp [insC, Sm.noneI]
  have hfr0 : ∀ j, (w.alloc (.cells #[.int .i64 0, .int .i64 0, .int .i64 0, .int .i64 0, .int .i64 0, .int .i64 0, .int .i64 0, .int .i64 0, .bool false] 23)).frozen? ⟨w.heap.size, j, none⟩ = false := fun j => World.frozen?_alloc_new w _ _ j
  go_enter Tryd.func17, Tryd.ntmps17
  go_wp2
  go_loopw [13] (fun iv wr => ∃ k : Nat, k ≤ 34 ∧ iv = .int .i64 (k : Int) ∧ RowKit.Hid (searchP (Sp.rowsT.drop k) h it = V) ∧ RowKit.Hid (InsAt wr w.heap.size Sm.noneI) ∧ RowKit.Hid (Below w.heap.size w wr)) (fun iv _ => (34 - intOf iv).toNat)
  case atStart => exact ⟨0, by omega, rfl, Lib.hid hV, Lib.hid ⟨hres0, hfr0, hz0⟩, Lib.hid hb0⟩
  case round =>
    obtain ⟨k, hk34, rfl, HX, HI, HW⟩ := hrel
    clear hres0 hfr0 hz0 hb0
    by_cases hk : k < 34
    · have hkl : k < Sp.rowsT.length := by rw [rows_len]; exact hk
      have hrow := (show TabAt wr t from fun j v hv => (HW.out.cell (p := ⟨t, 0 + j, none⟩) hlt).trans (HT.out j v hv)).row k hk
      have hok : okR (Sp.rowsT.getD k ⟨[], Sm.noneI, 0, []⟩) := rows_ok _ (by rw [List.getD_eq_getElem?_getD, List.getElem?_eq_getElem hkl]; exact List.getElem_mem _)
      have hN : searchP (Sp.rowsT.getD k ⟨[], Sm.noneI, 0, []⟩ :: Sp.rowsT.drop (k + 1)) h it = V := by
        rw [← HX.out, List.drop_eq_getElem_cons hkl, List.getD_eq_getElem?_getD, List.getElem?_eq_getElem hkl]; rfl
      clear HX hkl
      generalize Sp.rowsT.getD k ⟨[], Sm.noneI, 0, []⟩ = r at *
      have hl42 : (Tryd.prog.info? 45).map (·.size) = some (rowC r).length := by rw [row_len hok]; exact sizeT
      have h42 : (rowC r).length = 42 := row_len hok
      have hrs := HW.out.size
      have hW4 := HW.out.alloc hrs (.cells (rowC r).toArray 45)
      have HC := Lib.hid (dec1_c r hok h it h0 h1 g q (wr.alloc (.cells (rowC r).toArray 45)) ((hW4.cell (p := ⟨g, 0, none⟩) hlg).trans HG.out) ((hW4.cell (p := ⟨q, 0, none⟩) hlq).trans HQ.out) (HTT.out.below hW4 HTT.out.big))
      have hrow2 := (RowAt.new wr r 45).all
      have hI4 := Lib.hid (HI.out.below (below_new (w := wr) (.cells (rowC r).toArray 45)))
      have hW5 := Lib.hid hW4
      have hone : (rowC r).toArray.all (·.oneCell') = true := all_oneCell_toArray (one_row r)
      have hz := there_new wr zeroRow.toArray 45 42 (by decide)
      clear hok hW4
      unfold searchP at hN
      generalize hL : rowC r = L at *
      obtain ⟨A, hA⟩ : ∃ A, readP r h it = A := ⟨_, rfl⟩
      rw [hA] at HC hN
      clear hA
      go_wp2_with (first
        | (refine wpList_load_mid rfl 45 (.tmp 15) rfl t (k * 42) rfl L _ hrow underR rfl hl42 ?_)
        | (refine wpList_store_new rfl rfl 45 (.tmp 7) (.tmp 16) rfl _ L rfl rfl (by rw [h42]; rfl) (by rw [hl42]; simp) hone ?_)
        | (refine wpList_load_mid rfl 45 (.tmp 7) rfl wr.heap.size 0 rfl L _ hrow2 underR rfl hl42 ?_))
      refine HC.out.mono ?_
      rintro e w5 ⟨rfl, hb5⟩
      have hI6 := Lib.hid (hI4.out.below hb5)
      have hW6 := Lib.hid (hW5.out.trans (hb5.mono (by simp; omega)))
      have hs5 := hW6.out.size
      clear hb5 hrow hrow2 hz hI4 hW5 HC
      cases A with
      | none =>
        dsimp only at hN
        have HN := Lib.hid hN
        clear hN
        unfold decO insV insC Sm.noneI
        dsimp only
        go_wp2
        go_roundw
        case rel => exact ⟨k + 1, by omega, rfl, HN, Lib.hid (hI6.out.below (below_new _)), Lib.hid (hW6.out.alloc hs5 _)⟩
        case measure => simp [intOf]; omega
      | some i =>
        obtain ⟨op, cond, rd, rn, rm, imm, mode, list, s⟩ := i
        dsimp only at hN
        have HN := Lib.hid hN
        have hres := hI6.out.cell
        have hfr := hI6.out.free
        have hlt6 := hI6.out.lt
        unfold insC Sm.noneI at hres
        dsimp only at hres
        clear hN
        unfold decO insV insC
        dsimp only
        go_wp2
        refine bodyPost_ret (v := .tuple #[.agg #[.int .i64 op, .int .i64 cond, .int .i64 rd, .int .i64 rn, .int .i64 rm, .int .i64 imm, .int .i64 mode, .int .i64 list, .bool s], .bool true]) (by simp [results, Tryd.f17, go_sem, hres, hlt6]) rfl ?_
        refine ⟨by rw [← HOO.out, ← HN.out]; rfl, ?_⟩
        exact nine_alloc hW6.out (Nat.le_refl _) hs5 _ _ _ _ _ _ _ _ _ _
    · have hk' : k = 34 := by omega
      subst hk'
      have hN : none = V := by rw [← HX.out, List.drop_of_length_le (by rw [rows_len]; exact Nat.le_refl _)]; rfl
      have HN := Lib.hid hN
      have hres := HI.out.cell
      have hfr := HI.out.free
      have hlt6 := HI.out.lt
      have hrs := HW.out.size
      unfold insC Sm.noneI at hres
      dsimp only at hres
      clear hN HX
      go_wp2
      refine bodyPost_ret (v := decO none) (by simp [results, Tryd.f17, go_sem, hres, hlt6, decO, insV, insC, Sm.noneI]) rfl ?_
      refine ⟨by rw [← HOO.out, ← HN.out], ?_⟩
      exact nine_alloc HW.out (Nat.le_refl _) hrs _ _ _ _ _ _ _ _ _ _
end Ys
end Go.Proofs.YtcphhojdfpedkaaDoor

namespace Go.Proofs.YtcphhojdfpedkaaDoor
open Go.ChangeShapes Go.WideShapes Go.ChangeAt Go.RowKit
namespace Ys
open Sp (searchP)
theorem get_all (h : Int) (h0 : 0 ≤ h) : getI h 15 0 = h % 65536 := by
  have := Om.get_n h 15 0 1 65536 (hi' := 15) (lo' := 0) rfl rfl rfl rfl (by decide) (by decide) h0
  rw [this]; omega
theorem get_top (h : Int) (h0 : 0 ≤ h) : getI h 15 11 = h / 2048 % 32 :=
  Om.get_n h 15 11 2048 32 (hi' := 15) (lo' := 11) rfl rfl rfl rfl (by decide) (by decide) h0
theorem long_c (h : Int) (w : World) : Calls Tryd.prog 10 #[.int .i64 h] w fun e w' => e = .returned (.bool (decide (29 ≤ h / 2048 % 32))) ∧ ∃ n, w' = w.drewN n := by
  have hg := fun W => get_c (h % 4294967296) 15 11 W (by omega) (by omega)
  rw [get_top _ (by omega), show h % 4294967296 / 2048 % 32 = h / 2048 % 32 by omega] at hg
  have HG := Lib.hid hg
  clear hg
  have hx0 : 0 ≤ h / 2048 % 32 := by omega
  have hx1 : h / 2048 % 32 < 32 := by omega
  generalize h / 2048 % 32 = X at *
  have ew : IntKind.u32.wrap h = h % 4294967296 := IntKind.wrap_u32 h
  go_enter Tryd.func10, Tryd.ntmps10
  go_wp2_with (go_at_call 15; refine (HG.out _).mono ?_; rintro e w' ⟨rfl, n, rfl⟩)
  go_ret
  exact ⟨rfl, n, rfl⟩
structure DecAt (w : World) (it : Bool) (X : Int) (W : World) : Prop where
  b : W.cell? ⟨w.heap.size, 0, none⟩ = some (.bool it)
  res : InsAt W (w.heap.size + 1) Sm.noneI
  x : W.cell? ⟨w.heap.size + 1 + 1, 0, none⟩ = some (.int .u32 X)
  lt : w.heap.size + 1 + 1 < W.heap.size
  bel : Below w.heap.size w W
theorem DecAt.step {w W W' : World} {it : Bool} {X : Int} (h : DecAt w it X W) (hb : Below W.heap.size W W') : DecAt w it X W' :=
  have hl := h.lt
  ⟨(hb.cell (p := ⟨w.heap.size, 0, none⟩) (Nat.lt_of_le_of_lt (Nat.le_add_right _ 2) hl)).trans h.b, h.res.below hb, (hb.cell (p := ⟨w.heap.size + 1 + 1, 0, none⟩) hl).trans h.x, Nat.lt_of_lt_of_le hl hb.size, h.bel.trans (hb.mono h.bel.size)⟩
theorem DecAt.start (w : World) (it : Bool) (X : Int) (n : Nat) : DecAt w it X ((((w.alloc (.cells #[.bool it] 4)).alloc (.cells #[.int .i64 0, .int .i64 0, .int .i64 0, .int .i64 0, .int .i64 0, .int .i64 0, .int .i64 0, .int .i64 0, .bool false] 23)).alloc (.cells #[.int .u32 X] 34)).drewN n) := by
  have e1 : (w.alloc (.cells #[.bool it] 4)).heap.size = w.heap.size + 1 := by simp
  have e2 : ((w.alloc (.cells #[.bool it] 4)).alloc (.cells #[.int .i64 0, .int .i64 0, .int .i64 0, .int .i64 0, .int .i64 0, .int .i64 0, .int .i64 0, .int .i64 0, .bool false] 23)).heap.size = w.heap.size + 1 + 1 := by simp
  refine ⟨by go_simp, ⟨fun j => ?_, fun j => ?_, by simp⟩, by go_simp, by simp, below_drewN (((Below.refl _ _).alloc (Nat.le_refl _) _).alloc (by simp) _ |>.alloc (by rw [e2]; omega) _) n⟩
  · have h := World.cell?_alloc_new (w.alloc (.cells #[.bool it] 4)) #[.int .i64 0, .int .i64 0, .int .i64 0, .int .i64 0, .int .i64 0, .int .i64 0, .int .i64 0, .int .i64 0, .bool false] 23 j
    rw [e1] at h
    rw [show ((((w.alloc (.cells #[.bool it] 4)).alloc (.cells #[.int .i64 0, .int .i64 0, .int .i64 0, .int .i64 0, .int .i64 0, .int .i64 0, .int .i64 0, .int .i64 0, .bool false] 23)).alloc (.cells #[.int .u32 X] 34)).drewN n).cell? ⟨w.heap.size + 1, j, none⟩ = (((w.alloc (.cells #[.bool it] 4)).alloc (.cells #[.int .i64 0, .int .i64 0, .int .i64 0, .int .i64 0, .int .i64 0, .int .i64 0, .int .i64 0, .int .i64 0, .bool false] 23)).alloc (.cells #[.int .u32 X] 34)).cell? ⟨w.heap.size + 1, j, none⟩ by simp]
    rw [World.cell?_alloc_lt _ _ ⟨w.heap.size + 1, j, none⟩ (by show w.heap.size + 1 < _; rw [e2]; omega), h]
    simp [insC, Sm.noneI]
  · have h := World.frozen?_alloc_new (w.alloc (.cells #[.bool it] 4)) #[.int .i64 0, .int .i64 0, .int .i64 0, .int .i64 0, .int .i64 0, .int .i64 0, .int .i64 0, .int .i64 0, .bool false] 23 j
    rw [e1] at h
    rw [show ((((w.alloc (.cells #[.bool it] 4)).alloc (.cells #[.int .i64 0, .int .i64 0, .int .i64 0, .int .i64 0, .int .i64 0, .int .i64 0, .int .i64 0, .int .i64 0, .bool false] 23)).alloc (.cells #[.int .u32 X] 34)).drewN n).frozen? ⟨w.heap.size + 1, j, none⟩ = (((w.alloc (.cells #[.bool it] 4)).alloc (.cells #[.int .i64 0, .int .i64 0, .int .i64 0, .int .i64 0, .int .i64 0, .int .i64 0, .int .i64 0, .int .i64 0, .bool false] 23)).alloc (.cells #[.int .u32 X] 34)).frozen? ⟨w.heap.size + 1, j, none⟩ by simp]
    rw [World.frozen?_alloc_past _ _ _ (by show w.heap.size + 1 < _; rw [e2]; omega), h]
theorem infoT2 : (Tryd.prog.info? 46).map (·.size) = some tabC.toArray.size := by rw [infoT]; simp
set_option maxRecDepth 20000 in
set_option maxHeartbeats 2000000 in
theorem decode_c (h : Int) (it : Bool) (w : World) (hT : Tabs w) : Calls Tryd.prog 8 #[.int .i64 h, .bool it] w fun e w' => e = .returned (decO (searchP Sp.rowsT (h % 65536) it)) ∧ Below w.heap.size w w' := by
  have hg := fun W => get_c (h % 4294967296) 15 0 W (by omega) (by omega)
  rw [get_all _ (by omega), show h % 4294967296 % 65536 = h % 65536 by omega] at hg
  have HG := Lib.hid hg
  clear hg
  have ew : IntKind.u32.wrap h = h % 4294967296 := IntKind.wrap_u32 h
  obtain ⟨X, hX⟩ : ∃ X, h % 65536 = X := ⟨_, rfl⟩
  have hx0 : 0 ≤ X := by omega
  have hx1 : X < 65536 := by omega
  rw [hX] at HG
  rw [hX]
  have HF := Lib.hid (fun t g q cp W ht hlt hg hq hT => first_c X it hx0 hx1 t g q cp W ht hlt hg hq hT)
  obtain ⟨O, hO⟩ : ∃ O, decO (searchP Sp.rowsT X it) = O := ⟨_, rfl⟩
  rw [hO] at HF
  rw [hO]
  obtain ⟨op, cond, rd, rn, rm, imm, mode, list, s, b, rfl⟩ : ∃ (op cond rd rn rm imm mode list : Int) (s b : Bool), O = .tuple #[.agg #[.int .i64 op, .int .i64 cond, .int .i64 rd, .int .i64 rn, .int .i64 rm, .int .i64 imm, .int .i64 mode, .int .i64 list, .bool s], .bool b] := by rw [← hO]; exact decO_open _
  have HT := Lib.hid hT
  clear hO hX hT
  go_enter Tryd.func8, Tryd.ntmps8
  go_wp2_with (go_at_call 15; refine (HG.out _).mono ?_; rintro e w' ⟨rfl, n, rfl⟩)
  refine (rows_c _).mono ?_
  rintro e w3 ⟨rfl, hb3⟩
  have hD3 := Lib.hid ((DecAt.start w it X n).step hb3)
  clear hb3
  go_wp2_with (refine wpList_store_new rfl rfl 46 (.tmp 7) (.tmp 11) rfl _ tabC rfl rfl (by rw [tab1428]; exact zeros1428) infoT2 oneT ?_)
  have hD4 := hD3.out.step (below_new (w := w3) (.cells tabC.toArray 46))
  have htab : TabAt (w3.alloc (.cells tabC.toArray 46)) w3.heap.size := fun j v hv => by
    rw [Nat.zero_add, World.cell?_alloc_new]
    simpa using hv
  refine (HF.out w3.heap.size (w.heap.size + 1 + 1) w.heap.size 34 _ htab (by simp) hD4.x hD4.b (HT.out.below hD4.bel HT.out.big)).mono ?_
  rintro e w5 ⟨rfl, hb5⟩
  have hD5 := hD4.step hb5
  have hres := hD5.res.cell
  have hfr := hD5.res.free
  have hlt := hD5.lt
  have hbel := Lib.hid hD5.bel
  unfold insC Sm.noneI at hres
  dsimp only at hres
  clear hD5 hb5 htab hD4 hD3
  go_wp2
  refine bodyPost_ret (v := .tuple #[.agg #[.int .i64 op, .int .i64 cond, .int .i64 rd, .int .i64 rn, .int .i64 rm, .int .i64 imm, .int .i64 mode, .int .i64 list, .bool s], .bool b]) (by simp [results, Tryd.f8, go_sem, hres]) rfl ?_
  refine ⟨rfl, ?_⟩
  iterate 9 refine Below.setCell ?_ (Nat.le_succ _) _
  exact hbel.out
end Ys
theorem decO_is (o : Option Nm.I) : Ys.decO o = Rd.decV o := by cases o <;> rfl
theorem progOk : ProgOk where
  short h it w hT := by
    have hd := Ys.decode_c h it w hT
    rw [Sp.search_is (h % 65536) it (by omega) (by omega), decO_is] at hd
    exact hd
  long h w := Ys.long_c h w
end Go.Proofs.YtcphhojdfpedkaaDoor
