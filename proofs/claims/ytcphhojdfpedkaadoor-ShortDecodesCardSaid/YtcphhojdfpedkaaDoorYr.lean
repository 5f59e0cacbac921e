/- Short's read: what a row reads of a halfword. No conditions but those that each fact names. -/
import Derived.Test.YtcphhojdfpedkaaDoorIc
import Derived.Test.YtcphhojdfpedkaaDoorGz
import Derived.Test.YtcphhojdfpedkaaDoorYc
import Derived.Test.YtcphhojdfpedkaaDoorGy
namespace Go.Proofs.YtcphhojdfpedkaaDoor
open Go.ChangeShapes Go.WideShapes Go.ChangeAt Go.RowKit
namespace Ys
open Sp (P bitsP addP partP readP insP)
def insV (i : Nm.I) : Value := .agg (insC i).toArray
def decO : Option Nm.I → Value
  | none => .tuple #[insV Sm.noneI, .bool false]
  | some i => .tuple #[insV i, .bool true]
theorem underR : Tryd.prog.underlying 45 = some (.struct (Tryd.prog.fieldsOf 45)) := by kernel_rfl
structure RdAt (w : World) (r : Sp.R) (W : World) : Prop where
  row : RowAt W w.heap.size r
  res : ∀ j, W.cell? ⟨w.heap.size + 1, j, none⟩ = (insC Sm.noneI)[j]?
  free : ∀ j, W.frozen? ⟨w.heap.size + 1, j, none⟩ = false
  lt : w.heap.size + 1 < W.heap.size
  bel : Below w.heap.size w W
theorem RdAt.step {w W W' : World} {r : Sp.R} (h : RdAt w r W) (hb : Below W.heap.size W W') : RdAt w r W' :=
  have hl := h.lt
  ⟨h.row.below hb (by omega), fun j => (hb.cell (p := ⟨w.heap.size + 1, j, none⟩) hl).trans (h.res j), fun j => (hb.frozen (p := ⟨w.heap.size + 1, j, none⟩) hl).trans (h.free j), Nat.lt_of_lt_of_le hl hb.size, h.bel.trans (hb.mono (by omega))⟩
theorem RdAt.start (w : World) (r : Sp.R) (t t2 : TypeId) : RdAt w r ((w.alloc (.cells (rowC r).toArray t)).alloc (.cells (insC Sm.noneI).toArray t2)) := by
  have e1 : (w.alloc (.cells (rowC r).toArray t)).heap.size = w.heap.size + 1 := by simp
  refine ⟨fun j => ?_, fun j => ?_, fun j => ?_, by simp, ((Below.refl _ _).alloc (Nat.le_refl _) _).alloc (by simp) _⟩
  · exact (World.cell?_alloc_lt _ _ ⟨w.heap.size, j, none⟩ (by simp)).trans (RowAt.new w r t j)
  · have h := World.cell?_alloc_new (w.alloc (.cells (rowC r).toArray t)) (insC Sm.noneI).toArray t2 j
    rw [e1] at h
    rw [h]; simp
  · have h := World.frozen?_alloc_new (w := w.alloc (.cells (rowC r).toArray t)) (insC Sm.noneI).toArray t2 j
    rwa [e1] at h
theorem below_new {w : World} (o : Obj) : Below w.heap.size w (w.alloc o) := (Below.refl _ _).alloc (Nat.le_refl _) _
set_option maxRecDepth 20000 in
set_option maxHeartbeats 2000000 in
theorem read_none (r : Sp.R) (ho : okR r) (h : Int) (it : Bool) (h0 : 0 ≤ h) (h1 : h < 65536) (hf : Sp.findB r.of_ (Sp.clears r.pcs h) = none) (w : World) :
    Calls Tryd.prog 19 #[.agg (rowC r).toArray, .int .u32 h, .bool it] w fun e w' => e = .returned (decO none) ∧ Below w.heap.size w w' := by
  have hR0 := RdAt.start w r 45 23
  have hrow0 := hR0.row.all
  have hl42 : (Tryd.prog.info? 45).map (·.size) = some (rowC r).length := by rw [row_len ho]; exact sizeT
  have HB := Lib.hid (fun W => beginOf_c r ho h h0 h1 W)
  obtain ⟨X, hX⟩ : ∃ X, Sp.clears r.pcs h = X := ⟨_, rfl⟩
  rw [hX] at HB hf
  have HF := Lib.hid (fun b g cp W hb hlt hg => firstB_c r.of_ ho.six X b g cp W hb hlt hg)
  rw [hf] at HF
  replace hR0 := Lib.hid hR0
  clear hf hX ho
  generalize hL : rowC r = L at *
  go_enter Tryd.func19, Tryd.ntmps19
  go_wp2_with (refine wpList_load_mid rfl 45 (.tmp 3) rfl w.heap.size 0 rfl L _ hrow0 underR rfl hl42 ?_)
  refine (HB.out _).mono ?_
  rintro e w1 ⟨rfl, hb1⟩
  have hR1 := Lib.hid (hR0.out.step hb1)
  clear hb1 hrow0 hR0
  go_wp2_with fail
  have hR2 := hR1.out.step (below_new (w := w1) (.cells #[.int .u32 X] 34))
  refine (HF.out w.heap.size w1.heap.size 6 _ hR2.row.of (by have := hR2.lt; omega) (by simp)).mono ?_
  rintro e w2 ⟨rfl, hb2⟩
  have hR3 := hR2.step hb2
  have hres := hR3.res
  have hfr := hR3.free
  have hlt := hR3.lt
  have hbel := Lib.hid hR3.bel
  unfold insC Sm.noneI at hres
  dsimp only at hres
  clear hR2 hb2 hR1 hR3
  unfold optB
  dsimp only
  go_wp2
  refine bodyPost_ret (v := decO none) (by simp [results, Tryd.f19, go_sem, decO, insV, insC, Sm.noneI, hres]) rfl ?_
  refine ⟨rfl, ?_⟩
  iterate 9 refine Below.setCell ?_ (Nat.le_succ _) _
  exact hbel.out
theorem adds_step (l : List P) (k : Nat) (hk : k < l.length) (h : Int) (i : Nm.I) : Sp.adds (l.take (k + 1)) h i = addP h (Sp.adds (l.take k) h i) (l.getD k ⟨0, 0, 0, 0⟩) := by
  unfold Sp.adds
  rw [List.take_add_one, List.foldl_append, List.getD_eq_getElem?_getD, List.getElem?_eq_getElem hk]
  rfl
theorem RdAt.step' {w W W' : World} {r : Sp.R} (h : RdAt w r W) (hb : Below W.heap.size W W') : RdAt w r W' := h.step hb
theorem says4 {r : Sp.R} (ho : okR r) : (bits .and .i64 r.says 4 = 4 ∧ Sp.saysB r.says 2 = true) ∨ (bits .and .i64 r.says 4 = 0 ∧ Sp.saysB r.says 2 = false) := by
  have hs := ho.says
  generalize r.says = s at *
  rcases hs with rfl | rfl | rfl | rfl | rfl | rfl | rfl
  · exact .inr ⟨by kernel_rfl, by decide⟩
  · exact .inr ⟨by kernel_rfl, by decide⟩
  · exact .inr ⟨by kernel_rfl, by decide⟩
  · exact .inl ⟨by kernel_rfl, by decide⟩
  · exact .inl ⟨by kernel_rfl, by decide⟩
  · exact .inr ⟨by kernel_rfl, by decide⟩
  · exact .inr ⟨by kernel_rfl, by decide⟩
set_option maxRecDepth 20000 in
set_option maxHeartbeats 4000000 in
theorem read_a (r : Sp.R) (ho : okR r) (h : Int) (h0 : 0 ≤ h) (h1 : h < 65536) (op : Int) (hf : Sp.findB r.of_ (Sp.clears r.pcs h) = some op) (hm : bits .and .i64 r.says 4 = 4) (i0 : Nm.I) (hi0 : { r.known with op := op, s := true } = i0)
    (fin : Nm.I) (hfin : Sp.adds r.pcs h i0 = fin) (w : World) (hT : Tabs w) :
    Calls Tryd.prog 19 #[.agg (rowC r).toArray, .int .u32 h, .bool false] w fun e w' => e = .returned (decO (if Sp.allowsB r.says fin false && Nm.okB fin then some fin else none)) ∧ Below w.heap.size w w' := by
  have hR0 := RdAt.start w r 45 23
  have hrow0 := hR0.row.all
  have hl42 : (Tryd.prog.info? 45).map (·.size) = some (rowC r).length := by rw [row_len ho]; exact sizeT
  have HB := Lib.hid (fun W => beginOf_c r ho h h0 h1 W)
  have HA := Lib.hid (fun W => allows_c r ho fin false W)
  obtain ⟨X, hX⟩ : ∃ X, Sp.clears r.pcs h = X := ⟨_, rfl⟩
  rw [hX] at HB hf
  have HF := Lib.hid (fun b g cp W hb hlt hg => firstB_c r.of_ ho.six X b g cp W hb hlt hg)
  rw [hf] at HF
  have HO := Lib.hid ho
  have HT := Lib.hid hT
  replace hR0 := Lib.hid hR0
  have hidx := Lib.hid (fun k hk W => index_pc r.pcs ho.five k hk W)
  have hl20 : (Tryd.prog.info? 43).map (·.size) = some (r.pcs.map pcC).flatten.length := by rw [pcs_len ho]; exact infoPs
  have HFIT := Lib.hid ho.fits
  have h5 := Lib.hid ho.five
  obtain ⟨Al, hA⟩ : ∃ Al, Sp.allowsB r.says fin false = Al := ⟨_, rfl⟩
  rw [hA] at HA
  obtain ⟨C, hC⟩ : ∃ C, Nm.okB fin = C := ⟨_, rfl⟩
  rw [hA, hC]
  obtain ⟨O, hO⟩ : ∃ O, (if (Al && C) = true then some fin else none) = O := ⟨_, rfl⟩
  rw [hO]
  have HOO := Lib.hid hO
  have HC0 := Lib.hid hC
  clear hf hX ho hT hA hC hO
  obtain ⟨known, hkn⟩ : ∃ k, r.known = k := ⟨_, rfl⟩
  obtain ⟨kop, kc, krd, krn, krm, kimm, kmode, klist, ks⟩ := known
  rw [hkn] at hi0
  dsimp only at hi0
  have HK := Lib.hid hkn
  have HP := Lib.hid hfin
  clear hkn hfin
  generalize hLp : r.pcs = l at *
  generalize hAA : (l.map pcC).flatten = A at *
  generalize hL : rowC r = L at *
  go_enter Tryd.func19, Tryd.ntmps19
  go_wp2_with (refine wpList_load_mid rfl 45 (.tmp 3) rfl w.heap.size 0 rfl L _ hrow0 underR rfl hl42 ?_)
  refine (HB.out _).mono ?_
  rintro e w1 ⟨rfl, hb1⟩
  have hR1 := Lib.hid (hR0.out.step hb1)
  clear hb1 hrow0 hR0
  go_wp2_with fail
  have hR2 := hR1.out.step (below_new (w := w1) (.cells #[.int .u32 X] 34))
  refine (HF.out w.heap.size w1.heap.size 6 _ hR2.row.of (by have := hR2.lt; omega) (by simp)).mono ?_
  rintro e w2 ⟨rfl, hb2⟩
  have hR3 := Lib.hid (hR2.step hb2)
  have hkn2 := hR3.out.row.known HO.out
  rw [HK.out] at hkn2
  replace hkn2 : w2.rangeAt w.heap.size 12 [.int .i64 kop, .int .i64 kc, .int .i64 krd, .int .i64 krn, .int .i64 krm, .int .i64 kimm, .int .i64 kmode, .int .i64 klist, .bool ks] := hkn2
  have hsy := hR3.out.row.says HO.out
  have hps := hR3.out.row.pcs HO.out
  rw [hLp, hAA] at hps
  have hlt := hR3.out.lt
  have hlt0 : w.heap.size < w2.heap.size := by omega
  generalize r.says = sy at *
  clear hR2 hb2 hR1
  unfold optB
  dsimp only
  go_wp2_with (first
    | (refine wpList_load_mid rfl 23 (.tmp 27) rfl w.heap.size 12 rfl [.int .i64 kop, .int .i64 kc, .int .i64 krd, .int .i64 krn, .int .i64 krm, .int .i64 kimm, .int .i64 kmode, .int .i64 klist, .bool ks] _ hkn2 underI rfl insI ?_)
    | (refine wpList_store_new rfl rfl 23 (.tmp 11) (.tmp 28) rfl _ [.int .i64 kop, .int .i64 kc, .int .i64 krd, .int .i64 krn, .int .i64 krm, .int .i64 kimm, .int .i64 kmode, .int .i64 klist, .bool ks] rfl rfl rfl (by kernel_rfl) (by kernel_rfl) ?_)
    | (refine wpList_load_mid rfl 43 (.tmp 40) rfl w.heap.size 22 rfl A _ (World.rangeAt_alloc hps _) underPs rfl hl20 ?_))
  subst hi0
  clear hps hkn2 hsy hm
  have hsz := (below_new (w := w2) (.cells #[.int .i64 op, .int .i64 kc, .int .i64 krd, .int .i64 krn, .int .i64 krm, .int .i64 kimm, .int .i64 kmode, .int .i64 klist, .bool true] 23))
  go_loopw [42] (fun iv wr => ∃ k : Nat, k ≤ 5 ∧ iv = .int .i64 (k : Int) ∧ RowKit.Hid (InsAt wr w2.heap.size (Sp.adds (l.take k) h ⟨op, kc, krd, krn, krm, kimm, kmode, klist, true⟩)) ∧ RowKit.Hid (Below w2.heap.size w2 wr)) (fun iv _ => (5 - intOf iv).toNat)
  case atStart => exact ⟨0, by omega, rfl, Lib.hid ⟨fun j => by rw [World.cell?_alloc_new]; simp [insC, Sp.adds], fun j => World.frozen?_alloc_new w2 _ _ j, by simp⟩, Lib.hid hsz⟩
  case round =>
    obtain ⟨k, hk5, rfl, HI, HW⟩ := hrel
    clear hsz
    by_cases hk : k < 5
    · have hidx2 := fun W => hidx.out k hk W
      have hkl : k < l.length := by rw [h5.out]; exact hk
      have hpf := HFIT.out _ (getD_mem hkl ⟨0, 0, 0, 0⟩)
      have hN := adds_step l k hkl h ⟨op, kc, krd, krn, krm, kimm, kmode, klist, true⟩
      generalize l.getD k ⟨0, 0, 0, 0⟩ = pc at *
      have hrs := HW.out.size
      have hI4 := HI.out.below (below_new (w := wr) (.cells (pcC pc).toArray 41))
      have hW4 := HW.out.alloc hrs (.cells (pcC pc).toArray 41)
      have hT4 := HT.out.below ((hR3.out.step' hW4).bel) HT.out.big
      have HC := Lib.hid (addTo_c pc _ h w2.heap.size w2.heap.size _ hpf h0 h1 (Nat.le_refl _) hI4 hT4)
      clear hI4 hT4 hpf hkl
      obtain ⟨f, c, a, u⟩ := pc
      unfold pcC at hidx2 HC hW4
      dsimp only at hidx2 HC hW4
      rw [← hN] at HC
      clear hN
      go_wp2_with (go_at_call 40; refine HC.out.mono ?_; rintro e w4 ⟨rfl, hI5, hb5⟩)
      go_roundw
      case rel => exact ⟨k + 1, by omega, rfl, Lib.hid hI5, Lib.hid (hW4.trans hb5)⟩
      case measure => simp [intOf]; omega
    · have hk' : k = 5 := by omega
      subst hk'
      have hI6 := HI.out
      rw [List.take_of_length_le (by rw [h5.out]; exact Nat.le_refl _), HP.out] at hI6
      have hR6 := Lib.hid (hR3.out.step' HW.out)
      clear HI HW hk hk5
      obtain ⟨fop, fc, frd, frn, frm, fimm, fmode, flist, fs⟩ := fin
      have HCK0 := fun W => check_c fop fc frd frn frm fimm fmode flist fs W
      have hC2 : Im.checkB fop fc frd frn frm fimm fmode flist fs = C := HC0.out
      rw [hC2] at HCK0
      have HCK := Lib.hid HCK0
      clear HCK0 hC2
      have hrow6 := hR6.out.row.all
      rw [hL] at hrow6
      have hI6h := Lib.hid hI6
      have hir6 : wr.rangeAt w2.heap.size 0 [.int .i64 fop, .int .i64 fc, .int .i64 frd, .int .i64 frn, .int .i64 frm, .int .i64 fimm, .int .i64 fmode, .int .i64 flist, .bool fs] := fun j v hv => by rw [Nat.zero_add, hI6.cell j]; exact hv
      replace HA := Lib.hid (show ∀ W, Calls Tryd.prog 41 #[.agg L.toArray, .agg #[.int .i64 fop, .int .i64 fc, .int .i64 frd, .int .i64 frn, .int .i64 frm, .int .i64 fimm, .int .i64 fmode, .int .i64 flist, .bool fs], .bool false] W fun e w' => e = .returned (.bool Al) ∧ Below W.heap.size W w' from HA.out)
      clear hI6
      by_cases eA : Al = true
      · rw [eA] at HA
        by_cases eC : C = true
        · rw [eC, show Im.errI true = 0 from rfl] at HCK
          go_wp2_with (first
            | (refine wpList_load_mid rfl 45 (.tmp 3) rfl w.heap.size 0 rfl L _ hrow6 underR rfl hl42 ?_)
            | (refine wpList_load_mid rfl 23 (.tmp 11) rfl w2.heap.size 0 rfl [.int .i64 fop, .int .i64 fc, .int .i64 frd, .int .i64 frn, .int .i64 frm, .int .i64 fimm, .int .i64 fmode, .int .i64 flist, .bool fs] _ hir6 underI rfl insI ?_))
          refine (HA.out _).mono ?_
          rintro e w5 ⟨rfl, hb5⟩
          have hI7 := hI6h.out.below hb5
          have hR7 := Lib.hid (hR6.out.step hb5)
          have hcc := hI7.cell
          have hltb := hI7.lt
          unfold insC at hcc
          dsimp only at hcc
          have hI7h := Lib.hid hI7
          clear hb5 hrow6 hir6 hI7 hI6h
          go_wp2_with fail
          refine (HCK.out _).mono ?_
          rintro e w6 ⟨rfl, hb6⟩
          have hI8 := hI7h.out.below hb6
          have hcd := hI8.cell
          have hltb2 := hI8.lt
          unfold insC at hcd
          dsimp only at hcd
          have hR8 := hR7.out.step hb6
          clear hcc hb6 hltb
          have hres := hR8.res
          have hfr := hR8.free
          have hlt9 := hR8.lt
          have hbel := Lib.hid hR8.bel
          unfold insC Sm.noneI at hres
          dsimp only at hres
          clear hI8 hR8 hI7h hR7
          go_wp2
          refine bodyPost_ret (v := decO (some ⟨fop, fc, frd, frn, frm, fimm, fmode, flist, fs⟩)) (by simp [results, Tryd.f19, go_sem, decO, insV, insC, hres]) rfl ?_
          refine ⟨by rw [← HOO.out, eA, eC]; rfl, ?_⟩
          iterate 9 refine Below.setCell ?_ (Nat.le_succ _) _
          exact hbel.out
        · have eC' : C = false := by simpa using eC
          rw [eC', show Im.errI false = 6 from rfl] at HCK
          go_wp2_with (first
            | (refine wpList_load_mid rfl 45 (.tmp 3) rfl w.heap.size 0 rfl L _ hrow6 underR rfl hl42 ?_)
            | (refine wpList_load_mid rfl 23 (.tmp 11) rfl w2.heap.size 0 rfl [.int .i64 fop, .int .i64 fc, .int .i64 frd, .int .i64 frn, .int .i64 frm, .int .i64 fimm, .int .i64 fmode, .int .i64 flist, .bool fs] _ hir6 underI rfl insI ?_))
          refine (HA.out _).mono ?_
          rintro e w5 ⟨rfl, hb5⟩
          have hI7 := hI6h.out.below hb5
          have hR7 := Lib.hid (hR6.out.step hb5)
          have hcc := hI7.cell
          have hltb := hI7.lt
          unfold insC at hcc
          dsimp only at hcc
          have hI7h := Lib.hid hI7
          clear hb5 hrow6 hir6 hI7 hI6h
          go_wp2_with fail
          refine (HCK.out _).mono ?_
          rintro e w6 ⟨rfl, hb6⟩
          have hI8 := hI7h.out.below hb6
          have hcd := hI8.cell
          have hltb2 := hI8.lt
          unfold insC at hcd
          dsimp only at hcd
          have hR8 := hR7.out.step hb6
          clear hcc hb6 hltb
          have hres := hR8.res
          have hfr := hR8.free
          have hlt9 := hR8.lt
          have hbel := Lib.hid hR8.bel
          unfold insC Sm.noneI at hres
          dsimp only at hres
          clear hI8 hR8 hI7h hR7
          go_wp2
          refine bodyPost_ret (v := decO none) (by simp [results, Tryd.f19, go_sem, decO, insV, insC, Sm.noneI, hres]) rfl ?_
          refine ⟨by rw [← HOO.out, eA, eC']; rfl, ?_⟩
          iterate 9 refine Below.setCell ?_ (Nat.le_succ _) _
          exact hbel.out
      · have eA' : Al = false := by simpa using eA
        rw [eA'] at HA
        · go_wp2_with (first
            | (refine wpList_load_mid rfl 45 (.tmp 3) rfl w.heap.size 0 rfl L _ hrow6 underR rfl hl42 ?_)
            | (refine wpList_load_mid rfl 23 (.tmp 11) rfl w2.heap.size 0 rfl [.int .i64 fop, .int .i64 fc, .int .i64 frd, .int .i64 frn, .int .i64 frm, .int .i64 fimm, .int .i64 fmode, .int .i64 flist, .bool fs] _ hir6 underI rfl insI ?_))
          refine (HA.out _).mono ?_
          rintro e w5 ⟨rfl, hb5⟩
          have hI7 := hI6h.out.below hb5
          have hR7 := Lib.hid (hR6.out.step hb5)
          have hcc := hI7.cell
          have hltb := hI7.lt
          unfold insC at hcc
          dsimp only at hcc
          have hI7h := Lib.hid hI7
          clear hb5 hrow6 hir6 hI7 hI6h
          have hres := hR7.out.res
          have hfr := hR7.out.free
          have hlt9 := hR7.out.lt
          have hbel := Lib.hid hR7.out.bel
          unfold insC Sm.noneI at hres
          dsimp only at hres
          clear hI7h hR7 hcc hltb
          go_wp2
          refine bodyPost_ret (v := decO none) (by simp [results, Tryd.f19, go_sem, decO, insV, insC, Sm.noneI, hres]) rfl ?_
          refine ⟨by rw [← HOO.out, eA']; rfl, ?_⟩
          iterate 9 refine Below.setCell ?_ (Nat.le_succ _) _
          exact hbel.out
set_option maxRecDepth 20000 in
set_option maxHeartbeats 4000000 in
theorem read_b (r : Sp.R) (ho : okR r) (h : Int) (h0 : 0 ≤ h) (h1 : h < 65536) (op : Int) (hf : Sp.findB r.of_ (Sp.clears r.pcs h) = some op) (hm : bits .and .i64 r.says 4 = 4) (i0 : Nm.I) (hi0 : { r.known with op := op, s := false } = i0)
    (fin : Nm.I) (hfin : Sp.adds r.pcs h i0 = fin) (w : World) (hT : Tabs w) :
    Calls Tryd.prog 19 #[.agg (rowC r).toArray, .int .u32 h, .bool true] w fun e w' => e = .returned (decO (if Sp.allowsB r.says fin true && Nm.okB fin then some fin else none)) ∧ Below w.heap.size w w' := by
  have hR0 := RdAt.start w r 45 23
  have hrow0 := hR0.row.all
  have hl42 : (Tryd.prog.info? 45).map (·.size) = some (rowC r).length := by rw [row_len ho]; exact sizeT
  have HB := Lib.hid (fun W => beginOf_c r ho h h0 h1 W)
  have HA := Lib.hid (fun W => allows_c r ho fin true W)
  obtain ⟨X, hX⟩ : ∃ X, Sp.clears r.pcs h = X := ⟨_, rfl⟩
  rw [hX] at HB hf
  have HF := Lib.hid (fun b g cp W hb hlt hg => firstB_c r.of_ ho.six X b g cp W hb hlt hg)
  rw [hf] at HF
  have HO := Lib.hid ho
  have HT := Lib.hid hT
  replace hR0 := Lib.hid hR0
  have hidx := Lib.hid (fun k hk W => index_pc r.pcs ho.five k hk W)
  have hl20 : (Tryd.prog.info? 43).map (·.size) = some (r.pcs.map pcC).flatten.length := by rw [pcs_len ho]; exact infoPs
  have HFIT := Lib.hid ho.fits
  have h5 := Lib.hid ho.five
  obtain ⟨Al, hA⟩ : ∃ Al, Sp.allowsB r.says fin true = Al := ⟨_, rfl⟩
  rw [hA] at HA
  obtain ⟨C, hC⟩ : ∃ C, Nm.okB fin = C := ⟨_, rfl⟩
  rw [hA, hC]
  obtain ⟨O, hO⟩ : ∃ O, (if (Al && C) = true then some fin else none) = O := ⟨_, rfl⟩
  rw [hO]
  have HOO := Lib.hid hO
  have HC0 := Lib.hid hC
  clear hf hX ho hT hA hC hO
  obtain ⟨known, hkn⟩ : ∃ k, r.known = k := ⟨_, rfl⟩
  obtain ⟨kop, kc, krd, krn, krm, kimm, kmode, klist, ks⟩ := known
  rw [hkn] at hi0
  dsimp only at hi0
  have HK := Lib.hid hkn
  have HP := Lib.hid hfin
  clear hkn hfin
  generalize hLp : r.pcs = l at *
  generalize hAA : (l.map pcC).flatten = A at *
  generalize hL : rowC r = L at *
  go_enter Tryd.func19, Tryd.ntmps19
  go_wp2_with (refine wpList_load_mid rfl 45 (.tmp 3) rfl w.heap.size 0 rfl L _ hrow0 underR rfl hl42 ?_)
  refine (HB.out _).mono ?_
  rintro e w1 ⟨rfl, hb1⟩
  have hR1 := Lib.hid (hR0.out.step hb1)
  clear hb1 hrow0 hR0
  go_wp2_with fail
  have hR2 := hR1.out.step (below_new (w := w1) (.cells #[.int .u32 X] 34))
  refine (HF.out w.heap.size w1.heap.size 6 _ hR2.row.of (by have := hR2.lt; omega) (by simp)).mono ?_
  rintro e w2 ⟨rfl, hb2⟩
  have hR3 := Lib.hid (hR2.step hb2)
  have hkn2 := hR3.out.row.known HO.out
  rw [HK.out] at hkn2
  replace hkn2 : w2.rangeAt w.heap.size 12 [.int .i64 kop, .int .i64 kc, .int .i64 krd, .int .i64 krn, .int .i64 krm, .int .i64 kimm, .int .i64 kmode, .int .i64 klist, .bool ks] := hkn2
  have hsy := hR3.out.row.says HO.out
  have hps := hR3.out.row.pcs HO.out
  rw [hLp, hAA] at hps
  have hlt := hR3.out.lt
  have hlt0 : w.heap.size < w2.heap.size := by omega
  generalize r.says = sy at *
  clear hR2 hb2 hR1
  unfold optB
  dsimp only
  go_wp2_with (first
    | (refine wpList_load_mid rfl 23 (.tmp 27) rfl w.heap.size 12 rfl [.int .i64 kop, .int .i64 kc, .int .i64 krd, .int .i64 krn, .int .i64 krm, .int .i64 kimm, .int .i64 kmode, .int .i64 klist, .bool ks] _ hkn2 underI rfl insI ?_)
    | (refine wpList_store_new rfl rfl 23 (.tmp 11) (.tmp 28) rfl _ [.int .i64 kop, .int .i64 kc, .int .i64 krd, .int .i64 krn, .int .i64 krm, .int .i64 kimm, .int .i64 kmode, .int .i64 klist, .bool ks] rfl rfl rfl (by kernel_rfl) (by kernel_rfl) ?_)
    | (refine wpList_load_mid rfl 43 (.tmp 40) rfl w.heap.size 22 rfl A _ (World.rangeAt_alloc hps _) underPs rfl hl20 ?_))
  subst hi0
  clear hps hkn2 hsy hm
  have hsz := (below_new (w := w2) (.cells #[.int .i64 op, .int .i64 kc, .int .i64 krd, .int .i64 krn, .int .i64 krm, .int .i64 kimm, .int .i64 kmode, .int .i64 klist, .bool false] 23))
  go_loopw [42] (fun iv wr => ∃ k : Nat, k ≤ 5 ∧ iv = .int .i64 (k : Int) ∧ RowKit.Hid (InsAt wr w2.heap.size (Sp.adds (l.take k) h ⟨op, kc, krd, krn, krm, kimm, kmode, klist, false⟩)) ∧ RowKit.Hid (Below w2.heap.size w2 wr)) (fun iv _ => (5 - intOf iv).toNat)
  case atStart => exact ⟨0, by omega, rfl, Lib.hid ⟨fun j => by rw [World.cell?_alloc_new]; simp [insC, Sp.adds], fun j => World.frozen?_alloc_new w2 _ _ j, by simp⟩, Lib.hid hsz⟩
  case round =>
    obtain ⟨k, hk5, rfl, HI, HW⟩ := hrel
    clear hsz
    by_cases hk : k < 5
    · have hidx2 := fun W => hidx.out k hk W
      have hkl : k < l.length := by rw [h5.out]; exact hk
      have hpf := HFIT.out _ (getD_mem hkl ⟨0, 0, 0, 0⟩)
      have hN := adds_step l k hkl h ⟨op, kc, krd, krn, krm, kimm, kmode, klist, false⟩
      generalize l.getD k ⟨0, 0, 0, 0⟩ = pc at *
      have hrs := HW.out.size
      have hI4 := HI.out.below (below_new (w := wr) (.cells (pcC pc).toArray 41))
      have hW4 := HW.out.alloc hrs (.cells (pcC pc).toArray 41)
      have hT4 := HT.out.below ((hR3.out.step' hW4).bel) HT.out.big
      have HC := Lib.hid (addTo_c pc _ h w2.heap.size w2.heap.size _ hpf h0 h1 (Nat.le_refl _) hI4 hT4)
      clear hI4 hT4 hpf hkl
      obtain ⟨f, c, a, u⟩ := pc
      unfold pcC at hidx2 HC hW4
      dsimp only at hidx2 HC hW4
      rw [← hN] at HC
      clear hN
      go_wp2_with (go_at_call 40; refine HC.out.mono ?_; rintro e w4 ⟨rfl, hI5, hb5⟩)
      go_roundw
      case rel => exact ⟨k + 1, by omega, rfl, Lib.hid hI5, Lib.hid (hW4.trans hb5)⟩
      case measure => simp [intOf]; omega
    · have hk' : k = 5 := by omega
      subst hk'
      have hI6 := HI.out
      rw [List.take_of_length_le (by rw [h5.out]; exact Nat.le_refl _), HP.out] at hI6
      have hR6 := Lib.hid (hR3.out.step' HW.out)
      clear HI HW hk hk5
      obtain ⟨fop, fc, frd, frn, frm, fimm, fmode, flist, fs⟩ := fin
      have HCK0 := fun W => check_c fop fc frd frn frm fimm fmode flist fs W
      have hC2 : Im.checkB fop fc frd frn frm fimm fmode flist fs = C := HC0.out
      rw [hC2] at HCK0
      have HCK := Lib.hid HCK0
      clear HCK0 hC2
      have hrow6 := hR6.out.row.all
      rw [hL] at hrow6
      have hI6h := Lib.hid hI6
      have hir6 : wr.rangeAt w2.heap.size 0 [.int .i64 fop, .int .i64 fc, .int .i64 frd, .int .i64 frn, .int .i64 frm, .int .i64 fimm, .int .i64 fmode, .int .i64 flist, .bool fs] := fun j v hv => by rw [Nat.zero_add, hI6.cell j]; exact hv
      replace HA := Lib.hid (show ∀ W, Calls Tryd.prog 41 #[.agg L.toArray, .agg #[.int .i64 fop, .int .i64 fc, .int .i64 frd, .int .i64 frn, .int .i64 frm, .int .i64 fimm, .int .i64 fmode, .int .i64 flist, .bool fs], .bool true] W fun e w' => e = .returned (.bool Al) ∧ Below W.heap.size W w' from HA.out)
      clear hI6
      by_cases eA : Al = true
      · rw [eA] at HA
        by_cases eC : C = true
        · rw [eC, show Im.errI true = 0 from rfl] at HCK
          go_wp2_with (first
            | (refine wpList_load_mid rfl 45 (.tmp 3) rfl w.heap.size 0 rfl L _ hrow6 underR rfl hl42 ?_)
            | (refine wpList_load_mid rfl 23 (.tmp 11) rfl w2.heap.size 0 rfl [.int .i64 fop, .int .i64 fc, .int .i64 frd, .int .i64 frn, .int .i64 frm, .int .i64 fimm, .int .i64 fmode, .int .i64 flist, .bool fs] _ hir6 underI rfl insI ?_))
          refine (HA.out _).mono ?_
          rintro e w5 ⟨rfl, hb5⟩
          have hI7 := hI6h.out.below hb5
          have hR7 := Lib.hid (hR6.out.step hb5)
          have hcc := hI7.cell
          have hltb := hI7.lt
          unfold insC at hcc
          dsimp only at hcc
          have hI7h := Lib.hid hI7
          clear hb5 hrow6 hir6 hI7 hI6h
          go_wp2_with fail
          refine (HCK.out _).mono ?_
          rintro e w6 ⟨rfl, hb6⟩
          have hI8 := hI7h.out.below hb6
          have hcd := hI8.cell
          have hltb2 := hI8.lt
          unfold insC at hcd
          dsimp only at hcd
          have hR8 := hR7.out.step hb6
          clear hcc hb6 hltb
          have hres := hR8.res
          have hfr := hR8.free
          have hlt9 := hR8.lt
          have hbel := Lib.hid hR8.bel
          unfold insC Sm.noneI at hres
          dsimp only at hres
          clear hI8 hR8 hI7h hR7
          go_wp2
          refine bodyPost_ret (v := decO (some ⟨fop, fc, frd, frn, frm, fimm, fmode, flist, fs⟩)) (by simp [results, Tryd.f19, go_sem, decO, insV, insC, hres]) rfl ?_
          refine ⟨by rw [← HOO.out, eA, eC]; rfl, ?_⟩
          iterate 9 refine Below.setCell ?_ (Nat.le_succ _) _
          exact hbel.out
        · have eC' : C = false := by simpa using eC
          rw [eC', show Im.errI false = 6 from rfl] at HCK
          go_wp2_with (first
            | (refine wpList_load_mid rfl 45 (.tmp 3) rfl w.heap.size 0 rfl L _ hrow6 underR rfl hl42 ?_)
            | (refine wpList_load_mid rfl 23 (.tmp 11) rfl w2.heap.size 0 rfl [.int .i64 fop, .int .i64 fc, .int .i64 frd, .int .i64 frn, .int .i64 frm, .int .i64 fimm, .int .i64 fmode, .int .i64 flist, .bool fs] _ hir6 underI rfl insI ?_))
          refine (HA.out _).mono ?_
          rintro e w5 ⟨rfl, hb5⟩
          have hI7 := hI6h.out.below hb5
          have hR7 := Lib.hid (hR6.out.step hb5)
          have hcc := hI7.cell
          have hltb := hI7.lt
          unfold insC at hcc
          dsimp only at hcc
          have hI7h := Lib.hid hI7
          clear hb5 hrow6 hir6 hI7 hI6h
          go_wp2_with fail
          refine (HCK.out _).mono ?_
          rintro e w6 ⟨rfl, hb6⟩
          have hI8 := hI7h.out.below hb6
          have hcd := hI8.cell
          have hltb2 := hI8.lt
          unfold insC at hcd
          dsimp only at hcd
          have hR8 := hR7.out.step hb6
          clear hcc hb6 hltb
          have hres := hR8.res
          have hfr := hR8.free
          have hlt9 := hR8.lt
          have hbel := Lib.hid hR8.bel
          unfold insC Sm.noneI at hres
          dsimp only at hres
          clear hI8 hR8 hI7h hR7
          go_wp2
          refine bodyPost_ret (v := decO none) (by simp [results, Tryd.f19, go_sem, decO, insV, insC, Sm.noneI, hres]) rfl ?_
          refine ⟨by rw [← HOO.out, eA, eC']; rfl, ?_⟩
          iterate 9 refine Below.setCell ?_ (Nat.le_succ _) _
          exact hbel.out
      · have eA' : Al = false := by simpa using eA
        rw [eA'] at HA
        · go_wp2_with (first
            | (refine wpList_load_mid rfl 45 (.tmp 3) rfl w.heap.size 0 rfl L _ hrow6 underR rfl hl42 ?_)
            | (refine wpList_load_mid rfl 23 (.tmp 11) rfl w2.heap.size 0 rfl [.int .i64 fop, .int .i64 fc, .int .i64 frd, .int .i64 frn, .int .i64 frm, .int .i64 fimm, .int .i64 fmode, .int .i64 flist, .bool fs] _ hir6 underI rfl insI ?_))
          refine (HA.out _).mono ?_
          rintro e w5 ⟨rfl, hb5⟩
          have hI7 := hI6h.out.below hb5
          have hR7 := Lib.hid (hR6.out.step hb5)
          have hcc := hI7.cell
          have hltb := hI7.lt
          unfold insC at hcc
          dsimp only at hcc
          have hI7h := Lib.hid hI7
          clear hb5 hrow6 hir6 hI7 hI6h
          have hres := hR7.out.res
          have hfr := hR7.out.free
          have hlt9 := hR7.out.lt
          have hbel := Lib.hid hR7.out.bel
          unfold insC Sm.noneI at hres
          dsimp only at hres
          clear hI7h hR7 hcc hltb
          go_wp2
          refine bodyPost_ret (v := decO none) (by simp [results, Tryd.f19, go_sem, decO, insV, insC, Sm.noneI, hres]) rfl ?_
          refine ⟨by rw [← HOO.out, eA']; rfl, ?_⟩
          iterate 9 refine Below.setCell ?_ (Nat.le_succ _) _
          exact hbel.out
set_option maxRecDepth 20000 in
set_option maxHeartbeats 4000000 in
theorem read_c0 (r : Sp.R) (ho : okR r) (h : Int) (it : Bool) (h0 : 0 ≤ h) (h1 : h < 65536) (op : Int) (hf : Sp.findB r.of_ (Sp.clears r.pcs h) = some op) (hm : bits .and .i64 r.says 4 = 0) (i0 : Nm.I) (hi0 : { r.known with op := op, s := false } = i0)
    (fin : Nm.I) (hfin : Sp.adds r.pcs h i0 = fin) (w : World) (hT : Tabs w) :
    Calls Tryd.prog 19 #[.agg (rowC r).toArray, .int .u32 h, .bool it] w fun e w' => e = .returned (decO (if Sp.allowsB r.says fin it && Nm.okB fin then some fin else none)) ∧ Below w.heap.size w w' := by
  have hR0 := RdAt.start w r 45 23
  have hrow0 := hR0.row.all
  have hl42 : (Tryd.prog.info? 45).map (·.size) = some (rowC r).length := by rw [row_len ho]; exact sizeT
  have HB := Lib.hid (fun W => beginOf_c r ho h h0 h1 W)
  have HA := Lib.hid (fun W => allows_c r ho fin it W)
  obtain ⟨X, hX⟩ : ∃ X, Sp.clears r.pcs h = X := ⟨_, rfl⟩
  rw [hX] at HB hf
  have HF := Lib.hid (fun b g cp W hb hlt hg => firstB_c r.of_ ho.six X b g cp W hb hlt hg)
  rw [hf] at HF
  have HO := Lib.hid ho
  have HT := Lib.hid hT
  replace hR0 := Lib.hid hR0
  have hidx := Lib.hid (fun k hk W => index_pc r.pcs ho.five k hk W)
  have hl20 : (Tryd.prog.info? 43).map (·.size) = some (r.pcs.map pcC).flatten.length := by rw [pcs_len ho]; exact infoPs
  have HFIT := Lib.hid ho.fits
  have h5 := Lib.hid ho.five
  obtain ⟨Al, hA⟩ : ∃ Al, Sp.allowsB r.says fin it = Al := ⟨_, rfl⟩
  rw [hA] at HA
  obtain ⟨C, hC⟩ : ∃ C, Nm.okB fin = C := ⟨_, rfl⟩
  rw [hA, hC]
  obtain ⟨O, hO⟩ : ∃ O, (if (Al && C) = true then some fin else none) = O := ⟨_, rfl⟩
  rw [hO]
  have HOO := Lib.hid hO
  have HC0 := Lib.hid hC
  clear hf hX ho hT hA hC hO
  obtain ⟨known, hkn⟩ : ∃ k, r.known = k := ⟨_, rfl⟩
  obtain ⟨kop, kc, krd, krn, krm, kimm, kmode, klist, ks⟩ := known
  rw [hkn] at hi0
  dsimp only at hi0
  have HK := Lib.hid hkn
  have HP := Lib.hid hfin
  clear hkn hfin
  generalize hLp : r.pcs = l at *
  generalize hAA : (l.map pcC).flatten = A at *
  generalize hL : rowC r = L at *
  go_enter Tryd.func19, Tryd.ntmps19
  go_wp2_with (refine wpList_load_mid rfl 45 (.tmp 3) rfl w.heap.size 0 rfl L _ hrow0 underR rfl hl42 ?_)
  refine (HB.out _).mono ?_
  rintro e w1 ⟨rfl, hb1⟩
  have hR1 := Lib.hid (hR0.out.step hb1)
  clear hb1 hrow0 hR0
  go_wp2_with fail
  have hR2 := hR1.out.step (below_new (w := w1) (.cells #[.int .u32 X] 34))
  refine (HF.out w.heap.size w1.heap.size 6 _ hR2.row.of (by have := hR2.lt; omega) (by simp)).mono ?_
  rintro e w2 ⟨rfl, hb2⟩
  have hR3 := Lib.hid (hR2.step hb2)
  have hkn2 := hR3.out.row.known HO.out
  rw [HK.out] at hkn2
  replace hkn2 : w2.rangeAt w.heap.size 12 [.int .i64 kop, .int .i64 kc, .int .i64 krd, .int .i64 krn, .int .i64 krm, .int .i64 kimm, .int .i64 kmode, .int .i64 klist, .bool ks] := hkn2
  have hsy := hR3.out.row.says HO.out
  have hps := hR3.out.row.pcs HO.out
  rw [hLp, hAA] at hps
  have hlt := hR3.out.lt
  have hlt0 : w.heap.size < w2.heap.size := by omega
  generalize r.says = sy at *
  clear hR2 hb2 hR1
  unfold optB
  dsimp only
  go_wp2_with (first
    | (refine wpList_load_mid rfl 23 (.tmp 27) rfl w.heap.size 12 rfl [.int .i64 kop, .int .i64 kc, .int .i64 krd, .int .i64 krn, .int .i64 krm, .int .i64 kimm, .int .i64 kmode, .int .i64 klist, .bool ks] _ hkn2 underI rfl insI ?_)
    | (refine wpList_store_new rfl rfl 23 (.tmp 11) (.tmp 28) rfl _ [.int .i64 kop, .int .i64 kc, .int .i64 krd, .int .i64 krn, .int .i64 krm, .int .i64 kimm, .int .i64 kmode, .int .i64 klist, .bool ks] rfl rfl rfl (by kernel_rfl) (by kernel_rfl) ?_)
    | (refine wpList_load_mid rfl 43 (.tmp 40) rfl w.heap.size 22 rfl A _ (World.rangeAt_alloc hps _) underPs rfl hl20 ?_))
  subst hi0
  clear hps hkn2 hsy hm
  have hsz := (below_new (w := w2) (.cells #[.int .i64 op, .int .i64 kc, .int .i64 krd, .int .i64 krn, .int .i64 krm, .int .i64 kimm, .int .i64 kmode, .int .i64 klist, .bool false] 23))
  go_loopw [42] (fun iv wr => ∃ k : Nat, k ≤ 5 ∧ iv = .int .i64 (k : Int) ∧ RowKit.Hid (InsAt wr w2.heap.size (Sp.adds (l.take k) h ⟨op, kc, krd, krn, krm, kimm, kmode, klist, false⟩)) ∧ RowKit.Hid (Below w2.heap.size w2 wr)) (fun iv _ => (5 - intOf iv).toNat)
  case atStart => exact ⟨0, by omega, rfl, Lib.hid ⟨fun j => by rw [World.cell?_alloc_new]; simp [insC, Sp.adds], fun j => World.frozen?_alloc_new w2 _ _ j, by simp⟩, Lib.hid hsz⟩
  case round =>
    obtain ⟨k, hk5, rfl, HI, HW⟩ := hrel
    clear hsz
    by_cases hk : k < 5
    · have hidx2 := fun W => hidx.out k hk W
      have hkl : k < l.length := by rw [h5.out]; exact hk
      have hpf := HFIT.out _ (getD_mem hkl ⟨0, 0, 0, 0⟩)
      have hN := adds_step l k hkl h ⟨op, kc, krd, krn, krm, kimm, kmode, klist, false⟩
      generalize l.getD k ⟨0, 0, 0, 0⟩ = pc at *
      have hrs := HW.out.size
      have hI4 := HI.out.below (below_new (w := wr) (.cells (pcC pc).toArray 41))
      have hW4 := HW.out.alloc hrs (.cells (pcC pc).toArray 41)
      have hT4 := HT.out.below ((hR3.out.step' hW4).bel) HT.out.big
      have HC := Lib.hid (addTo_c pc _ h w2.heap.size w2.heap.size _ hpf h0 h1 (Nat.le_refl _) hI4 hT4)
      clear hI4 hT4 hpf hkl
      obtain ⟨f, c, a, u⟩ := pc
      unfold pcC at hidx2 HC hW4
      dsimp only at hidx2 HC hW4
      rw [← hN] at HC
      clear hN
      go_wp2_with (go_at_call 40; refine HC.out.mono ?_; rintro e w4 ⟨rfl, hI5, hb5⟩)
      go_roundw
      case rel => exact ⟨k + 1, by omega, rfl, Lib.hid hI5, Lib.hid (hW4.trans hb5)⟩
      case measure => simp [intOf]; omega
    · have hk' : k = 5 := by omega
      subst hk'
      have hI6 := HI.out
      rw [List.take_of_length_le (by rw [h5.out]; exact Nat.le_refl _), HP.out] at hI6
      have hR6 := Lib.hid (hR3.out.step' HW.out)
      clear HI HW hk hk5
      obtain ⟨fop, fc, frd, frn, frm, fimm, fmode, flist, fs⟩ := fin
      have HCK0 := fun W => check_c fop fc frd frn frm fimm fmode flist fs W
      have hC2 : Im.checkB fop fc frd frn frm fimm fmode flist fs = C := HC0.out
      rw [hC2] at HCK0
      have HCK := Lib.hid HCK0
      clear HCK0 hC2
      have hrow6 := hR6.out.row.all
      rw [hL] at hrow6
      have hI6h := Lib.hid hI6
      have hir6 : wr.rangeAt w2.heap.size 0 [.int .i64 fop, .int .i64 fc, .int .i64 frd, .int .i64 frn, .int .i64 frm, .int .i64 fimm, .int .i64 fmode, .int .i64 flist, .bool fs] := fun j v hv => by rw [Nat.zero_add, hI6.cell j]; exact hv
      replace HA := Lib.hid (show ∀ W, Calls Tryd.prog 41 #[.agg L.toArray, .agg #[.int .i64 fop, .int .i64 fc, .int .i64 frd, .int .i64 frn, .int .i64 frm, .int .i64 fimm, .int .i64 fmode, .int .i64 flist, .bool fs], .bool it] W fun e w' => e = .returned (.bool Al) ∧ Below W.heap.size W w' from HA.out)
      clear hI6
      by_cases eA : Al = true
      · rw [eA] at HA
        by_cases eC : C = true
        · rw [eC, show Im.errI true = 0 from rfl] at HCK
          go_wp2_with (first
            | (refine wpList_load_mid rfl 45 (.tmp 3) rfl w.heap.size 0 rfl L _ hrow6 underR rfl hl42 ?_)
            | (refine wpList_load_mid rfl 23 (.tmp 11) rfl w2.heap.size 0 rfl [.int .i64 fop, .int .i64 fc, .int .i64 frd, .int .i64 frn, .int .i64 frm, .int .i64 fimm, .int .i64 fmode, .int .i64 flist, .bool fs] _ hir6 underI rfl insI ?_))
          refine (HA.out _).mono ?_
          rintro e w5 ⟨rfl, hb5⟩
          have hI7 := hI6h.out.below hb5
          have hR7 := Lib.hid (hR6.out.step hb5)
          have hcc := hI7.cell
          have hltb := hI7.lt
          unfold insC at hcc
          dsimp only at hcc
          have hI7h := Lib.hid hI7
          clear hb5 hrow6 hir6 hI7 hI6h
          go_wp2_with fail
          refine (HCK.out _).mono ?_
          rintro e w6 ⟨rfl, hb6⟩
          have hI8 := hI7h.out.below hb6
          have hcd := hI8.cell
          have hltb2 := hI8.lt
          unfold insC at hcd
          dsimp only at hcd
          have hR8 := hR7.out.step hb6
          clear hcc hb6 hltb
          have hres := hR8.res
          have hfr := hR8.free
          have hlt9 := hR8.lt
          have hbel := Lib.hid hR8.bel
          unfold insC Sm.noneI at hres
          dsimp only at hres
          clear hI8 hR8 hI7h hR7
          go_wp2
          refine bodyPost_ret (v := decO (some ⟨fop, fc, frd, frn, frm, fimm, fmode, flist, fs⟩)) (by simp [results, Tryd.f19, go_sem, decO, insV, insC, hres]) rfl ?_
          refine ⟨by rw [← HOO.out, eA, eC]; rfl, ?_⟩
          iterate 9 refine Below.setCell ?_ (Nat.le_succ _) _
          exact hbel.out
        · have eC' : C = false := by simpa using eC
          rw [eC', show Im.errI false = 6 from rfl] at HCK
          go_wp2_with (first
            | (refine wpList_load_mid rfl 45 (.tmp 3) rfl w.heap.size 0 rfl L _ hrow6 underR rfl hl42 ?_)
            | (refine wpList_load_mid rfl 23 (.tmp 11) rfl w2.heap.size 0 rfl [.int .i64 fop, .int .i64 fc, .int .i64 frd, .int .i64 frn, .int .i64 frm, .int .i64 fimm, .int .i64 fmode, .int .i64 flist, .bool fs] _ hir6 underI rfl insI ?_))
          refine (HA.out _).mono ?_
          rintro e w5 ⟨rfl, hb5⟩
          have hI7 := hI6h.out.below hb5
          have hR7 := Lib.hid (hR6.out.step hb5)
          have hcc := hI7.cell
          have hltb := hI7.lt
          unfold insC at hcc
          dsimp only at hcc
          have hI7h := Lib.hid hI7
          clear hb5 hrow6 hir6 hI7 hI6h
          go_wp2_with fail
          refine (HCK.out _).mono ?_
          rintro e w6 ⟨rfl, hb6⟩
          have hI8 := hI7h.out.below hb6
          have hcd := hI8.cell
          have hltb2 := hI8.lt
          unfold insC at hcd
          dsimp only at hcd
          have hR8 := hR7.out.step hb6
          clear hcc hb6 hltb
          have hres := hR8.res
          have hfr := hR8.free
          have hlt9 := hR8.lt
          have hbel := Lib.hid hR8.bel
          unfold insC Sm.noneI at hres
          dsimp only at hres
          clear hI8 hR8 hI7h hR7
          go_wp2
          refine bodyPost_ret (v := decO none) (by simp [results, Tryd.f19, go_sem, decO, insV, insC, Sm.noneI, hres]) rfl ?_
          refine ⟨by rw [← HOO.out, eA, eC']; rfl, ?_⟩
          iterate 9 refine Below.setCell ?_ (Nat.le_succ _) _
          exact hbel.out
      · have eA' : Al = false := by simpa using eA
        rw [eA'] at HA
        · go_wp2_with (first
            | (refine wpList_load_mid rfl 45 (.tmp 3) rfl w.heap.size 0 rfl L _ hrow6 underR rfl hl42 ?_)
            | (refine wpList_load_mid rfl 23 (.tmp 11) rfl w2.heap.size 0 rfl [.int .i64 fop, .int .i64 fc, .int .i64 frd, .int .i64 frn, .int .i64 frm, .int .i64 fimm, .int .i64 fmode, .int .i64 flist, .bool fs] _ hir6 underI rfl insI ?_))
          refine (HA.out _).mono ?_
          rintro e w5 ⟨rfl, hb5⟩
          have hI7 := hI6h.out.below hb5
          have hR7 := Lib.hid (hR6.out.step hb5)
          have hcc := hI7.cell
          have hltb := hI7.lt
          unfold insC at hcc
          dsimp only at hcc
          have hI7h := Lib.hid hI7
          clear hb5 hrow6 hir6 hI7 hI6h
          have hres := hR7.out.res
          have hfr := hR7.out.free
          have hlt9 := hR7.out.lt
          have hbel := Lib.hid hR7.out.bel
          unfold insC Sm.noneI at hres
          dsimp only at hres
          clear hI7h hR7 hcc hltb
          go_wp2
          refine bodyPost_ret (v := decO none) (by simp [results, Tryd.f19, go_sem, decO, insV, insC, Sm.noneI, hres]) rfl ?_
          refine ⟨by rw [← HOO.out, eA']; rfl, ?_⟩
          iterate 9 refine Below.setCell ?_ (Nat.le_succ _) _
          exact hbel.out
theorem readP_some {r : Sp.R} {h : Int} {it : Bool} {op : Int} (hf : Sp.findB r.of_ (Sp.clears r.pcs h) = some op) (S : Bool) (hS : Sp.flagB r.says it = S) : readP r h it = if Sp.allowsB r.says (Sp.adds r.pcs h { r.known with op := op, s := S }) it && Nm.okB (Sp.adds r.pcs h { r.known with op := op, s := S }) then some (Sp.adds r.pcs h { r.known with op := op, s := S }) else none := by
  unfold readP
  rw [hf]
  dsimp only
  unfold insP
  rw [hS]
theorem read_c (r : Sp.R) (ho : okR r) (h : Int) (it : Bool) (h0 : 0 ≤ h) (h1 : h < 65536) (w : World) (hT : Tabs w) :
    Calls Tryd.prog 19 #[.agg (rowC r).toArray, .int .u32 h, .bool it] w fun e w' => e = .returned (decO (readP r h it)) ∧ Below w.heap.size w w' := by
  cases hf : Sp.findB r.of_ (Sp.clears r.pcs h) with
  | none =>
    have e : readP r h it = none := by unfold readP; rw [hf]
    rw [e]
    exact read_none r ho h it h0 h1 hf w
  | some op =>
    rcases says4 ho with ⟨hm, hs⟩ | ⟨hm, hs⟩
    · cases it with
      | false =>
        rw [readP_some hf true (by unfold Sp.flagB; rw [hs]; rfl)]
        exact read_a r ho h h0 h1 op hf hm _ rfl _ rfl w hT
      | true =>
        rw [readP_some hf false (by unfold Sp.flagB; rw [hs]; rfl)]
        exact read_b r ho h h0 h1 op hf hm _ rfl _ rfl w hT
    · rw [readP_some hf false (by unfold Sp.flagB; rw [hs]; rfl)]
      exact read_c0 r ho h it h0 h1 op hf hm _ rfl _ rfl w hT
end Ys
end Go.Proofs.YtcphhojdfpedkaaDoor
