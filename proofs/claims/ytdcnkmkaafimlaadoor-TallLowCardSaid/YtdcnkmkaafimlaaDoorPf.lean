/- What both rows 'op' have (numbered). No conditions but those that each fact names. -/
import Derived.Test.YtdcnkmkaafimlaaDoorRows
import Derived.Test.YtdcnkmkaafimlaaDoorGf
import Derived.Test.YtdcnkmkaafimlaaDoorGc
import Derived.Deep.RegionHeld3
import Derived.Lib.Hide
namespace Go.Proofs.YtdcnkmkaafimlaaDoor
open Go.ChangeShapes Go.WideShapes Go.ChangeAt Go.RowKit
namespace Tp
open Nm (I)
open Tl (IV)

/-! an instruction lies at block b, and may be written -/
def insC (i : I) : List Value := [.int .i64 i.op, .int .i64 i.cond, .int .i64 i.rd, .int .i64 i.rn, .int .i64 i.rm, .int .i64 i.imm, .int .i64 i.mode, .int .i64 i.list, .bool i.s]
structure InsAt (w : World) (b : Nat) (i : I) : Prop where
  cell : ∀ j, w.cell? ⟨b, j, none⟩ = (insC i)[j]?
  free : ∀ j, w.frozen? ⟨b, j, none⟩ = false
  lt : b < w.heap.size
theorem InsAt.below {w w' : World} {b : Nat} {i : I} (h : InsAt w b i) (hb : Below w.heap.size w w') : InsAt w' b i :=
  ⟨fun j => (hb.cell (p := ⟨b, j, none⟩) h.lt).trans (h.cell j), fun j => (hb.frozen (p := ⟨b, j, none⟩) h.lt).trans (h.free j), Nat.lt_of_lt_of_le h.lt hb.size⟩
theorem InsAt.kept {w w' : World} {b c : Nat} {i : I} (h : InsAt w c i) (hk : Kept b w w') (hc : c ≠ b) : InsAt w' c i :=
  ⟨fun j => (hk.cell (p := ⟨c, j, none⟩) hc h.lt).trans (h.cell j), fun j => (hk.frozen (p := ⟨c, j, none⟩) hc h.lt).trans (h.free j), Nat.lt_of_lt_of_le h.lt hk.size⟩
theorem InsAt.new (w : World) (i : I) : InsAt (w.alloc (.cells #[.int .i64 i.op, .int .i64 i.cond, .int .i64 i.rd, .int .i64 i.rn, .int .i64 i.rm, .int .i64 i.imm, .int .i64 i.mode, .int .i64 i.list, .bool i.s] 23)) w.heap.size i :=
  ⟨fun j => by rw [World.cell?_alloc_new]; simp [insC], fun j => World.frozen?_alloc_new w _ _ j, by simp⟩

theorem insAt_set {w : World} {b : Nat} {i i' : I} (h : InsAt w b i) (o : Nat) (v : Value) (ho : o < 9) (hc : ∀ j, (insC i')[j]? = if j = o then some v else (insC i)[j]?) : InsAt (w.setCell ⟨b, o, none⟩ v) b i' := by
  have hs : ∃ u, w.cell? ⟨b, o, none⟩ = some u := by
    rw [h.cell o]
    exact ⟨_, List.getElem?_eq_getElem (by simpa [insC] using ho)⟩
  obtain ⟨u, hu⟩ := hs
  refine ⟨fun j => ?_, fun j => by rw [World.frozen?_setCell]; exact h.free j, by simpa using h.lt⟩
  rw [hc j]
  by_cases hj : j = o
  · subst hj
    rw [if_pos rfl, World.cell?_setCell_same _ _ _ hu]
  · rw [if_neg hj, World.cell?_setCell_other _ _ _ _ (by intro e; exact hj (by injection e with e1 e2; exact e2.symm)), h.cell j]
theorem InsAt.set0 {w : World} {c : Nat} {x0 x1 x2 x3 x4 x5 x6 x7 : Int} {x8 : Bool} (h : InsAt w c ⟨x0, x1, x2, x3, x4, x5, x6, x7, x8⟩) (y : Int) : InsAt (w.setCell ⟨c, 0, none⟩ (.int .i64 y)) c ⟨y, x1, x2, x3, x4, x5, x6, x7, x8⟩ :=
  insAt_set h 0 _ (by decide) fun j => by rcases j with _ | _ | _ | _ | _ | _ | _ | _ | _ | j <;> rfl
theorem InsAt.set1 {w : World} {c : Nat} {x0 x1 x2 x3 x4 x5 x6 x7 : Int} {x8 : Bool} (h : InsAt w c ⟨x0, x1, x2, x3, x4, x5, x6, x7, x8⟩) (y : Int) : InsAt (w.setCell ⟨c, 1, none⟩ (.int .i64 y)) c ⟨x0, y, x2, x3, x4, x5, x6, x7, x8⟩ :=
  insAt_set h 1 _ (by decide) fun j => by rcases j with _ | _ | _ | _ | _ | _ | _ | _ | _ | j <;> rfl
theorem InsAt.set2 {w : World} {c : Nat} {x0 x1 x2 x3 x4 x5 x6 x7 : Int} {x8 : Bool} (h : InsAt w c ⟨x0, x1, x2, x3, x4, x5, x6, x7, x8⟩) (y : Int) : InsAt (w.setCell ⟨c, 2, none⟩ (.int .i64 y)) c ⟨x0, x1, y, x3, x4, x5, x6, x7, x8⟩ :=
  insAt_set h 2 _ (by decide) fun j => by rcases j with _ | _ | _ | _ | _ | _ | _ | _ | _ | j <;> rfl
theorem InsAt.set3 {w : World} {c : Nat} {x0 x1 x2 x3 x4 x5 x6 x7 : Int} {x8 : Bool} (h : InsAt w c ⟨x0, x1, x2, x3, x4, x5, x6, x7, x8⟩) (y : Int) : InsAt (w.setCell ⟨c, 3, none⟩ (.int .i64 y)) c ⟨x0, x1, x2, y, x4, x5, x6, x7, x8⟩ :=
  insAt_set h 3 _ (by decide) fun j => by rcases j with _ | _ | _ | _ | _ | _ | _ | _ | _ | j <;> rfl
theorem InsAt.set4 {w : World} {c : Nat} {x0 x1 x2 x3 x4 x5 x6 x7 : Int} {x8 : Bool} (h : InsAt w c ⟨x0, x1, x2, x3, x4, x5, x6, x7, x8⟩) (y : Int) : InsAt (w.setCell ⟨c, 4, none⟩ (.int .i64 y)) c ⟨x0, x1, x2, x3, y, x5, x6, x7, x8⟩ :=
  insAt_set h 4 _ (by decide) fun j => by rcases j with _ | _ | _ | _ | _ | _ | _ | _ | _ | j <;> rfl
theorem InsAt.set5 {w : World} {c : Nat} {x0 x1 x2 x3 x4 x5 x6 x7 : Int} {x8 : Bool} (h : InsAt w c ⟨x0, x1, x2, x3, x4, x5, x6, x7, x8⟩) (y : Int) : InsAt (w.setCell ⟨c, 5, none⟩ (.int .i64 y)) c ⟨x0, x1, x2, x3, x4, y, x6, x7, x8⟩ :=
  insAt_set h 5 _ (by decide) fun j => by rcases j with _ | _ | _ | _ | _ | _ | _ | _ | _ | j <;> rfl
theorem InsAt.set6 {w : World} {c : Nat} {x0 x1 x2 x3 x4 x5 x6 x7 : Int} {x8 : Bool} (h : InsAt w c ⟨x0, x1, x2, x3, x4, x5, x6, x7, x8⟩) (y : Int) : InsAt (w.setCell ⟨c, 6, none⟩ (.int .i64 y)) c ⟨x0, x1, x2, x3, x4, x5, y, x7, x8⟩ :=
  insAt_set h 6 _ (by decide) fun j => by rcases j with _ | _ | _ | _ | _ | _ | _ | _ | _ | j <;> rfl
theorem InsAt.set7 {w : World} {c : Nat} {x0 x1 x2 x3 x4 x5 x6 x7 : Int} {x8 : Bool} (h : InsAt w c ⟨x0, x1, x2, x3, x4, x5, x6, x7, x8⟩) (y : Int) : InsAt (w.setCell ⟨c, 7, none⟩ (.int .i64 y)) c ⟨x0, x1, x2, x3, x4, x5, x6, y, x8⟩ :=
  insAt_set h 7 _ (by decide) fun j => by rcases j with _ | _ | _ | _ | _ | _ | _ | _ | _ | j <;> rfl
theorem InsAt.set8 {w : World} {c : Nat} {x0 x1 x2 x3 x4 x5 x6 x7 : Int} {x8 : Bool} (h : InsAt w c ⟨x0, x1, x2, x3, x4, x5, x6, x7, x8⟩) (y : Bool) : InsAt (w.setCell ⟨c, 8, none⟩ (.bool y)) c ⟨x0, x1, x2, x3, x4, x5, x6, x7, y⟩ :=
  insAt_set h 8 _ (by decide) fun j => by rcases j with _ | _ | _ | _ | _ | _ | _ | _ | _ | j <;> rfl

theorem InsAt.other {w : World} {b c : Nat} {i : I} (h : InsAt w b i) (hc : b < c) (j : Nat) (v : Value) : InsAt (w.setCell ⟨c, j, none⟩ v) b i :=
  ⟨fun k => (World.cell?_setCell_far w ⟨c, j, none⟩ ⟨b, k, none⟩ v (by show c ≠ b; omega)).trans (h.cell k), fun k => by rw [World.frozen?_setCell]; exact h.free k, by simpa using h.lt⟩
theorem nine_other {w : World} {b c : Nat} {i : I} {v0 v1 v2 v3 v4 v5 v6 v7 v8 : Value} (h : InsAt w b i) (hc : b < c) : InsAt (((((((((w.setCell ⟨c, 0, none⟩ v0).setCell ⟨c, 1, none⟩ v1).setCell ⟨c, 2, none⟩ v2).setCell ⟨c, 3, none⟩ v3).setCell ⟨c, 4, none⟩ v4).setCell ⟨c, 5, none⟩ v5).setCell ⟨c, 6, none⟩ v6).setCell ⟨c, 7, none⟩ v7).setCell ⟨c, 8, none⟩ v8) b i :=
  ((((((((h.other hc 0 v0).other hc 1 v1).other hc 2 v2).other hc 3 v3).other hc 4 v4).other hc 5 v5).other hc 6 v6).other hc 7 v7).other hc 8 v8

def numI (o : Int) (s : Bool) (r d Y word : Int) : I :=
  if Y = word then
    (if r = 15 then ⟨Tm.opM o, 0, d, 0, 0, 0, 0, 0, s⟩
    else if d = 15 ∧ s = true then ⟨Tm.opT o, 0, 0, r, 0, 0, 0, 0, false⟩
    else ⟨Tm.opD o, 0, d, r, 0, 0, 0, 0, s⟩)
  else Tm.Z
theorem of16 {o : Int} (h0 : 0 ≤ o) (h1 : o < 16) : o = 0 ∨ o = 1 ∨ o = 2 ∨ o = 3 ∨ o = 4 ∨ o = 5 ∨ o = 6 ∨ o = 7 ∨ o = 8 ∨ o = 9 ∨ o = 10 ∨ o = 11 ∨ o = 12 ∨ o = 13 ∨ o = 14 ∨ o = 15 := by omega
theorem whole_at {W : World} (h : Tabs W) {o : Int} (h0 : 0 ≤ o) (h1 : o < 16) : W.cell? ⟨0, o.toNat, none⟩ = some (.int .i64 (Tm.opD o)) := by
  rcases of16 h0 h1 with rfl | rfl | rfl | rfl | rfl | rfl | rfl | rfl | rfl | rfl | rfl | rfl | rfl | rfl | rfl | rfl
  all_goals exact (by rw [← Nat.zero_add (Int.toNat _)]; exact h.tall_whole _ _ rfl)
theorem moves_at {W : World} (h : Tabs W) {o : Int} (h0 : 0 ≤ o) (h1 : o < 16) : W.cell? ⟨1, o.toNat, none⟩ = some (.int .i64 (Tm.opM o)) := by
  rcases of16 h0 h1 with rfl | rfl | rfl | rfl | rfl | rfl | rfl | rfl | rfl | rfl | rfl | rfl | rfl | rfl | rfl | rfl
  all_goals exact (by rw [← Nat.zero_add (Int.toNat _)]; exact h.tall_moves _ _ rfl)
theorem comps_at {W : World} (h : Tabs W) {o : Int} (h0 : 0 ≤ o) (h1 : o < 16) : W.cell? ⟨2, o.toNat, none⟩ = some (.int .i64 (Tm.opT o)) := by
  rcases of16 h0 h1 with rfl | rfl | rfl | rfl | rfl | rfl | rfl | rfl | rfl | rfl | rfl | rfl | rfl | rfl | rfl | rfl
  all_goals exact (by rw [← Nat.zero_add (Int.toNat _)]; exact h.tall_comparisons _ _ rfl)

/-- as Stt, and where the instruction was made (c), it lies there -/
structure Nst (b : Nat) (W0 : World) (X : Int) (t : Bool) (c : Option Nat) (W : World) : Prop where
  stt : Stt b W0 X t W
  ins : ∀ k, c = some k → InsAt W k Tm.Z ∧ W0.heap.size ≤ k ∧ b < k
theorem Nst.drew {b : Nat} {W0 W : World} {X : Int} {t : Bool} {c : Option Nat} (h : Nst b W0 X t c W) : Nst b W0 X t c W.drew := ⟨h.stt.drew, fun k hk => ⟨⟨(h.ins k hk).1.cell, (h.ins k hk).1.free, (h.ins k hk).1.lt⟩, (h.ins k hk).2⟩⟩
theorem Nst.drewn {b : Nat} {W0 W : World} {X : Int} {t : Bool} {c : Option Nat} (h : Nst b W0 X t c W) (n : Nat) : Nst b W0 X t c (W.drewN n) := ⟨h.stt.drewn n, fun k hk => ⟨⟨(h.ins k hk).1.cell, (h.ins k hk).1.free, (h.ins k hk).1.lt⟩, (h.ins k hk).2⟩⟩
theorem Nst.alloc {b : Nat} {W0 W : World} {X : Int} {t : Bool} (h : Nst b W0 X t none W) : Nst b W0 X t (some W.heap.size) (W.alloc (.cells #[.int .i64 0, .int .i64 0, .int .i64 0, .int .i64 0, .int .i64 0, .int .i64 0, .int .i64 0, .int .i64 0, .bool false] 23)) :=
  ⟨h.stt.alloc _, fun k hk => by cases hk; exact ⟨InsAt.new W Tm.Z, h.stt.kept.size, h.stt.pair.lt⟩⟩
theorem Nst.go {b : Nat} {W0 W w1 : World} {X Y : Int} {t : Bool} {c : Option Nat} {p : Prop} (hb : 5 ≤ b) (hP : Pair w1 b Y t) (hK : Kept b W w1) (h : Nst b W0 X t c W) (k : Nst b W0 Y t c w1 → p) : p :=
  k ⟨h.stt.call hb hP hK, fun j hj => ⟨(h.ins j hj).1.kept hK (Nat.ne_of_gt (h.ins j hj).2.2), (h.ins j hj).2⟩⟩
theorem Nst.some {b : Nat} {W0 W : World} {X : Int} {t : Bool} {c : Nat} (h : Nst b W0 X t (some c) W) : InsAt W c Tm.Z ∧ W0.heap.size ≤ c ∧ b < c := h.ins c rfl
theorem Tabs.set {W : World} (h : Tabs W) {c : Nat} (hc : 5 ≤ c) (j : Nat) (v : Value) : Tabs (W.setCell ⟨c, j, none⟩ v) := h.below ((Below.refl 5 W).setCell (p := ⟨c, j, none⟩) hc v) (Nat.le_refl _)
theorem apart {b c : Nat} (h : b < c) : ¬ b = c ∧ ¬ c = b := by omega
theorem Tabs.drew1 {W : World} (h : Tabs W) : Tabs W.drew := h.drew 1
theorem less {X m c v : Int} (h : X / m % c = v) (hm : 0 < m) (hc : 0 < c) (h0 : 0 ≤ X) (h1 : X < 4294967296) : 0 ≤ X - v * m ∧ X - v * m < 4294967296 := by
  have a1 := Int.emod_nonneg (X / m) (Int.ne_of_gt hc)
  have a2 : 0 ≤ X / m := Int.ediv_nonneg h0 (Int.le_of_lt hm)
  have a3 : X / m % c ≤ X / m := by
    have := Int.emod_add_mul_ediv (X / m) c
    have b1 : 0 ≤ c * (X / m / c) := Int.mul_nonneg (Int.le_of_lt hc) (Int.ediv_nonneg a2 (Int.le_of_lt hc))
    omega
  rw [h] at a1 a3
  have a4 := Int.mul_le_mul_of_nonneg_right a3 (Int.le_of_lt hm)
  have a5 := Int.ediv_mul_le X (Int.ne_of_gt hm)
  have a6 := Int.mul_nonneg a1 (Int.le_of_lt hm)
  omega

theorem Stt.trans {b : Nat} {W0 w1 w2 : World} {X Y : Int} {t : Bool} (h : Stt b W0 X t w1) (k : Stt b w1 Y t w2) : Stt b W0 Y t w2 := ⟨k.pair, h.kept.trans k.kept, k.tabs⟩
theorem Stt.out {b : Nat} {W0 W : World} {X : Int} {t : Bool} (h : Stt b W0 X t W) {c : Nat} (hc : W0.heap.size ≤ c) (hb : b < c) (h5 : 5 ≤ b) (j : Nat) (v : Value) : Stt b W0 X t (W.setCell ⟨c, j, none⟩ v) :=
  ⟨⟨(World.cell?_setCell_far W ⟨c, j, none⟩ ⟨b, 0, none⟩ v (by show c ≠ b; omega)).trans h.pair.word, (World.cell?_setCell_far W ⟨c, j, none⟩ ⟨b, 1, none⟩ v (by show c ≠ b; omega)).trans h.pair.it, (by rw [World.frozen?_setCell]; exact h.pair.free), by simpa using h.pair.lt⟩,
    ⟨h.kept.os, h.kept.tape, h.kept.output, by simpa using h.kept.size, fun k hk hl => (Below.heap_setCell W ⟨c, j, none⟩ v k (by show k ≠ c; omega)).trans (h.kept.block k hk hl)⟩, Tabs.set h.tabs (by omega) j v⟩
set_option maxHeartbeats 4000000 in
theorem numbered_c (b : Nat) (word X o sv d r X1 X2 X3 Y : Int) (t : Bool) (W : World) (h1 : X / 2097152 % 16 = o) (e1 : X - o * 2097152 = X1) (h2 : X1 / 1048576 % 2 = sv) (e2 : X1 - sv * 1048576 = X2) (h3 : X2 / 256 % 16 = d) (e3 : X2 - d * 256 = X3) (h4 : X3 / 65536 % 16 = r) (e4 : X3 - r * 65536 = Y) (hx0 : 0 ≤ X) (hx1 : X < 4294967296) (hP : Pair W b X t) (hT : Tabs W) (hb : 5 ≤ b) :
    Calls Tryd.prog 29 #[.pointer (some ⟨b, 0, none⟩), .int .u32 word] W fun e w' => e = .returned (IV (numI o (sv == 1) r d Y word)) ∧ Pair w' b Y t ∧ Kept b W w' := by
  have o0 : 0 ≤ o := by omega
  have o1 : o < 16 := by omega
  obtain ⟨x10, x11⟩ := less h1 (by decide) (by decide) hx0 hx1
  rw [e1] at x10 x11
  obtain ⟨x20, x21⟩ := less h2 (by decide) (by decide) x10 x11
  rw [e2] at x20 x21
  obtain ⟨x30, x31⟩ := less h3 (by decide) (by decide) x20 x21
  rw [e3] at x30 x31
  have H1 := Lib.hid (fun W hP => take_n 24 21 2097152 16 (hi' := 24) (lo' := 21) b X o X1 t W h1 e1 hx0 hx1 hP rfl rfl (by decide) (by decide) (by decide) (by decide))
  have H2 := Lib.hid (fun W hP => sets_c b X1 sv X2 t W h2 e2 x10 x11 hP)
  have H3 := Lib.hid (fun W hP => result_c b X2 d X3 t W h3 e3 x20 x21 hP)
  have H4 := Lib.hid (fun W hP => base_c b X3 r Y t W h4 e4 x30 x31 hP)
  have hbW := hP.lt
  have HS := Lib.hid ((Stt.start hP hT).alloc (.cells #[.int .i64 0, .int .i64 0, .int .i64 0, .int .i64 0, .int .i64 0, .int .i64 0, .int .i64 0, .int .i64 0, .bool false] 23))
  have HR := Lib.hid (InsAt.new W Tm.Z)
  generalize (sv == 1) = s at *
  have hV : ((Y == word) = false ∧ Tm.Z = numI o s r d Y word) ∨ (word = Y ∧ r = 15 ∧ ⟨Tm.opM o, 0, d, 0, 0, 0, 0, 0, s⟩ = numI o s r d Y word) ∨ (word = Y ∧ (r == 15) = false ∧ d = 15 ∧ s = true ∧ ⟨Tm.opT o, 0, 0, r, 0, 0, 0, 0, false⟩ = numI o s r d Y word) ∨ (word = Y ∧ (r == 15) = false ∧ (d == 15) = false ∧ ⟨Tm.opD o, 0, d, r, 0, 0, 0, 0, s⟩ = numI o s r d Y word) ∨ (word = Y ∧ (r == 15) = false ∧ d = 15 ∧ s = false ∧ ⟨Tm.opD o, 0, d, r, 0, 0, 0, 0, s⟩ = numI o s r d Y word) := by
    unfold numI
    by_cases hy : Y = word
    · rw [if_pos hy]
      by_cases hr : r = 15
      · rw [if_pos hr]; exact .inr (.inl ⟨hy.symm, hr, rfl⟩)
      · rw [if_neg hr]
        by_cases hd : d = 15 ∧ s = true
        · rw [if_pos hd]; exact .inr (.inr (.inl ⟨hy.symm, by simpa using hr, hd.1, hd.2, rfl⟩))
        · rw [if_neg hd]
          by_cases hd2 : d = 15
          · exact .inr (.inr (.inr (.inr ⟨hy.symm, by simpa using hr, hd2, by cases s with | false => rfl | true => exact absurd ⟨hd2, rfl⟩ hd, rfl⟩)))
          · exact .inr (.inr (.inr (.inl ⟨hy.symm, by simpa using hr, by simpa using hd2, rfl⟩)))
    · rw [if_neg hy]; exact .inl ⟨by simpa using hy, rfl⟩
  generalize numI o s r d Y word = R at *
  replace hV := Lib.hid hV
  clear h1 e1 h2 e2 h3 e3 h4 e4 hP hT hx0 hx1 x10 x11 x20 x21 x30 x31
  go_enter Tryd.func29, Tryd.ntmps29
  go_wp2_with fail
  refine (H1.out _ HS.out.pair).mono ?_
  rintro e w1 ⟨rfl, hP1, hK1⟩
  have hS1 := Lib.hid (HS.out.call hb hP1 hK1)
  replace HR := Lib.hid (HR.out.kept hK1 (by omega))
  have hN1 := Lib.hid (show Nst b w1 X1 t none w1 from ⟨Stt.start hP1 hS1.out.tabs, fun k hk => by cases hk⟩)
  have hT1 := hS1.out.tabs
  have hcell := whole_at hT1 o0 o1
  clear hP1 hK1 HS
  go_wp2_with fail
  rename_i Q' K hKK
  have HK : ∀ (c : Nat) (w5 : World), RowKit.Hid (Stt b W Y t w5) → RowKit.Hid (InsAt w5 c ⟨Tm.opD o, 0, d, r, 0, 0, 0, 0, s⟩) → RowKit.Hid (InsAt w5 W.heap.size Tm.Z) → W.heap.size < c → b < c →
      Exit.then K Q' .normal { tmps := #[.pointer (some ⟨b, 0, none⟩), .int .u32 word, undef, undef, .pointer (some ⟨W.heap.size, 0, none⟩), .int .i64 o, .pointer (some ⟨c, 0, none⟩), .pointer (some ⟨b, 0, none⟩), .int .i64 o, .int .i64 o, .pointer (some ⟨0, o.toNat, none⟩), .int .i64 (Tm.opD o), .pointer (some ⟨b, 0, none⟩), .bool s, .pointer (some ⟨b, 0, none⟩), .int .i64 d, .pointer (some ⟨b, 0, none⟩), .int .i64 r, .agg #[.int .i64 (Tm.opD o), .int .i64 0, .int .i64 d, .int .i64 r, .int .i64 0, .int .i64 0, .int .i64 0, .int .i64 0, .bool s], undef, undef, undef, undef, undef, undef, undef, undef, undef, undef, undef, undef, undef, undef, undef, undef, undef, undef, undef, undef, undef, undef, undef, undef, undef, undef, undef, undef, undef, undef, undef, undef], defers := [] } w5 := by
    intro c w5 hS4 hI hR4 hc3 hc2
    have hw := hS4.out.pair.word
    have hlb := hS4.out.pair.lt
    have hm1 := moves_at hS4.out.tabs o0 o1
    have hm2 := comps_at hS4.out.tabs o0 o1
    obtain ⟨hrr, hrf, hrl⟩ := hR4.out
    obtain ⟨hres, hfr, hlt⟩ := hI.out
    unfold insC Tm.Z at hrr
    unfold insC at hres
    dsimp only at hrr hres
    obtain ⟨na1, na2⟩ := apart hc2
    obtain ⟨nb1, nb2⟩ := apart hc3
    obtain ⟨nc1, nc2⟩ := apart (Nat.lt_of_lt_of_le (by decide : 1 < 5) (Nat.le_trans hb (Nat.le_of_lt hc2)))
    obtain ⟨nd1, nd2⟩ := apart (Nat.lt_of_lt_of_le (by decide : 2 < 5) (Nat.le_trans hb (Nat.le_of_lt hc2)))
    clear hT1 hcell hN1 HR hS1 hI hR4
    rcases hV.out with ⟨hy, rfl⟩ | ⟨rfl, rfl, rfl⟩ | ⟨rfl, hr, rfl, rfl, rfl⟩ | ⟨rfl, hr, hd, rfl⟩ | ⟨rfl, hr, rfl, rfl, rfl⟩
    · go_wp2
      refine bodyPost_ret (v := .agg #[.int .i64 0, .int .i64 0, .int .i64 0, .int .i64 0, .int .i64 0, .int .i64 0, .int .i64 0, .int .i64 0, .bool false]) (by simp [results, Tryd.f29, go_sem, hrr]) rfl ?_
      refine ⟨rfl, ?_⟩
      suffices hz : Stt b W _ t _ from ⟨hz.pair, hz.kept⟩
      (repeat (first | with_reducible exact hS4.out | with_reducible apply Stt.drewn | with_reducible apply Stt.drew | with_reducible apply Stt.alloc | (with_reducible refine Stt.out ?_ ?_ ?_ ?_ _ _; rotate_left; omega; omega; exact hb)))
    · go_wp2
      refine bodyPost_ret (v := .agg #[.int .i64 (Tm.opM o), .int .i64 0, .int .i64 d, .int .i64 0, .int .i64 0, .int .i64 0, .int .i64 0, .int .i64 0, .bool s]) (by simp [results, Tryd.f29, go_sem, hrr]) rfl ?_
      refine ⟨rfl, ?_⟩
      suffices hz : Stt b W _ t _ from ⟨hz.pair, hz.kept⟩
      (repeat (first | with_reducible exact hS4.out | with_reducible apply Stt.drewn | with_reducible apply Stt.drew | with_reducible apply Stt.alloc | (with_reducible refine Stt.out ?_ ?_ ?_ ?_ _ _; rotate_left; omega; omega; exact hb)))
    · go_wp2
      refine bodyPost_ret (v := .agg #[.int .i64 (Tm.opT o), .int .i64 0, .int .i64 0, .int .i64 r, .int .i64 0, .int .i64 0, .int .i64 0, .int .i64 0, .bool false]) (by simp [results, Tryd.f29, go_sem, hrr]) rfl ?_
      refine ⟨rfl, ?_⟩
      suffices hz : Stt b W _ t _ from ⟨hz.pair, hz.kept⟩
      (repeat (first | with_reducible exact hS4.out | with_reducible apply Stt.drewn | with_reducible apply Stt.drew | with_reducible apply Stt.alloc | (with_reducible refine Stt.out ?_ ?_ ?_ ?_ _ _; rotate_left; omega; omega; exact hb)))
    · go_wp2
      refine bodyPost_ret (v := .agg #[.int .i64 (Tm.opD o), .int .i64 0, .int .i64 d, .int .i64 r, .int .i64 0, .int .i64 0, .int .i64 0, .int .i64 0, .bool s]) (by simp [results, Tryd.f29, go_sem, hrr]) rfl ?_
      refine ⟨rfl, ?_⟩
      suffices hz : Stt b W _ t _ from ⟨hz.pair, hz.kept⟩
      (repeat (first | with_reducible exact hS4.out | with_reducible apply Stt.drewn | with_reducible apply Stt.drew | with_reducible apply Stt.alloc | (with_reducible refine Stt.out ?_ ?_ ?_ ?_ _ _; rotate_left; omega; omega; exact hb)))
    · go_wp2
      refine bodyPost_ret (v := .agg #[.int .i64 (Tm.opD o), .int .i64 0, .int .i64 15, .int .i64 r, .int .i64 0, .int .i64 0, .int .i64 0, .int .i64 0, .bool false]) (by simp [results, Tryd.f29, go_sem, hrr]) rfl ?_
      refine ⟨rfl, ?_⟩
      suffices hz : Stt b W _ t _ from ⟨hz.pair, hz.kept⟩
      (repeat (first | with_reducible exact hS4.out | with_reducible apply Stt.drewn | with_reducible apply Stt.drew | with_reducible apply Stt.alloc | (with_reducible refine Stt.out ?_ ?_ ?_ ?_ _ _; rotate_left; omega; omega; exact hb)))
  go_region_held3 (fun W' => W'.cell? ⟨0, o.toNat, none⟩ = some (.int .i64 (Tm.opD o)) ∧ Tabs W')
    (first
      | (exact ⟨whole_at hT1.drew1 o0 o1, hT1.drew1⟩)
      | ((try go_split_ands); refine ⟨whole_at ?_ o0 o1, ?_⟩ <;> (repeat (first | with_reducible assumption | with_reducible apply Tabs.drew1 | with_reducible apply Tabs.drew | with_reducible apply Tabs.alloc | (with_reducible refine Tabs.set ?_ ?_ _ _; rotate_left; · omega))) <;> done))
    (first
      | (go_at_call 36; refine (H2.out _ ?hp).mono ?_; (case hp => (repeat (first | with_reducible exact hN1.out.stt.pair | with_reducible apply Pair.drewn | with_reducible apply Pair.drew | with_reducible apply Pair.alloc))); rintro e w2 ⟨rfl, hP2, hK2⟩; (first | (refine Nst.go (W0 := w1) (X := X1) (c := none) hb hP2 hK2 ?hn ?_; (case hn => ((repeat (first | with_reducible exact hN1.out | with_reducible apply Nst.drewn | with_reducible apply Nst.drew | with_reducible apply Nst.alloc)); done))) | (refine Nst.go (W0 := w1) (X := X1) (c := (some w1.heap.size)) hb hP2 hK2 ?hn ?_; (case hn => ((repeat (first | with_reducible exact hN1.out | with_reducible apply Nst.drewn | with_reducible apply Nst.drew | with_reducible apply Nst.alloc)); done))) | fail); intro hN2; have hT2 := hN2.stt.tabs; replace hN2 := Lib.hid hN2; clear hP2 hK2)
      | (go_at_call 32; refine (H3.out _ ?hp).mono ?_; (case hp => (repeat (first | with_reducible exact hN2.out.stt.pair | with_reducible apply Pair.drewn | with_reducible apply Pair.drew | with_reducible apply Pair.alloc))); rintro e w3 ⟨rfl, hP2, hK2⟩; (first | (refine Nst.go (W0 := w1) (X := X2) (c := none) hb hP2 hK2 ?hn ?_; (case hn => ((repeat (first | with_reducible exact hN2.out | with_reducible apply Nst.drewn | with_reducible apply Nst.drew | with_reducible apply Nst.alloc)); done))) | (refine Nst.go (W0 := w1) (X := X2) (c := (some w2.heap.size)) hb hP2 hK2 ?hn ?_; (case hn => ((repeat (first | with_reducible exact hN2.out | with_reducible apply Nst.drewn | with_reducible apply Nst.drew | with_reducible apply Nst.alloc)); done))) | (refine Nst.go (W0 := w1) (X := X2) (c := (some w1.heap.size)) hb hP2 hK2 ?hn ?_; (case hn => ((repeat (first | with_reducible exact hN2.out | with_reducible apply Nst.drewn | with_reducible apply Nst.drew | with_reducible apply Nst.alloc)); done))) | fail); intro hN3; have hT3 := hN3.stt.tabs; replace hN3 := Lib.hid hN3; clear hP2 hK2)
      | (go_at_call 33; refine (H4.out _ ?hp).mono ?_; (case hp => (repeat (first | with_reducible exact hN3.out.stt.pair | with_reducible apply Pair.drewn | with_reducible apply Pair.drew | with_reducible apply Pair.alloc))); rintro e w4 ⟨rfl, hP2, hK2⟩; (first | (refine Nst.go (W0 := w1) (X := X3) (c := none) hb hP2 hK2 ?hn ?_; (case hn => ((repeat (first | with_reducible exact hN3.out | with_reducible apply Nst.drewn | with_reducible apply Nst.drew | with_reducible apply Nst.alloc)); done))) | (refine Nst.go (W0 := w1) (X := X3) (c := (some w3.heap.size)) hb hP2 hK2 ?hn ?_; (case hn => ((repeat (first | with_reducible exact hN3.out | with_reducible apply Nst.drewn | with_reducible apply Nst.drew | with_reducible apply Nst.alloc)); done))) | (refine Nst.go (W0 := w1) (X := X3) (c := (some w2.heap.size)) hb hP2 hK2 ?hn ?_; (case hn => ((repeat (first | with_reducible exact hN3.out | with_reducible apply Nst.drewn | with_reducible apply Nst.drew | with_reducible apply Nst.alloc)); done))) | (refine Nst.go (W0 := w1) (X := X3) (c := (some w1.heap.size)) hb hP2 hK2 ?hn ?_; (case hn => ((repeat (first | with_reducible exact hN3.out | with_reducible apply Nst.drewn | with_reducible apply Nst.drew | with_reducible apply Nst.alloc)); done))) | fail); intro hN4; have hT4 := hN4.stt.tabs; (first | (obtain ⟨hI4, hc1, hc2⟩ := hN4.some; have hres := hI4.cell; have hfr := hI4.free; have hlt := hI4.lt; unfold insC Tm.Z at hres; dsimp only at hres; replace hI4 := Lib.hid hI4) | skip); replace hN4 := Lib.hid hN4; clear hP2 hK2)
      | fail)
  all_goals
    have hS4 := Lib.hid (hS1.out.trans hN4.out.stt)
    have hs1 := hS1.out.kept.size
    have hs4 := hN4.out.stt.kept.size
    have hW1 := HR.out.lt
    have hR4 := HR.out.kept hN4.out.stt.kept (by omega)
    rename_i hh
    clear hh
    first
      | (have hI5 := ((((((((((show InsAt w4 _ ⟨0, 0, 0, 0, 0, 0, 0, 0, false⟩ from hI4.out).set0 (Tm.opD o)).set1 0).set2 d).set3 r).set4 0).set5 0).set6 0).set7 0).set8 s)
         exact HK _ _ (Lib.hid ((((((((((hS4.out.out (by omega) hc2 hb 0 _).out (by omega) hc2 hb 1 _).out (by omega) hc2 hb 2 _).out (by omega) hc2 hb 3 _).out (by omega) hc2 hb 4 _).out (by omega) hc2 hb 5 _).out (by omega) hc2 hb 6 _).out (by omega) hc2 hb 7 _).out (by omega) hc2 hb 8 _))) (Lib.hid hI5) (Lib.hid (nine_other hR4 (by omega))) (by omega) (by omega))
      | exact HK _ _ (Lib.hid (hS4.out.alloc _)) (Lib.hid (InsAt.new w4 ⟨Tm.opD o, 0, d, r, 0, 0, 0, 0, s⟩)) (Lib.hid (hR4.below ((Below.refl _ _).alloc (Nat.le_refl _) _))) (by omega) (by omega)
end Tp
end Go.Proofs.YtdcnkmkaafimlaaDoor
