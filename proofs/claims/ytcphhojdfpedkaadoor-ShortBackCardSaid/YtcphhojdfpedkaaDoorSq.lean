/- Each row of short's table, as it is read. No program; no conditions but those that each fact names (text by gen_sp.py). -/
import Derived.Test.YtcphhojdfpedkaaDoorGs
import Derived.Test.YtcphhojdfpedkaaDoorGa
namespace Go.Proofs.YtcphhojdfpedkaaDoor
namespace Sp
open Nm (I okB)
theorem addP_op (h : Int) (i : I) (p : P) : (addP h i p).op = i.op := by
  unfold addP
  repeat' split
  all_goals rfl
theorem adds_op (h : Int) : ∀ (l : List P) (i : I), (adds l h i).op = i.op
  | [], _ => rfl
  | p :: l, i => (adds_op h l (addP h i p)).trans (addP_op h i p)
theorem insP_op (r : R) (h : Int) (it : Bool) (op : Int) : (insP r h it op).op = op := adds_op h r.pcs _
theorem ok_zero {i : I} (h : i.op = 0) : okB i = false := by
  unfold Nm.okB Im.checkB
  rw [h, decide_eq_false (by omega)]
  simp
theorem read_no (r : R) (h : Int) (it : Bool) (hf : findB r.of_ (clears r.pcs h) = some 0 ∨ findB r.of_ (clears r.pcs h) = none) : readP r h it = none := by
  unfold readP
  rcases hf with e | e
  · rw [e]
    dsimp only
    rw [ok_zero (insP_op r h it 0)]
    simp
  · rw [e]
theorem read_yes (r : R) (h : Int) (it : Bool) (op : Int) (i : I) (b : Bool) (hf : findB r.of_ (clears r.pcs h) = some op) (hi : insP r h it op = i) (ha : allowsB r.says i it = b) : readP r h it = if b && okB i then some i else none := by
  unfold readP
  rw [hf]
  dsimp only
  rw [hi, ha]
theorem or_z {x y z : Int} (h : y = x) (hz : z = 0) (h0 : 0 ≤ x) (h1 : x < 4294967296) : bits .or .i64 y z = x := by rw [h, hz]; exact Ow.or_0 x h0 h1
theorem s_no {r : R} {l : List R} {h : Int} {it : Bool} (e : readP r h it = none) : searchP (r :: l) h it = searchP l h it := by rw [searchP, e]
def hit (b : Bool) (i : I) (o : Option I) : Option I := if b && okB i then some i else o
theorem hit_of {r : R} {l : List R} {h : Int} {it : Bool} {b : Bool} {i : I} (e : readP r h it = if b && okB i then some i else none) : searchP (r :: l) h it = hit b i (searchP l h it) := by
  rw [searchP, e]
  unfold hit
  cases (b && okB i) <;> rfl
theorem hit_no {b : Bool} {i : I} {o : Option I} (h : (b && okB i) = false) : hit b i o = o := by unfold hit; rw [h]; rfl
theorem find_tail : ∀ (n : Nat) (x : Int), findB (List.replicate n (0, 0)) x = some 0 ∨ findB (List.replicate n (0, 0)) x = none
  | 0, _ => .inr rfl
  | n + 1, x => by
    rw [List.replicate_succ, findB]
    by_cases hx : (0 : Int) = x
    · rw [if_pos hx]; exact .inl rfl
    · rw [if_neg hx]; exact find_tail n x
theorem allow_0 (i : I) (it : Bool) : allowsB 0 i it = true := by simp [allowsB, saysB]
theorem allow_4 (i : I) (it : Bool) : allowsB 4 i it = true := by simp [allowsB, saysB]
theorem allow_2 (i : I) (it : Bool) : allowsB 2 i it = it := by simp [allowsB, saysB]
theorem allow_16 (i : I) (it : Bool) : allowsB 16 i it = !(decide (i.rn < 8) && decide (i.rm < 8)) := by simp [allowsB, saysB]
theorem allow_5 (i : I) (it : Bool) : allowsB 5 i it = !it := by simp [allowsB, saysB]
theorem allow_9 (i : I) (it : Bool) : allowsB 9 i it = (!it && !(i.cond == 14)) := by simp [allowsB, saysB]
theorem allow_1 (i : I) (it : Bool) : allowsB 1 i it = !it := by simp [allowsB, saysB]
theorem cl_0 (h : Int) : clears row_0.pcs h = h - h % 64 := by
  simp only [row_0, clears, List.foldl_cons, List.foldl_nil, clearP, bitsP, Int.reduceToNat, Int.reducePow]
  omega
theorem in_0 (h : Int) (it : Bool) (op : Int) : insP row_0 h it op = ⟨op, 0, h % 8, h % 8, h / 8 % 8, 0, 2, 0, !it⟩ := by
  simp only [insP, row_0, adds, List.foldl_cons, List.foldl_nil, addP, partP, bitsP, flagB, saysB, Int.reduceToNat, Int.reducePow, Int.reduceEq, reduceIte]
  try rw [Ow.or_at _ (h / 8 % 8) 0 3 1 8 rfl rfl (by decide) (by omega) (by omega) (by omega) (by omega) (by omega)]
  try rw [Ow.or_at _ (h / 1 % 8) 0 3 1 8 rfl rfl (by decide) (by omega) (by omega) (by omega) (by omega) (by omega)]
  try rw [Ow.or_at _ (h / 1 % 8) 0 3 1 8 rfl rfl (by decide) (by omega) (by omega) (by omega) (by omega) (by omega)]
  refine Nm.mk_eq rfl ?_ ?_ ?_ ?_ ?_ ?_ ?_ ?_
  all_goals repeat (first | with_reducible rfl | omega | refine or_z ?_ (by omega) (by omega) (by omega) | simp)
theorem H0_0 {l : List R} {h : Int} {it : Bool} (hc : h - h % 64 = 16384) : searchP (row_0 :: l) h it = hit (true) ⟨1, 0, h % 8, h % 8, h / 8 % 8, 0, 2, 0, !it⟩ (searchP l h it) :=
  hit_of (read_yes _ h it 1 _ _ ((congrArg _ ((cl_0 h).trans hc)).trans rfl) (in_0 h it 1) (allow_4 _ _))
theorem H0_1 {l : List R} {h : Int} {it : Bool} (hc : h - h % 64 = 16448) : searchP (row_0 :: l) h it = hit (true) ⟨2, 0, h % 8, h % 8, h / 8 % 8, 0, 2, 0, !it⟩ (searchP l h it) :=
  hit_of (read_yes _ h it 2 _ _ ((congrArg _ ((cl_0 h).trans hc)).trans rfl) (in_0 h it 2) (allow_4 _ _))
theorem H0_2 {l : List R} {h : Int} {it : Bool} (hc : h - h % 64 = 16704) : searchP (row_0 :: l) h it = hit (true) ⟨6, 0, h % 8, h % 8, h / 8 % 8, 0, 2, 0, !it⟩ (searchP l h it) :=
  hit_of (read_yes _ h it 6 _ _ ((congrArg _ ((cl_0 h).trans hc)).trans rfl) (in_0 h it 6) (allow_4 _ _))
theorem H0_3 {l : List R} {h : Int} {it : Bool} (hc : h - h % 64 = 16768) : searchP (row_0 :: l) h it = hit (true) ⟨8, 0, h % 8, h % 8, h / 8 % 8, 0, 2, 0, !it⟩ (searchP l h it) :=
  hit_of (read_yes _ h it 8 _ _ ((congrArg _ ((cl_0 h).trans hc)).trans rfl) (in_0 h it 8) (allow_4 _ _))
theorem H0_4 {l : List R} {h : Int} {it : Bool} (hc : h - h % 64 = 17152) : searchP (row_0 :: l) h it = hit (true) ⟨3, 0, h % 8, h % 8, h / 8 % 8, 0, 2, 0, !it⟩ (searchP l h it) :=
  hit_of (read_yes _ h it 3 _ _ ((congrArg _ ((cl_0 h).trans hc)).trans rfl) (in_0 h it 3) (allow_4 _ _))
theorem H0_5 {l : List R} {h : Int} {it : Bool} (hc : h - h % 64 = 17280) : searchP (row_0 :: l) h it = hit (true) ⟨4, 0, h % 8, h % 8, h / 8 % 8, 0, 2, 0, !it⟩ (searchP l h it) :=
  hit_of (read_yes _ h it 4 _ _ ((congrArg _ ((cl_0 h).trans hc)).trans rfl) (in_0 h it 4) (allow_4 _ _))
theorem N0 {l : List R} {h : Int} {it : Bool} (hc : h - h % 64 ≠ 16384 ∧ h - h % 64 ≠ 16448 ∧ h - h % 64 ≠ 16704 ∧ h - h % 64 ≠ 16768 ∧ h - h % 64 ≠ 17152 ∧ h - h % 64 ≠ 17280) : searchP (row_0 :: l) h it = searchP l h it := by
  refine s_no (read_no _ _ _ ?_)
  rw [cl_0 h]
  simp only [row_0, findB]
  rw [if_neg (by omega), if_neg (by omega), if_neg (by omega), if_neg (by omega), if_neg (by omega), if_neg (by omega)]
  exact .inr rfl
theorem cl_1 (h : Int) : clears row_1.pcs h = h - h % 64 := by
  simp only [row_1, clears, List.foldl_cons, List.foldl_nil, clearP, bitsP, Int.reduceToNat, Int.reducePow]
  omega
theorem in_1 (h : Int) (it : Bool) (op : Int) : insP row_1 h it op = ⟨op, 0, h % 8, h / 8 % 8, 0, 0, 1, 0, !it⟩ := by
  simp only [insP, row_1, adds, List.foldl_cons, List.foldl_nil, addP, partP, bitsP, flagB, saysB, Int.reduceToNat, Int.reducePow, Int.reduceEq, reduceIte]
  try rw [Ow.or_at _ (h / 8 % 8) 0 3 1 8 rfl rfl (by decide) (by omega) (by omega) (by omega) (by omega) (by omega)]
  try rw [Ow.or_at _ (h / 1 % 8) 0 3 1 8 rfl rfl (by decide) (by omega) (by omega) (by omega) (by omega) (by omega)]
  refine Nm.mk_eq rfl ?_ ?_ ?_ ?_ ?_ ?_ ?_ ?_
  all_goals repeat (first | with_reducible rfl | omega | refine or_z ?_ (by omega) (by omega) (by omega) | simp)
theorem H1_0 {l : List R} {h : Int} {it : Bool} (hc : h - h % 64 = 16960) : searchP (row_1 :: l) h it = hit (true) ⟨9, 0, h % 8, h / 8 % 8, 0, 0, 1, 0, !it⟩ (searchP l h it) :=
  hit_of (read_yes _ h it 9 _ _ ((congrArg _ ((cl_1 h).trans hc)).trans rfl) (in_1 h it 9) (allow_4 _ _))
theorem N1 {l : List R} {h : Int} {it : Bool} (hc : h - h % 64 ≠ 16960) : searchP (row_1 :: l) h it = searchP l h it := by
  refine s_no (read_no _ _ _ ?_)
  rw [cl_1 h]
  simp only [row_1, findB]
  rw [if_neg (by omega)]
  exact find_tail 5 _
theorem cl_2 (h : Int) : clears row_2.pcs h = h - h % 64 := by
  simp only [row_2, clears, List.foldl_cons, List.foldl_nil, clearP, bitsP, Int.reduceToNat, Int.reducePow]
  omega
theorem in_2 (h : Int) (it : Bool) (op : Int) : insP row_2 h it op = ⟨op, 0, h % 8, 0, h / 8 % 8, 0, 2, 0, !it⟩ := by
  simp only [insP, row_2, adds, List.foldl_cons, List.foldl_nil, addP, partP, bitsP, flagB, saysB, Int.reduceToNat, Int.reducePow, Int.reduceEq, reduceIte]
  try rw [Ow.or_at _ (h / 8 % 8) 0 3 1 8 rfl rfl (by decide) (by omega) (by omega) (by omega) (by omega) (by omega)]
  try rw [Ow.or_at _ (h / 1 % 8) 0 3 1 8 rfl rfl (by decide) (by omega) (by omega) (by omega) (by omega) (by omega)]
  refine Nm.mk_eq rfl ?_ ?_ ?_ ?_ ?_ ?_ ?_ ?_
  all_goals repeat (first | with_reducible rfl | omega | refine or_z ?_ (by omega) (by omega) (by omega) | simp)
theorem H2_0 {l : List R} {h : Int} {it : Bool} (hc : h - h % 64 = 17344) : searchP (row_2 :: l) h it = hit (true) ⟨11, 0, h % 8, 0, h / 8 % 8, 0, 2, 0, !it⟩ (searchP l h it) :=
  hit_of (read_yes _ h it 11 _ _ ((congrArg _ ((cl_2 h).trans hc)).trans rfl) (in_2 h it 11) (allow_4 _ _))
theorem N2 {l : List R} {h : Int} {it : Bool} (hc : h - h % 64 ≠ 17344) : searchP (row_2 :: l) h it = searchP l h it := by
  refine s_no (read_no _ _ _ ?_)
  rw [cl_2 h]
  simp only [row_2, findB]
  rw [if_neg (by omega)]
  exact find_tail 5 _
theorem cl_3 (h : Int) : clears row_3.pcs h = h - h % 64 := by
  simp only [row_3, clears, List.foldl_cons, List.foldl_nil, clearP, bitsP, Int.reduceToNat, Int.reducePow]
  omega
theorem in_3 (h : Int) (it : Bool) (op : Int) : insP row_3 h it op = ⟨op, 0, h % 8, h / 8 % 8, h % 8, 0, 2, 0, false⟩ := by
  simp only [insP, row_3, adds, List.foldl_cons, List.foldl_nil, addP, partP, bitsP, flagB, saysB, Int.reduceToNat, Int.reducePow, Int.reduceEq, reduceIte]
  try rw [Ow.or_at _ (h / 8 % 8) 0 3 1 8 rfl rfl (by decide) (by omega) (by omega) (by omega) (by omega) (by omega)]
  try rw [Ow.or_at _ (h / 1 % 8) 0 3 1 8 rfl rfl (by decide) (by omega) (by omega) (by omega) (by omega) (by omega)]
  try rw [Ow.or_at _ (h / 1 % 8) 0 3 1 8 rfl rfl (by decide) (by omega) (by omega) (by omega) (by omega) (by omega)]
  refine Nm.mk_eq rfl ?_ ?_ ?_ ?_ ?_ ?_ ?_ ?_
  all_goals repeat (first | with_reducible rfl | omega | refine or_z ?_ (by omega) (by omega) (by omega) | simp)
theorem H3_0 {l : List R} {h : Int} {it : Bool} (hc : h - h % 64 = 17216) : searchP (row_3 :: l) h it = hit (it) ⟨20, 0, h % 8, h / 8 % 8, h % 8, 0, 2, 0, false⟩ (searchP l h it) :=
  hit_of (read_yes _ h it 20 _ _ ((congrArg _ ((cl_3 h).trans hc)).trans rfl) (in_3 h it 20) (allow_2 _ _))
theorem N3 {l : List R} {h : Int} {it : Bool} (hc : h - h % 64 ≠ 17216) : searchP (row_3 :: l) h it = searchP l h it := by
  refine s_no (read_no _ _ _ ?_)
  rw [cl_3 h]
  simp only [row_3, findB]
  rw [if_neg (by omega)]
  exact find_tail 5 _
theorem cl_4 (h : Int) : clears row_4.pcs h = h - h % 64 := by
  simp only [row_4, clears, List.foldl_cons, List.foldl_nil, clearP, bitsP, Int.reduceToNat, Int.reducePow]
  omega
theorem in_4 (h : Int) (it : Bool) (op : Int) : insP row_4 h it op = ⟨op, 0, 0, h % 8, h / 8 % 8, 0, 2, 0, false⟩ := by
  simp only [insP, row_4, adds, List.foldl_cons, List.foldl_nil, addP, partP, bitsP, flagB, saysB, Int.reduceToNat, Int.reducePow, Int.reduceEq, reduceIte]
  try rw [Ow.or_at _ (h / 8 % 8) 0 3 1 8 rfl rfl (by decide) (by omega) (by omega) (by omega) (by omega) (by omega)]
  try rw [Ow.or_at _ (h / 1 % 8) 0 3 1 8 rfl rfl (by decide) (by omega) (by omega) (by omega) (by omega) (by omega)]
  refine Nm.mk_eq rfl ?_ ?_ ?_ ?_ ?_ ?_ ?_ ?_
  all_goals repeat (first | with_reducible rfl | omega | refine or_z ?_ (by omega) (by omega) (by omega) | simp)
theorem H4_0 {l : List R} {h : Int} {it : Bool} (hc : h - h % 64 = 16896) : searchP (row_4 :: l) h it = hit (true) ⟨14, 0, 0, h % 8, h / 8 % 8, 0, 2, 0, false⟩ (searchP l h it) :=
  hit_of (read_yes _ h it 14 _ _ ((congrArg _ ((cl_4 h).trans hc)).trans rfl) (in_4 h it 14) (allow_0 _ _))
theorem H4_1 {l : List R} {h : Int} {it : Bool} (hc : h - h % 64 = 17088) : searchP (row_4 :: l) h it = hit (true) ⟨13, 0, 0, h % 8, h / 8 % 8, 0, 2, 0, false⟩ (searchP l h it) :=
  hit_of (read_yes _ h it 13 _ _ ((congrArg _ ((cl_4 h).trans hc)).trans rfl) (in_4 h it 13) (allow_0 _ _))
theorem N4 {l : List R} {h : Int} {it : Bool} (hc : h - h % 64 ≠ 16896 ∧ h - h % 64 ≠ 17088) : searchP (row_4 :: l) h it = searchP l h it := by
  refine s_no (read_no _ _ _ ?_)
  rw [cl_4 h]
  simp only [row_4, findB]
  rw [if_neg (by omega), if_neg (by omega)]
  exact find_tail 4 _
theorem cl_5 (h : Int) : clears row_5.pcs h = h - h % 64 := by
  simp only [row_5, clears, List.foldl_cons, List.foldl_nil, clearP, bitsP, Int.reduceToNat, Int.reducePow]
  omega
theorem in_5 (h : Int) (it : Bool) (op : Int) : insP row_5 h it op = ⟨op, 0, 0, h % 8, h / 8 % 8, 0, 2, 0, false⟩ := by
  simp only [insP, row_5, adds, List.foldl_cons, List.foldl_nil, addP, partP, bitsP, flagB, saysB, Int.reduceToNat, Int.reducePow, Int.reduceEq, reduceIte]
  try rw [Ow.or_at _ (h / 8 % 8) 0 3 1 8 rfl rfl (by decide) (by omega) (by omega) (by omega) (by omega) (by omega)]
  try rw [Ow.or_at _ (h / 1 % 8) 0 3 1 8 rfl rfl (by decide) (by omega) (by omega) (by omega) (by omega) (by omega)]
  refine Nm.mk_eq rfl ?_ ?_ ?_ ?_ ?_ ?_ ?_ ?_
  all_goals repeat (first | with_reducible rfl | omega | refine or_z ?_ (by omega) (by omega) (by omega) | simp)
theorem H5_0 {l : List R} {h : Int} {it : Bool} (hc : h - h % 64 = 17024) : searchP (row_5 :: l) h it = hit (true) ⟨12, 0, 0, h % 8, h / 8 % 8, 0, 2, 0, false⟩ (searchP l h it) :=
  hit_of (read_yes _ h it 12 _ _ ((congrArg _ ((cl_5 h).trans hc)).trans rfl) (in_5 h it 12) (allow_0 _ _))
theorem N5 {l : List R} {h : Int} {it : Bool} (hc : h - h % 64 ≠ 17024) : searchP (row_5 :: l) h it = searchP l h it := by
  refine s_no (read_no _ _ _ ?_)
  rw [cl_5 h]
  simp only [row_5, findB]
  rw [if_neg (by omega)]
  exact find_tail 5 _
theorem cl_6 (h : Int) : clears row_6.pcs h = h - h % 256 := by
  simp only [row_6, clears, List.foldl_cons, List.foldl_nil, clearP, bitsP, Int.reduceToNat, Int.reducePow]
  omega
theorem in_6 (h : Int) (it : Bool) (op : Int) : insP row_6 h it op = ⟨op, 0, 0, h / 128 % 2 * 8 + h % 8, h / 8 % 16, 0, 2, 0, false⟩ := by
  simp only [insP, row_6, adds, List.foldl_cons, List.foldl_nil, addP, partP, bitsP, flagB, saysB, Int.reduceToNat, Int.reducePow, Int.reduceEq, reduceIte]
  try rw [Ow.or_at _ (h / 8 % 16) 0 4 1 16 rfl rfl (by decide) (by omega) (by omega) (by omega) (by omega) (by omega)]
  try rw [Ow.or_at _ (h / 128 % 2) 3 1 8 2 rfl rfl (by decide) (by omega) (by omega) (by omega) (by omega) (by omega)]
  try rw [Ow.or_at _ (h / 1 % 8) 0 3 1 8 rfl rfl (by decide) (by omega) (by omega) (by omega) (by omega) (by omega)]
  refine Nm.mk_eq rfl ?_ ?_ ?_ ?_ ?_ ?_ ?_ ?_
  all_goals repeat (first | with_reducible rfl | omega | refine or_z ?_ (by omega) (by omega) (by omega) | simp)
theorem H6_0 {l : List R} {h : Int} {it : Bool} (hc : h - h % 256 = 17664) : searchP (row_6 :: l) h it = hit (!(decide (h / 128 % 2 * 8 + h % 8 < 8) && decide (h / 8 % 16 < 8))) ⟨12, 0, 0, h / 128 % 2 * 8 + h % 8, h / 8 % 16, 0, 2, 0, false⟩ (searchP l h it) :=
  hit_of (read_yes _ h it 12 _ _ ((congrArg _ ((cl_6 h).trans hc)).trans rfl) (in_6 h it 12) (allow_16 _ _))
theorem N6 {l : List R} {h : Int} {it : Bool} (hc : h - h % 256 ≠ 17664) : searchP (row_6 :: l) h it = searchP l h it := by
  refine s_no (read_no _ _ _ ?_)
  rw [cl_6 h]
  simp only [row_6, findB]
  rw [if_neg (by omega)]
  exact find_tail 5 _
theorem cl_7 (h : Int) : clears row_7.pcs h = h - h % 2048 := by
  simp only [row_7, clears, List.foldl_cons, List.foldl_nil, clearP, bitsP, Int.reduceToNat, Int.reducePow]
  omega
theorem in_7 (h : Int) (it : Bool) (op : Int) : insP row_7 h it op = ⟨op, 0, 0, h / 256 % 8, 0, h % 256, 1, 0, false⟩ := by
  simp only [insP, row_7, adds, List.foldl_cons, List.foldl_nil, addP, partP, bitsP, flagB, saysB, Int.reduceToNat, Int.reducePow, Int.reduceEq, reduceIte]
  try rw [Ow.or_at _ (h / 256 % 8) 0 3 1 8 rfl rfl (by decide) (by omega) (by omega) (by omega) (by omega) (by omega)]
  try rw [Ow.or_at _ (h / 1 % 256) 0 8 1 256 rfl rfl (by decide) (by omega) (by omega) (by omega) (by omega) (by omega)]
  refine Nm.mk_eq rfl ?_ ?_ ?_ ?_ ?_ ?_ ?_ ?_
  all_goals repeat (first | with_reducible rfl | omega | refine or_z ?_ (by omega) (by omega) (by omega) | simp)
theorem H7_0 {l : List R} {h : Int} {it : Bool} (hc : h - h % 2048 = 10240) : searchP (row_7 :: l) h it = hit (true) ⟨12, 0, 0, h / 256 % 8, 0, h % 256, 1, 0, false⟩ (searchP l h it) :=
  hit_of (read_yes _ h it 12 _ _ ((congrArg _ ((cl_7 h).trans hc)).trans rfl) (in_7 h it 12) (allow_0 _ _))
theorem N7 {l : List R} {h : Int} {it : Bool} (hc : h - h % 2048 ≠ 10240) : searchP (row_7 :: l) h it = searchP l h it := by
  refine s_no (read_no _ _ _ ?_)
  rw [cl_7 h]
  simp only [row_7, findB]
  rw [if_neg (by omega)]
  exact find_tail 5 _
theorem cl_8 (h : Int) : clears row_8.pcs h = h - h % 2048 := by
  simp only [row_8, clears, List.foldl_cons, List.foldl_nil, clearP, bitsP, Int.reduceToNat, Int.reducePow]
  omega
theorem in_8 (h : Int) (it : Bool) (op : Int) : insP row_8 h it op = ⟨op, 0, h / 256 % 8, 0, 0, h % 256, 1, 0, !it⟩ := by
  simp only [insP, row_8, adds, List.foldl_cons, List.foldl_nil, addP, partP, bitsP, flagB, saysB, Int.reduceToNat, Int.reducePow, Int.reduceEq, reduceIte]
  try rw [Ow.or_at _ (h / 256 % 8) 0 3 1 8 rfl rfl (by decide) (by omega) (by omega) (by omega) (by omega) (by omega)]
  try rw [Ow.or_at _ (h / 1 % 256) 0 8 1 256 rfl rfl (by decide) (by omega) (by omega) (by omega) (by omega) (by omega)]
  refine Nm.mk_eq rfl ?_ ?_ ?_ ?_ ?_ ?_ ?_ ?_
  all_goals repeat (first | with_reducible rfl | omega | refine or_z ?_ (by omega) (by omega) (by omega) | simp)
theorem H8_0 {l : List R} {h : Int} {it : Bool} (hc : h - h % 2048 = 8192) : searchP (row_8 :: l) h it = hit (true) ⟨10, 0, h / 256 % 8, 0, 0, h % 256, 1, 0, !it⟩ (searchP l h it) :=
  hit_of (read_yes _ h it 10 _ _ ((congrArg _ ((cl_8 h).trans hc)).trans rfl) (in_8 h it 10) (allow_4 _ _))
theorem N8 {l : List R} {h : Int} {it : Bool} (hc : h - h % 2048 ≠ 8192) : searchP (row_8 :: l) h it = searchP l h it := by
  refine s_no (read_no _ _ _ ?_)
  rw [cl_8 h]
  simp only [row_8, findB]
  rw [if_neg (by omega)]
  exact find_tail 5 _
theorem cl_9 (h : Int) : clears row_9.pcs h = h - h % 64 := by
  simp only [row_9, clears, List.foldl_cons, List.foldl_nil, clearP, bitsP, Int.reduceToNat, Int.reducePow]
  omega
theorem in_9 (h : Int) (it : Bool) (op : Int) : insP row_9 h it op = ⟨op, 0, h % 8, 0, h / 8 % 8, 0, 2, 0, !it⟩ := by
  simp only [insP, row_9, adds, List.foldl_cons, List.foldl_nil, addP, partP, bitsP, flagB, saysB, Int.reduceToNat, Int.reducePow, Int.reduceEq, reduceIte]
  try rw [Ow.or_at _ (h / 8 % 8) 0 3 1 8 rfl rfl (by decide) (by omega) (by omega) (by omega) (by omega) (by omega)]
  try rw [Ow.or_at _ (h / 1 % 8) 0 3 1 8 rfl rfl (by decide) (by omega) (by omega) (by omega) (by omega) (by omega)]
  refine Nm.mk_eq rfl ?_ ?_ ?_ ?_ ?_ ?_ ?_ ?_
  all_goals repeat (first | with_reducible rfl | omega | refine or_z ?_ (by omega) (by omega) (by omega) | simp)
theorem H9_0 {l : List R} {h : Int} {it : Bool} (hc : h - h % 64 = 0) : searchP (row_9 :: l) h it = hit (!it) ⟨10, 0, h % 8, 0, h / 8 % 8, 0, 2, 0, !it⟩ (searchP l h it) :=
  hit_of (read_yes _ h it 10 _ _ ((congrArg _ ((cl_9 h).trans hc)).trans rfl) (in_9 h it 10) (allow_5 _ _))
theorem N9 {l : List R} {h : Int} {it : Bool} (hc : h - h % 64 ≠ 0) : searchP (row_9 :: l) h it = searchP l h it := by
  refine s_no (read_no _ _ _ ?_)
  rw [cl_9 h]
  simp only [row_9, findB]
  rw [if_neg (by omega)]
  exact find_tail 5 _
theorem cl_10 (h : Int) : clears row_10.pcs h = h - h % 256 := by
  simp only [row_10, clears, List.foldl_cons, List.foldl_nil, clearP, bitsP, Int.reduceToNat, Int.reducePow]
  omega
theorem in_10 (h : Int) (it : Bool) (op : Int) : insP row_10 h it op = ⟨op, 0, h / 128 % 2 * 8 + h % 8, 0, h / 8 % 16, 0, 2, 0, false⟩ := by
  simp only [insP, row_10, adds, List.foldl_cons, List.foldl_nil, addP, partP, bitsP, flagB, saysB, Int.reduceToNat, Int.reducePow, Int.reduceEq, reduceIte]
  try rw [Ow.or_at _ (h / 8 % 16) 0 4 1 16 rfl rfl (by decide) (by omega) (by omega) (by omega) (by omega) (by omega)]
  try rw [Ow.or_at _ (h / 128 % 2) 3 1 8 2 rfl rfl (by decide) (by omega) (by omega) (by omega) (by omega) (by omega)]
  try rw [Ow.or_at _ (h / 1 % 8) 0 3 1 8 rfl rfl (by decide) (by omega) (by omega) (by omega) (by omega) (by omega)]
  refine Nm.mk_eq rfl ?_ ?_ ?_ ?_ ?_ ?_ ?_ ?_
  all_goals repeat (first | with_reducible rfl | omega | refine or_z ?_ (by omega) (by omega) (by omega) | simp)
theorem H10_0 {l : List R} {h : Int} {it : Bool} (hc : h - h % 256 = 17920) : searchP (row_10 :: l) h it = hit (true) ⟨10, 0, h / 128 % 2 * 8 + h % 8, 0, h / 8 % 16, 0, 2, 0, false⟩ (searchP l h it) :=
  hit_of (read_yes _ h it 10 _ _ ((congrArg _ ((cl_10 h).trans hc)).trans rfl) (in_10 h it 10) (allow_0 _ _))
theorem N10 {l : List R} {h : Int} {it : Bool} (hc : h - h % 256 ≠ 17920) : searchP (row_10 :: l) h it = searchP l h it := by
  refine s_no (read_no _ _ _ ?_)
  rw [cl_10 h]
  simp only [row_10, findB]
  rw [if_neg (by omega)]
  exact find_tail 5 _
theorem cl_11 (h : Int) : clears row_11.pcs h = h - h % 512 := by
  simp only [row_11, clears, List.foldl_cons, List.foldl_nil, clearP, bitsP, Int.reduceToNat, Int.reducePow]
  omega
theorem in_11 (h : Int) (it : Bool) (op : Int) : insP row_11 h it op = ⟨op, 0, h % 8, h / 8 % 8, h / 64 % 8, 0, 2, 0, !it⟩ := by
  simp only [insP, row_11, adds, List.foldl_cons, List.foldl_nil, addP, partP, bitsP, flagB, saysB, Int.reduceToNat, Int.reducePow, Int.reduceEq, reduceIte]
  try rw [Ow.or_at _ (h / 64 % 8) 0 3 1 8 rfl rfl (by decide) (by omega) (by omega) (by omega) (by omega) (by omega)]
  try rw [Ow.or_at _ (h / 8 % 8) 0 3 1 8 rfl rfl (by decide) (by omega) (by omega) (by omega) (by omega) (by omega)]
  try rw [Ow.or_at _ (h / 1 % 8) 0 3 1 8 rfl rfl (by decide) (by omega) (by omega) (by omega) (by omega) (by omega)]
  refine Nm.mk_eq rfl ?_ ?_ ?_ ?_ ?_ ?_ ?_ ?_
  all_goals repeat (first | with_reducible rfl | omega | refine or_z ?_ (by omega) (by omega) (by omega) | simp)
theorem H11_0 {l : List R} {h : Int} {it : Bool} (hc : h - h % 512 = 6144) : searchP (row_11 :: l) h it = hit (true) ⟨5, 0, h % 8, h / 8 % 8, h / 64 % 8, 0, 2, 0, !it⟩ (searchP l h it) :=
  hit_of (read_yes _ h it 5 _ _ ((congrArg _ ((cl_11 h).trans hc)).trans rfl) (in_11 h it 5) (allow_4 _ _))
theorem H11_1 {l : List R} {h : Int} {it : Bool} (hc : h - h % 512 = 6656) : searchP (row_11 :: l) h it = hit (true) ⟨7, 0, h % 8, h / 8 % 8, h / 64 % 8, 0, 2, 0, !it⟩ (searchP l h it) :=
  hit_of (read_yes _ h it 7 _ _ ((congrArg _ ((cl_11 h).trans hc)).trans rfl) (in_11 h it 7) (allow_4 _ _))
theorem N11 {l : List R} {h : Int} {it : Bool} (hc : h - h % 512 ≠ 6144 ∧ h - h % 512 ≠ 6656) : searchP (row_11 :: l) h it = searchP l h it := by
  refine s_no (read_no _ _ _ ?_)
  rw [cl_11 h]
  simp only [row_11, findB]
  rw [if_neg (by omega), if_neg (by omega)]
  exact find_tail 4 _
theorem cl_12 (h : Int) : clears row_12.pcs h = h - h % 256 := by
  simp only [row_12, clears, List.foldl_cons, List.foldl_nil, clearP, bitsP, Int.reduceToNat, Int.reducePow]
  omega
theorem in_12 (h : Int) (it : Bool) (op : Int) : insP row_12 h it op = ⟨op, 0, h / 128 % 2 * 8 + h % 8, h / 128 % 2 * 8 + h % 8, h / 8 % 16, 0, 2, 0, false⟩ := by
  simp only [insP, row_12, adds, List.foldl_cons, List.foldl_nil, addP, partP, bitsP, flagB, saysB, Int.reduceToNat, Int.reducePow, Int.reduceEq, reduceIte]
  try rw [Ow.or_at _ (h / 8 % 16) 0 4 1 16 rfl rfl (by decide) (by omega) (by omega) (by omega) (by omega) (by omega)]
  try rw [Ow.or_at _ (h / 128 % 2) 3 1 8 2 rfl rfl (by decide) (by omega) (by omega) (by omega) (by omega) (by omega)]
  try rw [Ow.or_at _ (h / 1 % 8) 0 3 1 8 rfl rfl (by decide) (by omega) (by omega) (by omega) (by omega) (by omega)]
  try rw [Ow.or_at _ (h / 128 % 2) 3 1 8 2 rfl rfl (by decide) (by omega) (by omega) (by omega) (by omega) (by omega)]
  try rw [Ow.or_at _ (h / 1 % 8) 0 3 1 8 rfl rfl (by decide) (by omega) (by omega) (by omega) (by omega) (by omega)]
  refine Nm.mk_eq rfl ?_ ?_ ?_ ?_ ?_ ?_ ?_ ?_
  all_goals repeat (first | with_reducible rfl | omega | refine or_z ?_ (by omega) (by omega) (by omega) | simp)
theorem H12_0 {l : List R} {h : Int} {it : Bool} (hc : h - h % 256 = 17408) : searchP (row_12 :: l) h it = hit (true) ⟨5, 0, h / 128 % 2 * 8 + h % 8, h / 128 % 2 * 8 + h % 8, h / 8 % 16, 0, 2, 0, false⟩ (searchP l h it) :=
  hit_of (read_yes _ h it 5 _ _ ((congrArg _ ((cl_12 h).trans hc)).trans rfl) (in_12 h it 5) (allow_0 _ _))
theorem N12 {l : List R} {h : Int} {it : Bool} (hc : h - h % 256 ≠ 17408) : searchP (row_12 :: l) h it = searchP l h it := by
  refine s_no (read_no _ _ _ ?_)
  rw [cl_12 h]
  simp only [row_12, findB]
  rw [if_neg (by omega)]
  exact find_tail 5 _
theorem cl_13 (h : Int) : clears row_13.pcs h = h - h % 512 := by
  simp only [row_13, clears, List.foldl_cons, List.foldl_nil, clearP, bitsP, Int.reduceToNat, Int.reducePow]
  omega
theorem in_13 (h : Int) (it : Bool) (op : Int) : insP row_13 h it op = ⟨op, 0, h % 8, h / 8 % 8, 0, h / 64 % 8, 1, 0, !it⟩ := by
  simp only [insP, row_13, adds, List.foldl_cons, List.foldl_nil, addP, partP, bitsP, flagB, saysB, Int.reduceToNat, Int.reducePow, Int.reduceEq, reduceIte]
  try rw [Ow.or_at _ (h / 64 % 8) 0 3 1 8 rfl rfl (by decide) (by omega) (by omega) (by omega) (by omega) (by omega)]
  try rw [Ow.or_at _ (h / 8 % 8) 0 3 1 8 rfl rfl (by decide) (by omega) (by omega) (by omega) (by omega) (by omega)]
  try rw [Ow.or_at _ (h / 1 % 8) 0 3 1 8 rfl rfl (by decide) (by omega) (by omega) (by omega) (by omega) (by omega)]
  refine Nm.mk_eq rfl ?_ ?_ ?_ ?_ ?_ ?_ ?_ ?_
  all_goals repeat (first | with_reducible rfl | omega | refine or_z ?_ (by omega) (by omega) (by omega) | simp)
theorem H13_0 {l : List R} {h : Int} {it : Bool} (hc : h - h % 512 = 7168) : searchP (row_13 :: l) h it = hit (true) ⟨5, 0, h % 8, h / 8 % 8, 0, h / 64 % 8, 1, 0, !it⟩ (searchP l h it) :=
  hit_of (read_yes _ h it 5 _ _ ((congrArg _ ((cl_13 h).trans hc)).trans rfl) (in_13 h it 5) (allow_4 _ _))
theorem H13_1 {l : List R} {h : Int} {it : Bool} (hc : h - h % 512 = 7680) : searchP (row_13 :: l) h it = hit (true) ⟨7, 0, h % 8, h / 8 % 8, 0, h / 64 % 8, 1, 0, !it⟩ (searchP l h it) :=
  hit_of (read_yes _ h it 7 _ _ ((congrArg _ ((cl_13 h).trans hc)).trans rfl) (in_13 h it 7) (allow_4 _ _))
theorem N13 {l : List R} {h : Int} {it : Bool} (hc : h - h % 512 ≠ 7168 ∧ h - h % 512 ≠ 7680) : searchP (row_13 :: l) h it = searchP l h it := by
  refine s_no (read_no _ _ _ ?_)
  rw [cl_13 h]
  simp only [row_13, findB]
  rw [if_neg (by omega), if_neg (by omega)]
  exact find_tail 4 _
theorem cl_14 (h : Int) : clears row_14.pcs h = h - h % 2048 := by
  simp only [row_14, clears, List.foldl_cons, List.foldl_nil, clearP, bitsP, Int.reduceToNat, Int.reducePow]
  omega
theorem in_14 (h : Int) (it : Bool) (op : Int) : insP row_14 h it op = ⟨op, 0, h / 256 % 8, h / 256 % 8, 0, h % 256, 1, 0, !it⟩ := by
  simp only [insP, row_14, adds, List.foldl_cons, List.foldl_nil, addP, partP, bitsP, flagB, saysB, Int.reduceToNat, Int.reducePow, Int.reduceEq, reduceIte]
  try rw [Ow.or_at _ (h / 256 % 8) 0 3 1 8 rfl rfl (by decide) (by omega) (by omega) (by omega) (by omega) (by omega)]
  try rw [Ow.or_at _ (h / 256 % 8) 0 3 1 8 rfl rfl (by decide) (by omega) (by omega) (by omega) (by omega) (by omega)]
  try rw [Ow.or_at _ (h / 1 % 256) 0 8 1 256 rfl rfl (by decide) (by omega) (by omega) (by omega) (by omega) (by omega)]
  refine Nm.mk_eq rfl ?_ ?_ ?_ ?_ ?_ ?_ ?_ ?_
  all_goals repeat (first | with_reducible rfl | omega | refine or_z ?_ (by omega) (by omega) (by omega) | simp)
theorem H14_0 {l : List R} {h : Int} {it : Bool} (hc : h - h % 2048 = 12288) : searchP (row_14 :: l) h it = hit (true) ⟨5, 0, h / 256 % 8, h / 256 % 8, 0, h % 256, 1, 0, !it⟩ (searchP l h it) :=
  hit_of (read_yes _ h it 5 _ _ ((congrArg _ ((cl_14 h).trans hc)).trans rfl) (in_14 h it 5) (allow_4 _ _))
theorem H14_1 {l : List R} {h : Int} {it : Bool} (hc : h - h % 2048 = 14336) : searchP (row_14 :: l) h it = hit (true) ⟨7, 0, h / 256 % 8, h / 256 % 8, 0, h % 256, 1, 0, !it⟩ (searchP l h it) :=
  hit_of (read_yes _ h it 7 _ _ ((congrArg _ ((cl_14 h).trans hc)).trans rfl) (in_14 h it 7) (allow_4 _ _))
theorem N14 {l : List R} {h : Int} {it : Bool} (hc : h - h % 2048 ≠ 12288 ∧ h - h % 2048 ≠ 14336) : searchP (row_14 :: l) h it = searchP l h it := by
  refine s_no (read_no _ _ _ ?_)
  rw [cl_14 h]
  simp only [row_14, findB]
  rw [if_neg (by omega), if_neg (by omega)]
  exact find_tail 4 _
theorem cl_15 (h : Int) : clears row_15.pcs h = h - h % 2048 := by
  simp only [row_15, clears, List.foldl_cons, List.foldl_nil, clearP, bitsP, Int.reduceToNat, Int.reducePow]
  omega
theorem in_15 (h : Int) (it : Bool) (op : Int) : insP row_15 h it op = ⟨op, 0, h % 8, h / 8 % 8, 0, h / 64 % 32, 1, 0, !it⟩ := by
  simp only [insP, row_15, adds, List.foldl_cons, List.foldl_nil, addP, partP, bitsP, flagB, saysB, Int.reduceToNat, Int.reducePow, Int.reduceEq, reduceIte]
  try rw [Ow.or_at _ (h / 64 % 32) 0 5 1 32 rfl rfl (by decide) (by omega) (by omega) (by omega) (by omega) (by omega)]
  try rw [Ow.or_at _ (h / 8 % 8) 0 3 1 8 rfl rfl (by decide) (by omega) (by omega) (by omega) (by omega) (by omega)]
  try rw [Ow.or_at _ (h / 1 % 8) 0 3 1 8 rfl rfl (by decide) (by omega) (by omega) (by omega) (by omega) (by omega)]
  refine Nm.mk_eq rfl ?_ ?_ ?_ ?_ ?_ ?_ ?_ ?_
  all_goals repeat (first | with_reducible rfl | omega | refine or_z ?_ (by omega) (by omega) (by omega) | simp)
theorem H15_0 {l : List R} {h : Int} {it : Bool} (hc : h - h % 2048 = 0) : searchP (row_15 :: l) h it = hit (true) ⟨16, 0, h % 8, h / 8 % 8, 0, h / 64 % 32, 1, 0, !it⟩ (searchP l h it) :=
  hit_of (read_yes _ h it 16 _ _ ((congrArg _ ((cl_15 h).trans hc)).trans rfl) (in_15 h it 16) (allow_4 _ _))
theorem H15_1 {l : List R} {h : Int} {it : Bool} (hc : h - h % 2048 = 2048) : searchP (row_15 :: l) h it = hit (true) ⟨17, 0, h % 8, h / 8 % 8, 0, h / 64 % 32, 1, 0, !it⟩ (searchP l h it) :=
  hit_of (read_yes _ h it 17 _ _ ((congrArg _ ((cl_15 h).trans hc)).trans rfl) (in_15 h it 17) (allow_4 _ _))
theorem H15_2 {l : List R} {h : Int} {it : Bool} (hc : h - h % 2048 = 4096) : searchP (row_15 :: l) h it = hit (true) ⟨18, 0, h % 8, h / 8 % 8, 0, h / 64 % 32, 1, 0, !it⟩ (searchP l h it) :=
  hit_of (read_yes _ h it 18 _ _ ((congrArg _ ((cl_15 h).trans hc)).trans rfl) (in_15 h it 18) (allow_4 _ _))
theorem N15 {l : List R} {h : Int} {it : Bool} (hc : h - h % 2048 ≠ 0 ∧ h - h % 2048 ≠ 2048 ∧ h - h % 2048 ≠ 4096) : searchP (row_15 :: l) h it = searchP l h it := by
  refine s_no (read_no _ _ _ ?_)
  rw [cl_15 h]
  simp only [row_15, findB]
  rw [if_neg (by omega), if_neg (by omega), if_neg (by omega)]
  exact find_tail 3 _
theorem cl_16 (h : Int) : clears row_16.pcs h = h - h % 64 := by
  simp only [row_16, clears, List.foldl_cons, List.foldl_nil, clearP, bitsP, Int.reduceToNat, Int.reducePow]
  omega
theorem in_16 (h : Int) (it : Bool) (op : Int) : insP row_16 h it op = ⟨op, 0, h % 8, h / 8 % 8, 0, 32, 1, 0, !it⟩ := by
  simp only [insP, row_16, adds, List.foldl_cons, List.foldl_nil, addP, partP, bitsP, flagB, saysB, Int.reduceToNat, Int.reducePow, Int.reduceEq, reduceIte]
  try rw [Ow.or_at _ (h / 8 % 8) 0 3 1 8 rfl rfl (by decide) (by omega) (by omega) (by omega) (by omega) (by omega)]
  try rw [Ow.or_at _ (h / 1 % 8) 0 3 1 8 rfl rfl (by decide) (by omega) (by omega) (by omega) (by omega) (by omega)]
  refine Nm.mk_eq rfl ?_ ?_ ?_ ?_ ?_ ?_ ?_ ?_
  all_goals repeat (first | with_reducible rfl | omega | refine or_z ?_ (by omega) (by omega) (by omega) | simp)
theorem H16_0 {l : List R} {h : Int} {it : Bool} (hc : h - h % 64 = 2048) : searchP (row_16 :: l) h it = hit (true) ⟨17, 0, h % 8, h / 8 % 8, 0, 32, 1, 0, !it⟩ (searchP l h it) :=
  hit_of (read_yes _ h it 17 _ _ ((congrArg _ ((cl_16 h).trans hc)).trans rfl) (in_16 h it 17) (allow_4 _ _))
theorem H16_1 {l : List R} {h : Int} {it : Bool} (hc : h - h % 64 = 4096) : searchP (row_16 :: l) h it = hit (true) ⟨18, 0, h % 8, h / 8 % 8, 0, 32, 1, 0, !it⟩ (searchP l h it) :=
  hit_of (read_yes _ h it 18 _ _ ((congrArg _ ((cl_16 h).trans hc)).trans rfl) (in_16 h it 18) (allow_4 _ _))
theorem N16 {l : List R} {h : Int} {it : Bool} (hc : h - h % 64 ≠ 2048 ∧ h - h % 64 ≠ 4096) : searchP (row_16 :: l) h it = searchP l h it := by
  refine s_no (read_no _ _ _ ?_)
  rw [cl_16 h]
  simp only [row_16, findB]
  rw [if_neg (by omega), if_neg (by omega)]
  exact find_tail 4 _
theorem cl_17 (h : Int) : clears row_17.pcs h = h - h % 64 := by
  simp only [row_17, clears, List.foldl_cons, List.foldl_nil, clearP, bitsP, Int.reduceToNat, Int.reducePow]
  omega
theorem in_17 (h : Int) (it : Bool) (op : Int) : insP row_17 h it op = ⟨op, 0, h % 8, h % 8, h / 8 % 8, 0, 2, 0, !it⟩ := by
  simp only [insP, row_17, adds, List.foldl_cons, List.foldl_nil, addP, partP, bitsP, flagB, saysB, Int.reduceToNat, Int.reducePow, Int.reduceEq, reduceIte]
  try rw [Ow.or_at _ (h / 8 % 8) 0 3 1 8 rfl rfl (by decide) (by omega) (by omega) (by omega) (by omega) (by omega)]
  try rw [Ow.or_at _ (h / 1 % 8) 0 3 1 8 rfl rfl (by decide) (by omega) (by omega) (by omega) (by omega) (by omega)]
  try rw [Ow.or_at _ (h / 1 % 8) 0 3 1 8 rfl rfl (by decide) (by omega) (by omega) (by omega) (by omega) (by omega)]
  refine Nm.mk_eq rfl ?_ ?_ ?_ ?_ ?_ ?_ ?_ ?_
  all_goals repeat (first | with_reducible rfl | omega | refine or_z ?_ (by omega) (by omega) (by omega) | simp)
theorem H17_0 {l : List R} {h : Int} {it : Bool} (hc : h - h % 64 = 16512) : searchP (row_17 :: l) h it = hit (true) ⟨16, 0, h % 8, h % 8, h / 8 % 8, 0, 2, 0, !it⟩ (searchP l h it) :=
  hit_of (read_yes _ h it 16 _ _ ((congrArg _ ((cl_17 h).trans hc)).trans rfl) (in_17 h it 16) (allow_4 _ _))
theorem H17_1 {l : List R} {h : Int} {it : Bool} (hc : h - h % 64 = 16576) : searchP (row_17 :: l) h it = hit (true) ⟨17, 0, h % 8, h % 8, h / 8 % 8, 0, 2, 0, !it⟩ (searchP l h it) :=
  hit_of (read_yes _ h it 17 _ _ ((congrArg _ ((cl_17 h).trans hc)).trans rfl) (in_17 h it 17) (allow_4 _ _))
theorem H17_2 {l : List R} {h : Int} {it : Bool} (hc : h - h % 64 = 16640) : searchP (row_17 :: l) h it = hit (true) ⟨18, 0, h % 8, h % 8, h / 8 % 8, 0, 2, 0, !it⟩ (searchP l h it) :=
  hit_of (read_yes _ h it 18 _ _ ((congrArg _ ((cl_17 h).trans hc)).trans rfl) (in_17 h it 18) (allow_4 _ _))
theorem H17_3 {l : List R} {h : Int} {it : Bool} (hc : h - h % 64 = 16832) : searchP (row_17 :: l) h it = hit (true) ⟨19, 0, h % 8, h % 8, h / 8 % 8, 0, 2, 0, !it⟩ (searchP l h it) :=
  hit_of (read_yes _ h it 19 _ _ ((congrArg _ ((cl_17 h).trans hc)).trans rfl) (in_17 h it 19) (allow_4 _ _))
theorem N17 {l : List R} {h : Int} {it : Bool} (hc : h - h % 64 ≠ 16512 ∧ h - h % 64 ≠ 16576 ∧ h - h % 64 ≠ 16640 ∧ h - h % 64 ≠ 16832) : searchP (row_17 :: l) h it = searchP l h it := by
  refine s_no (read_no _ _ _ ?_)
  rw [cl_17 h]
  simp only [row_17, findB]
  rw [if_neg (by omega), if_neg (by omega), if_neg (by omega), if_neg (by omega)]
  exact find_tail 2 _
theorem cl_18 (h : Int) : clears row_18.pcs h = h - h % 2048 := by
  simp only [row_18, clears, List.foldl_cons, List.foldl_nil, clearP, bitsP, Int.reduceToNat, Int.reducePow]
  omega
theorem in_18 (h : Int) (it : Bool) (op : Int) : insP row_18 h it op = ⟨op, 0, h % 8, h / 8 % 8, 0, h / 64 % 32 * 4, 1, 0, false⟩ := by
  simp only [insP, row_18, adds, List.foldl_cons, List.foldl_nil, addP, partP, bitsP, flagB, saysB, Int.reduceToNat, Int.reducePow, Int.reduceEq, reduceIte]
  try rw [Ow.or_at _ (h / 64 % 32) 2 5 4 32 rfl rfl (by decide) (by omega) (by omega) (by omega) (by omega) (by omega)]
  try rw [Ow.or_at _ (h / 8 % 8) 0 3 1 8 rfl rfl (by decide) (by omega) (by omega) (by omega) (by omega) (by omega)]
  try rw [Ow.or_at _ (h / 1 % 8) 0 3 1 8 rfl rfl (by decide) (by omega) (by omega) (by omega) (by omega) (by omega)]
  refine Nm.mk_eq rfl ?_ ?_ ?_ ?_ ?_ ?_ ?_ ?_
  all_goals repeat (first | with_reducible rfl | omega | refine or_z ?_ (by omega) (by omega) (by omega) | simp)
theorem H18_0 {l : List R} {h : Int} {it : Bool} (hc : h - h % 2048 = 24576) : searchP (row_18 :: l) h it = hit (true) ⟨28, 0, h % 8, h / 8 % 8, 0, h / 64 % 32 * 4, 1, 0, false⟩ (searchP l h it) :=
  hit_of (read_yes _ h it 28 _ _ ((congrArg _ ((cl_18 h).trans hc)).trans rfl) (in_18 h it 28) (allow_0 _ _))
theorem H18_1 {l : List R} {h : Int} {it : Bool} (hc : h - h % 2048 = 26624) : searchP (row_18 :: l) h it = hit (true) ⟨25, 0, h % 8, h / 8 % 8, 0, h / 64 % 32 * 4, 1, 0, false⟩ (searchP l h it) :=
  hit_of (read_yes _ h it 25 _ _ ((congrArg _ ((cl_18 h).trans hc)).trans rfl) (in_18 h it 25) (allow_0 _ _))
theorem N18 {l : List R} {h : Int} {it : Bool} (hc : h - h % 2048 ≠ 24576 ∧ h - h % 2048 ≠ 26624) : searchP (row_18 :: l) h it = searchP l h it := by
  refine s_no (read_no _ _ _ ?_)
  rw [cl_18 h]
  simp only [row_18, findB]
  rw [if_neg (by omega), if_neg (by omega)]
  exact find_tail 4 _
theorem cl_19 (h : Int) : clears row_19.pcs h = h - h % 2048 := by
  simp only [row_19, clears, List.foldl_cons, List.foldl_nil, clearP, bitsP, Int.reduceToNat, Int.reducePow]
  omega
theorem in_19 (h : Int) (it : Bool) (op : Int) : insP row_19 h it op = ⟨op, 0, h % 8, h / 8 % 8, 0, h / 64 % 32, 1, 0, false⟩ := by
  simp only [insP, row_19, adds, List.foldl_cons, List.foldl_nil, addP, partP, bitsP, flagB, saysB, Int.reduceToNat, Int.reducePow, Int.reduceEq, reduceIte]
  try rw [Ow.or_at _ (h / 64 % 32) 0 5 1 32 rfl rfl (by decide) (by omega) (by omega) (by omega) (by omega) (by omega)]
  try rw [Ow.or_at _ (h / 8 % 8) 0 3 1 8 rfl rfl (by decide) (by omega) (by omega) (by omega) (by omega) (by omega)]
  try rw [Ow.or_at _ (h / 1 % 8) 0 3 1 8 rfl rfl (by decide) (by omega) (by omega) (by omega) (by omega) (by omega)]
  refine Nm.mk_eq rfl ?_ ?_ ?_ ?_ ?_ ?_ ?_ ?_
  all_goals repeat (first | with_reducible rfl | omega | refine or_z ?_ (by omega) (by omega) (by omega) | simp)
theorem H19_0 {l : List R} {h : Int} {it : Bool} (hc : h - h % 2048 = 28672) : searchP (row_19 :: l) h it = hit (true) ⟨29, 0, h % 8, h / 8 % 8, 0, h / 64 % 32, 1, 0, false⟩ (searchP l h it) :=
  hit_of (read_yes _ h it 29 _ _ ((congrArg _ ((cl_19 h).trans hc)).trans rfl) (in_19 h it 29) (allow_0 _ _))
theorem H19_1 {l : List R} {h : Int} {it : Bool} (hc : h - h % 2048 = 30720) : searchP (row_19 :: l) h it = hit (true) ⟨26, 0, h % 8, h / 8 % 8, 0, h / 64 % 32, 1, 0, false⟩ (searchP l h it) :=
  hit_of (read_yes _ h it 26 _ _ ((congrArg _ ((cl_19 h).trans hc)).trans rfl) (in_19 h it 26) (allow_0 _ _))
theorem N19 {l : List R} {h : Int} {it : Bool} (hc : h - h % 2048 ≠ 28672 ∧ h - h % 2048 ≠ 30720) : searchP (row_19 :: l) h it = searchP l h it := by
  refine s_no (read_no _ _ _ ?_)
  rw [cl_19 h]
  simp only [row_19, findB]
  rw [if_neg (by omega), if_neg (by omega)]
  exact find_tail 4 _
theorem cl_20 (h : Int) : clears row_20.pcs h = h - h % 2048 := by
  simp only [row_20, clears, List.foldl_cons, List.foldl_nil, clearP, bitsP, Int.reduceToNat, Int.reducePow]
  omega
theorem in_20 (h : Int) (it : Bool) (op : Int) : insP row_20 h it op = ⟨op, 0, h % 8, h / 8 % 8, 0, h / 64 % 32 * 2, 1, 0, false⟩ := by
  simp only [insP, row_20, adds, List.foldl_cons, List.foldl_nil, addP, partP, bitsP, flagB, saysB, Int.reduceToNat, Int.reducePow, Int.reduceEq, reduceIte]
  try rw [Ow.or_at _ (h / 64 % 32) 1 5 2 32 rfl rfl (by decide) (by omega) (by omega) (by omega) (by omega) (by omega)]
  try rw [Ow.or_at _ (h / 8 % 8) 0 3 1 8 rfl rfl (by decide) (by omega) (by omega) (by omega) (by omega) (by omega)]
  try rw [Ow.or_at _ (h / 1 % 8) 0 3 1 8 rfl rfl (by decide) (by omega) (by omega) (by omega) (by omega) (by omega)]
  refine Nm.mk_eq rfl ?_ ?_ ?_ ?_ ?_ ?_ ?_ ?_
  all_goals repeat (first | with_reducible rfl | omega | refine or_z ?_ (by omega) (by omega) (by omega) | simp)
theorem H20_0 {l : List R} {h : Int} {it : Bool} (hc : h - h % 2048 = 32768) : searchP (row_20 :: l) h it = hit (true) ⟨30, 0, h % 8, h / 8 % 8, 0, h / 64 % 32 * 2, 1, 0, false⟩ (searchP l h it) :=
  hit_of (read_yes _ h it 30 _ _ ((congrArg _ ((cl_20 h).trans hc)).trans rfl) (in_20 h it 30) (allow_0 _ _))
theorem H20_1 {l : List R} {h : Int} {it : Bool} (hc : h - h % 2048 = 34816) : searchP (row_20 :: l) h it = hit (true) ⟨27, 0, h % 8, h / 8 % 8, 0, h / 64 % 32 * 2, 1, 0, false⟩ (searchP l h it) :=
  hit_of (read_yes _ h it 27 _ _ ((congrArg _ ((cl_20 h).trans hc)).trans rfl) (in_20 h it 27) (allow_0 _ _))
theorem N20 {l : List R} {h : Int} {it : Bool} (hc : h - h % 2048 ≠ 32768 ∧ h - h % 2048 ≠ 34816) : searchP (row_20 :: l) h it = searchP l h it := by
  refine s_no (read_no _ _ _ ?_)
  rw [cl_20 h]
  simp only [row_20, findB]
  rw [if_neg (by omega), if_neg (by omega)]
  exact find_tail 4 _
theorem cl_21 (h : Int) : clears row_21.pcs h = h - h % 2048 := by
  simp only [row_21, clears, List.foldl_cons, List.foldl_nil, clearP, bitsP, Int.reduceToNat, Int.reducePow]
  omega
theorem in_21 (h : Int) (it : Bool) (op : Int) : insP row_21 h it op = ⟨op, 0, h / 256 % 8, 13, 0, h % 256 * 4, 1, 0, false⟩ := by
  simp only [insP, row_21, adds, List.foldl_cons, List.foldl_nil, addP, partP, bitsP, flagB, saysB, Int.reduceToNat, Int.reducePow, Int.reduceEq, reduceIte]
  try rw [Ow.or_at _ (h / 256 % 8) 0 3 1 8 rfl rfl (by decide) (by omega) (by omega) (by omega) (by omega) (by omega)]
  try rw [Ow.or_at _ (h / 1 % 256) 2 8 4 256 rfl rfl (by decide) (by omega) (by omega) (by omega) (by omega) (by omega)]
  refine Nm.mk_eq rfl ?_ ?_ ?_ ?_ ?_ ?_ ?_ ?_
  all_goals repeat (first | with_reducible rfl | omega | refine or_z ?_ (by omega) (by omega) (by omega) | simp)
theorem H21_0 {l : List R} {h : Int} {it : Bool} (hc : h - h % 2048 = 36864) : searchP (row_21 :: l) h it = hit (true) ⟨28, 0, h / 256 % 8, 13, 0, h % 256 * 4, 1, 0, false⟩ (searchP l h it) :=
  hit_of (read_yes _ h it 28 _ _ ((congrArg _ ((cl_21 h).trans hc)).trans rfl) (in_21 h it 28) (allow_0 _ _))
theorem H21_1 {l : List R} {h : Int} {it : Bool} (hc : h - h % 2048 = 38912) : searchP (row_21 :: l) h it = hit (true) ⟨25, 0, h / 256 % 8, 13, 0, h % 256 * 4, 1, 0, false⟩ (searchP l h it) :=
  hit_of (read_yes _ h it 25 _ _ ((congrArg _ ((cl_21 h).trans hc)).trans rfl) (in_21 h it 25) (allow_0 _ _))
theorem N21 {l : List R} {h : Int} {it : Bool} (hc : h - h % 2048 ≠ 36864 ∧ h - h % 2048 ≠ 38912) : searchP (row_21 :: l) h it = searchP l h it := by
  refine s_no (read_no _ _ _ ?_)
  rw [cl_21 h]
  simp only [row_21, findB]
  rw [if_neg (by omega), if_neg (by omega)]
  exact find_tail 4 _
theorem cl_22 (h : Int) : clears row_22.pcs h = h - h % 512 := by
  simp only [row_22, clears, List.foldl_cons, List.foldl_nil, clearP, bitsP, Int.reduceToNat, Int.reducePow]
  omega
theorem in_22 (h : Int) (it : Bool) (op : Int) : insP row_22 h it op = ⟨op, 0, h % 8, h / 8 % 8, h / 64 % 8, 0, 2, 0, false⟩ := by
  simp only [insP, row_22, adds, List.foldl_cons, List.foldl_nil, addP, partP, bitsP, flagB, saysB, Int.reduceToNat, Int.reducePow, Int.reduceEq, reduceIte]
  try rw [Ow.or_at _ (h / 64 % 8) 0 3 1 8 rfl rfl (by decide) (by omega) (by omega) (by omega) (by omega) (by omega)]
  try rw [Ow.or_at _ (h / 8 % 8) 0 3 1 8 rfl rfl (by decide) (by omega) (by omega) (by omega) (by omega) (by omega)]
  try rw [Ow.or_at _ (h / 1 % 8) 0 3 1 8 rfl rfl (by decide) (by omega) (by omega) (by omega) (by omega) (by omega)]
  refine Nm.mk_eq rfl ?_ ?_ ?_ ?_ ?_ ?_ ?_ ?_
  all_goals repeat (first | with_reducible rfl | omega | refine or_z ?_ (by omega) (by omega) (by omega) | simp)
theorem H22_0 {l : List R} {h : Int} {it : Bool} (hc : h - h % 512 = 20480) : searchP (row_22 :: l) h it = hit (true) ⟨28, 0, h % 8, h / 8 % 8, h / 64 % 8, 0, 2, 0, false⟩ (searchP l h it) :=
  hit_of (read_yes _ h it 28 _ _ ((congrArg _ ((cl_22 h).trans hc)).trans rfl) (in_22 h it 28) (allow_0 _ _))
theorem H22_1 {l : List R} {h : Int} {it : Bool} (hc : h - h % 512 = 20992) : searchP (row_22 :: l) h it = hit (true) ⟨30, 0, h % 8, h / 8 % 8, h / 64 % 8, 0, 2, 0, false⟩ (searchP l h it) :=
  hit_of (read_yes _ h it 30 _ _ ((congrArg _ ((cl_22 h).trans hc)).trans rfl) (in_22 h it 30) (allow_0 _ _))
theorem H22_2 {l : List R} {h : Int} {it : Bool} (hc : h - h % 512 = 21504) : searchP (row_22 :: l) h it = hit (true) ⟨29, 0, h % 8, h / 8 % 8, h / 64 % 8, 0, 2, 0, false⟩ (searchP l h it) :=
  hit_of (read_yes _ h it 29 _ _ ((congrArg _ ((cl_22 h).trans hc)).trans rfl) (in_22 h it 29) (allow_0 _ _))
theorem H22_3 {l : List R} {h : Int} {it : Bool} (hc : h - h % 512 = 22528) : searchP (row_22 :: l) h it = hit (true) ⟨25, 0, h % 8, h / 8 % 8, h / 64 % 8, 0, 2, 0, false⟩ (searchP l h it) :=
  hit_of (read_yes _ h it 25 _ _ ((congrArg _ ((cl_22 h).trans hc)).trans rfl) (in_22 h it 25) (allow_0 _ _))
theorem H22_4 {l : List R} {h : Int} {it : Bool} (hc : h - h % 512 = 23040) : searchP (row_22 :: l) h it = hit (true) ⟨27, 0, h % 8, h / 8 % 8, h / 64 % 8, 0, 2, 0, false⟩ (searchP l h it) :=
  hit_of (read_yes _ h it 27 _ _ ((congrArg _ ((cl_22 h).trans hc)).trans rfl) (in_22 h it 27) (allow_0 _ _))
theorem H22_5 {l : List R} {h : Int} {it : Bool} (hc : h - h % 512 = 23552) : searchP (row_22 :: l) h it = hit (true) ⟨26, 0, h % 8, h / 8 % 8, h / 64 % 8, 0, 2, 0, false⟩ (searchP l h it) :=
  hit_of (read_yes _ h it 26 _ _ ((congrArg _ ((cl_22 h).trans hc)).trans rfl) (in_22 h it 26) (allow_0 _ _))
theorem N22 {l : List R} {h : Int} {it : Bool} (hc : h - h % 512 ≠ 20480 ∧ h - h % 512 ≠ 20992 ∧ h - h % 512 ≠ 21504 ∧ h - h % 512 ≠ 22528 ∧ h - h % 512 ≠ 23040 ∧ h - h % 512 ≠ 23552) : searchP (row_22 :: l) h it = searchP l h it := by
  refine s_no (read_no _ _ _ ?_)
  rw [cl_22 h]
  simp only [row_22, findB]
  rw [if_neg (by omega), if_neg (by omega), if_neg (by omega), if_neg (by omega), if_neg (by omega), if_neg (by omega)]
  exact .inr rfl
theorem cl_23 (h : Int) : clears row_23.pcs h = h - h % 2048 := by
  simp only [row_23, clears, List.foldl_cons, List.foldl_nil, clearP, bitsP, Int.reduceToNat, Int.reducePow]
  omega
theorem in_23 (h : Int) (it : Bool) (op : Int) : insP row_23 h it op = ⟨op, 0, 0, h / 256 % 8, 0, 0, 0, h % 256, false⟩ := by
  simp only [insP, row_23, adds, List.foldl_cons, List.foldl_nil, addP, partP, bitsP, flagB, saysB, Int.reduceToNat, Int.reducePow, Int.reduceEq, reduceIte]
  try rw [Ow.or_at _ (h / 256 % 8) 0 3 1 8 rfl rfl (by decide) (by omega) (by omega) (by omega) (by omega) (by omega)]
  try rw [Ow.or_at _ (h / 1 % 256) 0 8 1 256 rfl rfl (by decide) (by omega) (by omega) (by omega) (by omega) (by omega)]
  refine Nm.mk_eq rfl ?_ ?_ ?_ ?_ ?_ ?_ ?_ ?_
  all_goals repeat (first | with_reducible rfl | omega | refine or_z ?_ (by omega) (by omega) (by omega) | simp)
theorem H23_0 {l : List R} {h : Int} {it : Bool} (hc : h - h % 2048 = 49152) : searchP (row_23 :: l) h it = hit (true) ⟨32, 0, 0, h / 256 % 8, 0, 0, 0, h % 256, false⟩ (searchP l h it) :=
  hit_of (read_yes _ h it 32 _ _ ((congrArg _ ((cl_23 h).trans hc)).trans rfl) (in_23 h it 32) (allow_0 _ _))
theorem H23_1 {l : List R} {h : Int} {it : Bool} (hc : h - h % 2048 = 51200) : searchP (row_23 :: l) h it = hit (true) ⟨31, 0, 0, h / 256 % 8, 0, 0, 0, h % 256, false⟩ (searchP l h it) :=
  hit_of (read_yes _ h it 31 _ _ ((congrArg _ ((cl_23 h).trans hc)).trans rfl) (in_23 h it 31) (allow_0 _ _))
theorem N23 {l : List R} {h : Int} {it : Bool} (hc : h - h % 2048 ≠ 49152 ∧ h - h % 2048 ≠ 51200) : searchP (row_23 :: l) h it = searchP l h it := by
  refine s_no (read_no _ _ _ ?_)
  rw [cl_23 h]
  simp only [row_23, findB]
  rw [if_neg (by omega), if_neg (by omega)]
  exact find_tail 4 _
theorem cl_24 (h : Int) : clears row_24.pcs h = h - h % 512 := by
  simp only [row_24, clears, List.foldl_cons, List.foldl_nil, clearP, bitsP, Int.reduceToNat, Int.reducePow]
  omega
theorem in_24 (h : Int) (it : Bool) (op : Int) : insP row_24 h it op = ⟨op, 0, 0, 0, 0, 0, 0, h / 256 % 2 * 16384 + h % 256, false⟩ := by
  simp only [insP, row_24, adds, List.foldl_cons, List.foldl_nil, addP, partP, bitsP, flagB, saysB, Int.reduceToNat, Int.reducePow, Int.reduceEq, reduceIte]
  try rw [Ow.or_at _ (h / 256 % 2) 14 1 16384 2 rfl rfl (by decide) (by omega) (by omega) (by omega) (by omega) (by omega)]
  try rw [Ow.or_at _ (h / 1 % 256) 0 8 1 256 rfl rfl (by decide) (by omega) (by omega) (by omega) (by omega) (by omega)]
  refine Nm.mk_eq rfl ?_ ?_ ?_ ?_ ?_ ?_ ?_ ?_
  all_goals repeat (first | with_reducible rfl | omega | refine or_z ?_ (by omega) (by omega) (by omega) | simp)
theorem H24_0 {l : List R} {h : Int} {it : Bool} (hc : h - h % 512 = 46080) : searchP (row_24 :: l) h it = hit (true) ⟨33, 0, 0, 0, 0, 0, 0, h / 256 % 2 * 16384 + h % 256, false⟩ (searchP l h it) :=
  hit_of (read_yes _ h it 33 _ _ ((congrArg _ ((cl_24 h).trans hc)).trans rfl) (in_24 h it 33) (allow_0 _ _))
theorem N24 {l : List R} {h : Int} {it : Bool} (hc : h - h % 512 ≠ 46080) : searchP (row_24 :: l) h it = searchP l h it := by
  refine s_no (read_no _ _ _ ?_)
  rw [cl_24 h]
  simp only [row_24, findB]
  rw [if_neg (by omega)]
  exact find_tail 5 _
theorem cl_25 (h : Int) : clears row_25.pcs h = h - h % 512 := by
  simp only [row_25, clears, List.foldl_cons, List.foldl_nil, clearP, bitsP, Int.reduceToNat, Int.reducePow]
  omega
theorem in_25 (h : Int) (it : Bool) (op : Int) : insP row_25 h it op = ⟨op, 0, 0, 0, 0, 0, 0, h / 256 % 2 * 32768 + h % 256, false⟩ := by
  simp only [insP, row_25, adds, List.foldl_cons, List.foldl_nil, addP, partP, bitsP, flagB, saysB, Int.reduceToNat, Int.reducePow, Int.reduceEq, reduceIte]
  try rw [Ow.or_at _ (h / 256 % 2) 15 1 32768 2 rfl rfl (by decide) (by omega) (by omega) (by omega) (by omega) (by omega)]
  try rw [Ow.or_at _ (h / 1 % 256) 0 8 1 256 rfl rfl (by decide) (by omega) (by omega) (by omega) (by omega) (by omega)]
  refine Nm.mk_eq rfl ?_ ?_ ?_ ?_ ?_ ?_ ?_ ?_
  all_goals repeat (first | with_reducible rfl | omega | refine or_z ?_ (by omega) (by omega) (by omega) | simp)
theorem H25_0 {l : List R} {h : Int} {it : Bool} (hc : h - h % 512 = 48128) : searchP (row_25 :: l) h it = hit (true) ⟨34, 0, 0, 0, 0, 0, 0, h / 256 % 2 * 32768 + h % 256, false⟩ (searchP l h it) :=
  hit_of (read_yes _ h it 34 _ _ ((congrArg _ ((cl_25 h).trans hc)).trans rfl) (in_25 h it 34) (allow_0 _ _))
theorem N25 {l : List R} {h : Int} {it : Bool} (hc : h - h % 512 ≠ 48128) : searchP (row_25 :: l) h it = searchP l h it := by
  refine s_no (read_no _ _ _ ?_)
  rw [cl_25 h]
  simp only [row_25, findB]
  rw [if_neg (by omega)]
  exact find_tail 5 _
theorem cl_26 (h : Int) : clears row_26.pcs h = h - h % 4096 := by
  simp only [row_26, clears, List.foldl_cons, List.foldl_nil, clearP, bitsP, Int.reduceToNat, Int.reducePow]
  omega
theorem in_26 (h : Int) (it : Bool) (op : Int) : insP row_26 h it op = ⟨op, h / 256 % 16, 0, 0, 0, nearI h, 1, 0, false⟩ := by
  simp only [insP, row_26, adds, List.foldl_cons, List.foldl_nil, addP, partP, bitsP, flagB, saysB, Int.reduceToNat, Int.reducePow, Int.reduceEq, reduceIte]
  try rw [Ow.or_at _ (h / 256 % 16) 0 4 1 16 rfl rfl (by decide) (by omega) (by omega) (by omega) (by omega) (by omega)]
  refine Nm.mk_eq rfl ?_ ?_ ?_ ?_ ?_ ?_ ?_ ?_
  all_goals repeat (first | with_reducible rfl | omega | refine or_z ?_ (by omega) (by omega) (by omega) | simp)
theorem H26_0 {l : List R} {h : Int} {it : Bool} (hc : h - h % 4096 = 53248) : searchP (row_26 :: l) h it = hit ((!it && !((h / 256 % 16) == 14))) ⟨35, h / 256 % 16, 0, 0, 0, nearI h, 1, 0, false⟩ (searchP l h it) :=
  hit_of (read_yes _ h it 35 _ _ ((congrArg _ ((cl_26 h).trans hc)).trans rfl) (in_26 h it 35) (allow_9 _ _))
theorem N26 {l : List R} {h : Int} {it : Bool} (hc : h - h % 4096 ≠ 53248) : searchP (row_26 :: l) h it = searchP l h it := by
  refine s_no (read_no _ _ _ ?_)
  rw [cl_26 h]
  simp only [row_26, findB]
  rw [if_neg (by omega)]
  exact find_tail 5 _
theorem cl_27 (h : Int) : clears row_27.pcs h = h - h % 2048 := by
  simp only [row_27, clears, List.foldl_cons, List.foldl_nil, clearP, bitsP, Int.reduceToNat, Int.reducePow]
  omega
theorem in_27 (h : Int) (it : Bool) (op : Int) : insP row_27 h it op = ⟨op, 14, 0, 0, 0, farI h, 1, 0, false⟩ := by
  simp only [insP, row_27, adds, List.foldl_cons, List.foldl_nil, addP, partP, bitsP, flagB, saysB, Int.reduceToNat, Int.reducePow, Int.reduceEq, reduceIte]
  refine Nm.mk_eq rfl ?_ ?_ ?_ ?_ ?_ ?_ ?_ ?_
  all_goals repeat (first | with_reducible rfl | omega | refine or_z ?_ (by omega) (by omega) (by omega) | simp)
theorem H27_0 {l : List R} {h : Int} {it : Bool} (hc : h - h % 2048 = 57344) : searchP (row_27 :: l) h it = hit (true) ⟨35, 14, 0, 0, 0, farI h, 1, 0, false⟩ (searchP l h it) :=
  hit_of (read_yes _ h it 35 _ _ ((congrArg _ ((cl_27 h).trans hc)).trans rfl) (in_27 h it 35) (allow_0 _ _))
theorem N27 {l : List R} {h : Int} {it : Bool} (hc : h - h % 2048 ≠ 57344) : searchP (row_27 :: l) h it = searchP l h it := by
  refine s_no (read_no _ _ _ ?_)
  rw [cl_27 h]
  simp only [row_27, findB]
  rw [if_neg (by omega)]
  exact find_tail 5 _
theorem cl_28 (h : Int) : clears row_28.pcs h = h - h % 256 - h / 512 % 2 * 512 := by
  simp only [row_28, clears, List.foldl_cons, List.foldl_nil, clearP, bitsP, Int.reduceToNat, Int.reducePow]
  omega
theorem in_28 (h : Int) (it : Bool) (op : Int) : insP row_28 h it op = ⟨op, 0, 0, h % 8, 0, aheadI h, 1, 0, false⟩ := by
  simp only [insP, row_28, adds, List.foldl_cons, List.foldl_nil, addP, partP, bitsP, flagB, saysB, Int.reduceToNat, Int.reducePow, Int.reduceEq, reduceIte]
  try rw [Ow.or_at _ (h / 1 % 8) 0 3 1 8 rfl rfl (by decide) (by omega) (by omega) (by omega) (by omega) (by omega)]
  refine Nm.mk_eq rfl ?_ ?_ ?_ ?_ ?_ ?_ ?_ ?_
  all_goals repeat (first | with_reducible rfl | omega | refine or_z ?_ (by omega) (by omega) (by omega) | simp)
theorem H28_0 {l : List R} {h : Int} {it : Bool} (hc : h - h % 256 - h / 512 % 2 * 512 = 45312) : searchP (row_28 :: l) h it = hit (!it) ⟨37, 0, 0, h % 8, 0, aheadI h, 1, 0, false⟩ (searchP l h it) :=
  hit_of (read_yes _ h it 37 _ _ ((congrArg _ ((cl_28 h).trans hc)).trans rfl) (in_28 h it 37) (allow_1 _ _))
theorem H28_1 {l : List R} {h : Int} {it : Bool} (hc : h - h % 256 - h / 512 % 2 * 512 = 47360) : searchP (row_28 :: l) h it = hit (!it) ⟨38, 0, 0, h % 8, 0, aheadI h, 1, 0, false⟩ (searchP l h it) :=
  hit_of (read_yes _ h it 38 _ _ ((congrArg _ ((cl_28 h).trans hc)).trans rfl) (in_28 h it 38) (allow_1 _ _))
theorem N28 {l : List R} {h : Int} {it : Bool} (hc : h - h % 256 - h / 512 % 2 * 512 ≠ 45312 ∧ h - h % 256 - h / 512 % 2 * 512 ≠ 47360) : searchP (row_28 :: l) h it = searchP l h it := by
  refine s_no (read_no _ _ _ ?_)
  rw [cl_28 h]
  simp only [row_28, findB]
  rw [if_neg (by omega), if_neg (by omega)]
  exact find_tail 4 _
theorem cl_29 (h : Int) : clears row_29.pcs h = h - h / 8 % 16 * 8 := by
  simp only [row_29, clears, List.foldl_cons, List.foldl_nil, clearP, bitsP, Int.reduceToNat, Int.reducePow]
  omega
theorem in_29 (h : Int) (it : Bool) (op : Int) : insP row_29 h it op = ⟨op, 0, 0, 0, h / 8 % 16, 0, 2, 0, false⟩ := by
  simp only [insP, row_29, adds, List.foldl_cons, List.foldl_nil, addP, partP, bitsP, flagB, saysB, Int.reduceToNat, Int.reducePow, Int.reduceEq, reduceIte]
  try rw [Ow.or_at _ (h / 8 % 16) 0 4 1 16 rfl rfl (by decide) (by omega) (by omega) (by omega) (by omega) (by omega)]
  refine Nm.mk_eq rfl ?_ ?_ ?_ ?_ ?_ ?_ ?_ ?_
  all_goals repeat (first | with_reducible rfl | omega | refine or_z ?_ (by omega) (by omega) (by omega) | simp)
theorem H29_0 {l : List R} {h : Int} {it : Bool} (hc : h - h / 8 % 16 * 8 = 18176) : searchP (row_29 :: l) h it = hit (true) ⟨39, 0, 0, 0, h / 8 % 16, 0, 2, 0, false⟩ (searchP l h it) :=
  hit_of (read_yes _ h it 39 _ _ ((congrArg _ ((cl_29 h).trans hc)).trans rfl) (in_29 h it 39) (allow_0 _ _))
theorem N29 {l : List R} {h : Int} {it : Bool} (hc : h - h / 8 % 16 * 8 ≠ 18176) : searchP (row_29 :: l) h it = searchP l h it := by
  refine s_no (read_no _ _ _ ?_)
  rw [cl_29 h]
  simp only [row_29, findB]
  rw [if_neg (by omega)]
  exact find_tail 5 _
theorem cl_30 (h : Int) : clears row_30.pcs h = h - h % 2048 := by
  simp only [row_30, clears, List.foldl_cons, List.foldl_nil, clearP, bitsP, Int.reduceToNat, Int.reducePow]
  omega
theorem in_30 (h : Int) (it : Bool) (op : Int) : insP row_30 h it op = ⟨op, 0, h / 256 % 8, 0, 0, h % 256 * 4, 1, 0, false⟩ := by
  simp only [insP, row_30, adds, List.foldl_cons, List.foldl_nil, addP, partP, bitsP, flagB, saysB, Int.reduceToNat, Int.reducePow, Int.reduceEq, reduceIte]
  try rw [Ow.or_at _ (h / 256 % 8) 0 3 1 8 rfl rfl (by decide) (by omega) (by omega) (by omega) (by omega) (by omega)]
  try rw [Ow.or_at _ (h / 1 % 256) 2 8 4 256 rfl rfl (by decide) (by omega) (by omega) (by omega) (by omega) (by omega)]
  refine Nm.mk_eq rfl ?_ ?_ ?_ ?_ ?_ ?_ ?_ ?_
  all_goals repeat (first | with_reducible rfl | omega | refine or_z ?_ (by omega) (by omega) (by omega) | simp)
theorem H30_0 {l : List R} {h : Int} {it : Bool} (hc : h - h % 2048 = 18432) : searchP (row_30 :: l) h it = hit (true) ⟨40, 0, h / 256 % 8, 0, 0, h % 256 * 4, 1, 0, false⟩ (searchP l h it) :=
  hit_of (read_yes _ h it 40 _ _ ((congrArg _ ((cl_30 h).trans hc)).trans rfl) (in_30 h it 40) (allow_0 _ _))
theorem H30_1 {l : List R} {h : Int} {it : Bool} (hc : h - h % 2048 = 40960) : searchP (row_30 :: l) h it = hit (true) ⟨41, 0, h / 256 % 8, 0, 0, h % 256 * 4, 1, 0, false⟩ (searchP l h it) :=
  hit_of (read_yes _ h it 41 _ _ ((congrArg _ ((cl_30 h).trans hc)).trans rfl) (in_30 h it 41) (allow_0 _ _))
theorem N30 {l : List R} {h : Int} {it : Bool} (hc : h - h % 2048 ≠ 18432 ∧ h - h % 2048 ≠ 40960) : searchP (row_30 :: l) h it = searchP l h it := by
  refine s_no (read_no _ _ _ ?_)
  rw [cl_30 h]
  simp only [row_30, findB]
  rw [if_neg (by omega), if_neg (by omega)]
  exact find_tail 4 _
theorem cl_31 (h : Int) : clears row_31.pcs h = h - h % 256 := by
  simp only [row_31, clears, List.foldl_cons, List.foldl_nil, clearP, bitsP, Int.reduceToNat, Int.reducePow]
  omega
theorem in_31 (h : Int) (it : Bool) (op : Int) : insP row_31 h it op = ⟨op, h / 16 % 16, 0, 0, 0, h % 16, 1, 0, false⟩ := by
  simp only [insP, row_31, adds, List.foldl_cons, List.foldl_nil, addP, partP, bitsP, flagB, saysB, Int.reduceToNat, Int.reducePow, Int.reduceEq, reduceIte]
  try rw [Ow.or_at _ (h / 16 % 16) 0 4 1 16 rfl rfl (by decide) (by omega) (by omega) (by omega) (by omega) (by omega)]
  try rw [Ow.or_at _ (h / 1 % 16) 0 4 1 16 rfl rfl (by decide) (by omega) (by omega) (by omega) (by omega) (by omega)]
  refine Nm.mk_eq rfl ?_ ?_ ?_ ?_ ?_ ?_ ?_ ?_
  all_goals repeat (first | with_reducible rfl | omega | refine or_z ?_ (by omega) (by omega) (by omega) | simp)
theorem H31_0 {l : List R} {h : Int} {it : Bool} (hc : h - h % 256 = 48896) : searchP (row_31 :: l) h it = hit (!it) ⟨42, h / 16 % 16, 0, 0, 0, h % 16, 1, 0, false⟩ (searchP l h it) :=
  hit_of (read_yes _ h it 42 _ _ ((congrArg _ ((cl_31 h).trans hc)).trans rfl) (in_31 h it 42) (allow_1 _ _))
theorem N31 {l : List R} {h : Int} {it : Bool} (hc : h - h % 256 ≠ 48896) : searchP (row_31 :: l) h it = searchP l h it := by
  refine s_no (read_no _ _ _ ?_)
  rw [cl_31 h]
  simp only [row_31, findB]
  rw [if_neg (by omega)]
  exact find_tail 5 _
theorem cl_32 (h : Int) : clears row_32.pcs h = h := by
  simp only [row_32, clears, List.foldl_cons, List.foldl_nil, clearP, bitsP, Int.reduceToNat, Int.reducePow]
  omega
theorem in_32 (h : Int) (it : Bool) (op : Int) : insP row_32 h it op = ⟨op, 0, 0, 0, 0, 0, 0, 0, false⟩ := by
  simp only [insP, row_32, adds, List.foldl_cons, List.foldl_nil, addP, partP, bitsP, flagB, saysB, Int.reduceToNat, Int.reducePow, Int.reduceEq, reduceIte]
  refine Nm.mk_eq rfl ?_ ?_ ?_ ?_ ?_ ?_ ?_ ?_
  all_goals repeat (first | with_reducible rfl | omega | refine or_z ?_ (by omega) (by omega) (by omega) | simp)
theorem H32_0 {l : List R} {h : Int} {it : Bool} (hc : h = 48896) : searchP (row_32 :: l) h it = hit (true) ⟨43, 0, 0, 0, 0, 0, 0, 0, false⟩ (searchP l h it) :=
  hit_of (read_yes _ h it 43 _ _ ((congrArg _ ((cl_32 h).trans hc)).trans rfl) (in_32 h it 43) (allow_0 _ _))
theorem N32 {l : List R} {h : Int} {it : Bool} (hc : h ≠ 48896) : searchP (row_32 :: l) h it = searchP l h it := by
  refine s_no (read_no _ _ _ ?_)
  rw [cl_32 h]
  simp only [row_32, findB]
  rw [if_neg (by omega)]
  exact find_tail 5 _
theorem cl_33 (h : Int) : clears row_33.pcs h = h - h % 256 := by
  simp only [row_33, clears, List.foldl_cons, List.foldl_nil, clearP, bitsP, Int.reduceToNat, Int.reducePow]
  omega
theorem in_33 (h : Int) (it : Bool) (op : Int) : insP row_33 h it op = ⟨op, 0, 0, 0, 0, h % 256, 1, 0, false⟩ := by
  simp only [insP, row_33, adds, List.foldl_cons, List.foldl_nil, addP, partP, bitsP, flagB, saysB, Int.reduceToNat, Int.reducePow, Int.reduceEq, reduceIte]
  try rw [Ow.or_at _ (h / 1 % 256) 0 8 1 256 rfl rfl (by decide) (by omega) (by omega) (by omega) (by omega) (by omega)]
  refine Nm.mk_eq rfl ?_ ?_ ?_ ?_ ?_ ?_ ?_ ?_
  all_goals repeat (first | with_reducible rfl | omega | refine or_z ?_ (by omega) (by omega) (by omega) | simp)
theorem H33_0 {l : List R} {h : Int} {it : Bool} (hc : h - h % 256 = 48640) : searchP (row_33 :: l) h it = hit (true) ⟨44, 0, 0, 0, 0, h % 256, 1, 0, false⟩ (searchP l h it) :=
  hit_of (read_yes _ h it 44 _ _ ((congrArg _ ((cl_33 h).trans hc)).trans rfl) (in_33 h it 44) (allow_0 _ _))
theorem N33 {l : List R} {h : Int} {it : Bool} (hc : h - h % 256 ≠ 48640) : searchP (row_33 :: l) h it = searchP l h it := by
  refine s_no (read_no _ _ _ ?_)
  rw [cl_33 h]
  simp only [row_33, findB]
  rw [if_neg (by omega)]
  exact find_tail 5 _
end Sp
end Go.Proofs.YtcphhojdfpedkaaDoor
