/- The contract of a form's fill: a loop over its pieces, an offset, a compare. No conditions but those that each fact names. -/
import Derived.Test.YtmofimgodmcdjaaDoorRows
import Derived.Test.YtmofimgodmcdjaaDoorGh
import Derived.Test.YtmofimgodmcdjaaDoorNw
import Derived.Test.YtmofimgodmcdjaaDoorGe
import Derived.ChangeKeysEq
namespace Go.Proofs.YtmofimgodmcdjaaDoor
open Go.ChangeShapes Go.WideShapes Go.ChangeAt Go.RowKit

/-- one piece: its bits into the halfword and out of the fields -/
def pcStep (s : Int × (Nat → Int)) (p : Pc) : Int × (Nat → Int) :=
  (bits .or .u32 s.1 (getI (s.2 p.f.toNat) p.hi p.lo * 2 ^ p.at_.toNat % 4294967296), fun j => if j = p.f.toNat then putI (s.2 p.f.toNat) p.hi p.lo 0 else s.2 j)
def fieldsF (cond rd rn rm imm list : Int) (j : Nat) : Int :=
  if j = 1 then rd % 4294967296 else if j = 2 then rn % 4294967296 else if j = 3 then rm % 4294967296 else if j = 4 then imm % 4294967296 else if j = 5 then list % 4294967296 else if j = 6 then cond % 4294967296 else 0
structure PcOk (p : Pc) : Prop where
  f0 : 0 ≤ p.f
  f1 : p.f < 7
  hi0 : 0 ≤ p.hi
  hi1 : p.hi < 32
  lo0 : 0 ≤ p.lo
  lo1 : p.lo < 32
  a0 : 0 ≤ p.at_
  a1 : p.at_ ≤ 32

theorem index_pc (f0 t0 l0 a0 f1 t1 l1 a1 f2 t2 l2 a2 f3 t3 l3 a3 : Int) (k : Nat) (hk : k < 4) (w : World) : (Instr.index 63 (.agg #[.int .i64 f0, .int .i64 t0, .int .i64 l0, .int .i64 a0, .int .i64 f1, .int .i64 t1, .int .i64 l1, .int .i64 a1, .int .i64 f2, .int .i64 t2, .int .i64 l2, .int .i64 a2, .int .i64 f3, .int .i64 t3, .int .i64 l3, .int .i64 a3]) (.int .i64 (k : Int))).run Tryd.prog w = .ok (.agg (pcC (([⟨f0, t0, l0, a0⟩, ⟨f1, t1, l1, a1⟩, ⟨f2, t2, l2, a2⟩, ⟨f3, t3, l3, a3⟩] : List Pc).getD k ⟨0, 0, 0, 0⟩)).toArray) w := by
  rcases (by omega : k = 0 ∨ k = 1 ∨ k = 2 ∨ k = 3) with rfl | rfl | rfl | rfl <;> kernel_rfl

theorem under61 : Tryd.prog.underlying 82 = some (.array 7 41) := by kernel_rfl
theorem under59 : Tryd.prog.underlying 41 = some (.int .u32) := by kernel_rfl
theorem cells59 : Tryd.prog.cellsOf 41 = 1 := by kernel_rfl
theorem info59 : (Tryd.prog.info? 41).isSome = true := by kernel_rfl
theorem agg59 (W : World) : (isAgg 41).run Tryd.prog W = .ok false W := by
  unfold isAgg
  rw [Sem.run_bind, run_underlying under59 W]
  rfl
def z7 (x0 x1 x2 x3 x4 x5 x6 : Int) : Bool := (x0 == 0 && (x1 == 0 && (x2 == 0 && (x3 == 0 && (x4 == 0 && (x5 == 0 && (x6 == 0)))))))
theorem eq7 (x0 x1 x2 x3 x4 x5 x6 : Int) (W : World) : (Op.equalIn 10000 82 (.agg #[.int .u32 x0, .int .u32 x1, .int .u32 x2, .int .u32 x3, .int .u32 x4, .int .u32 x5, .int .u32 x6]) (.agg #[.int .u32 0, .int .u32 0, .int .u32 0, .int .u32 0, .int .u32 0, .int .u32 0, .int .u32 0])).run Tryd.prog W = .ok (z7 x0 x1 x2 x3 x4 x5 x6) W := by
  obtain ⟨i, hi⟩ := Option.isSome_iff_exists.1 info59
  refine (run_equalIn_array W 9999 _ _ under61 hi).trans ?_
  rw [cells59, show List.range 7 = [0, 1, 2, 3, 4, 5, 6] from rfl]
  have step : ∀ (a b : Int) (W : World), (Op.equalIn 9999 41 (.int .u32 a) (.int .u32 b)).run Tryd.prog W = .ok (a == b) W := fun a b W => run_equalIn_int W 9998 41 .u32 .u32 a b under59
  simp only [Op.eqItems, part, Sem.run_bind, agg59, Result.andThen_ok]
  simp
  simp only [step, Result.andThen_ok, z7]
  cases x0 == 0 <;> cases x1 == 0 <;> cases x2 == 0 <;> cases x3 == 0 <;> cases x4 == 0 <;> cases x5 == 0 <;> cases x6 == 0 <;> rfl

def zeroL (L : Nat → Int) : Bool := z7 (L 0) (L 1) (L 2) (L 3) (L 4) (L 5) (L 6)
/-- what fill comes to, behind its pieces -/
def fillEnd (HV : Int) (LV : Nat → Int) (kd imm : Int) : Option Int :=
  if fitsB kd imm = true then (if zeroL (fun j => if j = 4 then 0 else LV j) = true then some (bits .or .u32 HV (putA kd imm % 4294967296)) else none)
  else if zeroL LV = true then some HV else none
def optV : Option Int → Value
  | none => .tuple #[.int .i64 0, .bool false]
  | some h => .tuple #[.int .i64 h, .bool true]
theorem ret_optV {a : Value} {o p : Option Int} (h : a = optV o) (h2 : o = p) : Ending.returned a = .returned (optV p) := by rw [h, h2]

theorem bits_or_bd (a b : Int) (ha0 : 0 ≤ a) (ha1 : a < 4294967296) (hb0 : 0 ≤ b) (hb1 : b < 4294967296) : 0 ≤ bits .or .u32 a b ∧ bits .or .u32 a b < 4294967296 := by
  obtain ⟨A, rfl⟩ := Int.eq_ofNat_of_zero_le ha0
  obtain ⟨B, rfl⟩ := Int.eq_ofNat_of_zero_le hb0
  rw [u32_or_nat A B (by omega) (by omega)]
  have := Nat.or_lt_two_pow (n := 32) (x := A) (y := B) (by omega) (by omega)
  omega

theorem pcStep_bd (H : Int) (L : Nat → Int) (p : Pc) (hH0 : 0 ≤ H) (hH1 : H < 4294967296) (hL : ∀ j, 0 ≤ L j ∧ L j < 4294967296) : (0 ≤ (pcStep (H, L) p).1 ∧ (pcStep (H, L) p).1 < 4294967296) ∧ ∀ j, 0 ≤ (pcStep (H, L) p).2 j ∧ (pcStep (H, L) p).2 j < 4294967296 := by
  refine ⟨bits_or_bd _ _ hH0 hH1 (by omega) (by omega), fun j => ?_⟩
  · show 0 ≤ (if j = p.f.toNat then _ else _) ∧ (if j = p.f.toNat then _ else _) < 4294967296
    split
    · exact putI_bd _ _ _ _ (hL _).1 (hL _).2
    · exact hL j

theorem fieldsF_bd (cond rd rn rm imm list : Int) (j : Nat) : 0 ≤ fieldsF cond rd rn rm imm list j ∧ fieldsF cond rd rn rm imm list j < 4294967296 := by
  unfold fieldsF
  repeat' split
  all_goals omega
theorem fields_cells (cond rd rn rm imm list : Int) (j : Nat) (hj : j < 7) : (#[.int .u32 0, .int .u32 (rd % 4294967296), .int .u32 (rn % 4294967296), .int .u32 (rm % 4294967296), .int .u32 (imm % 4294967296), .int .u32 (list % 4294967296), .int .u32 (cond % 4294967296)] : Array Value)[j]? = some (.int .u32 (fieldsF cond rd rn rm imm list j)) := by
  rcases (by omega : j = 0 ∨ j = 1 ∨ j = 2 ∨ j = 3 ∨ j = 4 ∨ j = 5 ∨ j = 6) with rfl | rfl | rfl | rfl | rfl | rfl | rfl <;> rfl
theorem two_boxes {w w1 : World} {A B : Array Value} {tA tB : TypeId} (hb : Below ((w.alloc (.cells A tA)).alloc (.cells B tB)).heap.size ((w.alloc (.cells A tA)).alloc (.cells B tB)) w1) :
    (∀ j, w1.cell? ⟨w.heap.size, j, none⟩ = A[j]?) ∧ (∀ j, w1.cell? ⟨w.heap.size + 1, j, none⟩ = B[j]?) ∧ w.heap.size + 1 < w1.heap.size ∧ Below w.heap.size w w1 := by
  have hs := hb.size
  simp at hs
  refine ⟨fun j => ?_, fun j => ?_, by omega, (((Below.refl _ _).alloc (Nat.le_refl _) _).alloc (by simp) _).trans (hb.mono (by simp; omega))⟩
  · refine (hb.cell (p := ⟨w.heap.size, j, none⟩) (by simp; omega)).trans ?_
    exact (World.cell?_alloc_lt _ _ ⟨w.heap.size, j, none⟩ (by simp)).trans (World.cell?_alloc_new w A tA j)
  · refine (hb.cell (p := ⟨w.heap.size + 1, j, none⟩) (by simp)).trans ?_
    have h := World.cell?_alloc_new (w.alloc (.cells A tA)) B tB j
    rwa [show (w.alloc (.cells A tA)).heap.size = w.heap.size + 1 by simp] at h

set_option linter.unusedSimpArgs false in
set_option maxRecDepth 100000 in
set_option maxHeartbeats 4000000 in
theorem fill_c (o0 o1 o2 o3 o4 o5 o6 o7 o8 o9 o10 o11 asks f0 t0 l0 a0 f1 t1 l1 a1 f2 t2 l2 a2 f3 t3 l3 a3 kd hw op cond rd rn rm imm mode list : Int) (s : Bool) (w : World) (hT : Tabs w) (hw0 : 0 ≤ hw) (hw1 : hw < 65536) (hok : ∀ p ∈ ([⟨f0, t0, l0, a0⟩, ⟨f1, t1, l1, a1⟩, ⟨f2, t2, l2, a2⟩, ⟨f3, t3, l3, a3⟩] : List Pc), PcOk p) :
    Calls Tryd.prog 19 #[.agg #[.int .i64 o0, .int .i64 o1, .int .i64 o2, .int .i64 o3, .int .i64 o4, .int .i64 o5, .int .i64 o6, .int .i64 o7, .int .i64 o8, .int .i64 o9, .int .i64 o10, .int .i64 o11, .int .i64 asks, .int .i64 f0, .int .i64 t0, .int .i64 l0, .int .i64 a0, .int .i64 f1, .int .i64 t1, .int .i64 l1, .int .i64 a1, .int .i64 f2, .int .i64 t2, .int .i64 l2, .int .i64 a2, .int .i64 f3, .int .i64 t3, .int .i64 l3, .int .i64 a3, .int .i64 kd], .int .i64 hw, .agg #[.int .i64 op, .int .i64 cond, .int .i64 rd, .int .i64 rn, .int .i64 rm, .int .i64 imm, .int .i64 mode, .int .i64 list, .bool s]] w fun e w' => e = .returned (optV (fillEnd (([⟨f0, t0, l0, a0⟩, ⟨f1, t1, l1, a1⟩, ⟨f2, t2, l2, a2⟩, ⟨f3, t3, l3, a3⟩] : List Pc).foldl pcStep (hw, fieldsF cond rd rn rm imm list)).1 (([⟨f0, t0, l0, a0⟩, ⟨f1, t1, l1, a1⟩, ⟨f2, t2, l2, a2⟩, ⟨f3, t3, l3, a3⟩] : List Pc).foldl pcStep (hw, fieldsF cond rd rn rm imm list)).2 kd imm)) ∧ Below w.heap.size w w' := by
  have hidx := fun k hk W => index_pc f0 t0 l0 a0 f1 t1 l1 a1 f2 t2 l2 a2 f3 t3 l3 a3 k hk W
  have hlen : ([⟨f0, t0, l0, a0⟩, ⟨f1, t1, l1, a1⟩, ⟨f2, t2, l2, a2⟩, ⟨f3, t3, l3, a3⟩] : List Pc).length = 4 := rfl
  obtain ⟨HV, LV, hV⟩ : ∃ HV LV, ([⟨f0, t0, l0, a0⟩, ⟨f1, t1, l1, a1⟩, ⟨f2, t2, l2, a2⟩, ⟨f3, t3, l3, a3⟩] : List Pc).foldl pcStep (hw, fieldsF cond rd rn rm imm list) = (HV, LV) := ⟨_, _, rfl⟩
  generalize ([⟨f0, t0, l0, a0⟩, ⟨f1, t1, l1, a1⟩, ⟨f2, t2, l2, a2⟩, ⟨f3, t3, l3, a3⟩] : List Pc) = ps at *
  rw [hV]
  have HX0 := Lib.hid hV
  clear hV
  have HOK := Lib.hid hok
  have HI := Lib.hid hidx
  have HL := Lib.hid hlen
  clear hok hidx hlen
  go_enter Tryd.func19, Tryd.ntmps19
  go_wp2_with ((go_at_call 50; refine (fieldsOf_c op cond rd rn rm imm mode list s _).mono ?_; rintro e w1 ⟨rfl, hb1⟩; obtain ⟨hA, hB, hz, hbel1⟩ := two_boxes hb1; clear hb1; have hz0 : w.heap.size < w1.heap.size := by omega))
  go_loopw [8, 20] (fun hv iv wr => ∃ (k : Nat) (H : Int) (L : Nat → Int), k ≤ 4 ∧ iv = .int .i64 (k : Int) ∧ hv = .int .u32 H ∧ 0 ≤ H ∧ H < 4294967296 ∧ RowKit.Hid (∀ j, 0 ≤ L j ∧ L j < 4294967296) ∧ RowKit.Hid ((ps.drop k).foldl pcStep (H, L) = (HV, LV)) ∧
    RowKit.Hid (∀ j, j < 7 → wr.cell? ⟨w1.heap.size, j, none⟩ = some (.int .u32 (L j)) ∧ wr.frozen? ⟨w1.heap.size, j, none⟩ = false) ∧ w1.heap.size < wr.heap.size ∧ Below w1.heap.size w1 wr) (fun _ iv _ => (4 - intOf iv).toNat)
  case atStart =>
    exact ⟨0, hw, fieldsF cond rd rn rm imm list, by omega, rfl, rfl, hw0, by omega, Lib.hid (fieldsF_bd _ _ _ _ _ _), HX0, Lib.hid (fun j hj => ⟨(World.cell?_alloc_new w1 _ _ j).trans (fields_cells _ _ _ _ _ _ j hj), World.frozen?_alloc_new w1 _ _ j⟩), by simp, (Below.refl _ _).alloc (Nat.le_refl _) _⟩
  case round =>
    obtain ⟨k, H, L, hk4, rfl, rfl, hH0, hH1, HLb, HX, HC, hlt, hbel⟩ := hrel
    by_cases hi : k < 4
    · have hidx : ∀ W : World, (Instr.index 63 (.agg #[.int .i64 f0, .int .i64 t0, .int .i64 l0, .int .i64 a0, .int .i64 f1, .int .i64 t1, .int .i64 l1, .int .i64 a1, .int .i64 f2, .int .i64 t2, .int .i64 l2, .int .i64 a2, .int .i64 f3, .int .i64 t3, .int .i64 l3, .int .i64 a3]) (.int .i64 (k : Int))).run Tryd.prog W = .ok (.agg (pcC (ps.getD k ⟨0, 0, 0, 0⟩)).toArray) W := fun W => HI.out k hi W
      have hmem : ps.getD k ⟨0, 0, 0, 0⟩ ∈ ps := by
        have hl := HL.out
        have hkl : k < ps.length := by omega
        rw [List.getD_eq_getElem?_getD, List.getElem?_eq_getElem hkl]
        exact List.getElem_mem _
      have hok := HOK.out _ hmem
      have HN := Lib.hid (show (ps.drop (k + 1)).foldl pcStep (pcStep (H, L) (ps.getD k ⟨0, 0, 0, 0⟩)) = (HV, LV) by
        have hl := HL.out
        have hkl : k < ps.length := by omega
        rw [← HX.out, List.drop_eq_getElem_cons hkl, List.foldl_cons, List.getD_eq_getElem?_getD, List.getElem?_eq_getElem hkl]; rfl)
      clear HX hmem
      generalize ps.getD k ⟨0, 0, 0, 0⟩ = pp at *
      obtain ⟨pf, phi, plo, pat⟩ := pp
      unfold pcC at hidx
      dsimp only at hidx
      obtain ⟨q1, q2, q3, q4, q5, q6, q7, q8⟩ := hok
      dsimp only at q1 q2 q3 q4 q5 q6 q7 q8
      obtain ⟨q, rfl⟩ := Int.eq_ofNat_of_zero_le q1
      have hq : q < 7 := by omega
      obtain ⟨hc, hf⟩ := HC.out q hq
      have hx := HLb.out q
      obtain ⟨hx0, hx1⟩ := hx
      obtain ⟨x, ex⟩ : ∃ x, L q = x := ⟨_, rfl⟩
      rw [ex] at hc hx0 hx1
      have EX := Lib.hid ex
      clear ex
      go_wp2
      go_quiet ((go_at_call 16; first | exact Calls.quiet_of (get_c _ _ _ _ hx0 hx1) | exact drawn_on (get_c _ _ _ _ hx0 hx1)))
      go_wp2
      refine wp_region_G 12 (S := (fun W => W.cell? ⟨wr.heap.size, 0, none⟩ = some (.int .i64 (q : Int)) ∧ W.cell? ⟨wr.heap.size, 1, none⟩ = some (.int .i64 phi) ∧ W.cell? ⟨wr.heap.size, 2, none⟩ = some (.int .i64 plo) ∧ W.cell? ⟨w1.heap.size, q, none⟩ = some (.int .u32 x))) (by kernel_rfl) (by go_keep) (fun hHeld => ?_)
      refine wpAnyG_take (i := 0) (v := ?_) rfl (by kernel_rfl) (fun _ _ _ h => h) (Or.inl ⟨by rfl, ?_⟩) hHeld ?_; rotate_left
      · (intro W hSw; (try dsimp only at hSw); go_simp) <;> with_reducible rfl
      try simp only [Act.put, List.setIfInBounds_toArray, List.set_cons_zero, List.set_cons_succ]
      refine wpAnyG_take (i := 1) (v := ?_) rfl (by kernel_rfl) (fun _ _ _ h => h) (Or.inl ⟨by rfl, ?_⟩) hHeld ?_; rotate_left
      · (intro W hSw; (try dsimp only at hSw); go_simp) <;> with_reducible rfl
      try simp only [Act.put, List.setIfInBounds_toArray, List.set_cons_zero, List.set_cons_succ]
      refine wpAnyG_take (i := 2) (v := ?_) rfl (by kernel_rfl) (fun _ _ _ h => h) (Or.inl ⟨by rfl, ?_⟩) hHeld ?_; rotate_left
      · (intro W hSw; (try dsimp only at hSw); go_simp) <;> with_reducible rfl
      try simp only [Act.put, List.setIfInBounds_toArray, List.set_cons_zero, List.set_cons_succ]
      refine wpAnyG_take (i := 3) (v := ?_) rfl (by kernel_rfl) (fun _ _ _ h => h) (Or.inl ⟨by rfl, ?_⟩) hHeld ?_; rotate_left
      · (intro W hSw; (try dsimp only at hSw); go_simp) <;> with_reducible rfl
      try simp only [Act.put, List.setIfInBounds_toArray, List.set_cons_zero, List.set_cons_succ]
      refine wpAnyG_take (i := 4) (v := ?_) rfl (by kernel_rfl) (fun _ _ _ h => h) (Or.inl ⟨by rfl, ?_⟩) hHeld ?_; rotate_left
      · (intro W hSw; (try dsimp only at hSw); go_simp) <;> with_reducible rfl
      try simp only [Act.put, List.setIfInBounds_toArray, List.set_cons_zero, List.set_cons_succ]
      refine wpAnyG_take (i := 5) (v := ?_) rfl (by kernel_rfl) (fun _ _ _ h => h) (Or.inl ⟨by rfl, ?_⟩) hHeld ?_; rotate_left
      · (intro W hSw; (try dsimp only at hSw); go_simp) <;> with_reducible rfl
      try simp only [Act.put, List.setIfInBounds_toArray, List.set_cons_zero, List.set_cons_succ]
      refine wpAnyG_take (i := 6) (v := ?_) rfl (by kernel_rfl) (fun _ _ _ h => h) (Or.inl ⟨by rfl, ?_⟩) hHeld ?_; rotate_left
      · (intro W hSw; (try dsimp only at hSw); go_simp) <;> with_reducible rfl
      try simp only [Act.put, List.setIfInBounds_toArray, List.set_cons_zero, List.set_cons_succ]
      refine wpAnyG_take (i := 7) (v := ?_) rfl (by kernel_rfl) (fun _ _ _ h => h) (Or.inl ⟨by rfl, ?_⟩) hHeld ?_; rotate_left
      · (intro W hSw; (try dsimp only at hSw); go_simp) <;> with_reducible rfl
      try simp only [Act.put, List.setIfInBounds_toArray, List.set_cons_zero, List.set_cons_succ]
      refine wpAnyG_take (i := 8) (v := ?_) rfl (by kernel_rfl) (fun _ _ _ h => h) (Or.inl ⟨by rfl, ?_⟩) hHeld ?_; rotate_left
      · (intro W hSw; (try dsimp only at hSw); go_simp) <;> with_reducible rfl
      try simp only [Act.put, List.setIfInBounds_toArray, List.set_cons_zero, List.set_cons_succ]
      refine wpAnyG_take (i := 9) (v := ?_) rfl (by kernel_rfl) (fun _ _ _ h => h) (Or.inl ⟨by rfl, ?_⟩) hHeld ?_; rotate_left
      · (intro W hSw; (try dsimp only at hSw); go_simp) <;> with_reducible rfl
      try simp only [Act.put, List.setIfInBounds_toArray, List.set_cons_zero, List.set_cons_succ]
      refine wpAnyG_step (i := 10) rfl (by kernel_rfl) (fun K hK => ?_)
      go_simp
      refine (put_c _ _ _ _ _ hx0 hx1 (by decide) (by decide)).mono ?_; rintro e w2 ⟨rfl, n2, rfl⟩
      go_wp2_with fail
      refine hK.out _ _ (by go_keep) (fun hHeld => ?_)
      clear hK K
      try simp only [Act.put, List.setIfInBounds_toArray, List.set_cons_zero, List.set_cons_succ]
      refine wpAnyG_take (i := 11) (v := ?_) rfl (by kernel_rfl) (fun _ _ _ h => h) (Or.inl ⟨by rfl, ?_⟩) hHeld ?_; rotate_left
      · (intro W hSw; (try dsimp only at hSw); go_simp) <;> with_reducible rfl
      try simp only [Act.put, List.setIfInBounds_toArray, List.set_cons_zero, List.set_cons_succ]
      refine wpAnyG_last (n := 12) rfl (by kernel_rfl) (by kernel_rfl) (fun K hK => ?_)
      go_simp
      refine hK.out _ _ ?_
      go_wp2
      go_roundw
      case rel =>
        have hp0 : 0 ≤ getI x phi plo * 2 ^ pat.toNat % 4294967296 := by omega
        have hp1 : getI x phi plo * 2 ^ pat.toNat % 4294967296 < 4294967296 := by omega
        have hbd := bits_or_bd H _ hH0 hH1 hp0 hp1
        have hL2 : ∀ j, 0 ≤ (if j = q then putI x phi plo 0 else L j) ∧ (if j = q then putI x phi plo 0 else L j) < 4294967296 := fun j => by
          split
          · exact putI_bd _ _ _ _ hx0 hx1
          · exact HLb.out j
        refine ⟨k + 1, bits .or .u32 H (getI x phi plo * 2 ^ pat.toNat % 4294967296), (fun j => if j = q then putI x phi plo 0 else L j), by omega, rfl, rfl, hbd.1, hbd.2, Lib.hid hL2, Lib.hid ?_, Lib.hid ?_, ?_, ?_⟩
        · rw [← HN.out]
          unfold pcStep
          simp only [Int.toNat_natCast, EX.out]
        · intro j hj
          obtain ⟨g1, g2⟩ := HC.out j hj
          dsimp only
          by_cases hjq : j = q
          · subst hjq
            rw [if_pos rfl]
            refine ⟨?_, ?_⟩
            · go_simp
            · go_simp
          · rw [if_neg hjq]
            refine ⟨?_, ?_⟩
            · go_simp
            · go_simp
        · simp [World.setCell]; omega
        · exact below_drewN ((hbel.setCell (by show w1.heap.size ≤ w1.heap.size; omega) _).alloc (by simp [World.setCell]; omega) _) _
      case measure => simp [intOf]; omega
    · have hk : wr.cell? ⟨w.heap.size, 29, none⟩ = some (.int .i64 kd) := (hbel.cell (p := ⟨w.heap.size, 29, none⟩) hz0).trans (hA 29)
      have h5 : wr.cell? ⟨w.heap.size + 1, 5, none⟩ = some (.int .i64 imm) := (hbel.cell (p := ⟨w.heap.size + 1, 5, none⟩) hz).trans (hB 5)
      have hbelw : Below w.heap.size w wr := hbel1.trans (hbel.mono (by omega))
      have hT1 : Tabs wr := hT.below hbelw hT.big
      clear hA hB
      go_wp2_with fail
      refine (fits_c _ _ _ hT1).mono ?_
      rintro e w2 ⟨rfl, hb2⟩
      have hk4' : k = 4 := by omega
      subst hk4'
      have HE := HX.out
      rw [List.drop_of_length_le (by rw [HL.out]; exact Nat.le_refl _)] at HE
      simp only [List.foldl_nil, Prod.mk.injEq] at HE
      obtain ⟨rfl, rfl⟩ := HE
      clear HX
      obtain ⟨c0, z0⟩ := HC.out 0 (by decide)
      obtain ⟨x0, e0⟩ : ∃ x, L 0 = x := ⟨_, rfl⟩
      rw [e0] at c0
      replace e0 := Lib.hid e0
      obtain ⟨c1, z1⟩ := HC.out 1 (by decide)
      obtain ⟨x1, e1⟩ : ∃ x, L 1 = x := ⟨_, rfl⟩
      rw [e1] at c1
      replace e1 := Lib.hid e1
      obtain ⟨c2, z2⟩ := HC.out 2 (by decide)
      obtain ⟨x2, e2⟩ : ∃ x, L 2 = x := ⟨_, rfl⟩
      rw [e2] at c2
      replace e2 := Lib.hid e2
      obtain ⟨c3, z3⟩ := HC.out 3 (by decide)
      obtain ⟨x3, e3⟩ : ∃ x, L 3 = x := ⟨_, rfl⟩
      rw [e3] at c3
      replace e3 := Lib.hid e3
      obtain ⟨c4, z4⟩ := HC.out 4 (by decide)
      obtain ⟨x4, e4⟩ : ∃ x, L 4 = x := ⟨_, rfl⟩
      rw [e4] at c4
      replace e4 := Lib.hid e4
      obtain ⟨c5, z5⟩ := HC.out 5 (by decide)
      obtain ⟨x5, e5⟩ : ∃ x, L 5 = x := ⟨_, rfl⟩
      rw [e5] at c5
      replace e5 := Lib.hid e5
      obtain ⟨c6, z6⟩ := HC.out 6 (by decide)
      obtain ⟨x6, e6⟩ : ∃ x, L 6 = x := ⟨_, rfl⟩
      rw [e6] at c6
      replace e6 := Lib.hid e6
      clear HC
      cases hf : fitsB kd imm with
      | false =>
        have d0 : w2.cell? ⟨w1.heap.size, 0, none⟩ = some (.int .u32 x0) := (hb2.cell (p := ⟨w1.heap.size, 0, none⟩) hlt).trans c0
        have d1 : w2.cell? ⟨w1.heap.size, 1, none⟩ = some (.int .u32 x1) := (hb2.cell (p := ⟨w1.heap.size, 1, none⟩) hlt).trans c1
        have d2 : w2.cell? ⟨w1.heap.size, 2, none⟩ = some (.int .u32 x2) := (hb2.cell (p := ⟨w1.heap.size, 2, none⟩) hlt).trans c2
        have d3 : w2.cell? ⟨w1.heap.size, 3, none⟩ = some (.int .u32 x3) := (hb2.cell (p := ⟨w1.heap.size, 3, none⟩) hlt).trans c3
        have d4 : w2.cell? ⟨w1.heap.size, 4, none⟩ = some (.int .u32 x4) := (hb2.cell (p := ⟨w1.heap.size, 4, none⟩) hlt).trans c4
        have d5 : w2.cell? ⟨w1.heap.size, 5, none⟩ = some (.int .u32 x5) := (hb2.cell (p := ⟨w1.heap.size, 5, none⟩) hlt).trans c5
        have d6 : w2.cell? ⟨w1.heap.size, 6, none⟩ = some (.int .u32 x6) := (hb2.cell (p := ⟨w1.heap.size, 6, none⟩) hlt).trans c6
        have hbf : Below w.heap.size w w2 := hbelw.trans (hb2.mono hbelw.size)
        clear c0 z0 c1 z1 c2 z2 c3 z3 c4 z4 c5 z5 c6 z6 hb2 hk h5 hbel hbel1 hT hT1
        cases hz7 : z7 x0 x1 x2 x3 x4 x5 x6 with
        | false =>
          have heq : ∀ W : World, (Op.equalIn 10000 82 (.agg #[.int .u32 x0, .int .u32 x1, .int .u32 x2, .int .u32 x3, .int .u32 x4, .int .u32 x5, .int .u32 x6]) (.agg #[.int .u32 0, .int .u32 0, .int .u32 0, .int .u32 0, .int .u32 0, .int .u32 0, .int .u32 0])).run Tryd.prog W = .ok false W := fun W => (eq7 _ _ _ _ _ _ _ W).trans (by rw [hz7])
          go_wp2
          have hO : fillEnd H L kd imm = none := by
            unfold fillEnd zeroL
            rw [hf, e0.out, e1.out, e2.out, e3.out, e4.out, e5.out, e6.out, hz7]
            rfl
          rw [hO]
          go_ret2
          exact ⟨rfl, hbf⟩
        | true =>
          have heq : ∀ W : World, (Op.equalIn 10000 82 (.agg #[.int .u32 x0, .int .u32 x1, .int .u32 x2, .int .u32 x3, .int .u32 x4, .int .u32 x5, .int .u32 x6]) (.agg #[.int .u32 0, .int .u32 0, .int .u32 0, .int .u32 0, .int .u32 0, .int .u32 0, .int .u32 0])).run Tryd.prog W = .ok true W := fun W => (eq7 _ _ _ _ _ _ _ W).trans (by rw [hz7])
          go_wp2
          have hO : fillEnd H L kd imm = some H := by
            unfold fillEnd zeroL
            rw [hf, e0.out, e1.out, e2.out, e3.out, e4.out, e5.out, e6.out, hz7]
            rfl
          rw [hO]
          go_ret2
          exact ⟨rfl, hbf⟩
      | true =>
        have hk2 : w2.cell? ⟨w.heap.size, 29, none⟩ = some (.int .i64 kd) := (hb2.cell (p := ⟨w.heap.size, 29, none⟩) (by show w.heap.size < wr.heap.size; omega)).trans hk
        have h52 : w2.cell? ⟨w.heap.size + 1, 5, none⟩ = some (.int .i64 imm) := (hb2.cell (p := ⟨w.heap.size + 1, 5, none⟩) (by show w.heap.size + 1 < wr.heap.size; omega)).trans h5
        have hT2 : Tabs w2 := hT1.below hb2 hT1.big
        have hs2 := hb2.size
        clear hk h5
        go_wp2_with fail
        refine (oput_c _ _ _ hT2 hf).mono ?_
        rintro e w3 ⟨rfl, hb3⟩
        have hb23 : Below wr.heap.size wr w3 := hb2.trans (hb3.mono hs2)
        have d0 : w3.cell? ⟨w1.heap.size, 0, none⟩ = some (.int .u32 x0) := (hb23.cell (p := ⟨w1.heap.size, 0, none⟩) hlt).trans c0
        have d1 : w3.cell? ⟨w1.heap.size, 1, none⟩ = some (.int .u32 x1) := (hb23.cell (p := ⟨w1.heap.size, 1, none⟩) hlt).trans c1
        have d2 : w3.cell? ⟨w1.heap.size, 2, none⟩ = some (.int .u32 x2) := (hb23.cell (p := ⟨w1.heap.size, 2, none⟩) hlt).trans c2
        have d3 : w3.cell? ⟨w1.heap.size, 3, none⟩ = some (.int .u32 x3) := (hb23.cell (p := ⟨w1.heap.size, 3, none⟩) hlt).trans c3
        have d4 : w3.cell? ⟨w1.heap.size, 4, none⟩ = some (.int .u32 x4) := (hb23.cell (p := ⟨w1.heap.size, 4, none⟩) hlt).trans c4
        have d5 : w3.cell? ⟨w1.heap.size, 5, none⟩ = some (.int .u32 x5) := (hb23.cell (p := ⟨w1.heap.size, 5, none⟩) hlt).trans c5
        have d6 : w3.cell? ⟨w1.heap.size, 6, none⟩ = some (.int .u32 x6) := (hb23.cell (p := ⟨w1.heap.size, 6, none⟩) hlt).trans c6
        have hbd := bits_or_bd H (putA kd imm % 4294967296) hH0 hH1 (by omega) (by omega)
        obtain ⟨hbd0, hbd1⟩ := hbd
        have d4f : w3.frozen? ⟨w1.heap.size, 4, none⟩ = false := (hb23.frozen (p := ⟨w1.heap.size, 4, none⟩) hlt).trans z4
        have hbf : Below w.heap.size w w3 := hbelw.trans (hb23.mono hbelw.size)
        clear c0 z0 c1 z1 c2 z2 c3 z3 c4 z4 c5 z5 c6 z6 hb2 hb3 hb23 hk2 h52 hbel hbel1 hT hT1 hT2
        cases hz7 : z7 x0 x1 x2 x3 0 x5 x6 with
        | false =>
          have heq : ∀ W : World, (Op.equalIn 10000 82 (.agg #[.int .u32 x0, .int .u32 x1, .int .u32 x2, .int .u32 x3, .int .u32 0, .int .u32 x5, .int .u32 x6]) (.agg #[.int .u32 0, .int .u32 0, .int .u32 0, .int .u32 0, .int .u32 0, .int .u32 0, .int .u32 0])).run Tryd.prog W = .ok false W := fun W => (eq7 _ _ _ _ _ _ _ W).trans (by rw [hz7])
          go_wp2
          have hO : fillEnd H L kd imm = none := by
            unfold fillEnd zeroL
            simp only [hf, e0.out, e1.out, e2.out, e3.out, e5.out, e6.out, hz7, Nat.reduceEqDiff, if_true, if_false, Bool.false_eq_true]
          rw [hO]
          go_ret2
          exact ⟨rfl, hbf.setCell (by show w.heap.size ≤ w1.heap.size; omega) _⟩
        | true =>
          have heq : ∀ W : World, (Op.equalIn 10000 82 (.agg #[.int .u32 x0, .int .u32 x1, .int .u32 x2, .int .u32 x3, .int .u32 0, .int .u32 x5, .int .u32 x6]) (.agg #[.int .u32 0, .int .u32 0, .int .u32 0, .int .u32 0, .int .u32 0, .int .u32 0, .int .u32 0])).run Tryd.prog W = .ok true W := fun W => (eq7 _ _ _ _ _ _ _ W).trans (by rw [hz7])
          go_wp2
          have hO : fillEnd H L kd imm = some (bits .or .u32 H (putA kd imm % 4294967296)) := by
            unfold fillEnd zeroL
            simp only [hf, e0.out, e1.out, e2.out, e3.out, e5.out, e6.out, hz7, Nat.reduceEqDiff, if_true, if_false]
          rw [hO]
          go_ret2
          exact ⟨rfl, hbf.setCell (by show w.heap.size ≤ w1.heap.size; omega) _⟩
end Go.Proofs.YtmofimgodmcdjaaDoor
