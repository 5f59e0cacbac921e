/- Contracts of the program's Name and Find. -/
import Derived.Test.YtdnggaomdbdieaaRows
import Derived.Test.YtdnggaomdbdieaaRe
namespace Go.Proofs.Ytdnggaomdbdieaa
open Go.ChangeShapes Go.WideShapes Go.ChangeAt Go.RowKit Go.Shelf
attribute [local go_sem] Oper.semAt_some

theorem fin_all (p : Fin 19 → Prop) (h : ∀ y ∈ List.finRange 19, p y) (k : Nat) (hk : k < 19) : p ⟨k, hk⟩ := h _ (List.mem_finRange _)

set_option maxRecDepth 100000 in
set_option maxHeartbeats 2000000 in
theorem name_in (F : Fence) (n : Nat) (h8 : F.fn 8) (h22 : F.fn 22) (hro : F.round = none) (hn : 3 ≤ n) (r : Int) (hr : r ≤ 15) (w : World) :
    CallsIn F n Try.prog 8 #[.int .i64 r] w fun e W' => e = .returned (.string ⟨(Rm.nameI r).toArray⟩) ∧ Below w.heap.size w W' := by
  have h1 : 1 ≤ n := by omega
  refine callsIn_of_wp_marks Try.func8 rfl h8 ?_ hro
  simp only [Try.ntmps8, List.size_toArray, List.length_cons, List.length_nil, Nat.reduceAdd, Nat.reduceSub, Array.replicate_succ, Array.replicate_zero, List.push_toArray, List.append_toArray, List.nil_append, List.cons_append]
  gi_wp2
  have c0 := (Boxed.new w 3 (.int .i64 r)).alloc (.cells #[.string ⟨#[]⟩] 9)
  have c1 := Boxed.new (w.alloc (.cells #[.int .i64 r] 3)) 9 (.string ⟨#[]⟩)
  rw [World.size_alloc] at c1
  have hB0 : Below w.heap.size w ((w.alloc (.cells #[.int .i64 r] 3)).alloc (.cells #[.string ⟨#[]⟩] 9)) := ((Below.refl _ w).alloc (Nat.le_refl _) _).alloc (by simp) _
  refine wpIn_rangeFunc_ownF hro h1 (gf := 22) (lb := #[]) rfl h22 (enters_of Try.func22 (by kernel_rfl) rfl)
    (eachName_stops F (n - 1) h22 hro (by omega) _) walksK_t walksK_b (Below.refl _ _) (fun _ => rfl)
    (fun pre W => ((∀ y ∈ pre, (y.val : Int) ≠ r) ∧ W.cell? ⟨w.heap.size, 0, none⟩ = some (.int .i64 r) ∧ W.cell? ⟨w.heap.size + 1, 0, none⟩ = some (.string ⟨#[]⟩) ∧ W.frozen? ⟨w.heap.size + 1, 0, none⟩ = false) ∧ Below w.heap.size w W)
    (fun c pre W => (c = .ret ∧ (∃ y : Fin 19, (y.val : Int) = r ∧ W.cell? ⟨w.heap.size + 1, 0, none⟩ = some (.string (nmS y.val)))) ∧ Below w.heap.size w W)
    (OwnFrom.and (Own.from (fun s A B row hs hg hr => ⟨hs.1, cell_kept hs.2.1 hg hr, cell_kept hs.2.2.1 hg hr, (frozen_kept hs.2.2.1 hg hr).trans hs.2.2.2⟩) _) (ownFrom_below (Nat.le_refl _) (by simp; omega)))
    (fun c => OwnFrom.and (Own.from (fun s A B row hs hg hr => by obtain ⟨hc, y, hy, hcell⟩ := hs; exact ⟨hc, y, hy, cell_kept hcell hg hr⟩) _) (ownFrom_below (Nat.le_refl _) (by simp; omega)))
    ⟨⟨by simp, c0.cell, c1.cell, c1.frozen⟩, hB0⟩
    (fun x => { tmps := #[.int .i64 r, .pointer (some ⟨w.heap.size, 0, none⟩), .pointer (some ⟨w.heap.size + 1, 0, none⟩), .int .i64 (x.val : Nat), .string (nmS x.val), .int .i64 r, .bool (decide (15 < r)), .int .i64 (x.val : Nat), .string (nmS x.val), undef, undef, undef, undef], defers := [] }) ?assign ?body ?done ?stop
  case assign =>
    intro l x W K hK
    gi_wp2
    exact hK
  case body =>
    rintro l pre x W ⟨⟨hp, hcw, hcr, hfr⟩, hB⟩ _
    by_cases hx : (x.val : Int) = r
    · gi_wp2
      exact ⟨KeepsOthers.setCell _ _ _, ⟨rfl, x, hx, World.cell?_setCell_same' _ _ _ (by rw [hcr]; rfl)⟩, hB.setCell (p := ⟨w.heap.size + 1, 0, none⟩) (by simp) _⟩
    · have hx2 : ((x.val : Int) == r) = false := by simp [hx]
      gi_wp2
      exact ⟨KeepsOthers.refl _, KeepsWalks.refl _, ⟨fun y hy => (List.mem_append.1 hy).elim (hp y) (fun e => by simp at e; subst e; exact hx), hcw, hcr, hfr⟩, hB⟩
  case done =>
    rintro D ys W hD rfl ⟨⟨hne, _, hcr, hfr⟩, hB⟩ hK
    gi_wp2
    have hK' := (KeepsOthers.setCell W ⟨w.heap.size + 1, 0, none⟩ (.string ⟨#[]⟩)).same D _ hK rfl
    refine ⟨by simp, .inl ⟨_, _, rfl, run_takeDeferred hK', ?_⟩⟩
    have hc5 := cell_kept (World.cell?_setCell_same' W ⟨w.heap.size + 1, 0, none⟩ (.string ⟨#[]⟩) (by rw [hcr]; rfl)) (grownBy_putObj' _ D (.deferred none)) (fun r e => by cases e; exact ⟨_, hK', rfl⟩)
    have hno : Rm.nameI r = [] := Rm.name_no (fun h => by
      obtain ⟨k, rfl⟩ := Int.eq_ofNat_of_zero_le h.1
      exact hne ⟨k, by omega⟩ (List.mem_finRange _) rfl)
    refine ⟨.string ⟨#[]⟩, ?_, by rw [hno], (hB.setCell (p := ⟨w.heap.size + 1, 0, none⟩) (by simp) _).trans (belowK_b (w := w) (Nat.le_refl _) _ D _ _ (by simp at hD; omega) hK' rfl rfl)⟩
    simp [results, Try.f8, go_sem, hc5]
  case stop =>
    rintro D c pre W hD hpre ⟨⟨rfl, y, hy, hcr⟩, hB⟩ hK
    gi_wp2
    refine ⟨by simp, .inl ⟨_, _, rfl, run_takeDeferred hK, ?_⟩⟩
    have hc5 := cell_kept hcr (grownBy_putObj' _ D (.deferred none)) (fun r e => by cases e; exact ⟨_, hK, rfl⟩)
    refine ⟨.string (nmS y.val), ?_, by subst hy; rw [Rm.name_in (by omega)]; rfl, hB.trans (belowK_b (w := w) (Nat.le_refl _) W D _ _ (by simp at hD; omega) hK rfl rfl)⟩
    simp [results, Try.f8, go_sem, hc5]

theorem name_beyond (r : Int) (hr : 15 < r) (w : World) :
    Calls Try.prog 8 #[.int .i64 r] w fun e W' => e = .returned (.string ⟨#[]⟩) ∧ Below w.heap.size w W' := by
  go_enter Try.func8, Try.ntmps8
  go_wp2
  refine bodyPost_ret (v := .string ⟨#[]⟩) (by simp [results, Try.f8, go_sem]) rfl ?_
  exact ⟨rfl, ((Below.refl _ w).alloc (Nat.le_refl _) _).alloc (by simp) _⟩

theorem name_c (r : Int) (w : World) :
    Calls Try.prog 8 #[.int .i64 r] w fun e W' => e = .returned (.string ⟨(Rm.nameI r).toArray⟩) ∧ Below w.heap.size w W' := by
  by_cases hr : r ≤ 15
  · exact callsIn_wide.1 (name_in Fence.wide 3 trivial trivial rfl (Nat.le_refl _) r hr w)
  · rw [Rm.name_no (by omega)]
    exact name_beyond r (by omega) w

set_option maxRecDepth 100000 in
set_option maxHeartbeats 2000000 in
theorem find_in (F : Fence) (n : Nat) (h10 : F.fn 10) (h22 : F.fn 22) (hro : F.round = none) (hn : 3 ≤ n) (s : ByteArray) (w : World) :
    CallsIn F n Try.prog 10 #[.string s] w fun e W' => e = .returned (.int .i64 (Rm.findI s.toList)) ∧ Below w.heap.size w W' := by
  have h1 : 1 ≤ n := by omega
  refine callsIn_of_wp_marks Try.func10 rfl h10 ?_ hro
  simp only [Try.ntmps10, List.size_toArray, List.length_cons, List.length_nil, Nat.reduceAdd, Nat.reduceSub, Array.replicate_succ, Array.replicate_zero, List.push_toArray, List.append_toArray, List.nil_append, List.cons_append]
  gi_wp2
  have c0 := (Boxed.new w 9 (.string s)).alloc (.cells #[.int .i64 0] 3)
  have c1 := Boxed.new (w.alloc (.cells #[.string s] 9)) 3 (.int .i64 0)
  rw [World.size_alloc] at c1
  have hB0 : Below w.heap.size w ((w.alloc (.cells #[.string s] 9)).alloc (.cells #[.int .i64 0] 3)) := ((Below.refl _ w).alloc (Nat.le_refl _) _).alloc (by simp) _
  refine wpIn_rangeFunc_ownF hro h1 (gf := 22) (lb := #[]) rfl h22 (enters_of Try.func22 (by kernel_rfl) rfl)
    (eachName_stops F (n - 1) h22 hro (by omega) _) walksK_t walksK_b (Below.refl _ _) (fun _ => rfl)
    (fun pre W => ((∀ y ∈ pre, Rm.nm y.val ≠ s.toList) ∧ W.cell? ⟨w.heap.size, 0, none⟩ = some (.string s) ∧ W.cell? ⟨w.heap.size + 1, 0, none⟩ = some (.int .i64 0) ∧ W.frozen? ⟨w.heap.size + 1, 0, none⟩ = false) ∧ Below w.heap.size w W)
    (fun c pre W => (c = .ret ∧ (∃ y : Fin 19, Rm.nm y.val = s.toList ∧ W.cell? ⟨w.heap.size + 1, 0, none⟩ = some (.int .i64 (Rm.placeI y.val)))) ∧ Below w.heap.size w W)
    (OwnFrom.and (Own.from (fun s A B row hs hg hr => ⟨hs.1, cell_kept hs.2.1 hg hr, cell_kept hs.2.2.1 hg hr, (frozen_kept hs.2.2.1 hg hr).trans hs.2.2.2⟩) _) (ownFrom_below (Nat.le_refl _) (by simp; omega)))
    (fun c => OwnFrom.and (Own.from (fun s A B row hs hg hr => by obtain ⟨hc, y, hy, hcell⟩ := hs; exact ⟨hc, y, hy, cell_kept hcell hg hr⟩) _) (ownFrom_below (Nat.le_refl _) (by simp; omega)))
    ⟨⟨by simp, c0.cell, c1.cell, c1.frozen⟩, hB0⟩
    (fun x => { tmps := #[.string s, .pointer (some ⟨w.heap.size, 0, none⟩), .pointer (some ⟨w.heap.size + 1, 0, none⟩), .int .i64 (x.val : Nat), .string (nmS x.val), .int .i64 (x.val : Nat), .string (nmS x.val), undef, undef, undef, undef, undef, undef, undef, undef], defers := [] }) ?assign ?body ?done ?stop
  case assign =>
    intro l x W K hK
    gi_wp2
    exact hK
  case body =>
    rintro l pre x W ⟨⟨hp, hcw, hcr, hfr⟩, hB⟩ _
    have hx19 := x.isLt
    have ePl : Rm.placeI x.val = if 15 < x.val then (x.val : Int) - 3 else x.val := rfl
    by_cases hx : Rm.nm x.val = s.toList
    · have hx2 : ((nmS x.val).toList == s.toList) = true := by simp [nmS, hx]
      by_cases h15 : 15 < x.val
      · rw [if_pos h15] at ePl
        gi_wp2
        exact ⟨KeepsOthers.setCell _ _ _, ⟨rfl, x, hx, by rw [ePl]; exact World.cell?_setCell_same' _ _ _ (by rw [hcr]; rfl)⟩, hB.setCell (p := ⟨w.heap.size + 1, 0, none⟩) (by simp) _⟩
      · rw [if_neg h15] at ePl
        have h15' : ¬ (15 : Int) < (x.val : Int) := by omega
        gi_wp2
        exact ⟨KeepsOthers.setCell _ _ _, ⟨rfl, x, hx, by rw [ePl]; exact World.cell?_setCell_same' _ _ _ (by rw [hcr]; rfl)⟩, hB.setCell (p := ⟨w.heap.size + 1, 0, none⟩) (by simp) _⟩
    · have hx2 : ((nmS x.val).toList == s.toList) = false := by simp [nmS, hx]
      gi_wp2
      exact ⟨KeepsOthers.refl _, KeepsWalks.refl _, ⟨fun y hy => (List.mem_append.1 hy).elim (hp y) (fun e => by simp at e; subst e; exact hx), hcw, hcr, hfr⟩, hB⟩
  case done =>
    rintro D ys W hD rfl ⟨⟨hne, _, hcr, hfr⟩, hB⟩ hK
    gi_wp2
    have hK' := (KeepsOthers.setCell W ⟨w.heap.size + 1, 0, none⟩ (.int .i64 (-1))).same D _ hK rfl
    refine ⟨by simp, .inl ⟨_, _, rfl, run_takeDeferred hK', ?_⟩⟩
    have hc5 := cell_kept (World.cell?_setCell_same' W ⟨w.heap.size + 1, 0, none⟩ (.int .i64 (-1)) (by rw [hcr]; rfl)) (grownBy_putObj' _ D (.deferred none)) (fun r e => by cases e; exact ⟨_, hK', rfl⟩)
    have hno : Rm.findI s.toList = -1 := Rm.find_none (fun k hk => hne ⟨k, hk⟩ (List.mem_finRange _))
    refine ⟨.int .i64 (-1), ?_, by rw [hno], (hB.setCell (p := ⟨w.heap.size + 1, 0, none⟩) (by simp) _).trans (belowK_b (w := w) (Nat.le_refl _) _ D _ _ (by simp at hD; omega) hK' rfl rfl)⟩
    simp [results, Try.f10, go_sem, hc5]
  case stop =>
    rintro D c pre W hD hpre ⟨⟨rfl, y, hy, hcr⟩, hB⟩ hK
    gi_wp2
    refine ⟨by simp, .inl ⟨_, _, rfl, run_takeDeferred hK, ?_⟩⟩
    have hc5 := cell_kept hcr (grownBy_putObj' _ D (.deferred none)) (fun r e => by cases e; exact ⟨_, hK, rfl⟩)
    refine ⟨.int .i64 (Rm.placeI y.val), ?_, by rw [← hy, Rm.find_nm y.isLt], hB.trans (belowK_b (w := w) (Nat.le_refl _) W D _ _ (by simp at hD; omega) hK rfl rfl)⟩
    simp [results, Try.f10, go_sem, hc5]

theorem find_c (s : ByteArray) (w : World) :
    Calls Try.prog 10 #[.string s] w fun e W' => e = .returned (.int .i64 (Rm.findI s.toList)) ∧ Below w.heap.size w W' :=
  callsIn_wide.1 (find_in Fence.wide 3 trivial trivial rfl (Nat.le_refl _) s w)
end Go.Proofs.Ytdnggaomdbdieaa
