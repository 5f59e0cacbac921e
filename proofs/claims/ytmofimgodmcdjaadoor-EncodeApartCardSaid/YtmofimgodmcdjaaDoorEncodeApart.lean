/- For every two instructions, in a block or not, EncodeApart returns true: two instructions whose shortest halfwords are the same are the same. Conditions: none; the row lists the two tables of package offs, and the card ties them to the text of the program. -/
import Derived.Test.YtmofimgodmcdjaaDoorRows
import Derived.Test.YtmofimgodmcdjaaDoorTie
import Derived.Test.YtmofimgodmcdjaaDoorCards
import Derived.SevenTiedAt
import Derived.WalkKit
import Derived.ProofKit
import Derived.OpenShut
import Derived.ShutString
import Derived.Below
import Derived.Test.YtmofimgodmcdjaaDoorIp
import Derived.Test.YtmofimgodmcdjaaDoorEd
namespace Go.Proofs.YtmofimgodmcdjaaDoor.encodeApart
open Go.ChangeShapes Go.WideShapes Go.ChangeAt Go.RowKit
open Go.ChangeMaps (open_string shut_string)
open Xw (Later)
open Ew (bestL RowIs IntsAt best_c awake_c ints_c intsB intsB_eq best_apart)

theorem own : ownKnob Tryd.prog.godebug = none := by kernel_rfl
theorem laidOut : laidOutB Tryd.prog = true := by kernel_rfl
theorem wide_of {n : Int} (h : (Lit.int .i64 n).wf = true) : Nm.Wide n := bounds_i64 h
theorem two_boxes {w w1 : World} {A B : Array Value} {tA tB : TypeId} (hb : Below ((w.alloc (.cells A tA)).alloc (.cells B tB)).heap.size ((w.alloc (.cells A tA)).alloc (.cells B tB)) w1) :
    (∀ j, w1.cell? ⟨w.heap.size, j, none⟩ = A[j]?) ∧ (∀ j, w1.cell? ⟨w.heap.size + 1, j, none⟩ = B[j]?) ∧ w.heap.size + 1 < w1.heap.size ∧ Below w.heap.size w w1 := by
  have hs := hb.size
  have e1 : (w.alloc (.cells A tA)).heap.size = w.heap.size + 1 := by simp
  simp at hs
  refine ⟨fun j => ?_, fun j => ?_, by omega, (((Below.refl _ _).alloc (Nat.le_refl _) _).alloc (by simp) _).trans (hb.mono (by simp; omega))⟩
  · exact (hb.cell (p := ⟨w.heap.size, j, none⟩) (by simp; omega)).trans ((World.cell?_alloc_lt _ _ ⟨w.heap.size, j, none⟩ (by simp)).trans (World.cell?_alloc_new w A tA j))
  · have h := World.cell?_alloc_new (w.alloc (.cells A tA)) B tB j
    rw [e1] at h
    exact (hb.cell (p := ⟨w.heap.size + 1, j, none⟩) (by simp)).trans h

/-- what Best answers of an instruction: none, or a row l -/
def BestNone (V : Value) (it : Bool) : Prop := ∀ W, Tabs W → Calls Tryd.prog 4 #[V, .bool it] W fun e w' => e = .returned (.tuple #[.slice none 0 0, .int .i64 6]) ∧ Below W.heap.size W w'
def BestRow (V : Value) (it : Bool) (l : List Int) : Prop := ∀ W, Tabs W → Calls Tryd.prog 4 #[V, .bool it] W fun e w' => (∃ A c, e = .returned (.tuple #[.slice A l.length c, .int .i64 0]) ∧ IntsAt w' w'.heap.size A l) ∧ Below W.heap.size W w'
theorem best_or (op cond rd rn rm imm mode list : Int) (s it : Bool) (hw : Nm.Wide list) : (BestNone (.agg #[.int .i64 op, .int .i64 cond, .int .i64 rd, .int .i64 rn, .int .i64 rm, .int .i64 imm, .int .i64 mode, .int .i64 list, .bool s]) it ∧ (bestL ⟨op, cond, rd, rn, rm, imm, mode, list, s⟩ it).length = 0) ∨ (BestRow (.agg #[.int .i64 op, .int .i64 cond, .int .i64 rd, .int .i64 rn, .int .i64 rm, .int .i64 imm, .int .i64 mode, .int .i64 list, .bool s]) it (bestL ⟨op, cond, rd, rn, rm, imm, mode, list, s⟩ it) ∧ 0 < (bestL ⟨op, cond, rd, rn, rm, imm, mode, list, s⟩ it).length) := by
  have h := fun W hT => best_c op cond rd rn rm imm mode list s it hw W hT
  generalize bestL ⟨op, cond, rd, rn, rm, imm, mode, list, s⟩ it = l at *
  by_cases hl : l.length = 0
  · refine .inl ⟨fun W hT => (h W hT).mono ?_, hl⟩
    rintro e w' ⟨hR, hb⟩
    rcases hR with ⟨_, he⟩ | ⟨h0, _⟩
    · exact ⟨he, hb⟩
    · omega
  · refine .inr ⟨fun W hT => (h W hT).mono ?_, by omega⟩
    rintro e w' ⟨hR, hb⟩
    rcases hR with ⟨h0, _⟩ | ⟨_, hA⟩
    · omega
    · exact ⟨hA, hb⟩

theorem walk_none1 (op cond rd rn rm imm mode list : Int) (s : Bool) (op2 cond2 rd2 rn2 rm2 imm2 mode2 list2 : Int) (s2 it : Bool) (h1 : BestNone (.agg #[.int .i64 op, .int .i64 cond, .int .i64 rd, .int .i64 rn, .int .i64 rm, .int .i64 imm, .int .i64 mode, .int .i64 list, .bool s]) it) (h2 : BestNone (.agg #[.int .i64 op2, .int .i64 cond2, .int .i64 rd2, .int .i64 rn2, .int .i64 rm2, .int .i64 imm2, .int .i64 mode2, .int .i64 list2, .bool s2]) it) (w : World) (hT : Tabs w) :
    Calls Tryd.prog 3 #[.agg #[.int .i64 op, .int .i64 cond, .int .i64 rd, .int .i64 rn, .int .i64 rm, .int .i64 imm, .int .i64 mode, .int .i64 list, .bool s], .agg #[.int .i64 op2, .int .i64 cond2, .int .i64 rd2, .int .i64 rn2, .int .i64 rm2, .int .i64 imm2, .int .i64 mode2, .int .i64 list2, .bool s2], .bool it] w fun e w' => e = .returned (.bool true) ∧ Below w.heap.size w w' := by
  have hL := Lib.hid (((Later.refl hT).step ((Below.refl w.heap.size w).alloc (Nat.le_refl _) (.cells #[.int .i64 op, .int .i64 cond, .int .i64 rd, .int .i64 rn, .int .i64 rm, .int .i64 imm, .int .i64 mode, .int .i64 list, .bool s] 23))).step ((Below.refl _ _).alloc (Nat.le_refl _) (.cells #[.int .i64 op2, .int .i64 cond2, .int .i64 rd2, .int .i64 rn2, .int .i64 rm2, .int .i64 imm2, .int .i64 mode2, .int .i64 list2, .bool s2] 23)))
  clear hT
  replace h1 := Lib.hid h1
  replace h2 := Lib.hid h2
  go_enter Tryd.func3, Tryd.ntmps3
  go_wp2_with fail
  refine (h1.out _ hL.out.tabs).mono ?_
  rintro e w2 ⟨rfl, hb⟩
  obtain ⟨c1, c2', hz, _⟩ := two_boxes hb
  replace hL := Lib.hid (hL.out.step hb)
  clear hb h1
  have hz0 : w.heap.size < w2.heap.size := by omega
  go_wp2_with fail
  refine (h2.out _ hL.out.tabs).mono ?_
  rintro e w3 ⟨rfl, hb⟩
  have d1 : ∀ j, w3.cell? ⟨w.heap.size, j, none⟩ = (#[.int .i64 op, .int .i64 cond, .int .i64 rd, .int .i64 rn, .int .i64 rm, .int .i64 imm, .int .i64 mode, .int .i64 list, .bool s] : Array Value)[j]? := fun j => (hb.cell (p := ⟨w.heap.size, j, none⟩) hz0).trans (c1 j)
  have d2 : ∀ j, w3.cell? ⟨w.heap.size + 1, j, none⟩ = (#[.int .i64 op2, .int .i64 cond2, .int .i64 rd2, .int .i64 rn2, .int .i64 rm2, .int .i64 imm2, .int .i64 mode2, .int .i64 list2, .bool s2] : Array Value)[j]? := fun j => (hb.cell (p := ⟨w.heap.size + 1, j, none⟩) hz).trans (c2' j)
  replace hL := Lib.hid (hL.out.step hb)
  clear hb c1 c2' h2
  go_wp2_with fail
  refine (awake_c _ hL.out.tabs).mono ?_
  rintro e w4 ⟨rfl, hb⟩
  go_wp2
  go_ret
  exact ⟨rfl, (hL.out.step hb).bel⟩

theorem walk_none2 (op cond rd rn rm imm mode list : Int) (s : Bool) (op2 cond2 rd2 rn2 rm2 imm2 mode2 list2 : Int) (s2 it : Bool) (l2 : List Int) (h1 : BestNone (.agg #[.int .i64 op, .int .i64 cond, .int .i64 rd, .int .i64 rn, .int .i64 rm, .int .i64 imm, .int .i64 mode, .int .i64 list, .bool s]) it) (h2 : BestRow (.agg #[.int .i64 op2, .int .i64 cond2, .int .i64 rd2, .int .i64 rn2, .int .i64 rm2, .int .i64 imm2, .int .i64 mode2, .int .i64 list2, .bool s2]) it l2) (w : World) (hT : Tabs w) :
    Calls Tryd.prog 3 #[.agg #[.int .i64 op, .int .i64 cond, .int .i64 rd, .int .i64 rn, .int .i64 rm, .int .i64 imm, .int .i64 mode, .int .i64 list, .bool s], .agg #[.int .i64 op2, .int .i64 cond2, .int .i64 rd2, .int .i64 rn2, .int .i64 rm2, .int .i64 imm2, .int .i64 mode2, .int .i64 list2, .bool s2], .bool it] w fun e w' => e = .returned (.bool true) ∧ Below w.heap.size w w' := by
  have hL := Lib.hid (((Later.refl hT).step ((Below.refl w.heap.size w).alloc (Nat.le_refl _) (.cells #[.int .i64 op, .int .i64 cond, .int .i64 rd, .int .i64 rn, .int .i64 rm, .int .i64 imm, .int .i64 mode, .int .i64 list, .bool s] 23))).step ((Below.refl _ _).alloc (Nat.le_refl _) (.cells #[.int .i64 op2, .int .i64 cond2, .int .i64 rd2, .int .i64 rn2, .int .i64 rm2, .int .i64 imm2, .int .i64 mode2, .int .i64 list2, .bool s2] 23)))
  clear hT
  replace h1 := Lib.hid h1
  replace h2 := Lib.hid h2
  go_enter Tryd.func3, Tryd.ntmps3
  go_wp2_with fail
  refine (h1.out _ hL.out.tabs).mono ?_
  rintro e w2 ⟨rfl, hb⟩
  obtain ⟨c1, c2', hz, _⟩ := two_boxes hb
  replace hL := Lib.hid (hL.out.step hb)
  clear hb h1
  have hz0 : w.heap.size < w2.heap.size := by omega
  go_wp2_with fail
  refine (h2.out _ hL.out.tabs).mono ?_
  rintro e w3 ⟨⟨A2, c2, rfl, hI2⟩, hb⟩
  have d1 : ∀ j, w3.cell? ⟨w.heap.size, j, none⟩ = (#[.int .i64 op, .int .i64 cond, .int .i64 rd, .int .i64 rn, .int .i64 rm, .int .i64 imm, .int .i64 mode, .int .i64 list, .bool s] : Array Value)[j]? := fun j => (hb.cell (p := ⟨w.heap.size, j, none⟩) hz0).trans (c1 j)
  have d2 : ∀ j, w3.cell? ⟨w.heap.size + 1, j, none⟩ = (#[.int .i64 op2, .int .i64 cond2, .int .i64 rd2, .int .i64 rn2, .int .i64 rm2, .int .i64 imm2, .int .i64 mode2, .int .i64 list2, .bool s2] : Array Value)[j]? := fun j => (hb.cell (p := ⟨w.heap.size + 1, j, none⟩) hz).trans (c2' j)
  replace hL := Lib.hid (hL.out.step hb)
  clear hb c1 c2' h2
  go_wp2_with fail
  refine (awake_c _ hL.out.tabs).mono ?_
  rintro e w4 ⟨rfl, hb⟩
  go_wp2
  go_ret
  exact ⟨rfl, (hL.out.step hb).bel⟩

theorem walk_none3 (op cond rd rn rm imm mode list : Int) (s : Bool) (op2 cond2 rd2 rn2 rm2 imm2 mode2 list2 : Int) (s2 it : Bool) (l : List Int) (h1 : BestRow (.agg #[.int .i64 op, .int .i64 cond, .int .i64 rd, .int .i64 rn, .int .i64 rm, .int .i64 imm, .int .i64 mode, .int .i64 list, .bool s]) it l) (h2 : BestNone (.agg #[.int .i64 op2, .int .i64 cond2, .int .i64 rd2, .int .i64 rn2, .int .i64 rm2, .int .i64 imm2, .int .i64 mode2, .int .i64 list2, .bool s2]) it) (w : World) (hT : Tabs w) :
    Calls Tryd.prog 3 #[.agg #[.int .i64 op, .int .i64 cond, .int .i64 rd, .int .i64 rn, .int .i64 rm, .int .i64 imm, .int .i64 mode, .int .i64 list, .bool s], .agg #[.int .i64 op2, .int .i64 cond2, .int .i64 rd2, .int .i64 rn2, .int .i64 rm2, .int .i64 imm2, .int .i64 mode2, .int .i64 list2, .bool s2], .bool it] w fun e w' => e = .returned (.bool true) ∧ Below w.heap.size w w' := by
  have hL := Lib.hid (((Later.refl hT).step ((Below.refl w.heap.size w).alloc (Nat.le_refl _) (.cells #[.int .i64 op, .int .i64 cond, .int .i64 rd, .int .i64 rn, .int .i64 rm, .int .i64 imm, .int .i64 mode, .int .i64 list, .bool s] 23))).step ((Below.refl _ _).alloc (Nat.le_refl _) (.cells #[.int .i64 op2, .int .i64 cond2, .int .i64 rd2, .int .i64 rn2, .int .i64 rm2, .int .i64 imm2, .int .i64 mode2, .int .i64 list2, .bool s2] 23)))
  clear hT
  replace h1 := Lib.hid h1
  replace h2 := Lib.hid h2
  go_enter Tryd.func3, Tryd.ntmps3
  go_wp2_with fail
  refine (h1.out _ hL.out.tabs).mono ?_
  rintro e w2 ⟨⟨A, c, rfl, hI⟩, hb⟩
  obtain ⟨c1, c2', hz, _⟩ := two_boxes hb
  replace hL := Lib.hid (hL.out.step hb)
  clear hb h1
  have hz0 : w.heap.size < w2.heap.size := by omega
  go_wp2_with fail
  refine (h2.out _ hL.out.tabs).mono ?_
  rintro e w3 ⟨rfl, hb⟩
  have d1 : ∀ j, w3.cell? ⟨w.heap.size, j, none⟩ = (#[.int .i64 op, .int .i64 cond, .int .i64 rd, .int .i64 rn, .int .i64 rm, .int .i64 imm, .int .i64 mode, .int .i64 list, .bool s] : Array Value)[j]? := fun j => (hb.cell (p := ⟨w.heap.size, j, none⟩) hz0).trans (c1 j)
  have d2 : ∀ j, w3.cell? ⟨w.heap.size + 1, j, none⟩ = (#[.int .i64 op2, .int .i64 cond2, .int .i64 rd2, .int .i64 rn2, .int .i64 rm2, .int .i64 imm2, .int .i64 mode2, .int .i64 list2, .bool s2] : Array Value)[j]? := fun j => (hb.cell (p := ⟨w.heap.size + 1, j, none⟩) hz).trans (c2' j)
  replace hL := Lib.hid (hL.out.step hb)
  clear hb c1 c2' h2
  go_wp2_with fail
  refine (awake_c _ hL.out.tabs).mono ?_
  rintro e w4 ⟨rfl, hb⟩
  go_wp2
  go_ret
  exact ⟨rfl, (hL.out.step hb).bel⟩

theorem walk_other (op cond rd rn rm imm mode list : Int) (s : Bool) (op2 cond2 rd2 rn2 rm2 imm2 mode2 list2 : Int) (s2 it : Bool) (l l2 : List Int) (hl : l.length ≤ 1000000) (h1 : BestRow (.agg #[.int .i64 op, .int .i64 cond, .int .i64 rd, .int .i64 rn, .int .i64 rm, .int .i64 imm, .int .i64 mode, .int .i64 list, .bool s]) it l) (h2 : BestRow (.agg #[.int .i64 op2, .int .i64 cond2, .int .i64 rd2, .int .i64 rn2, .int .i64 rm2, .int .i64 imm2, .int .i64 mode2, .int .i64 list2, .bool s2]) it l2) (hq : intsB l l2 = false) (w : World) (hT : Tabs w) :
    Calls Tryd.prog 3 #[.agg #[.int .i64 op, .int .i64 cond, .int .i64 rd, .int .i64 rn, .int .i64 rm, .int .i64 imm, .int .i64 mode, .int .i64 list, .bool s], .agg #[.int .i64 op2, .int .i64 cond2, .int .i64 rd2, .int .i64 rn2, .int .i64 rm2, .int .i64 imm2, .int .i64 mode2, .int .i64 list2, .bool s2], .bool it] w fun e w' => e = .returned (.bool true) ∧ Below w.heap.size w w' := by
  have hL := Lib.hid (((Later.refl hT).step ((Below.refl w.heap.size w).alloc (Nat.le_refl _) (.cells #[.int .i64 op, .int .i64 cond, .int .i64 rd, .int .i64 rn, .int .i64 rm, .int .i64 imm, .int .i64 mode, .int .i64 list, .bool s] 23))).step ((Below.refl _ _).alloc (Nat.le_refl _) (.cells #[.int .i64 op2, .int .i64 cond2, .int .i64 rd2, .int .i64 rn2, .int .i64 rm2, .int .i64 imm2, .int .i64 mode2, .int .i64 list2, .bool s2] 23)))
  clear hT
  replace h1 := Lib.hid h1
  replace h2 := Lib.hid h2
  go_enter Tryd.func3, Tryd.ntmps3
  go_wp2_with fail
  refine (h1.out _ hL.out.tabs).mono ?_
  rintro e w2 ⟨⟨A, c, rfl, hI⟩, hb⟩
  obtain ⟨c1, c2', hz, _⟩ := two_boxes hb
  replace hL := Lib.hid (hL.out.step hb)
  clear hb h1
  have hz0 : w.heap.size < w2.heap.size := by omega
  go_wp2_with fail
  refine (h2.out _ hL.out.tabs).mono ?_
  rintro e w3 ⟨⟨A2, c2, rfl, hI2⟩, hb⟩
  have d1 : ∀ j, w3.cell? ⟨w.heap.size, j, none⟩ = (#[.int .i64 op, .int .i64 cond, .int .i64 rd, .int .i64 rn, .int .i64 rm, .int .i64 imm, .int .i64 mode, .int .i64 list, .bool s] : Array Value)[j]? := fun j => (hb.cell (p := ⟨w.heap.size, j, none⟩) hz0).trans (c1 j)
  have d2 : ∀ j, w3.cell? ⟨w.heap.size + 1, j, none⟩ = (#[.int .i64 op2, .int .i64 cond2, .int .i64 rd2, .int .i64 rn2, .int .i64 rm2, .int .i64 imm2, .int .i64 mode2, .int .i64 list2, .bool s2] : Array Value)[j]? := fun j => (hb.cell (p := ⟨w.heap.size + 1, j, none⟩) hz).trans (c2' j)
  replace hI := (hI.below hb (Nat.le_refl _)).more hb.size
  replace hL := Lib.hid (hL.out.step hb)
  clear hb c1 c2' h2
  go_wp2_with fail
  refine (ints_c A A2 c c2 w3.heap.size l l2 w3 hI hI2 hl).mono ?_
  rw [hq]
  rintro e w' ⟨rfl, n, rfl⟩
  replace hL := Lib.hid (hL.out.drewn n)
  clear hI hI2 hq
  go_wp2_with fail
  refine (awake_c _ hL.out.tabs).mono ?_
  rintro e w4 ⟨rfl, hb⟩
  go_wp2
  go_ret
  exact ⟨rfl, (hL.out.step hb).bel⟩

theorem walk_same (op cond rd rn rm imm mode list : Int) (s it : Bool) (l l2 : List Int) (hl : l.length ≤ 1000000) (h1 : BestRow (.agg #[.int .i64 op, .int .i64 cond, .int .i64 rd, .int .i64 rn, .int .i64 rm, .int .i64 imm, .int .i64 mode, .int .i64 list, .bool s]) it l) (h2 : BestRow (.agg #[.int .i64 op, .int .i64 cond, .int .i64 rd, .int .i64 rn, .int .i64 rm, .int .i64 imm, .int .i64 mode, .int .i64 list, .bool s]) it l2) (hq : intsB l l2 = true) (w : World) (hT : Tabs w) :
    Calls Tryd.prog 3 #[.agg #[.int .i64 op, .int .i64 cond, .int .i64 rd, .int .i64 rn, .int .i64 rm, .int .i64 imm, .int .i64 mode, .int .i64 list, .bool s], .agg #[.int .i64 op, .int .i64 cond, .int .i64 rd, .int .i64 rn, .int .i64 rm, .int .i64 imm, .int .i64 mode, .int .i64 list, .bool s], .bool it] w fun e w' => e = .returned (.bool true) ∧ Below w.heap.size w w' := by
  have hL := Lib.hid (((Later.refl hT).step ((Below.refl w.heap.size w).alloc (Nat.le_refl _) (.cells #[.int .i64 op, .int .i64 cond, .int .i64 rd, .int .i64 rn, .int .i64 rm, .int .i64 imm, .int .i64 mode, .int .i64 list, .bool s] 23))).step ((Below.refl _ _).alloc (Nat.le_refl _) (.cells #[.int .i64 op, .int .i64 cond, .int .i64 rd, .int .i64 rn, .int .i64 rm, .int .i64 imm, .int .i64 mode, .int .i64 list, .bool s] 23)))
  clear hT
  replace h1 := Lib.hid h1
  replace h2 := Lib.hid h2
  go_enter Tryd.func3, Tryd.ntmps3
  go_wp2_with fail
  refine (h1.out _ hL.out.tabs).mono ?_
  rintro e w2 ⟨⟨A, c, rfl, hI⟩, hb⟩
  obtain ⟨c1, c2', hz, _⟩ := two_boxes hb
  replace hL := Lib.hid (hL.out.step hb)
  clear hb h1
  have hz0 : w.heap.size < w2.heap.size := by omega
  go_wp2_with fail
  refine (h2.out _ hL.out.tabs).mono ?_
  rintro e w3 ⟨⟨A2, c2, rfl, hI2⟩, hb⟩
  have d1 : ∀ j, w3.cell? ⟨w.heap.size, j, none⟩ = (#[.int .i64 op, .int .i64 cond, .int .i64 rd, .int .i64 rn, .int .i64 rm, .int .i64 imm, .int .i64 mode, .int .i64 list, .bool s] : Array Value)[j]? := fun j => (hb.cell (p := ⟨w.heap.size, j, none⟩) hz0).trans (c1 j)
  have d2 : ∀ j, w3.cell? ⟨w.heap.size + 1, j, none⟩ = (#[.int .i64 op, .int .i64 cond, .int .i64 rd, .int .i64 rn, .int .i64 rm, .int .i64 imm, .int .i64 mode, .int .i64 list, .bool s] : Array Value)[j]? := fun j => (hb.cell (p := ⟨w.heap.size + 1, j, none⟩) hz).trans (c2' j)
  replace hI := (hI.below hb (Nat.le_refl _)).more hb.size
  replace hL := Lib.hid (hL.out.step hb)
  clear hb c1 c2' h2
  go_wp2_with fail
  refine (ints_c A A2 c c2 w3.heap.size l l2 w3 hI hI2 hl).mono ?_
  rw [hq]
  rintro e w' ⟨rfl, n, rfl⟩
  replace hL := Lib.hid (hL.out.drewn n)
  clear hI hI2 hq
  go_wp2_with fail
  refine (awake_c _ hL.out.tabs).mono ?_
  rintro e w4 ⟨rfl, hb⟩
  go_wp2
  go_ret
  exact ⟨rfl, (hL.out.step hb).bel⟩

theorem walk (op cond rd rn rm imm mode list : Int) (s : Bool) (op2 cond2 rd2 rn2 rm2 imm2 mode2 list2 : Int) (s2 it : Bool) (wl : (Lit.int .i64 list).wf = true) (wl2 : (Lit.int .i64 list2).wf = true) (w : World) (hT : Tabs w) :
    Calls Tryd.prog 3 #[.agg #[.int .i64 op, .int .i64 cond, .int .i64 rd, .int .i64 rn, .int .i64 rm, .int .i64 imm, .int .i64 mode, .int .i64 list, .bool s], .agg #[.int .i64 op2, .int .i64 cond2, .int .i64 rd2, .int .i64 rn2, .int .i64 rm2, .int .i64 imm2, .int .i64 mode2, .int .i64 list2, .bool s2], .bool it] w fun e w' => e = .returned (.bool true) ∧ Below w.heap.size w w' := by
  have hw := wide_of wl
  have hw2 := wide_of wl2
  have hlen : ∀ i : Nm.I, (bestL i it).length ≤ 1000000 := by
    intro i
    unfold Ew.bestL
    rw [Ew.try_false, Ew.try_true]
    cases Nm.encI i it <;> cases Wm.encW Wm.findF i it <;> simp [Ew.oneL, Ew.twoL]
  rcases best_or op cond rd rn rm imm mode list s it hw with ⟨h1, _⟩ | ⟨h1, hp⟩
  · rcases best_or op2 cond2 rd2 rn2 rm2 imm2 mode2 list2 s2 it hw2 with ⟨h2, _⟩ | ⟨h2, _⟩
    · exact walk_none1 op cond rd rn rm imm mode list s op2 cond2 rd2 rn2 rm2 imm2 mode2 list2 s2 it h1 h2 w hT
    · exact walk_none2 op cond rd rn rm imm mode list s op2 cond2 rd2 rn2 rm2 imm2 mode2 list2 s2 it _ h1 h2 w hT
  · rcases best_or op2 cond2 rd2 rn2 rm2 imm2 mode2 list2 s2 it hw2 with ⟨h2, _⟩ | ⟨h2, _⟩
    · exact walk_none3 op cond rd rn rm imm mode list s op2 cond2 rd2 rn2 rm2 imm2 mode2 list2 s2 it _ h1 h2 w hT
    · cases hq : intsB (bestL ⟨op, cond, rd, rn, rm, imm, mode, list, s⟩ it) (bestL ⟨op2, cond2, rd2, rn2, rm2, imm2, mode2, list2, s2⟩ it) with
      | false => exact walk_other op cond rd rn rm imm mode list s op2 cond2 rd2 rn2 rm2 imm2 mode2 list2 s2 it _ _ (hlen _) h1 h2 hq w hT
      | true =>
        have e := best_apart ⟨op, cond, rd, rn, rm, imm, mode, list, s⟩ ⟨op2, cond2, rd2, rn2, rm2, imm2, mode2, list2, s2⟩ it hw hw2 hp ((intsB_eq _ _).1 hq)
        simp only [Nm.I.mk.injEq] at e
        obtain ⟨rfl, rfl, rfl, rfl, rfl, rfl, rfl, rfl, rfl⟩ := e
        exact walk_same op cond rd rn rm imm mode list s it _ _ (hlen _) h1 h2 hq w hT

set_option maxRecDepth 100000 in
theorem lifted (os : Os) (started : os.Started) (H : Type) (enc : TypeId × Value → H) :
    ReturnsInHanded {} Tryd.checked os 3 .any (fun w args => (Rows.encodeApartSpec.pre enc Tryd.prog Tryd.f3 [] false w args ∧ laidMetH Tryd.prog laidL w) ∧ sizedMet enc Tryd.prog Tryd.f3 (OpenSpec.ofChange Rows.encodeApartSpec) false w args)
      (Rows.encodeApartSpec.post enc Tryd.prog Tryd.f3 false true false false) := by
  refine returnsInHanded_of_change_and (C := Tryd.checked) (X := fun w _ => laidMetH Tryd.prog laidL w) (fun _ _ _ hh h => h.of_heap hh) own started (by kernel_rfl) Tryd.func3
    (ChangeSpec.witness_shaped (enc := enc) (C := Tryd.checked) (os := os) (X := fun w _ => laidMetH Tryd.prog laidL w) false (World.doorLaid Tryd.prog 400 os) #[.agg #[.int .i64 0, .int .i64 0, .int .i64 0, .int .i64 0, .int .i64 0, .int .i64 0, .int .i64 0, .int .i64 0, .bool false], .agg #[.int .i64 0, .int .i64 0, .int .i64 0, .int .i64 0, .int .i64 0, .int .i64 0, .int .i64 0, .int .i64 0, .bool false], .bool false] 8 rfl (World.shaped_of_RefB (by kernel_rfl) (by kernel_rfl)) (by kernel_rfl) (by kernel_rfl) (by kernel_rfl) (door_met os _)) ?_
  intro W base args ds gs before hval0 hW _ _ hL _
  have hval : ∀ (j : Nat) t v, Tryd.f3.params[j]? = some t → args[j]? = some v → Value.okWide Tryd.prog W .any base t v := hval0
  have hW' := hW
  obtain ⟨p, q, hA0, hV, rfl, _, _⟩ := hW
  have hA : DataW.TrodAll enc Tryd.prog W 0 (fun _ => true) true Tryd.f3.params.toList args.toList ds p := hA0
  rw [Tryd.params3] at hA hval
  obtain ⟨v0, vs0, d0, ds0, p0, q0, hargs, rfl, rfl, h0, r0⟩ := trodAll_cons hA
  obtain ⟨v1, vs1, d1, ds1, p1, q1, rfl, rfl, rfl, h1, r1⟩ := trodAll_cons r0
  obtain ⟨v2, vs2, d2, ds2, p2, q2, rfl, rfl, rfl, h2, r2⟩ := trodAll_cons r1
  obtain ⟨rfl, rfl, rfl⟩ := trodAll_nil r2
  obtain rfl : args = #[v0, v1, v2] := by cases args; simp_all
  obtain ⟨rfl, rfl⟩ := trodVars_none hV
  have k0 := h0
  have lt0 : ∀ x ∈ p0, x.block < W.heap.size := by obtain ⟨m, hm⟩ := k0; exact DataW.trod_lt m _ _ _ hm
  obtain ⟨ia0, ib0, ic0, id0, ie0, if0, ig0, ih0, ii0, rfl, w0⟩ := open_ins Tryd.underlying23 (by kernel_rfl) ⟨by kernel_rfl, by kernel_rfl, by kernel_rfl⟩ ⟨by kernel_rfl, by kernel_rfl, by kernel_rfl⟩ ⟨by kernel_rfl, by kernel_rfl, by kernel_rfl⟩ ⟨by kernel_rfl, by kernel_rfl, by kernel_rfl⟩ ⟨by kernel_rfl, by kernel_rfl, by kernel_rfl⟩ ⟨by kernel_rfl, by kernel_rfl, by kernel_rfl⟩ ⟨by kernel_rfl, by kernel_rfl, by kernel_rfl⟩ ⟨by kernel_rfl, by kernel_rfl, by kernel_rfl⟩ ⟨by kernel_rfl, by kernel_rfl, by kernel_rfl⟩ (hval 0 23 v0 rfl rfl) h0
  have k1 := h1
  have lt1 : ∀ x ∈ p1, x.block < W.heap.size := by obtain ⟨m, hm⟩ := k1; exact DataW.trod_lt m _ _ _ hm
  obtain ⟨ia1, ib1, ic1, id1, ie1, if1, ig1, ih1, ii1, rfl, w1⟩ := open_ins Tryd.underlying23 (by kernel_rfl) ⟨by kernel_rfl, by kernel_rfl, by kernel_rfl⟩ ⟨by kernel_rfl, by kernel_rfl, by kernel_rfl⟩ ⟨by kernel_rfl, by kernel_rfl, by kernel_rfl⟩ ⟨by kernel_rfl, by kernel_rfl, by kernel_rfl⟩ ⟨by kernel_rfl, by kernel_rfl, by kernel_rfl⟩ ⟨by kernel_rfl, by kernel_rfl, by kernel_rfl⟩ ⟨by kernel_rfl, by kernel_rfl, by kernel_rfl⟩ ⟨by kernel_rfl, by kernel_rfl, by kernel_rfl⟩ ⟨by kernel_rfl, by kernel_rfl, by kernel_rfl⟩ (hval 1 23 v1 rfl rfl) h1
  obtain ⟨a2, rfl, rfl, rfl⟩ := open_bool Tryd.underlying4 (hval 2 4 v2 rfl rfl) h2
  clear hA0 hval0
  refine (walk ia0 ib0 ic0 id0 ie0 if0 ig0 ih0 ii0 ia1 ib1 ic1 id1 ie1 if1 ig1 ih1 ii1 a2 w0 w1 W (tabs_of hL)).mono fun e W' ⟨he, bel⟩ => ?_
  subst he
  exact ⟨_, rfl, _, _, _, [], _, [], hW', trodAll_mk1 (shut_bool Tryd.underlying4 _), (trodAll_cons_mk (Below.trod laidOut (by kernel_rfl) (of_decide_eq_true (by kernel_rfl)) k0 bel lt0) (trodAll_cons_mk (Below.trod laidOut (by kernel_rfl) (of_decide_eq_true (by kernel_rfl)) k1 bel lt1) (trodAll_cons_mk (shut_bool Tryd.underlying4 a2) trodAll_mk0))), rfl, bel.frame _, fun h => by cases h⟩

theorem over : Rows.encodeApartRow.holds Tryd.pinned (OpenSpec.ofChange Rows.encodeApartSpec) :=
  OpenClaim.holds_of_wide 3 Tryd.f3 rfl rfl rfl rfl rfl rfl rfl ⟨rfl, rfl, rfl, rfl, rfl⟩ rfl rfl rfl rfl rfl (by kernel_rfl) Tryd.func3 (by kernel_rfl)
    (of_decide_eq_true (by kernel_rfl)) (by unfold Func.isWrapper; first | (rw [if_pos (by decide +kernel)]; kernel_rfl) | (rw [if_neg (by decide +kernel)]; exact ⟨rfl, rfl⟩))
    (fun os started H enc _ => lifted os started H enc)

theorem proved : Rows.EncodeApartCardSaid :=
  Claim7.holds_tied_plain_at .later [] [.data, .data] true Rows.encodeApartCard.stood.harness false
    over (fun _ h => by cases h) (by kernel_rfl) (fun _ h => by cases h) encodeApart_row_tie rfl ⟨rfl, rfl⟩ (by kernel_rfl) rfl
    (fun f fn hf hfn => by
      obtain rfl : f = 3 := Option.some.inj ((show Tryd.prog.funcNamed Rows.encodeApartRow.func = some 3 by kernel_rfl).symm.trans hf) |>.symm
      obtain rfl : fn = Tryd.f3 := (Option.some.inj (Tryd.func3.symm.trans hfn)).symm
      exact ⟨by kernel_rfl, fun j t ht => by
        rw [Tryd.params3] at ht
        have hm : t ∈ [23, 23, 4] := by simpa using Array.mem_of_getElem? ht
        have hall : ([23, 23, 4].all fun u => !Tryd.prog.wantsStandIn u) = true := by kernel_rfl
        exact (show Tryd.prog.wantsStandIn t = false by simpa using List.all_eq_true.1 hall t hm)⟩)
    (by kernel_rfl)
end Go.Proofs.YtmofimgodmcdjaaDoor.encodeApart
