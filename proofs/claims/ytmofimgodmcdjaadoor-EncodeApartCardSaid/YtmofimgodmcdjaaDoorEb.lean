/- Contracts of encode's Best and Encode, of what tries a width and of what makes that; the chapter's examples (awake). No conditions but those that each fact names. -/
import Derived.Test.YtmofimgodmcdjaaDoorRows
import Derived.Test.YtmofimgodmcdjaaDoorEa
import Derived.Test.YtmofimgodmcdjaaDoorNs
import Derived.Test.YtmofimgodmcdjaaDoorXl
namespace Go.Proofs.YtmofimgodmcdjaaDoor
open Go.ChangeShapes Go.WideShapes Go.ChangeAt Go.RowKit
namespace Ew

def oneL : Option Int → List Int
  | some a => [a]
  | none => []
def twoL : Option (Int × Int) → List Int
  | some p => [p.1, p.2]
  | none => []
/-- the halfwords of an instruction at a width; none: an empty row -/
def tryL (i : Nm.I) (it b : Bool) : List Int := if b then twoL (Wm.encW Wm.findF i it) else oneL (Nm.encI i it)
def bestL (i : Nm.I) (it : Bool) : List Int := if (tryL i it false).length = 0 then tryL i it true else tryL i it false

theorem made_1 (w : World) (a : Int) : IntsAt (w.alloc (.cells #[.int .i64 a] 3)) (w.alloc (.cells #[.int .i64 a] 3)).heap.size (some ⟨w.heap.size, 0, none⟩) [a] := (IntsAt.new_ w [a]).more (by simp)
theorem made_2 (w : World) (a b : Int) : IntsAt (w.alloc (.cells #[.int .i64 a, .int .i64 b] 3)) (w.alloc (.cells #[.int .i64 a, .int .i64 b] 3)).heap.size (some ⟨w.heap.size, 0, none⟩) [a, b] := (IntsAt.new_ w [a, b]).more (by simp)

theorem try_c (op cond rd rn rm imm mode list : Int) (s it : Bool) (hw : Nm.Wide list) (bi bt : Nat) (b : Bool) (w : World) (hT : Tabs w)
    (hi : ∀ j, w.cell? ⟨bi, j, none⟩ = (#[.int .i64 op, .int .i64 cond, .int .i64 rd, .int .i64 rn, .int .i64 rm, .int .i64 imm, .int .i64 mode, .int .i64 list, .bool s] : Array Value)[j]?) (ht : w.cell? ⟨bt, 0, none⟩ = some (.bool it)) :
    Calls Tryd.prog 10 #[.bool b, .pointer (some ⟨bi, 0, none⟩), .pointer (some ⟨bt, 0, none⟩)] w fun e w' => (∃ A c, e = .returned (.slice A (tryL ⟨op, cond, rd, rn, rm, imm, mode, list, s⟩ it b).length c) ∧ IntsAt w' w'.heap.size A (tryL ⟨op, cond, rd, rn, rm, imm, mode, list, s⟩ it b)) ∧ Below w.heap.size w w' := by
  have hN := fun W hT => penc_c op cond rd rn rm imm mode list s it hw W hT
  have hX := fun W hT => Xw.penc_c op cond rd rn rm imm mode list s it hw W hT
  unfold tryL
  generalize Nm.encI ⟨op, cond, rd, rn, rm, imm, mode, list, s⟩ it = N at *
  generalize Wm.encW Wm.findF ⟨op, cond, rd, rn, rm, imm, mode, list, s⟩ it = X at *
  clear hw
  replace hT := Lib.hid hT
  cases b with
  | false =>
    rw [if_neg Bool.false_ne_true]
    clear hX
    replace hN := Lib.hid (hN w hT.out)
    clear hT
    cases N with
    | none =>
      go_enter Tryd.func10, Tryd.ntmps10
      go_wp2_with fail
      refine hN.out.mono ?_
      rintro e w1 ⟨rfl, hb⟩
      unfold optV
      go_wp2
      go_ret
      exact ⟨⟨none, 0, rfl, .inl rfl⟩, hb⟩
    | some a =>
      go_enter Tryd.func10, Tryd.ntmps10
      go_wp2_with fail
      refine hN.out.mono ?_
      rintro e w1 ⟨rfl, hb⟩
      unfold optV
      go_wp2
      go_ret
      exact ⟨⟨_, _, rfl, made_1 w1 a⟩, hb.trans ((Below.refl _ _).alloc hb.size _)⟩
  | true =>
    rw [if_pos rfl]
    clear hN
    replace hX := Lib.hid (hX w hT.out)
    clear hT
    cases X with
    | none =>
      go_enter Tryd.func10, Tryd.ntmps10
      go_wp2_with fail
      refine hX.out.mono ?_
      rintro e w1 ⟨rfl, hb⟩
      unfold Xw.optP
      go_wp2
      go_ret
      exact ⟨⟨none, 0, rfl, .inl rfl⟩, hb⟩
    | some p =>
      obtain ⟨x, y⟩ := p
      go_enter Tryd.func10, Tryd.ntmps10
      go_wp2_with fail
      refine hX.out.mono ?_
      rintro e w1 ⟨rfl, hb⟩
      unfold Xw.optP
      dsimp only
      go_wp2
      go_ret
      exact ⟨⟨_, _, rfl, made_2 w1 x y⟩, hb.trans ((Below.refl _ _).alloc hb.size _)⟩

theorem tryOf_c (op cond rd rn rm imm mode list : Int) (s it : Bool) (w : World) :
    Calls Tryd.prog 8 #[.agg #[.int .i64 op, .int .i64 cond, .int .i64 rd, .int .i64 rn, .int .i64 rm, .int .i64 imm, .int .i64 mode, .int .i64 list, .bool s], .bool it] w fun e w' => e = .returned (.func (.func 10) #[] #[.pointer (some ⟨w.heap.size, 0, none⟩), .pointer (some ⟨w.heap.size + 1, 0, none⟩)]) ∧ w' = (w.alloc (.cells #[.int .i64 op, .int .i64 cond, .int .i64 rd, .int .i64 rn, .int .i64 rm, .int .i64 imm, .int .i64 mode, .int .i64 list, .bool s] 23)).alloc (.cells #[.bool it] 4) := by
  have hmf : ∀ (fn : Fn) (first cap : Array Value) (w : World), (Instr.makeFunc fn first cap).run Tryd.prog w = .ok (.func fn first cap) w := fun _ _ _ _ => rfl
  go_enter Tryd.func8, Tryd.ntmps8
  go_wp2
  go_ret
  exact ⟨rfl, rfl⟩

/-- an instruction and a bool, made anew, and all that comes: what tries a width -/
theorem tries_of (op cond rd rn rm imm mode list : Int) (s it : Bool) (hw : Nm.Wide list) (w w1 : World) (n : Nat) (hn : w.heap.size = n) (hT : Tabs w)
    (hb : Below ((w.alloc (.cells #[.int .i64 op, .int .i64 cond, .int .i64 rd, .int .i64 rn, .int .i64 rm, .int .i64 imm, .int .i64 mode, .int .i64 list, .bool s] 23)).alloc (.cells #[.bool it] 4)).heap.size ((w.alloc (.cells #[.int .i64 op, .int .i64 cond, .int .i64 rd, .int .i64 rn, .int .i64 rm, .int .i64 imm, .int .i64 mode, .int .i64 list, .bool s] 23)).alloc (.cells #[.bool it] 4)) w1) :
    Tries (.pointer (some ⟨n, 0, none⟩)) (.pointer (some ⟨n + 1, 0, none⟩)) (tryL ⟨op, cond, rd, rn, rm, imm, mode, list, s⟩ it) w1 := by
  subst hn
  intro b W hW
  have hs := hb.size
  have e1 : (w.alloc (.cells #[.int .i64 op, .int .i64 cond, .int .i64 rd, .int .i64 rn, .int .i64 rm, .int .i64 imm, .int .i64 mode, .int .i64 list, .bool s] 23)).heap.size = w.heap.size + 1 := by simp
  have hall := hb.trans (hW.mono hs)
  have hl : Below w.heap.size w W := (((Below.refl _ _).alloc (Nat.le_refl _) _).alloc (by simp) _).trans (hall.mono (by simp; omega))
  refine try_c op cond rd rn rm imm mode list s it hw _ _ b W (hT.below hl hT.big) (fun j => ?_) ?_
  · exact (hall.cell (p := ⟨w.heap.size, j, none⟩) (by simp; omega)).trans ((World.cell?_alloc_lt _ _ ⟨w.heap.size, j, none⟩ (by simp)).trans (World.cell?_alloc_new w _ _ j))
  · have h := World.cell?_alloc_new (w.alloc (.cells #[.int .i64 op, .int .i64 cond, .int .i64 rd, .int .i64 rn, .int .i64 rm, .int .i64 imm, .int .i64 mode, .int .i64 list, .bool s] 23)) #[.bool it] 4 0
    rw [e1] at h
    exact (hall.cell (p := ⟨w.heap.size + 1, 0, none⟩) (by simp)).trans h

theorem best_c (op cond rd rn rm imm mode list : Int) (s it : Bool) (hw : Nm.Wide list) (w : World) (hT : Tabs w) :
    Calls Tryd.prog 4 #[.agg #[.int .i64 op, .int .i64 cond, .int .i64 rd, .int .i64 rn, .int .i64 rm, .int .i64 imm, .int .i64 mode, .int .i64 list, .bool s], .bool it] w fun e w' => RowIs (bestL ⟨op, cond, rd, rn, rm, imm, mode, list, s⟩ it) e w' ∧ Below w.heap.size w w' := by
  have hT1 : Tabs (w.alloc (.cells #[.int .i64 op, .int .i64 cond, .int .i64 rd, .int .i64 rn, .int .i64 rm, .int .i64 imm, .int .i64 mode, .int .i64 list, .bool s] 23)) := hT.below (n := w.heap.size) ((Below.refl _ _).alloc (Nat.le_refl _) _) hT.big
  have hTr := Lib.hid (fun w1 hb => tries_of op cond rd rn rm imm mode list s it hw _ w1 (w.heap.size + 1) (by simp) hT1 hb)
  clear hT hT1 hw
  obtain ⟨L, hL⟩ : ∃ L, bestL ⟨op, cond, rd, rn, rm, imm, mode, list, s⟩ it = L := ⟨_, rfl⟩
  rw [hL]
  replace hL := Lib.hid hL
  go_enter Tryd.func4, Tryd.ntmps4
  go_wp2_with fail
  refine (tryOf_c op cond rd rn rm imm mode list s it _).mono ?_
  rintro e w1 ⟨rfl, hw1⟩
  have hz : w1.heap.size = w.heap.size + 1 + 1 + 1 := by rw [hw1]; simp
  have hl : Below w.heap.size w w1 := by rw [hw1]; exact (((Below.refl _ _).alloc (Nat.le_refl _) _).alloc (by simp) _).alloc (by simp; omega) _
  have hTr1 := Lib.hid (hTr.out (w1.alloc (.cells #[.bool false, .bool true] 4)) (by rw [hw1]; exact (Below.refl _ _).alloc (Nat.le_refl _) _))
  clear hTr hw1
  go_wp2_with fail
  refine (first2_c _ _ _ (w.heap.size + 1 + 1 + 1) 2 _ (by rw [← hz]; simp) (by rw [← hz]; exact World.cell?_alloc_new w1 #[.bool false, .bool true] 4 0) (by rw [← hz]; exact World.cell?_alloc_new w1 #[.bool false, .bool true] 4 1) hTr1.out).mono ?_
  rintro e w2 ⟨hR, hb⟩
  have hend : Below w.heap.size w w2 := (hl.alloc (by omega) _).trans (hb.mono (by simp; omega))
  clear hTr1 hb hl
  replace hR : RowIs (bestL ⟨op, cond, rd, rn, rm, imm, mode, list, s⟩ it) e w2 := hR
  rw [hL.out] at hR
  rcases hR with ⟨h0, rfl⟩ | ⟨h0, A, c, rfl, hI⟩
  · go_wp2
    refine bodyPost_ret (v := .tuple #[.slice none 0 0, .int .i64 6]) (by simp [results, Tryd.results4, go_sem]) rfl ?_
    exact ⟨.inl ⟨h0, rfl⟩, hend⟩
  · go_wp2
    refine bodyPost_ret (v := .tuple #[.slice A L.length c, .int .i64 0]) (by simp [results, Tryd.results4, go_sem]) rfl ?_
    exact ⟨.inr ⟨h0, A, c, rfl, hI⟩, hend⟩

theorem encode_c (op cond rd rn rm imm mode list : Int) (s b it : Bool) (hw : Nm.Wide list) (w : World) (hT : Tabs w) :
    Calls Tryd.prog 9 #[.agg #[.int .i64 op, .int .i64 cond, .int .i64 rd, .int .i64 rn, .int .i64 rm, .int .i64 imm, .int .i64 mode, .int .i64 list, .bool s], .bool b, .bool it] w fun e w' => RowIs (tryL ⟨op, cond, rd, rn, rm, imm, mode, list, s⟩ it b) e w' ∧ Below w.heap.size w w' := by
  have hT1 : Tabs (w.alloc (.cells #[.int .i64 op, .int .i64 cond, .int .i64 rd, .int .i64 rn, .int .i64 rm, .int .i64 imm, .int .i64 mode, .int .i64 list, .bool s] 23)) := hT.below (n := w.heap.size) ((Below.refl _ _).alloc (Nat.le_refl _) _) hT.big
  have hTr := Lib.hid (fun w1 hb => tries_of op cond rd rn rm imm mode list s it hw _ w1 (w.heap.size + 1) (by simp) hT1 hb)
  clear hT hT1 hw
  obtain ⟨L, hL⟩ : ∃ L, tryL ⟨op, cond, rd, rn, rm, imm, mode, list, s⟩ it b = L := ⟨_, rfl⟩
  rw [hL]
  replace hL := Lib.hid hL
  go_enter Tryd.func9, Tryd.ntmps9
  go_wp2_with fail
  refine (tryOf_c op cond rd rn rm imm mode list s it _).mono ?_
  rintro e w1 ⟨rfl, hw1⟩
  have hz : w1.heap.size = w.heap.size + 1 + 1 + 1 := by rw [hw1]; simp
  have hl : Below w.heap.size w w1 := by rw [hw1]; exact (((Below.refl _ _).alloc (Nat.le_refl _) _).alloc (by simp) _).alloc (by simp; omega) _
  have hTr1 := Lib.hid (hTr.out (w1.alloc (.cells #[.bool b] 4)) (by rw [hw1]; exact (Below.refl _ _).alloc (Nat.le_refl _) _))
  clear hTr hw1
  go_wp2_with fail
  refine (first1_c _ _ _ b (w.heap.size + 1 + 1 + 1) 1 _ (by rw [← hz]; exact World.cell?_alloc_new w1 #[.bool b] 4 0) hTr1.out).mono ?_
  rintro e w2 ⟨hR, hb⟩
  have hend : Below w.heap.size w w2 := (hl.alloc (by omega) _).trans (hb.mono (by simp; omega))
  clear hTr1 hb hl
  rw [hL.out] at hR
  rcases hR with ⟨h0, rfl⟩ | ⟨h0, A, c, rfl, hI⟩
  · go_wp2
    refine bodyPost_ret (v := .tuple #[.slice none 0 0, .int .i64 6]) (by simp [results, Tryd.results9, go_sem]) rfl ?_
    exact ⟨.inl ⟨h0, rfl⟩, hend⟩
  · go_wp2
    refine bodyPost_ret (v := .tuple #[.slice A L.length c, .int .i64 0]) (by simp [results, Tryd.results9, go_sem]) rfl ?_
    exact ⟨.inr ⟨h0, A, c, rfl, hI⟩, hend⟩
end Ew
end Go.Proofs.YtmofimgodmcdjaaDoor
