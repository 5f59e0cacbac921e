/- Contract of eachName: it hands on each name with its place, and stops where it is told. -/
import Derived.Test.YtdnggaomdbdieaaRows
import Derived.Test.YtdnggaomdbdieaaTg
import Derived.Test.YtdnggaomdbdieaaRm
import Derived.RangeFuncNested
import Derived.RangeFuncBound
import Derived.RangeFuncCalls
import Derived.RangeFuncLeaves
import Derived.Shelf.Abstract
import Derived.Shelf.RegionOpen
import Derived.OwnWalkIn
import Derived.TacticsInMore
import Derived.LoopNIn
import Derived.LoopIn
import Derived.Lib.OthersKept
import Derived.Lib.Strings
namespace Go.Proofs.Ytdnggaomdbdieaa
open Go.ChangeShapes Go.WideShapes Go.ChangeAt Go.RowKit Go.Shelf
attribute [local go_sem] Oper.semAt_some

def allS : ByteArray := ⟨Rm.allB.toArray⟩
/-- a name, as a text -/
def nmS (k : Nat) : ByteArray := ⟨(Rm.nm k).toArray⟩
theorem all_size : allS.size = 63 := rfl
theorem all_at {p : Nat} (h : p < allS.size) : allS[p]'h = Rm.allB.getD p 0 := by
  have h' : p < Rm.allB.length := h
  rw [List.getD, List.getElem?_eq_getElem h']
  rfl
theorem all_part {p : Nat} (h : p < 63) (hb : Rm.allB.getD p 0 = 32) : allS.extract (Rm.startAt p) p = nmS (Rm.cntAt p) := by
  apply ByteArray.ext
  apply Array.ext'
  rw [Lib.extract_data]
  have := (Rm.at_blank h hb).2.2
  rw [List.drop_take] at this
  exact this

abbrev encs (x : Fin 19) : Array Value := #[.int .i64 ((x.val : Nat) : Int), .string (nmS x.val)]

def firsts (k : Nat) : List (Fin 19) := (List.finRange 19).take k

theorem firsts_all : ∀ k : Fin 19, firsts k.val ++ [k] = firsts (k.val + 1) := by decide +kernel
theorem firsts_len (k : Nat) (h : k < 19) : (firsts k).length < 19 := by unfold firsts; rw [List.length_take]; omega
theorem grownBy_iterAt (w : World) (k : Nat) (s : ByteArray) (pos : Nat) : w.grownBy (w.iterAt k s pos) (some k) :=
  ⟨rfl, rfl, rfl, by rw [Lib.iterAt_size]; exact Nat.le_refl _, fun i _ hi => Lib.iterAt_other w k i s pos (fun e => hi (by rw [e]))⟩

theorem next_all (wr : World) (k p : Nat) (hit : wr.heap[k]? = some (.stringIter allS p)) (h : p < 63) (hb : (Rm.allB.getD p 0).toNat < 128) (ty : TypeId) :
    (Instr.next (.pointer (some ⟨k, 0, none⟩)) true ty).run Try.prog wr = .ok (.tuple #[.bool true, .int .i64 p, .int .i32 (Rm.allB.getD p 0).toNat]) (wr.iterAt k allS (p + 1)) := by
  have h' : p < allS.size := h
  rw [Lib.run_next_ascii_at wr k allS p ty hit h' (by rw [all_at h']; exact hb), all_at h']
theorem next_none (wr : World) (k : Nat) (hit : wr.heap[k]? = some (.stringIter allS 63)) (ty : TypeId) :
    (Instr.next (.pointer (some ⟨k, 0, none⟩)) true ty).run Try.prog wr = .ok (.tuple #[.bool false]) wr := Lib.run_next_end_at wr k allS 63 ty hit (by decide)

theorem slice_all {p : Nat} (h : p < 63) (hb : Rm.allB.getD p 0 = 32) (w : World) :
    (Instr.slice 9 (.string ⟨#[114, 48, 32, 114, 49, 32, 114, 50, 32, 114, 51, 32, 114, 52, 32, 114, 53, 32, 114, 54, 32, 114, 55, 32, 114, 56, 32, 114, 57, 32, 114, 49, 48, 32, 114, 49, 49, 32, 114, 49, 50, 32, 115, 112, 32, 108, 114, 32, 112, 99, 32, 114, 49, 51, 32, 114, 49, 52, 32, 114, 49, 53, 32]⟩) (some (.int .i64 (Rm.startAt p : Nat))) (some (.int .i64 (p : Nat))) none).run Try.prog w = .ok (.string (nmS (Rm.cntAt p))) w := by
  have hle := (Rm.at_bd h).1
  rw [← all_part h hb]
  exact run_slice_string (P := Try.prog) w 9 allS .i64 .i64 (Rm.startAt p : Nat) (p : Nat) Try.underlying9 (by omega) (by omega) (by rw [all_size]; omega)

set_option maxRecDepth 100000 in
set_option maxHeartbeats 2000000 in
theorem eachName_stops (F : Fence) (n : Nat) (h22 : F.fn 22) (hro : F.round = none) (hn : 1 ≤ n) (w : World) :
    SeqStopsK F n Try.prog 22 #[] encs KeepsWalks (fun xs => xs = List.finRange 19) (fun pre => pre <+: List.finRange 19) 19 w := fun l J Jx W hbW hJ hJx hY h0 => by
  refine callsIn_of_wp Try.func22 rfl h22 ?_ hro
  simp only [Try.ntmps22, List.size_toArray, List.length_cons, List.length_nil, Nat.reduceAdd, Nat.reduceSub, Array.replicate_succ, Array.replicate_zero, List.push_toArray, List.append_toArray, List.nil_append, List.cons_append]
  gi_wp2
  gi_loopw [2, 3] (fun nv fv wr => ∃ p : Nat, p ≤ 63 ∧ nv = .int .i64 (Rm.cntAt p : Nat) ∧ fv = .int .i64 (Rm.startAt p : Nat) ∧ wr.heap[W.heap.size]? = some (.stringIter allS p) ∧ J (firsts (Rm.cntAt p)) wr)
    (fun _ _ wr => 63 - wr.iterPos W.heap.size)
  case atStart =>
    exact ⟨0, by omega, rfl, rfl, World.iter_heap W allS 0, hJ _ W _ none h0 (World.grownBy_alloc W _ none) (fun r e => by cases e)⟩
  case round =>
    obtain ⟨p, hp, rfl, rfl, hit, hJp⟩ := hrel
    by_cases hlt : p < 63
    · obtain ⟨hb1, hb2, hb3⟩ := Rm.at_bd hlt
      have hnx := next_all wr W.heap.size p hit hlt hb3
      have hit2 := Lib.iterAt_heap wr W.heap.size allS p (p + 1) hit
      have hJ2 : J (firsts (Rm.cntAt p)) (wr.iterAt W.heap.size allS (p + 1)) := hJ _ wr _ (some W.heap.size) hJp (grownBy_iterAt _ _ _ _) (fun r e => by cases e; exact ⟨Nat.le_refl _, _, hit, rfl⟩)
      generalize wr.iterAt W.heap.size allS (p + 1) = w2 at *
      by_cases hb : Rm.allB.getD p 0 = 32
      · obtain ⟨e1, e2, e3⟩ := Rm.at_blank hlt hb
        have hx := all_part hlt hb
        rw [hb] at hnx
        obtain ⟨fn, tmps, assign, body, hy, hR⟩ := hY (firsts (Rm.cntAt p)) ⟨Rm.cntAt p, hb2⟩ w2 hJ2 (firsts_len _ hb2)
        rw [firsts_all ⟨Rm.cntAt p, hb2⟩] at hR
        dsimp only [encs] at hy
        have hsl := slice_all hlt hb
        gi_wp2
        refine hR.mono ?_
        rintro e W3 (⟨rfl, hJ3, hk3⟩ | ⟨rfl, hJx3⟩)
        · have hit3 := hk3.same _ _ hit2 rfl
          gi_wp2
          go_roundw
          case rel => exact ⟨p + 1, by omega, by rw [e1]; go_num, by rw [e2]; go_num, hit3, by rw [e1]; exact hJ3⟩
          case measure => simp only [World.iterPos, hit3, hit]; omega
        · gi_wp2
          refine bodyPost_ret (results_none rfl _ _ _) rfl ?_
          exact ⟨⟨_, rfl⟩, .inr ⟨_, List.take_prefix _ _, hJx3⟩⟩
      · obtain ⟨e1, e2⟩ := Rm.at_other hlt hb
        have hb4 : ¬ (Rm.allB.getD p 0).toNat = 32 := fun e => hb (UInt8.toNat_inj.1 e)
        generalize (Rm.allB.getD p 0).toNat = c at *
        gi_wp2
        go_roundw
        case rel => exact ⟨p + 1, by omega, by rw [e1], by rw [e2], hit2, by rw [e1]; exact hJ2⟩
        case measure => simp only [World.iterPos, hit2, hit]; omega
    · obtain rfl : p = 63 := by omega
      have hnx := next_none wr W.heap.size hit
      gi_wp2
      go_end0
      exact ⟨⟨_, rfl⟩, .inl ⟨_, rfl, by rw [Rm.at_end] at hJp; exact hJp⟩⟩
end Go.Proofs.Ytdnggaomdbdieaa
