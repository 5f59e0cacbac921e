/- Contracts of Pack and Unpack, of the document's own answers for them, and of the comparison of two rows of numbers. -/
import Derived.Test.YtmofnlekdmhaaaaRows
import Derived.Test.YtmofnlekdmhaaaaBw
import Derived.Test.YtmofnlekdmhaaaaPm
import Derived.Test.YtmofnlekdmhaaaaSh
import Derived.LoopTactic
import Derived.OwnWalk
import Derived.Deep.RegionHeld3
import Derived.Deep.AppendLies
import Derived.Laws.IdiomStrings
import Derived.Lib.BufferRead
namespace Go.Proofs.Ytmofnlekdmhaaaa
open Go.ChangeShapes Go.WideShapes Go.ChangeAt Go.RowKit

/-- the address A leads to the numbers xs, in a block below B (nowhere, where there is none) -/
def IntsAt (w : World) (B : Nat) (A : Option Addr) (xs : List Int) : Prop :=
  xs = [] ∨ ∃ b off, A = some ⟨b, off, none⟩ ∧ b < B ∧ ∀ j, j < xs.length → w.cell? ⟨b, off + j, none⟩ = some (.int .i64 (xs.getD j 0))

theorem IntsAt.below {w w' : World} {B B' : Nat} {A : Option Addr} {xs : List Int} (h : IntsAt w B A xs) (hb : Below B' w w') (hB : B ≤ B') : IntsAt w' B A xs := by
  rcases h with h | ⟨b, off, h1, h2, h3⟩
  · exact .inl h
  · exact .inr ⟨b, off, h1, h2, fun j hj => (hb.cell (p := ⟨b, off + j, none⟩) (by show b < B'; omega)).trans (h3 j hj)⟩

theorem IntsAt.at_ {w : World} {B : Nat} {A : Option Addr} {xs : List Int} (h : IntsAt w B A xs) {k : Nat} (hk : k < xs.length) :
    ∃ b off, A = some ⟨b, off, none⟩ ∧ b < B ∧ w.cell? ⟨b, off + k, none⟩ = some (.int .i64 (xs.getD k 0)) := by
  rcases h with rfl | ⟨b, off, h1, h2, h3⟩
  · simp at hk
  · exact ⟨b, off, h1, h2, h3 k hk⟩

theorem string_congr {a b : List UInt8} (h : a = b) : Ending.returned (.string ⟨a.toArray⟩) = .returned (.string ⟨b.toArray⟩) := by rw [h]

set_option maxHeartbeats 400000 in
theorem join_c (A : Option Addr) (c : Nat) (xs : List Int) (w : World) (hA : IntsAt w w.heap.size A xs) (hl : xs.length ≤ 1000000) :
    Calls Try.prog 25 #[.slice A xs.length c] w fun e w' => e = .returned (.string ⟨(Pm.packB xs).toArray⟩) ∧ Below w.heap.size w w' := by
  go_enter Try.func25, Try.ntmps25
  go_wp2_with ((go_at_call 26; refine (builder_GrowI w.heap.size w.heap.size _ _ (Nat.le_refl _) (heap_alloc_new w _) (by simp) (by omega) (by omega)).mono ?_; rintro e w1 ⟨rfl, hb1, hb2⟩))
  have hb3 : Below w.heap.size w w1 := ((Below.refl _ _).alloc (Nat.le_refl _) _).trans hb2
  clear hb2
  go_loopw [12] (fun i wr => ∃ k : Nat, k ≤ xs.length ∧ i = .int .i64 k ∧ Lib.BuilderAt 46 5 w.heap.size w.heap.size (.pointer (some ⟨w.heap.size, 0, none⟩)) (Lib.byteCells (Pm.packB (xs.take k))) wr ∧ Below w.heap.size w wr) (fun i _ => xs.length - (intOf i).toNat)
  case atStart => exact ⟨0, by omega, rfl, hb1, hb3⟩
  case round =>
    obtain ⟨k, hk, rfl, hB, hbel⟩ := hrel
    have hsz := hbel.size
    by_cases hlt : k < xs.length
    · obtain ⟨b, off, rfl, hb, hc⟩ := (hA.below hbel (Nat.le_refl _)).at_ hlt
      have hlen : (Lib.byteCells (Pm.packB (xs.take k))).length ≤ 2000000 := by rw [Pm.byteCells_length, Pm.packB_length, List.length_take]; omega
      have hts := Pm.take_snoc xs k hlt
      generalize xs.getD k 0 = z at *
      have e1 : Lib.byteCells (Pm.packB (xs.take (k + 1))) = Lib.byteCells (Pm.packB (xs.take k)) ++ [.int .u8 (z % 256)] ++ [.int .u8 (z / 256 % 256)] := by
        rw [hts, Pm.packB_snoc, Pm.byteCells_append, List.append_assoc, show [Pm.lowByte z, Pm.lowByte (z / 256)] = [Pm.lowByte z] ++ [Pm.lowByte (z / 256)] from rfl, Pm.byteCells_append, Pm.byteCells_one, Pm.byteCells_one]
      have E1 := Lib.hid e1; clear e1 hts
      generalize Lib.byteCells (Pm.packB (xs.take k)) = bs at *
      go_wp2_with fail
      refine (builder_WriteByte _ _ bs _ _ (.inr hB) (by omega) (by omega)).mono ?_
      rintro e w2 ⟨rfl, hB2, hbel2⟩
      go_wp2_with fail
      refine (builder_WriteByte _ _ _ _ _ (.inr hB2) (by simp; omega) (by have := hbel2.size; omega)).mono ?_
      rintro e w3 ⟨rfl, hB3, hbel3⟩
      go_wp2
      go_roundw
      case rel => exact ⟨k + 1, by omega, by go_num, by rw [E1.out]; exact hB3, (hbel.trans hbel2).trans hbel3⟩
      case measure => simp [intOf]; omega
    · obtain rfl : k = xs.length := by omega
      rw [List.take_length] at hB
      go_wp2_with ((go_at_call 28; refine (builder_String _ _ _ _ (.inr hB) (by omega)).mono ?_; rintro e w2 ⟨rfl, hb4⟩))
      go_ret
      exact ⟨rfl, hbel.trans hb4⟩

theorem pack_c (A : Option Addr) (c : Nat) (xs : List Int) (w : World) (hA : IntsAt w w.heap.size A xs) (hl : xs.length ≤ 1000000) :
    Calls Try.prog 18 #[.slice A xs.length c] w fun e w' => e = .returned (.string ⟨(Pm.packB xs).toArray⟩) ∧ Below w.heap.size w w' := by
  go_enter Try.func18, Try.ntmps18
  go_wp2_with ((go_at_call 25; refine (join_c A c xs _ hA hl).mono ?_; rintro e w2 ⟨rfl, hb4⟩))
  go_ret
  exact ⟨rfl, hb4⟩

theorem Try.info5 : (Try.prog.info? 5).map (fun i => (i.zero, i.size, i.bytes)) = some (some (.int .u8 0), 1, 1) := by kernel_rfl
theorem Try.info3 : (Try.prog.info? 3).map (fun i => (i.zero, i.size, i.bytes)) = some (some (.int .i64 0), 1, 8) := by kernel_rfl

theorem string_of_row {w : World} {base : Nat} {v : Value} {l : List UInt8} (h : w.ownsRow base 5 1 v l.length (Lib.byteCells l)) :
    (convert 43 9 v).run Try.prog w = .ok (.string ⟨l.toArray⟩) w := by
  rcases h.2 with ⟨rfl, h0⟩ | ⟨g, cap, cur, rfl, _, hh, _, _, _, ht⟩
  · have e : l = [] := List.eq_nil_of_length_eq_zero h0
    subst e
    exact Lib.run_convert_nil_bytes w _ _ _ _ Try.underlying43 Try.underlying5 Try.underlying9
  · rw [Nat.mul_one] at ht
    exact run_convert_bytes_back w _ _ _ _ cap l Try.underlying43 Try.underlying5 Try.underlying9 (Lib.bytes_of_row hh ht)

set_option maxHeartbeats 400000 in
theorem rpack_c (A : Option Addr) (c : Nat) (xs : List Int) (w : World) (hA : IntsAt w w.heap.size A xs) (hl : xs.length ≤ 1000000) :
    Calls Try.prog 19 #[.slice A xs.length c] w fun e w' => e = .returned (.string ⟨(Pm.packB xs).toArray⟩) ∧ Below w.heap.size w w' := by
  obtain ⟨i0, hi, hz0, hz1, hz2⟩ := info_parts Try.info5
  go_enter Try.func19, Try.ntmps19
  go_wp2
  go_loopw [3, 4] (fun v i wr => ∃ k : Nat, k ≤ xs.length ∧ i = .int .i64 k ∧ wr.ownsRow w.heap.size 5 1 v (Pm.packB (xs.take k)).length (Lib.byteCells (Pm.packB (xs.take k))) ∧ Below w.heap.size w wr) (fun _ i _ => xs.length - (intOf i).toNat)
  case atStart => exact ⟨0, by omega, rfl, World.ownsRow_nil _ _ _ _, Below.refl _ _⟩
  case round =>
    obtain ⟨k, hk, rfl, hB, hbel⟩ := hrel
    have hsz := hbel.size
    by_cases hlt : k < xs.length
    · obtain ⟨b, off, rfl, hb, hc⟩ := (hA.below hbel (Nat.le_refl _)).at_ hlt
      have hE := Pm.take_snoc xs k hlt
      generalize xs.getD k 0 = z at *
      have hne : u3.ownBlock ≠ some b := fun e => by have := hB.lt b e; omega
      have hi0 : (0 : Int) ≤ (k : Int) := by omega
      have hi1 : (k : Int) < (xs.length : Int) := by omega
      have hlen : (Pm.packB (xs.take k)).length ≤ 2000000 := by rw [Pm.packB_length, List.length_take]; omega
      have e1 : Lib.byteCells (Pm.packB (xs.take (k + 1))) = Lib.byteCells (Pm.packB (xs.take k)) ++ [.int .u8 (z % 256), .int .u8 (z / 256 % 256)] := by
        rw [hE, Pm.packB_snoc, Pm.byteCells_append, show [Pm.lowByte z, Pm.lowByte (z / 256)] = [Pm.lowByte z] ++ [Pm.lowByte (z / 256)] from rfl, Pm.byteCells_append, Pm.byteCells_one, Pm.byteCells_one]
        rfl
      have e2 : (Pm.packB (xs.take (k + 1))).length = (Pm.packB (xs.take k)).length + 2 := by rw [hE, Pm.packB_snoc]; simp
      have E1 := Lib.hid e1
      have E2 := Lib.hid e2
      clear e1 e2 hE
      generalize Lib.byteCells (Pm.packB (xs.take k)) = bs at *
      generalize (Pm.packB (xs.take k)).length = m at *
      go_wp2_with fail
      go_region_held3 (fun w' => w'.cell? ⟨b, off + k, none⟩ = some (.int .i64 z))
        (first
          | go_keep
          | (rw [hgrow.cell_far _ (by simp; omega) (Ne.symm hne)]; assumption))
        ((refine step_append_lies _ (by rfl) _ _ _ (by rfl) w.heap.size 5 i0 _ 1 1 Try.underlying43 hi hz0 hz1 hz2 rfl (by omega) u3 m bs (by rfl) ((hB.alloc _).drew)
            ⟨wr.heap.size, 0, none⟩ 2 2 [.int .u8 (z % 256), .int .u8 (z / 256 % 256)] (by rfl) (by rfl) (World.news_of_block (cs := #[.int .u8 (z % 256), .int .u8 (z / 256 % 256)]) (t := 5) (fr := (0, 0)) (heap_alloc_new wr _)) (by simp [Value.oneCell'])
            (by omega) (by unfold maxLen; omega) (by omega) (by simp; omega) (wr.heap.size + 1) (by simp) ?_; intro gg cap w1 hown1 hgrow hat hlt1))
      go_wp2
      go_roundw
      case rel =>
        refine ⟨k + 1, by omega, by go_num, ?_, ?_⟩
        · rw [E1.out, E2.out]; exact hown1
        · exact (((hbel.alloc hsz _).drew).grown hgrow (by simp; omega) (fun j hj => (hB.lt j hj).1))
      case measure => simp [intOf]; omega
    · obtain rfl : k = xs.length := by omega
      rw [List.take_length] at hB
      have hcv := string_of_row hB
      go_wp2
      go_ret
      exact ⟨rfl, hbel⟩
end Go.Proofs.Ytmofnlekdmhaaaa
