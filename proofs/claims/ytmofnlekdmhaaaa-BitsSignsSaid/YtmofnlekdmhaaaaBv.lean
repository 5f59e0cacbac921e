/- The contract of the document's own answer for Unpack. -/
import Derived.Test.YtmofnlekdmhaaaaBu
namespace Go.Proofs.Ytmofnlekdmhaaaa
open Go.ChangeShapes Go.WideShapes Go.ChangeAt Go.RowKit

theorem drop_two (s : ByteArray) (k : Nat) (h : k + 1 < s.size) :
    Pm.unpackB (s.data.toList.drop k) = Pm.pair (s[k]'(by omega)) s[k + 1] :: Pm.unpackB (s.data.toList.drop (k + 2)) := by
  have hl : s.data.toList.length = s.size := by simp
  rw [List.drop_eq_getElem_cons (show k < s.data.toList.length by omega), List.drop_eq_getElem_cons (show k + 1 < s.data.toList.length by omega)]
  rw [byte_at' s k (by omega), byte_at' s (k + 1) h]
  rfl

theorem drop_one (s : ByteArray) (k : Nat) (h : k < s.size) (h1 : s.size ≤ k + 1) :
    Pm.unpackB (s.data.toList.drop k) = [((s[k]).toNat : Int)] ∧ s.data.toList.drop (k + 2) = [] := by
  have hl : s.data.toList.length = s.size := by simp
  rw [List.drop_eq_getElem_cons (show k < s.data.toList.length by omega), List.drop_eq_nil_of_le (show s.data.toList.length ≤ k + 1 by omega), List.drop_eq_nil_of_le (show s.data.toList.length ≤ k + 2 by omega)]
  rw [byte_at' s k h]
  exact ⟨rfl, rfl⟩

set_option maxHeartbeats 400000 in
theorem runpack_c (s : ByteArray) (w : World) (hs : s.size ≤ 1000000) :
    Calls Try.prog 22 #[.string s] w fun e w' => ∃ A c, e = .returned (.slice A (Pm.unpackB s.data.toList).length c) ∧ IntsAt w' w'.heap.size A (Pm.unpackB s.data.toList) ∧ Below w.heap.size w w' := by
  obtain ⟨i0, hi, hz0, hz1, hz2⟩ := info_parts Try.info3
  go_enter Try.func22, Try.ntmps22
  go_wp2
  go_loopw [3, 4] (fun v i wr => ∃ (k : Nat) (acc : List Int), i = .int .i64 k ∧ k ≤ s.size + 1 ∧ Pm.unpackB s.data.toList = acc ++ Pm.unpackB (s.data.toList.drop k) ∧ wr.ownsRow w.heap.size 3 1 v acc.length (Pm.ints acc) ∧ Below w.heap.size w wr) (fun _ i _ => s.size + 1 - (intOf i).toNat)
  case atStart => exact ⟨0, [], rfl, by omega, by simp, World.ownsRow_nil _ _ _ _, Below.refl _ _⟩
  case round =>
    obtain ⟨k, acc, rfl, hk, hU, hB, hbel⟩ := hrel
    have hsz := hbel.size
    have hal : acc.length ≤ s.size := by
      have h1 := Pm.unpackB_length s.data.toList
      have h2 := congrArg List.length hU
      rw [List.length_append] at h2
      have h3 : s.data.toList.length = s.size := by simp
      omega
    by_cases hlt : k < s.size
    · have hk0 : (0 : Int) ≤ (k : Int) := by omega
      have hk1 : (k : Int) < (s.size : Int) := by omega
      have ew0 := wrap_byte s[k]
      have eb0 := byte_bd s[k]
      by_cases hlt2 : k + 1 < s.size
      · have hk2 : (k : Int) + 1 < (s.size : Int) := by omega
        rw [drop_two s k hlt2] at hU
        have HU := Lib.hid hU; clear hU
        have ew1 := wrap_byte s[k + 1]
        have eb1 := byte_bd s[k + 1]
        go_wp2_with (at_builtin; refine wpList_append_own _ rfl _ _ 31 rfl w.heap.size 3 i0 (.int .i64 0) 1 8 Try.underlying31 hi hz0 hz1 hz2 rfl (by omega) u3 acc.length (Pm.ints acc) rfl (hB.alloc _) ⟨wr.heap.size, 0, none⟩ 1 1 [.int .i64 ((s[k].toNat : Int) + 256 * (s[k + 1].toNat : Int))] rfl rfl (World.news_of_block (cs := #[.int .i64 ((s[k].toNat : Int) + 256 * (s[k + 1].toNat : Int))]) (t := 3) (fr := (0, 0)) (heap_alloc_new wr _)) (by simp [Value.oneCell']) (by unfold maxLen; omega) (by omega) (by simp; omega) ?_; intro v' w1 hown1 hgrow _)
        go_roundw
        case rel =>
          refine ⟨k + 2, acc ++ [Pm.pair s[k] s[k + 1]], by go_num, by omega, ?_, ?_, ?_⟩
          · rw [HU.out]; simp
          · rw [← Pm.ints_snoc]; simpa [Pm.pair] using hown1
          · exact (hbel.alloc hsz _).grown hgrow (by simp; omega) (fun j hj => (hB.lt j hj).1)
        case measure => simp [intOf]; omega
      · have hx := drop_one s k hlt (by omega)
        rw [hx.1] at hU
        have HU := Lib.hid hU; clear hU
        have HN := Lib.hid hx.2; clear hx
        have hk2 : ¬ (k : Int) + 1 < (s.size : Int) := by omega
        go_wp2_with (at_builtin; refine wpList_append_own _ rfl _ _ 31 rfl w.heap.size 3 i0 (.int .i64 0) 1 8 Try.underlying31 hi hz0 hz1 hz2 rfl (by omega) u3 acc.length (Pm.ints acc) rfl (hB.alloc _) ⟨wr.heap.size, 0, none⟩ 1 1 [.int .i64 ((s[k].toNat : Int))] rfl rfl (World.news_of_block (cs := #[.int .i64 ((s[k].toNat : Int))]) (t := 3) (fr := (0, 0)) (heap_alloc_new wr _)) (by simp [Value.oneCell']) (by unfold maxLen; omega) (by omega) (by simp; omega) ?_; intro v' w1 hown1 hgrow _)
        go_roundw
        case rel =>
          refine ⟨k + 2, acc ++ [(s[k].toNat : Int)], by go_num, by omega, ?_, ?_, ?_⟩
          · rw [HU.out, HN.out]; simp [Pm.unpackB]
          · rw [← Pm.ints_snoc]; simpa using hown1
          · exact (hbel.alloc hsz _).grown hgrow (by simp; omega) (fun j hj => (hB.lt j hj).1)
        case measure => simp [intOf]; omega
    · rw [List.drop_eq_nil_of_le (by simp; omega)] at hU
      rw [show Pm.unpackB [] = [] from rfl, List.append_nil] at hU
      have HU := Lib.hid hU; clear hU
      go_wp2
      go_ret
      obtain ⟨A, c, hv', hI⟩ := IntsAt.of_own hB rfl
      refine ⟨A, c, ?_, ?_, hbel⟩
      · rw [HU.out, ← hv']; rfl
      · rw [HU.out]; exact hI
end Go.Proofs.Ytmofnlekdmhaaaa
