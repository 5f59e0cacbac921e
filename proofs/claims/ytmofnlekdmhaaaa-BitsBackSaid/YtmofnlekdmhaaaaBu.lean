/- Contracts of Unpack, of the document's own answer for it, and of the comparison of two rows of numbers. -/
import Derived.Test.YtmofnlekdmhaaaaBz
import Derived.Lib.IndexBytes
import Derived.Lib.RabinKarpLaws
namespace Go.Proofs.Ytmofnlekdmhaaaa
open Go.ChangeShapes Go.WideShapes Go.ChangeAt Go.RowKit

theorem IntsAt.drewN {w : World} {B n : Nat} {A : Option Addr} {xs : List Int} (h : IntsAt w B A xs) : IntsAt (w.drewN n) B A xs := by
  rcases h with h | ⟨b, off, h1, h2, h3⟩
  · exact .inl h
  · exact .inr ⟨b, off, h1, h2, fun j hj => by have := h3 j hj; simpa using this⟩

/-- two rows of the same numbers are told to be the same -/
theorem ints_c (A A' : Option Addr) (c c' B : Nat) (xs : List Int) (w : World) (hA : IntsAt w B A xs) (hA' : IntsAt w B A' xs) (hl : xs.length ≤ 1000000) :
    Calls Try.prog 20 #[.slice A xs.length c, .slice A' xs.length c'] w fun e w' => e = .returned (.bool true) ∧ ∃ n, w' = w.drewN n := by
  go_enter Try.func20, Try.ntmps20
  go_wp2
  go_loopw [5] (fun i wr => ∃ k n : Nat, k ≤ xs.length ∧ i = .int .i64 k ∧ wr = w.drewN n) (fun i _ => xs.length - (intOf i).toNat)
  case atStart => exact ⟨0, 0, by omega, rfl, rfl⟩
  case round =>
    obtain ⟨k, n, hk, rfl, rfl⟩ := hrel
    by_cases hlt : k < xs.length
    · obtain ⟨b, off, rfl, hb, hc⟩ := hA.at_ hlt
      obtain ⟨b', off', rfl, hb', hc'⟩ := hA'.at_ hlt
      generalize xs.getD k 0 = z at *
      have hi0 : (0 : Int) ≤ (k : Int) := by omega
      have hi1 : (k : Int) < (xs.length : Int) := by omega
      go_wp2_with fail
      go_quiet (fail)
      go_wp2
      go_roundw
      case rel => exact ⟨k + 1, n + nq, by omega, by go_num, by first | rfl | exact World.drewN_drewN ..⟩
      case measure => simp [intOf]; omega
    · go_wp2
      go_ret
      exact ⟨rfl, n, rfl⟩

/-- a row of the call's own reads as its numbers -/
theorem IntsAt.of_own {w : World} {base n : Nat} {v : Value} {xs : List Int} (h : w.ownsRow base 3 1 v n (Pm.ints xs)) (hn : n = xs.length) :
    ∃ A c, v = .slice A xs.length c ∧ IntsAt w w.heap.size A xs := by
  subst hn
  have hlt := h.lt
  rcases h.2 with ⟨rfl, h0⟩ | ⟨g, cap, cur, rfl, _, hh, hnc, _, hsz, ht⟩
  · have e : xs = [] := List.eq_nil_of_length_eq_zero h0
    subst e
    exact ⟨none, 0, rfl, .inl rfl⟩
  · refine ⟨_, cap, rfl, .inr ⟨g, 0, rfl, (hlt g rfl).2, fun j hj => ?_⟩⟩
    have hj2 : j < cur.size := by omega
    have e1 : cur.toList[j]? = (Pm.ints xs)[j]? := by
      rw [← ht, List.getElem?_take_of_lt (by omega)]
    have e2 : (Pm.ints xs)[j]? = some (.int .i64 (xs.getD j 0)) := by
      simp [Pm.ints, List.getD, List.getElem?_eq_getElem hj]
    rw [Nat.zero_add]
    simp only [World.cell?, hh]
    rw [← e2, ← e1, Array.getElem?_toList]
    simp

theorem byte_bd (b : UInt8) : (0 : Int) ≤ (b.toNat : Int) ∧ (b.toNat : Int) < 256 := by
  have := b.toNat_lt
  omega

def strSize : Value → Nat
  | .string t => t.size
  | _ => 0

theorem wrap_byte (b : UInt8) : IntKind.i64.wrap (b.toNat : Int) = (b.toNat : Int) := by
  have := b.toNat_lt
  rw [IntKind.wrap_i64]; omega
theorem wrap_byte256 (b : UInt8) : IntKind.i64.wrap ((b.toNat : Int) * 256) = (b.toNat : Int) * 256 := by
  have := b.toNat_lt
  rw [IntKind.wrap_i64]; omega
theorem or_bytes (a b : UInt8) : bits .or .i64 (a.toNat : Int) ((b.toNat : Int) * 256) = Pm.pair a b := by
  unfold Pm.pair
  have ha := a.toNat_lt
  have hb := b.toNat_lt
  have h1 : (BitVec.ofInt 64 (a.toNat : Int)).toNat = a.toNat := by rw [BitVec.ofInt_natCast, BitVec.toNat_ofNat]; exact Nat.mod_eq_of_lt (by omega)
  have h2 : (BitVec.ofInt 64 ((b.toNat : Int) * 256)).toNat = b.toNat * 256 := by
    rw [show ((b.toNat : Int) * 256) = ((b.toNat * 256 : Nat) : Int) by simp, BitVec.ofInt_natCast, BitVec.toNat_ofNat]; exact Nat.mod_eq_of_lt (by omega)
  show IntKind.i64.wrap ((BitVec.ofInt 64 (a.toNat : Int) ||| BitVec.ofInt 64 ((b.toNat : Int) * 256)).toNat : Int) = _
  rw [BitVec.toNat_or, h1, h2, Nat.or_comm, nat_join 8 _ _ (by omega) (by omega)]
  rw [IntKind.wrap_i64]
  omega

theorem unpack_cut (t : ByteArray) (h : 2 ≤ t.size) : Pm.unpackB t.data.toList = Pm.pair t[0] t[1] :: Pm.unpackB (t.extract 2 t.size).data.toList := by
  have e0 := byte_at t 0 (by omega)
  have e1 := byte_at t 1 (by omega)
  rw [Lib.extract_to_end]
  match hl : t.data.toList, e0, e1 with
  | [], e0, _ => simp at e0
  | [a], _, e1 => simp at e1
  | a :: b :: r, e0, e1 =>
    simp at e0 e1
    rw [← e0, ← e1]
    rfl

theorem unpack_one (t : ByteArray) (h0 : 0 < t.size) (h1 : t.size ≤ 1) : Pm.unpackB t.data.toList = [(t[0].toNat : Int)] := by
  have e0 := byte_at t 0 (by omega)
  have hl2 : t.data.toList.length = 1 := by simp; omega
  match hl : t.data.toList, e0, hl2 with
  | [a], e0, _ =>
    simp at e0
    rw [← e0]
    rfl

theorem unpack_none (t : ByteArray) (h : t.size = 0) : Pm.unpackB t.data.toList = [] := by
  have e : t.data.toList = [] := List.eq_nil_of_length_eq_zero (by simpa using h)
  rw [e]
  rfl

set_option maxHeartbeats 400000 in
theorem unpack_c (s : ByteArray) (w : World) (hs : s.size ≤ 1000000) :
    Calls Try.prog 21 #[.string s] w fun e w' => ∃ A c, e = .returned (.slice A (Pm.unpackB s.data.toList).length c) ∧ IntsAt w' w'.heap.size A (Pm.unpackB s.data.toList) ∧ Below w.heap.size w w' := by
  obtain ⟨i0, hi, hz0, hz1, hz2⟩ := info_parts Try.info3
  go_enter Try.func21, Try.ntmps21
  go_wp2_with (at_make; refine wpList_make_own _ rfl _ _ 31 rfl w.heap.size 3 i0 (.int .i64 0) 1 Try.underlying31 hi hz0 hz1 _ _ _ (s.size / 2 + 1) rfl rfl (by omega) (by rw [hz2]; omega) (by unfold maxLen; omega) (Nat.le_refl _) ?_; intro w0 hown0 hgrow0)
  go_loopw [0, 3] (fun sv v wr => ∃ (t : ByteArray) (acc : List Int), sv = .string t ∧ Pm.unpackB s.data.toList = acc ++ Pm.unpackB t.data.toList ∧ wr.ownsRow w.heap.size 3 1 v acc.length (Pm.ints acc) ∧ Below w.heap.size w wr ∧ t.size ≤ s.size) (fun sv _ _ => strSize sv)
  case atStart => exact ⟨s, [], rfl, rfl, hown0, (Below.refl _ _).grown hgrow0 (Nat.le_refl _) (fun j hj => by cases hj), Nat.le_refl _⟩
  case round =>
    obtain ⟨t, acc, rfl, hU, hB, hbel, hts⟩ := hrel
    have hsz := hbel.size
    have hal : acc.length ≤ s.size := by
      have h1 := Pm.unpackB_length s.data.toList
      have h2 := congrArg List.length hU
      rw [List.length_append] at h2
      have h3 : s.data.toList.length = s.size := by simp
      omega
    by_cases hlt : 2 ≤ t.size
    · have hlt' : (2 : Int) ≤ (t.size : Int) := by omega
      have h0 : 0 < t.size := by omega
      have h1 : 1 < t.size := by omega
      have hx := unpack_cut t hlt
      rw [hx] at hU
      clear hx
      have HU := Lib.hid hU; clear hU
      have hb0 := byte_bd t[0]
      have hb1 := byte_bd t[1]
      have hor := or_bytes t[0] t[1]
      have HOR := Lib.hid hor; clear hor
      have ew0 := wrap_byte t[0]
      have ew1 := wrap_byte t[1]
      have ew2 := wrap_byte256 t[1]
      clear hb0 hb1
      go_wp2_with fail
      go_region_held3 (fun _ => True)
        (first
          | go_keep
          | trivial)
        ((refine step_append_lies _ (by rfl) _ _ _ (by rfl) w.heap.size 3 i0 _ 1 8 Try.underlying31 hi hz0 hz1 hz2 rfl (by omega) u3 acc.length (Pm.ints acc) (by rfl) ((hB.alloc _).drew)
            ⟨wr.heap.size, 0, none⟩ 1 1 [.int .i64 (bits .or .i64 (t[0].toNat : Int) ((t[1].toNat : Int) * 256))] (by rfl) (by rfl) (World.news_of_block (cs := #[.int .i64 (bits .or .i64 (t[0].toNat : Int) ((t[1].toNat : Int) * 256))]) (t := 3) (fr := (0, 0)) (heap_alloc_new wr _)) (by simp [Value.oneCell'])
            (by omega) (by unfold maxLen; omega) (by omega) (by simp; omega) (wr.heap.size + 1) (by simp) ?_; intro gg cap w1 hown1 hgrow hat hlt1))
      all_goals
        go_wp2
        go_roundw
        case rel =>
          refine ⟨t.extract 2 t.size, acc ++ [Pm.pair t[0] t[1]], rfl, by rw [HU.out]; simp, ?_, ?_, ?_⟩
          · rw [← Pm.ints_snoc, ← HOR.out]
            simpa using hown1
          · exact (((hbel.alloc hsz _).drew).grown hgrow (by simp; omega) (fun j hj => (hB.lt j hj).1)).mono (Nat.le_refl _)
          · simp; omega
        case measure => simp [strSize]; omega
    · have hdone : ∀ v : Value, ∀ wr : World, wr.ownsRow w.heap.size 3 1 v acc.length (Pm.ints acc) → Pm.unpackB s.data.toList = acc → ∃ A c, v = .slice A (Pm.unpackB s.data.toList).length c ∧ IntsAt wr wr.heap.size A (Pm.unpackB s.data.toList) := by
        intro v wr h e
        rw [e]
        exact IntsAt.of_own h rfl
      by_cases h1 : t.size = 1
      · have hne : ((t.size : Int) == 1) = true := by simp; omega
        have h0 : 0 < t.size := by omega
        have h1' : t.size ≤ 1 := by omega
        clear h1
        have hx := unpack_one t h0 h1'
        rw [hx] at hU
        clear hx hdone
        have HU := Lib.hid hU; clear hU
        have ew0 := wrap_byte t[0]
        go_wp2_with (at_builtin; refine wpList_append_own _ rfl _ _ 31 rfl w.heap.size 3 i0 (.int .i64 0) 1 8 Try.underlying31 hi hz0 hz1 hz2 rfl (by omega) u3 acc.length (Pm.ints acc) rfl (hB.alloc _) ⟨wr.heap.size, 0, none⟩ 1 1 [.int .i64 (t[0].toNat : Int)] rfl rfl (World.news_of_block (cs := #[.int .i64 (t[0].toNat : Int)]) (t := 3) (fr := (0, 0)) (heap_alloc_new wr _)) (by simp [Value.oneCell']) (by unfold maxLen; omega) (by omega) (by simp; omega) ?_; intro v' w1 hown1 hgrow _)
        go_ret
        rw [Pm.ints_snoc] at hown1
        obtain ⟨A, c, hv', hI⟩ := IntsAt.of_own hown1 (by simp)
        refine ⟨A, c, ?_, ?_, (hbel.alloc hsz _).grown hgrow (by simp; omega) (fun j hj => (hB.lt j hj).1)⟩
        · rw [HU.out, ← hv']; rfl
        · rw [HU.out]; exact hI
      · have hx := unpack_none t (by omega)
        rw [hx, List.append_nil] at hU
        clear hx
        obtain ⟨A, c, rfl, hI⟩ := hdone _ _ hB hU
        have hne : ((t.size : Int) == 1) = false := by simp; omega
        have HU := Lib.hid hU; clear hU hdone
        go_wp2
        go_ret
        exact ⟨A, c, rfl, hI, hbel⟩
end Go.Proofs.Ytmofnlekdmhaaaa
