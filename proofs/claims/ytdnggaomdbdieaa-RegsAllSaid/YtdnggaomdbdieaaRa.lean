/- Contracts of All, the program's and the document's own, and of the document's own Count. -/
import Derived.Test.YtdnggaomdbdieaaRows
import Derived.Test.YtdnggaomdbdieaaRl
import Derived.Test.YtdnggaomdbdieaaRc
import Derived.Test.YtdnggaomdbdieaaCi
import Derived.Laws.OwnMore
import Derived.Deep.AppendLies
namespace Go.Proofs.Ytdnggaomdbdieaa
open Go.ChangeShapes Go.WideShapes Go.ChangeAt Go.RowKit

theorem ownsRow_drewN {w : World} {base : Nat} {e : TypeId} {size : Nat} {v : Value} {n : Nat} {xs : List Value} (h : w.ownsRow base e size v n xs) (k : Nat) : (w.drewN k).ownsRow base e size v n xs := h

theorem Try.info3 : (Try.prog.info? 3).map (fun i => (i.zero, i.size, i.bytes)) = some (some (.int .i64 0), 1, 8) := by kernel_rfl

/-- what a list's registers come back as -/
def RowOut (l : List Int) (w : World) (e : Ending) (w' : World) : Prop := ∃ A c, e = .returned (.slice A l.length c) ∧ l.length ≤ c ∧ IntsAt w' w'.heap.size A l ∧ Below w.heap.size w w'

theorem of_own {w : World} {base n : Nat} {v : Value} {xs : List Int} (h : w.ownsRow base 3 1 v n (ints xs)) (hn : n = xs.length) :
    ∃ A c, v = .slice A xs.length c ∧ xs.length ≤ c ∧ IntsAt w w.heap.size A xs := by
  obtain ⟨A, c, rfl, hI⟩ := IntsAt.of_own h hn
  refine ⟨A, c, rfl, ?_, hI⟩
  rcases h.2 with ⟨h1, h2⟩ | ⟨g, cap, cur, h1, _, _, h2, _⟩
  · omega
  · cases h1; omega

set_option maxHeartbeats 1000000 in
theorem all_c (m : Int) (w : World) : Calls Try.prog 16 #[.int .i64 m] w (RowOut (Rm.allI m) w) := by
  obtain ⟨i0, hi, hz0, hz1, hz2⟩ := info_parts Try.info3
  obtain ⟨V, eV⟩ : ∃ V, Rm.allI m = V := ⟨_, rfl⟩
  have HI : RowKit.Hid ([] ++ Rm.intsN (Rm.rest (Rm.bit m) 0 (16 - 0)) = V) := Lib.hid eV
  rw [eV]
  clear eV
  have hcb := Rm.count_bd m
  have hcc := count_c m
  generalize Rm.countN m = cn at *
  go_enter Try.func16, Try.ntmps16
  go_wp2_with ((go_at_call 13; refine (hcc _).mono ?_; rintro e w' ⟨rfl, k0, rfl⟩; obtain ⟨w2, hmk, hown, hgr⟩ := run_make_own (P := Try.prog) (w.drewN k0) (w.drewN k0).heap.size 28 3 i0 (.int .i64 0) 1 Try.underlying28 hi hz0 hz1 .i64 .i64 cn (by rw [hz2]; omega) (by unfold maxLen; omega) (Nat.le_refl _)))
  have hb2 : Below w.heap.size w w2 := (below_drewN (Below.refl _ w) k0).grown hgr (Nat.le_refl _) (fun k e => by cases e)
  have hown2 : w2.ownsRow w.heap.size 3 1 (.slice (some ⟨w.heap.size, 0, none⟩) 0 cn) 0 [] := hown
  clear hown hgr hmk hcc
  go_loopw [3, 8] (fun sv rv wr => ∃ (r : Nat) (acc : List Int), r ≤ 16 ∧ rv = .int .i64 r ∧ acc.length ≤ r ∧ RowKit.Hid (acc ++ Rm.intsN (Rm.rest (Rm.bit m) r (16 - r)) = V) ∧ wr.ownsRow w.heap.size 3 1 sv acc.length (ints acc) ∧ Below w.heap.size w wr) (fun _ rv _ => (16 - intOf rv).toNat)
  case atStart => exact ⟨0, [], by omega, rfl, by simp, HI, hown2, hb2⟩
  case round =>
    obtain ⟨r, acc, hr, rfl, hal, HF, hB, hbel⟩ := hrel
    have hsz := hbel.size
    by_cases hlt : r < 16
    · have hs := Rm.all_step m hlt acc
      rw [HF.out] at hs
      clear HF
      have ebit : (bits .and .i64 (m / 2 ^ r) 1 == 1) = Rm.bit m r := by rw [Rm.and1]; rfl
      obtain ⟨b, eb⟩ : ∃ b, Rm.bit m r = b := ⟨_, rfl⟩
      rw [eb] at hs ebit
      cases b with
      | true =>
        rw [if_pos rfl] at hs
        have HS := Lib.hid hs
        clear hs eb
        go_wp2_with ((at_builtin; refine wpList_append_own _ rfl _ _ 28 rfl w.heap.size 3 i0 (.int .i64 0) 1 8 Try.underlying28 hi hz0 hz1 hz2 rfl (by omega) u3 acc.length (ints acc) rfl (hB.alloc _) ⟨wr.heap.size, 0, none⟩ 1 1 [.int .i64 (r : Nat)] rfl rfl (World.news_of_block (cs := #[.int .i64 (r : Nat)]) (t := 3) (fr := (0, 0)) (heap_alloc_new wr _)) (by simp [Value.oneCell']) (by unfold maxLen; omega) (by omega) (by simp; omega) ?_; intro v' w1 hown1 hgrow _))
        go_roundw
        case rel =>
          rw [ints_snoc] at hown1
          exact ⟨r + 1, acc ++ [(r : Int)], by omega, by go_num, by simp; omega, Lib.hid HS.out.symm, by simpa using hown1, (hbel.alloc hsz _).grown hgrow (by simp; omega) (fun j hj => (hB.lt j hj).1)⟩
        case measure => simp [intOf]; omega
      | false =>
        rw [if_neg (by decide)] at hs
        have HS := Lib.hid hs
        clear hs eb
        go_wp2
        go_roundw
        case rel => exact ⟨r + 1, acc, by omega, by go_num, by omega, Lib.hid HS.out.symm, hB, hbel⟩
        case measure => simp [intOf]; omega
    · have hs := Rm.all_end m hlt acc
      rw [HF.out] at hs
      subst hs
      clear HF
      obtain ⟨A, cp, rfl, hcp, hI⟩ := of_own hB rfl
      go_wp2
      go_ret
      exact ⟨A, cp, rfl, hcp, hI, hbel⟩

set_option maxHeartbeats 1000000 in
theorem rall_c (m : Int) (w : World) : Calls Try.prog 17 #[.int .i64 m] w (RowOut (Rm.allI m) w) := by
  obtain ⟨i0, hi, hz0, hz1, hz2⟩ := info_parts Try.info3
  obtain ⟨V, eV⟩ : ∃ V, Rm.allI m = V := ⟨_, rfl⟩
  have HI : RowKit.Hid ([] ++ Rm.intsN (Rm.rest (Rm.bit m) 0 (16 - 0)) = V) := Lib.hid eV
  rw [eV]
  clear eV
  go_enter Try.func17, Try.ntmps17
  go_wp2
  go_loopw [3, 4] (fun sv rv wr => ∃ (r : Nat) (acc : List Int), r ≤ 16 ∧ rv = .int .i64 r ∧ acc.length ≤ r ∧ RowKit.Hid (acc ++ Rm.intsN (Rm.rest (Rm.bit m) r (16 - r)) = V) ∧ wr.ownsRow w.heap.size 3 1 sv acc.length (ints acc) ∧ Below w.heap.size w wr) (fun _ rv _ => (16 - intOf rv).toNat)
  case atStart => exact ⟨0, [], by omega, rfl, by simp, HI, World.ownsRow_nil _ _ _ _, Below.refl _ _⟩
  case round =>
    obtain ⟨r, acc, hr, rfl, hal, HF, hB, hbel⟩ := hrel
    have hsz := hbel.size
    by_cases hlt : r < 16
    · have hs := Rm.all_step m hlt acc
      rw [HF.out] at hs
      clear HF
      obtain ⟨b, eb⟩ : ∃ b, Rm.bit m r = b := ⟨_, rfl⟩
      rw [eb] at hs
      have EB := Lib.hid eb
      clear eb
      cases b with
      | true =>
        rw [if_pos rfl] at hs
        have HS := Lib.hid hs
        clear hs
        go_wp2_with (first
          | (go_at_call 25; refine (has_c m r hlt _).mono ?_; rintro e w' ⟨rfl, k1, rfl⟩; rw [EB.out])
          | (at_builtin; refine wpList_append_own _ rfl _ _ 28 rfl w.heap.size 3 i0 (.int .i64 0) 1 8 Try.underlying28 hi hz0 hz1 hz2 rfl (by omega) u3 acc.length (ints acc) rfl (ownsRow_drewN (hB.alloc _) _) ⟨wr.heap.size, 0, none⟩ 1 1 [.int .i64 (r : Nat)] rfl rfl (World.news_of_block (cs := #[.int .i64 (r : Nat)]) (t := 3) (fr := (0, 0)) (heap_alloc_new wr _)) (by simp [Value.oneCell']) (by unfold maxLen; omega) (by omega) (by simp; omega) ?_; intro v' w1 hown1 hgrow _))
        go_roundw
        case rel =>
          rw [ints_snoc] at hown1
          exact ⟨r + 1, acc ++ [(r : Int)], by omega, by go_num, by simp; omega, Lib.hid HS.out.symm, by simpa using hown1, (below_drewN (hbel.alloc hsz _) _).grown hgrow (by simp; omega) (fun j hj => (hB.lt j hj).1)⟩
        case measure => simp [intOf]; omega
      | false =>
        rw [if_neg (by decide)] at hs
        have HS := Lib.hid hs
        clear hs
        go_wp2_with (go_at_call 25; refine (has_c m r hlt _).mono ?_; rintro e w' ⟨rfl, k1, rfl⟩; rw [EB.out])
        go_roundw
        case rel => exact ⟨r + 1, acc, by omega, by go_num, by omega, Lib.hid HS.out.symm, ownsRow_drewN hB _, below_drewN hbel _⟩
        case measure => simp [intOf]; omega
    · have hs := Rm.all_end m hlt acc
      rw [HF.out] at hs
      subst hs
      clear HF
      obtain ⟨A, cp, rfl, hcp, hI⟩ := of_own hB rfl
      go_wp2
      go_ret
      exact ⟨A, cp, rfl, hcp, hI, hbel⟩

theorem rcount_c (m : Int) (w : World) :
    Calls Try.prog 14 #[.int .i64 m] w fun e w' => e = .returned (.int .i64 (Rm.countN m : Nat)) ∧ Below w.heap.size w w' := by
  have h1 := Rm.all_len m
  rw [← h1]
  clear h1
  go_enter Try.func14, Try.ntmps14
  go_wp2_with ((go_at_call 17; refine (rall_c m _).mono ?_; rintro e w' ⟨A, c, rfl, hc, hI, hb⟩))
  go_ret
  exact ⟨rfl, hb⟩
end Go.Proofs.Ytdnggaomdbdieaa
