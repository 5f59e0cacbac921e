/- Contracts of Count, Low, and of the document's own Has and Low. -/
import Derived.Test.YtdnggaomdbdieaaRows
import Derived.Test.YtdnggaomdbdieaaTg
import Derived.Test.YtdnggaomdbdieaaRm
import Derived.LoopTactic
import Derived.OwnWalk
namespace Go.Proofs.Ytdnggaomdbdieaa
open Go.ChangeShapes Go.WideShapes Go.ChangeAt Go.RowKit

theorem has_c (m : Int) (r : Nat) (hr : r < 16) (w : World) :
    Calls Try.prog 25 #[.int .i64 m, .int .i64 (r : Nat)] w fun e w' => e = .returned (.bool (Rm.bit m r)) ∧ ∃ n, w' = w.drewN n := by
  go_enter Try.func25, Try.ntmps25
  go_wp2
  go_ret
  exact ⟨ret_bool (by rw [Rm.and1]; rfl), 0, rfl⟩

theorem low_c (m : Int) (w : World) :
    Calls Try.prog 18 #[.int .i64 m] w fun e w' => e = .returned (.bool (Rm.lowB m)) ∧ ∃ n, w' = w.drewN n := by
  go_enter Try.func18, Try.ntmps18
  go_wp2
  go_ret
  exact ⟨ret_bool (by rw [Rm.and65280, Rm.low_is]), 0, rfl⟩

theorem rlow_c (m : Int) (w : World) :
    Calls Try.prog 19 #[.int .i64 m] w fun e w' => e = .returned (.bool (Rm.lowB m)) ∧ ∃ n, w' = w.drewN n := by
  obtain ⟨V, eV⟩ : ∃ V, Rm.noneFrom (Rm.bit m) 8 (16 - 8) = V := ⟨_, rfl⟩
  have HI := Lib.hid eV
  change Calls _ _ _ _ fun e w' => e = .returned (.bool (Rm.noneFrom (Rm.bit m) 8 (16 - 8))) ∧ _
  rw [eV]
  clear eV
  go_enter Try.func19, Try.ntmps19
  go_wp2
  go_loopw [3] (fun rv wr => ∃ r n : Nat, r ≤ 16 ∧ rv = .int .i64 r ∧ RowKit.Hid (Rm.noneFrom (Rm.bit m) r (16 - r) = V) ∧ wr = w.drewN n) (fun rv _ => (16 - intOf rv).toNat)
  case atStart => exact ⟨8, 0, by omega, rfl, HI, rfl⟩
  case round =>
    obtain ⟨r, n, hr, rfl, HF, rfl⟩ := hrel
    by_cases hlt : r < 16
    · have hs := Rm.none_step (Rm.bit m) hlt
      rw [HF.out] at hs
      clear HF
      obtain ⟨b, eb⟩ : ∃ b, Rm.bit m r = b := ⟨_, rfl⟩
      rw [eb] at hs
      have EB := Lib.hid eb
      clear eb
      cases b with
      | true =>
        rw [if_pos rfl] at hs
        have HS := Lib.hid hs
        clear hs
        go_wp2_with ((go_at_call 25; refine (has_c m r hlt _).mono ?_; rintro e w' ⟨rfl, k, rfl⟩; rw [EB.out]))
        go_ret
        exact ⟨ret_bool HS.out.symm, n + k, by first | rfl | exact World.drewN_drewN ..⟩
      | false =>
        rw [if_neg (by decide)] at hs
        have HS := Lib.hid hs
        clear hs
        go_wp2_with ((go_at_call 25; refine (has_c m r hlt _).mono ?_; rintro e w' ⟨rfl, k, rfl⟩; rw [EB.out]))
        go_roundw
        case rel => exact ⟨r + 1, n + k, by omega, by go_num, Lib.hid HS.out.symm, by first | rfl | exact World.drewN_drewN ..⟩
        case measure => simp [intOf]; omega
    · have hs := Rm.none_end (Rm.bit m) hlt
      rw [HF.out] at hs
      have HS := Lib.hid hs
      clear hs HF
      go_wp2
      go_ret
      exact ⟨ret_bool HS.out.symm, n, rfl⟩

/-- the number of bits of each byte, as the library has it -/
def popL : List UInt8 := (([0, 1, 1, 2, 1, 2, 2, 3, 1, 2, 2, 3, 2, 3, 3, 4, 1, 2, 2, 3, 2, 3, 3, 4, 2, 3, 3, 4, 3, 4, 4, 5, 1, 2, 2, 3, 2, 3, 3, 4, 2, 3, 3, 4, 3, 4, 4, 5, 2, 3, 3, 4, 3, 4, 4, 5, 3, 4, 4, 5, 4, 5, 5, 6] : List UInt8).append [1, 2, 2, 3, 2, 3, 3, 4, 2, 3, 3, 4, 3, 4, 4, 5, 2, 3, 3, 4, 3, 4, 4, 5, 3, 4, 4, 5, 4, 5, 5, 6, 2, 3, 3, 4, 3, 4, 4, 5, 3, 4, 4, 5, 4, 5, 5, 6, 3, 4, 4, 5, 4, 5, 5, 6, 4, 5, 5, 6, 5, 6, 6, 7]).append (([1, 2, 2, 3, 2, 3, 3, 4, 2, 3, 3, 4, 3, 4, 4, 5, 2, 3, 3, 4, 3, 4, 4, 5, 3, 4, 4, 5, 4, 5, 5, 6, 2, 3, 3, 4, 3, 4, 4, 5, 3, 4, 4, 5, 4, 5, 5, 6, 3, 4, 4, 5, 4, 5, 5, 6, 4, 5, 5, 6, 5, 6, 6, 7] : List UInt8).append [2, 3, 3, 4, 3, 4, 4, 5, 3, 4, 4, 5, 4, 5, 5, 6, 3, 4, 4, 5, 4, 5, 5, 6, 4, 5, 5, 6, 5, 6, 6, 7, 3, 4, 4, 5, 4, 5, 5, 6, 4, 5, 5, 6, 5, 6, 6, 7, 4, 5, 5, 6, 5, 6, 6, 7, 5, 6, 6, 7, 6, 7, 7, 8])
def popS : ByteArray := ⟨popL.toArray⟩
theorem pop_all : ((List.range 256).all fun i => (popL.getD i 0).toNat == Rm.pop (i : Int)) = true := by decide +kernel
theorem index_pop (i : Nat) (hi : i < 256) (w : World) : (Instr.index 9 (.string popS) (.int .u16 (i : Int))).run Try.prog w = .ok (.int .u8 (Rm.pop (i : Int) : Nat)) w := by
  have hs : popS.size = 256 := by decide +kernel
  rw [run_index_string (P := Try.prog) w 9 popS .u16 (i : Int) Try.underlying9, dif_pos ⟨by omega, by omega⟩]
  have h' := pop_all
  rw [List.all_eq_true] at h'
  have h2 := eq_of_beq (h' i (by simpa using hi))
  rw [← h2]
  have hl : i < popL.length := by have : popL.length = 256 := by decide +kernel
                                  omega
  rw [List.getD, List.getElem?_eq_getElem hl]
  rfl

set_option maxHeartbeats 1000000 in
theorem ones_c (m : Nat) (hm : m < 65536) (w : World) :
    Calls Try.prog 24 #[.int .u16 (m : Nat)] w fun e w' => e = .returned (.int .i64 (Rm.countN (m : Int) : Nat)) ∧ ∃ n, w' = w.drewN n := by
  have hi1 : ∀ W, (Instr.index 9 (.string popS) (.int .u16 ((m : Int) / 256))).run Try.prog W = .ok (.int .u8 (Rm.pop ((m : Int) / 256) : Nat)) W := fun W => by
    have := index_pop (m / 256) (by omega) W
    rwa [show ((m / 256 : Nat) : Int) = (m : Int) / 256 by omega] at this
  have hi2 : ∀ W, (Instr.index 9 (.string popS) (.int .u16 (bits .and .u16 (m : Int) 255))).run Try.prog W = .ok (.int .u8 (Rm.pop ((m : Int) % 256) : Nat)) W := fun W => by
    have := index_pop (m % 256) (by omega) W
    rw [Rm.u16_and255 m hm]
    rwa [show ((m % 256 : Nat) : Int) = (m : Int) % 256 by omega] at this ⊢
  have hc : Rm.countN (m : Int) = Rm.pop ((m : Int) % 256) + Rm.pop ((m : Int) / 256) := by
    rw [Rm.count_pop, show (m : Int) / 256 % 256 = (m : Int) / 256 by omega]
  have b1 := Rm.pop_bd ((m : Int) / 256)
  have b2 := Rm.pop_bd ((m : Int) % 256)
  rw [hc]
  clear hc
  generalize Rm.pop ((m : Int) / 256) = p1 at *
  generalize Rm.pop ((m : Int) % 256) = p2 at *
  have b3 : (0 : Int) ≤ (p1 : Int) + (p2 : Int) := by omega
  have b4 : (p1 : Int) + (p2 : Int) ≤ 255 := by omega
  go_enter Try.func24, Try.ntmps24
  generalize eS : (⟨((([0, 1, 1, 2, 1, 2, 2, 3, 1, 2, 2, 3, 2, 3, 3, 4, 1, 2, 2, 3, 2, 3, 3, 4, 2, 3, 3, 4, 3, 4, 4, 5, 1, 2, 2, 3, 2, 3, 3, 4, 2, 3, 3, 4, 3, 4, 4, 5, 2, 3, 3, 4, 3, 4, 4, 5, 3, 4, 4, 5, 4, 5, 5, 6] : List UInt8).append [1, 2, 2, 3, 2, 3, 3, 4, 2, 3, 3, 4, 3, 4, 4, 5, 2, 3, 3, 4, 3, 4, 4, 5, 3, 4, 4, 5, 4, 5, 5, 6, 2, 3, 3, 4, 3, 4, 4, 5, 3, 4, 4, 5, 4, 5, 5, 6, 3, 4, 4, 5, 4, 5, 5, 6, 4, 5, 5, 6, 5, 6, 6, 7]).append (([1, 2, 2, 3, 2, 3, 3, 4, 2, 3, 3, 4, 3, 4, 4, 5, 2, 3, 3, 4, 3, 4, 4, 5, 3, 4, 4, 5, 4, 5, 5, 6, 2, 3, 3, 4, 3, 4, 4, 5, 3, 4, 4, 5, 4, 5, 5, 6, 3, 4, 4, 5, 4, 5, 5, 6, 4, 5, 5, 6, 5, 6, 6, 7] : List UInt8).append [2, 3, 3, 4, 3, 4, 4, 5, 3, 4, 4, 5, 4, 5, 5, 6, 3, 4, 4, 5, 4, 5, 5, 6, 4, 5, 5, 6, 5, 6, 6, 7, 3, 4, 4, 5, 4, 5, 5, 6, 4, 5, 5, 6, 5, 6, 6, 7, 4, 5, 5, 6, 5, 6, 6, 7, 5, 6, 6, 7, 6, 7, 7, 8])).toArray⟩ : ByteArray) = S
  have e2 : popS = S := eS
  clear eS
  rw [e2] at hi1 hi2
  clear e2
  go_wp2_with fail
  go_quiet (fail)
  go_wp2
  go_ret
  exact ⟨ret_int (by omega), nq, rfl⟩

theorem count_c (m : Int) (w : World) :
    Calls Try.prog 13 #[.int .i64 m] w fun e w' => e = .returned (.int .i64 (Rm.countN m : Nat)) ∧ ∃ n, w' = w.drewN n := by
  have h1 : ∀ W, Calls Try.prog 24 #[.int .u16 (m % 65536)] W fun e w' => e = .returned (.int .i64 (Rm.countN m : Nat)) ∧ ∃ n, w' = W.drewN n := fun W => by
    have := ones_c (m % 65536).toNat (by omega) W
    rwa [show (((m % 65536).toNat : Nat) : Int) = m % 65536 by omega, Rm.count_mod] at this
  go_enter Try.func13, Try.ntmps13
  go_wp2_with ((go_at_call 24; rw [IntKind.wrap_u16]; refine (h1 _).mono ?_; rintro e w' ⟨rfl, k, rfl⟩))
  go_ret
  exact ⟨rfl, k, rfl⟩
end Go.Proofs.Ytdnggaomdbdieaa
