/- Contracts of Mask, the program's and the document's own. -/
import Derived.Test.YtndeknebpimiaaaDoorRows
import Derived.Test.YtndeknebpimiaaaDoorCa
import Derived.LoopTactic
import Derived.OwnWalk
namespace Go.Proofs.YtndeknebpimiaaaDoor
open Go.ChangeShapes Go.WideShapes Go.ChangeAt Go.RowKit

/-- the address A leads to the bools xs, in a block below B (nowhere, where there is none) -/
def BoolsAt (w : World) (B : Nat) (A : Option Addr) (xs : List Bool) : Prop :=
  xs = [] ∨ ∃ b off, A = some ⟨b, off, none⟩ ∧ b < B ∧ ∀ j, j < xs.length → w.cell? ⟨b, off + j, none⟩ = some (.bool (xs.getD j false))

theorem BoolsAt.below {w w' : World} {B B' : Nat} {A : Option Addr} {xs : List Bool} (h : BoolsAt w B A xs) (hb : Below B' w w') (hB : B ≤ B') : BoolsAt w' B A xs := by
  rcases h with h | ⟨b, off, h1, h2, h3⟩
  · exact .inl h
  · exact .inr ⟨b, off, h1, h2, fun j hj => (hb.cell (p := ⟨b, off + j, none⟩) (by show b < B'; omega)).trans (h3 j hj)⟩
theorem BoolsAt.more {w : World} {B B' : Nat} {A : Option Addr} {xs : List Bool} (h : BoolsAt w B A xs) (hB : B ≤ B') : BoolsAt w B' A xs := by
  rcases h with h | ⟨b, off, h1, h2, h3⟩
  · exact .inl h
  · exact .inr ⟨b, off, h1, by omega, h3⟩
theorem BoolsAt.drewN {w : World} {B : Nat} {A : Option Addr} {xs : List Bool} (h : BoolsAt w B A xs) (n : Nat) : BoolsAt (w.drewN n) B A xs := by
  rcases h with h | ⟨b, off, h1, h2, h3⟩
  · exact .inl h
  · exact .inr ⟨b, off, h1, h2, fun j hj => by have := h3 j hj; simpa using this⟩
theorem BoolsAt.at_ {w : World} {B : Nat} {A : Option Addr} {xs : List Bool} (h : BoolsAt w B A xs) {k : Nat} (hk : k < xs.length) :
    ∃ b off, A = some ⟨b, off, none⟩ ∧ b < B ∧ w.cell? ⟨b, off + k, none⟩ = some (.bool (xs.getD k false)) := by
  rcases h with rfl | ⟨b, off, h1, h2, h3⟩
  · simp at hk
  · exact ⟨b, off, h1, h2, h3 k hk⟩
theorem BoolsAt.new_ (w : World) (xs : List Bool) : BoolsAt (w.alloc (.cells (xs.map Value.bool).toArray 4)) (w.heap.size + 1) (some ⟨w.heap.size, 0, none⟩) xs := by
  refine .inr ⟨w.heap.size, 0, rfl, by omega, fun j hj => ?_⟩
  rw [Nat.zero_add, World.cell?_alloc_new]
  simp [List.getD, List.getElem?_eq_getElem hj]

theorem mask_end (c m a : Int) (xs : List Bool) (k : Nat) (h : ¬ k < xs.length) : Cm.maskFrom c m a (xs.drop k) = m + a := by
  rw [List.drop_eq_nil_of_le (by omega)]; rfl
theorem mask_step (c m a : Int) (xs : List Bool) (k : Nat) (h : k < xs.length) :
    Cm.maskFrom c m a (xs.drop k) = if xs.getD k false then Cm.maskFrom c (m + c % 2 * a) (a / 2) (xs.drop (k + 1)) else if c = 14 then 0 else Cm.maskFrom c (m + (1 - c % 2) * a) (a / 2) (xs.drop (k + 1)) := by
  rw [List.drop_eq_getElem_cons h, Cm.maskFrom]
  simp [List.getD, List.getElem?_eq_getElem h]
theorem mask_is (c : Int) (xs : List Bool) (h : 0 ≤ c ∧ c ≤ 14) (hl : xs.length ≤ 3) : Cm.maskFrom c 0 8 (xs.drop 0) = Cm.maskI c xs := by
  unfold Cm.maskI; rw [if_pos ⟨h.1, h.2, hl⟩]; rfl

theorem mask_no_c (c : Int) (A : Option Addr) (cap : Nat) (xs : List Bool) (w : World) (h : ¬ (0 ≤ c ∧ c ≤ 14 ∧ xs.length ≤ 3)) :
    Calls Tryd.prog 19 #[.int .i64 c, .slice A xs.length cap] w fun e w' => e = .returned (.int .i64 (Cm.maskI c xs)) ∧ ∃ n, w' = w.drewN n := by
  rw [Cm.mask_no h]
  by_cases hc : 0 ≤ c ∧ c ≤ 14
  · have hl : 3 < xs.length := by omega
    have hl' : (3 : Int) < (xs.length : Int) := by omega
    clear h
    go_enter Tryd.func19, Tryd.ntmps19
    go_wp2_with ((go_at_call 31; refine (isCond_yes _ _ hc.1 hc.2).mono ?_; rintro e w' ⟨rfl, m, rfl⟩))
    go_ret
    exact ⟨rfl, m, rfl⟩
  · clear h
    go_enter Tryd.func19, Tryd.ntmps19
    go_wp2_with ((go_at_call 31; refine (isCond_no _ _ hc).mono ?_; rintro e w' ⟨rfl, m, rfl⟩))
    go_ret
    exact ⟨rfl, m, rfl⟩

set_option maxHeartbeats 1000000 in
theorem mask_yes_c (c : Int) (A : Option Addr) (cap : Nat) (xs : List Bool) (w : World) (hA : BoolsAt w w.heap.size A xs) (hc0 : 0 ≤ c) (hc1 : c ≤ 14) (hl : xs.length ≤ 3) :
    Calls Tryd.prog 19 #[.int .i64 c, .slice A xs.length cap] w fun e w' => e = .returned (.int .i64 (Cm.maskI c xs)) ∧ ∃ n, w' = w.drewN n := by
  have hl' : decide ((3 : Int) < (xs.length : Int)) = false := by simp; omega
  have HI := Lib.hid (mask_is c xs ⟨hc0, hc1⟩ hl)
  go_enter Tryd.func19, Tryd.ntmps19
  go_wp2_with ((go_at_call 31; refine (isCond_yes _ _ hc0 hc1).mono ?_; rintro e w' ⟨rfl, n0, rfl⟩))
  go_loopw [5, 6, 20] (fun ms ats is wr => ∃ (k n : Nat) (m a : Int), k ≤ xs.length ∧ is = .int .i64 k ∧ ms = .int .i64 m ∧ ats = .int .i64 a ∧ 0 ≤ m ∧ 0 ≤ a ∧ m + 2 * a ≤ 16 ∧ RowKit.Hid (Cm.maskFrom c m a (xs.drop k) = Cm.maskI c xs) ∧ wr = w.drewN n) (fun _ _ is _ => xs.length - (intOf is).toNat)
  case atStart => exact ⟨0, n0, 0, 8, by omega, rfl, rfl, rfl, by omega, by omega, by omega, HI, rfl⟩
  case round =>
    obtain ⟨k, n, m, a, hk, rfl, rfl, rfl, hm0, ha0, hma, HF, rfl⟩ := hrel
    by_cases hlt : k < xs.length
    · obtain ⟨b, off, rfl, hb, hcell⟩ := (hA.drewN n).at_ hlt
      have hs := mask_step c m a xs k hlt
      rw [HF.out] at hs
      generalize xs.getD k false = s at *
      clear HF
      have hlt' : (k : Int) < (xs.length : Int) := by omega
      have hi0 : (0 : Int) ≤ (k : Int) := by omega
      cases s with
      | true =>
        rw [if_pos rfl] at hs
        have HS := Lib.hid hs
        clear hs
        have ha := Cm.and1 c
        rcases (by omega : c % 2 = 0 ∨ c % 2 = 1) with hp | hp
        all_goals
          rw [hp] at ha
          have HP := Lib.hid hp
          clear hp
          go_wp2_with ((go_at_call 31; refine (isCond_yes _ _ hc0 hc1).mono ?_; rintro e w' ⟨rfl, n1, rfl⟩))
          go_roundw
          case rel => exact ⟨k + 1, n + n1, _, _, by omega, by go_num, rfl, rfl, by omega, by omega, by omega, Lib.hid (by rw [HS.out, HP.out]; congr 1; omega), rfl⟩
          case measure => simp [intOf]; omega
      | false =>
        rw [if_neg (by simp)] at hs
        have hx := Cm.xor1 c ⟨hc0, hc1⟩
        by_cases h14 : c = 14
        · rw [if_pos h14] at hs
          have HS := Lib.hid hs
          have H14 := Lib.hid h14
          have hx' : bits .xor .i64 c 1 = 15 := by rw [hx, if_pos (by omega)]; omega
          clear hs hx h14
          go_wp2_with ((go_at_call 31; refine (isCond_no _ _ (by omega)).mono ?_; rintro e w' ⟨rfl, n1, rfl⟩))
          go_ret
          exact ⟨ret_int HS.out.symm, _, rfl⟩
        · rw [if_neg h14] at hs
          have HS := Lib.hid hs
          clear hs
          obtain ⟨d, ed⟩ : ∃ d, (if c % 2 = 0 then c + 1 else c - 1) = d := ⟨_, rfl⟩
          rw [ed] at hx
          have hd : 0 ≤ d ∧ d ≤ 14 := by rw [← ed]; split <;> omega
          have hdp : d % 2 = 1 - c % 2 := by rw [← ed]; split <;> omega
          have ha := Cm.and1 d
          clear ed h14
          obtain ⟨hd0, hd1⟩ := hd
          rcases (by omega : c % 2 = 0 ∨ c % 2 = 1) with hp | hp
          all_goals
            rw [hp] at hdp
            rw [hdp] at ha
            have HP := Lib.hid hp
            clear hp hdp
            go_wp2_with ((go_at_call 31; refine (isCond_yes _ _ hd0 hd1).mono ?_; rintro e w' ⟨rfl, n1, rfl⟩))
            go_roundw
            case rel => exact ⟨k + 1, n + n1, _, _, by omega, by go_num, rfl, rfl, by omega, by omega, by omega, Lib.hid (by rw [HS.out, HP.out]; congr 1; omega), rfl⟩
            case measure => simp [intOf]; omega
    · have hs := mask_end c m a xs k hlt
      rw [HF.out] at hs
      have HS := Lib.hid hs
      clear hs HF
      go_wp2
      go_ret
      exact ⟨ret_int HS.out.symm, _, rfl⟩

theorem mask_c (c : Int) (A : Option Addr) (cap : Nat) (xs : List Bool) (w : World) (hA : BoolsAt w w.heap.size A xs) :
    Calls Tryd.prog 19 #[.int .i64 c, .slice A xs.length cap] w fun e w' => e = .returned (.int .i64 (Cm.maskI c xs)) ∧ ∃ n, w' = w.drewN n := by
  by_cases h : 0 ≤ c ∧ c ≤ 14 ∧ xs.length ≤ 3
  · exact mask_yes_c c A cap xs w hA h.1 h.2.1 h.2.2
  · exact mask_no_c c A cap xs w h
end Go.Proofs.YtndeknebpimiaaaDoor
