/- Contract of the document's own Print. -/
import Derived.Test.YtdnggaomdbdieaaRows
import Derived.Test.YtdnggaomdbdieaaRg
import Derived.Test.YtdnggaomdbdieaaRq
namespace Go.Proofs.Ytdnggaomdbdieaa
open Go.ChangeShapes Go.WideShapes Go.ChangeAt Go.RowKit

theorem step_eq (s : List UInt8) (r e : Nat) {b : Bool} (hb : decide (s = [123]) = b) :
    Rm.docStep s (r, r + e) = (if b then s else s ++ [44, 32]) ++ Rm.nameI (r : Nat) ++ (if e = 0 then [] else [45] ++ Rm.nameI (r + e : Nat)) := by
  subst hb
  unfold Rm.docStep
  by_cases h : e = 0
  · subst h; simp
  · simp [h]

set_option maxHeartbeats 4000000 in
theorem rprint_c (m : Int) (w : World) : Calls Try.prog 21 #[.int .i64 m] w fun e w' => e = .returned (.string ⟨(Rm.printL m).toArray⟩) ∧ Below w.heap.size w w' := by
  obtain ⟨V, eV⟩ : ∃ V, Rm.docFold [123] (Rm.runs 16 (Rm.rest (Rm.bit m) 0 (16 - 0))) = V := ⟨_, rfl⟩
  have HI := Lib.hid eV
  have e0 : Rm.printL m = V ++ [125] := by rw [← eV, ← Rm.doc_print]; rfl
  rw [e0]
  clear eV e0
  go_enter Try.func21, Try.ntmps21
  go_wp2_with fail
  go_loopw [3, 4] (fun sv rv wr => ∃ (f r : Nat) (s : List UInt8), sv = .string ⟨s.toArray⟩ ∧ rv = .int .i64 r ∧ r ≤ 16 ∧ 16 - r ≤ f ∧ s.length + 9 * f ≤ 145 ∧ RowKit.Hid (Rm.docFold s (Rm.runs f (Rm.rest (Rm.bit m) r (16 - r))) = V) ∧ Below w.heap.size w wr) (fun _ rv _ => (16 - intOf rv).toNat)
  case atStart => exact ⟨16, 0, [123], rfl, rfl, by omega, by omega, by simp, HI, Below.refl _ _⟩
  case round =>
    obtain ⟨f, r, s, rfl, rfl, hr, hf, hsl, HF, hbel⟩ := hrel
    have hsz := hbel.size
    by_cases hlt : r < 16
    · have hs := HF.out
      rw [Rm.rest_step (Rm.bit m) hlt] at hs
      clear HF
      obtain ⟨b, eb⟩ : ∃ b, Rm.bit m r = b := ⟨_, rfl⟩
      rw [eb] at hs
      have EB := Lib.hid eb
      clear eb
      cases b with
      | false =>
        rw [if_neg (by decide)] at hs
        have HS := Lib.hid hs
        clear hs
        go_wp2_with (go_at_call 25; refine (has_c m r hlt _).mono ?_; rintro e w' ⟨rfl, k1, rfl⟩; rw [EB.out])
        go_roundw
        case rel => exact ⟨f, r + 1, s, rfl, by go_num, by omega, by omega, hsl, HS, below_drewN hbel _⟩
        case measure => simp [intOf]; omega
      | true =>
        rw [if_pos rfl] at hs
        obtain ⟨f', rfl⟩ : ∃ f', f = f' + 1 := ⟨f - 1, by omega⟩
        rw [Rm.runs, Rm.drop_rest (Rm.bit m) (15 - r) r (by omega)] at hs
        obtain ⟨e, ee⟩ : ∃ e, Rm.ext r (Rm.rest (Rm.bit m) (r + 1) (16 - (r + 1))) = e := ⟨_, rfl⟩
        have EE : RowKit.Hid (0 + Rm.ext (r + 0) (Rm.rest (Rm.bit m) (r + 0 + 1) (16 - (r + 0 + 1))) = e) := Lib.hid (by rw [Nat.zero_add]; exact ee)
        have hel := Rm.ext_le (Rm.rest (Rm.bit m) (r + 1) (16 - (r + 1))) r
        have hrl := Rm.rest_len (Rm.bit m) (16 - (r + 1)) (r + 1)
        rw [ee] at hs hel
        clear ee
        have he15 : r + e ≤ 15 := by omega
        clear hel hrl
        have hs2 : Rm.docFold (Rm.docStep s (r, r + e)) (Rm.runs f' (Rm.rest (Rm.bit m) (r + e + 1) (16 - (r + e + 1)))) = V := hs
        clear hs
        have HS1 := Lib.hid hs2
        clear hs2
        have hn1 := rname_c (r : Nat)
        have hn2 : ∀ W, Calls Try.prog 9 #[.int .i64 ((r : Int) + (e : Int))] W fun e' w' => e' = .returned (.string ⟨(Rm.nameI (r + e : Nat)).toArray⟩) ∧ Below W.heap.size W w' := fun W => by
          have := rname_c (r + e : Nat) W
          rwa [show ((r + e : Nat) : Int) = (r : Int) + (e : Int) by omega] at this ⊢
        have l1 := Rm.name_len r
        have l2 := Rm.name_len (r + e)
        by_cases hfirst : s = [123]
        · have hst := step_eq s r e (b := true) (by simp [hfirst])
          have hB : (s == [123]) = true := by simp [hfirst]
          generalize Rm.nameI (r : Nat) = p at *
          generalize Rm.nameI (r + e : Nat) = q at *
          have hstep0 : e = 0 → Rm.docStep s (r, r + e) = s ++ p := fun h => by rw [hst]; simp [h]
          have hstep1 : ¬ e = 0 → Rm.docStep s (r, r + e) = s ++ p ++ ([45] ++ q) := fun h => by rw [hst]; simp [h]
          clear hst hfirst
          have l3 : (s.length : Int) ≤ 145 := by omega
          have l4 : (p.length : Int) ≤ 3 := by omega
          have l5 : (q.length : Int) ≤ 3 := by omega
          go_wp2_with fail
          refine (has_c m r hlt _).mono ?_
          rintro e0 w1 ⟨rfl, k1, rfl⟩
          rw [EB.out]
          go_wp2_with fail
          refine (hn1 _).mono ?_
          clear hn1
          rintro e0 w2 ⟨rfl, hb2⟩
          have hbel2 : Below w.heap.size w w2 := (below_drewN hbel k1).trans (hb2.mono (by show w.heap.size ≤ wr.heap.size; exact hsz))
          clear hb2
          go_wp2_with fail
          go_loopw [5] (fun lv wq => ∃ j k : Nat, r + j ≤ 15 ∧ lv = .int .i64 (r + j : Nat) ∧ RowKit.Hid (j + Rm.ext (r + j) (Rm.rest (Rm.bit m) (r + j + 1) (16 - (r + j + 1))) = e) ∧ wq = w2.drewN k) (fun lv _ => (16 - intOf lv).toNat)
          case atStart => exact ⟨0, 0, by omega, rfl, EE, rfl⟩
          case round =>
            obtain ⟨j, k, hj, rfl, HE, rfl⟩ := hrel
            have hE := HE.out
            clear HE
            by_cases hj12 : r + j < 12
            · have hj12b : ((r : Int) + (j : Int)) < 12 := by omega
              rw [Rm.ext_rest _ hj12] at hE
              obtain ⟨b2, eb2⟩ : ∃ b2, Rm.bit m (r + j + 1) = b2 := ⟨_, rfl⟩
              have hh : ∀ W, Calls Try.prog 25 #[.int .i64 m, .int .i64 ((r : Int) + (j : Int) + 1)] W fun e w' => e = .returned (.bool b2) ∧ ∃ n, w' = W.drewN n := fun W => by
                have := has_c m (r + j + 1) (by omega) W
                rwa [eb2, show ((r + j + 1 : Nat) : Int) = (r : Int) + (j : Int) + 1 by omega] at this
              rw [eb2] at hE
              clear eb2
              cases b2 with
              | true =>
                rw [if_pos rfl] at hE
                have HS := Lib.hid hE
                clear hE
                go_wp2_with fail
                refine (hh _).mono ?_
                rintro e0 w3 ⟨rfl, k3, rfl⟩
                go_wp2_with fail
                go_roundw
                case rel => exact ⟨j + 1, k + k3, by omega, by go_num, Lib.hid (by have := HS.out; rw [← Nat.add_assoc]; omega), by first | rfl | exact World.drewN_drewN ..⟩
                case measure => simp [intOf]; omega
              | false =>
                rw [if_neg (by decide)] at hE
                have hje : j = e := by omega
                subst hje
                clear hE
                go_wp2_with fail
                refine (hh _).mono ?_
                rintro e0 w3 ⟨rfl, k3, rfl⟩
                have hw3 : Below w.heap.size w (w2.drewN (k + k3)) := below_drewN hbel2 _
                by_cases hj0 : j = 0
                · subst hj0
                  have HS2 := HS1.out
                  rw [hstep0 rfl] at HS2
                  have HS3 := Lib.hid HS2
                  clear HS2
                  go_wp2_with fail
                  go_roundw
                  case rel => exact ⟨f', r + 1, s ++ p, by rw [cat], by go_num, by omega, by omega, by simp; omega, HS3, hw3⟩
                  case measure => simp [intOf]; omega
                · have HS2 := HS1.out
                  rw [hstep1 hj0] at HS2
                  have HS3 := Lib.hid HS2
                  clear HS2
                  have hjp : (0 : Int) < (j : Int) := by omega
                  go_wp2_with fail
                  refine (hn2 _).mono ?_
                  clear hn2
                  rintro e0 w4 ⟨rfl, hb4⟩
                  have hw4 : Below w.heap.size w w4 := hw3.trans (hb4.mono hw3.size)
                  clear hb4
                  go_wp2_with fail
                  go_roundw
                  case rel => exact ⟨f', r + j + 1, s ++ p ++ ([45] ++ q), by rw [show (⟨#[45]⟩ : ByteArray) = ⟨[45].toArray⟩ by rfl, cat, cat, cat], by go_num, by omega, by omega, by simp; omega, HS3, hw4⟩
                  case measure => simp [intOf]; omega
            · have hj12b : ¬ ((r : Int) + (j : Int)) < 12 := by omega
              rw [Rm.ext_beyond _ hj12] at hE
              have hje : j = e := by omega
              subst hje
              clear hE
              have hw3 : Below w.heap.size w (w2.drewN k) := below_drewN hbel2 _
              by_cases hj0 : j = 0
              · subst hj0
                have HS2 := HS1.out
                rw [hstep0 rfl] at HS2
                have HS3 := Lib.hid HS2
                clear HS2
                go_wp2_with fail
                go_roundw
                case rel => exact ⟨f', r + 1, s ++ p, by rw [cat], by go_num, by omega, by omega, by simp; omega, HS3, hw3⟩
                case measure => simp [intOf]; omega
              · have HS2 := HS1.out
                rw [hstep1 hj0] at HS2
                have HS3 := Lib.hid HS2
                clear HS2
                have hjp : (0 : Int) < (j : Int) := by omega
                go_wp2_with fail
                refine (hn2 _).mono ?_
                clear hn2
                rintro e0 w4 ⟨rfl, hb4⟩
                have hw4 : Below w.heap.size w w4 := hw3.trans (hb4.mono hw3.size)
                clear hb4
                go_wp2_with fail
                go_roundw
                case rel => exact ⟨f', r + j + 1, s ++ p ++ ([45] ++ q), by rw [show (⟨#[45]⟩ : ByteArray) = ⟨[45].toArray⟩ by rfl, cat, cat, cat], by go_num, by omega, by omega, by simp; omega, HS3, hw4⟩
                case measure => simp [intOf]; omega
        · have hst := step_eq s r e (b := false) (by simp [hfirst])
          have hB : (s == [123]) = false := by simp [hfirst]
          generalize Rm.nameI (r : Nat) = p at *
          generalize Rm.nameI (r + e : Nat) = q at *
          have hstep0 : e = 0 → Rm.docStep s (r, r + e) = s ++ [44, 32] ++ p := fun h => by rw [hst]; simp [h]
          have hstep1 : ¬ e = 0 → Rm.docStep s (r, r + e) = s ++ [44, 32] ++ p ++ ([45] ++ q) := fun h => by rw [hst]; simp [h]
          clear hst hfirst
          have l3 : (s.length : Int) ≤ 145 := by omega
          have l4 : (p.length : Int) ≤ 3 := by omega
          have l5 : (q.length : Int) ≤ 3 := by omega
          go_wp2_with fail
          refine (has_c m r hlt _).mono ?_
          rintro e0 w1 ⟨rfl, k1, rfl⟩
          rw [EB.out]
          go_wp2_with fail
          refine (hn1 _).mono ?_
          clear hn1
          rintro e0 w2 ⟨rfl, hb2⟩
          have hbel2 : Below w.heap.size w w2 := (below_drewN hbel k1).trans (hb2.mono (by show w.heap.size ≤ wr.heap.size; exact hsz))
          clear hb2
          go_wp2_with fail
          go_loopw [5] (fun lv wq => ∃ j k : Nat, r + j ≤ 15 ∧ lv = .int .i64 (r + j : Nat) ∧ RowKit.Hid (j + Rm.ext (r + j) (Rm.rest (Rm.bit m) (r + j + 1) (16 - (r + j + 1))) = e) ∧ wq = w2.drewN k) (fun lv _ => (16 - intOf lv).toNat)
          case atStart => exact ⟨0, 0, by omega, rfl, EE, rfl⟩
          case round =>
            obtain ⟨j, k, hj, rfl, HE, rfl⟩ := hrel
            have hE := HE.out
            clear HE
            by_cases hj12 : r + j < 12
            · have hj12b : ((r : Int) + (j : Int)) < 12 := by omega
              rw [Rm.ext_rest _ hj12] at hE
              obtain ⟨b2, eb2⟩ : ∃ b2, Rm.bit m (r + j + 1) = b2 := ⟨_, rfl⟩
              have hh : ∀ W, Calls Try.prog 25 #[.int .i64 m, .int .i64 ((r : Int) + (j : Int) + 1)] W fun e w' => e = .returned (.bool b2) ∧ ∃ n, w' = W.drewN n := fun W => by
                have := has_c m (r + j + 1) (by omega) W
                rwa [eb2, show ((r + j + 1 : Nat) : Int) = (r : Int) + (j : Int) + 1 by omega] at this
              rw [eb2] at hE
              clear eb2
              cases b2 with
              | true =>
                rw [if_pos rfl] at hE
                have HS := Lib.hid hE
                clear hE
                go_wp2_with fail
                refine (hh _).mono ?_
                rintro e0 w3 ⟨rfl, k3, rfl⟩
                go_wp2_with fail
                go_roundw
                case rel => exact ⟨j + 1, k + k3, by omega, by go_num, Lib.hid (by have := HS.out; rw [← Nat.add_assoc]; omega), by first | rfl | exact World.drewN_drewN ..⟩
                case measure => simp [intOf]; omega
              | false =>
                rw [if_neg (by decide)] at hE
                have hje : j = e := by omega
                subst hje
                clear hE
                go_wp2_with fail
                refine (hh _).mono ?_
                rintro e0 w3 ⟨rfl, k3, rfl⟩
                have hw3 : Below w.heap.size w (w2.drewN (k + k3)) := below_drewN hbel2 _
                by_cases hj0 : j = 0
                · subst hj0
                  have HS2 := HS1.out
                  rw [hstep0 rfl] at HS2
                  have HS3 := Lib.hid HS2
                  clear HS2
                  go_wp2_with fail
                  go_roundw
                  case rel => exact ⟨f', r + 1, (s ++ [44, 32]) ++ p, by rw [cat, cat], by go_num, by omega, by omega, by simp; omega, HS3, hw3⟩
                  case measure => simp [intOf]; omega
                · have HS2 := HS1.out
                  rw [hstep1 hj0] at HS2
                  have HS3 := Lib.hid HS2
                  clear HS2
                  have hjp : (0 : Int) < (j : Int) := by omega
                  go_wp2_with fail
                  refine (hn2 _).mono ?_
                  clear hn2
                  rintro e0 w4 ⟨rfl, hb4⟩
                  have hw4 : Below w.heap.size w w4 := hw3.trans (hb4.mono hw3.size)
                  clear hb4
                  go_wp2_with fail
                  go_roundw
                  case rel => exact ⟨f', r + j + 1, (s ++ [44, 32]) ++ p ++ ([45] ++ q), by rw [show (⟨#[45]⟩ : ByteArray) = ⟨[45].toArray⟩ by rfl, cat, cat, cat, cat], by go_num, by omega, by omega, by simp; omega, HS3, hw4⟩
                  case measure => simp [intOf]; omega
            · have hj12b : ¬ ((r : Int) + (j : Int)) < 12 := by omega
              rw [Rm.ext_beyond _ hj12] at hE
              have hje : j = e := by omega
              subst hje
              clear hE
              have hw3 : Below w.heap.size w (w2.drewN k) := below_drewN hbel2 _
              by_cases hj0 : j = 0
              · subst hj0
                have HS2 := HS1.out
                rw [hstep0 rfl] at HS2
                have HS3 := Lib.hid HS2
                clear HS2
                go_wp2_with fail
                go_roundw
                case rel => exact ⟨f', r + 1, (s ++ [44, 32]) ++ p, by rw [cat, cat], by go_num, by omega, by omega, by simp; omega, HS3, hw3⟩
                case measure => simp [intOf]; omega
              · have HS2 := HS1.out
                rw [hstep1 hj0] at HS2
                have HS3 := Lib.hid HS2
                clear HS2
                have hjp : (0 : Int) < (j : Int) := by omega
                go_wp2_with fail
                refine (hn2 _).mono ?_
                clear hn2
                rintro e0 w4 ⟨rfl, hb4⟩
                have hw4 : Below w.heap.size w w4 := hw3.trans (hb4.mono hw3.size)
                clear hb4
                go_wp2_with fail
                go_roundw
                case rel => exact ⟨f', r + j + 1, (s ++ [44, 32]) ++ p ++ ([45] ++ q), by rw [show (⟨#[45]⟩ : ByteArray) = ⟨[45].toArray⟩ by rfl, cat, cat, cat, cat], by go_num, by omega, by omega, by simp; omega, HS3, hw4⟩
                case measure => simp [intOf]; omega
    · have hs := HF.out
      rw [Rm.rest_end _ hlt] at hs
      have hs2 : s = V := by cases f <;> exact hs
      subst hs2
      clear HF hs HI
      have l3 : (s.length : Int) ≤ 145 := by omega
      go_wp2_with fail
      go_ret
      exact ⟨congrArg (fun z => Ending.returned (.string z)) (cat s [125]), hbel⟩
end Go.Proofs.Ytdnggaomdbdieaa
