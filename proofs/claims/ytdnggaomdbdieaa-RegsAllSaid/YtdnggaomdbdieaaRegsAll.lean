/- For every list RegsAll returns true: all its registers, rising, make the list again, and are so many. No conditions. -/
import Derived.Test.YtdnggaomdbdieaaRows
import Derived.WalkKit
import Derived.ProofKit
import Derived.OpenShut
import Derived.ShutString
import Derived.Below
import Derived.Test.YtdnggaomdbdieaaRw
import Derived.Test.YtdnggaomdbdieaaRz
namespace Go.Proofs.Ytdnggaomdbdieaa.regsAll
open Go.ChangeShapes Go.WideShapes Go.ChangeAt Go.RowKit
open Go.ChangeMaps (open_string shut_string)

theorem own : ownKnob Try.prog.godebug = none := by kernel_rfl

theorem drop_at {l : List Nat} {k : Nat} (h : k < l.length) : l.drop k = l.getD k 0 :: l.drop (k + 1) := by
  rw [List.drop_eq_getElem_cons h, List.getD, List.getElem?_eq_getElem h]; rfl

set_option maxHeartbeats 2000000 in
theorem walk (m : Int) (_wm : (Lit.int .i64 m).wf = true) (w : World) :
    Calls Try.prog 7 #[.int .i64 m] w fun e w' => e = .returned (.bool true) ∧ Below w.heap.size w w' := by
  have hL0 : Below w.heap.size w w := Below.refl _ _
  have hcn := Rm.count_bd m
  have hc := count_c m
  have ha := all_c m
  have HR : RowKit.Hid ((Rm.allN m).drop 0 = Rm.rest (Rm.bit m) 0 (16 - 0)) := Lib.hid rfl
  unfold Rm.allI at ha
  unfold Rm.countN at hc hcn
  generalize Rm.allN m = l at *
  go_enter Try.func7, Try.ntmps7
  go_wp2_with fail
  refine (ha _).mono ?_
  clear ha
  rintro e w1 ⟨A, c, rfl, _, hI, hb⟩
  have hL1 := next hL0 hb
  clear hb
  rw [Rm.intsN_len]
  go_wp2_with fail
  go_loopw [4, 5] (fun nv kv wr => ∃ (k r d : Nat) (N : Int), k ≤ l.length ∧ r ≤ 16 ∧ nv = .int .i64 N ∧ kv = .int .i64 k ∧ RowKit.Hid (l.drop k = Rm.rest (Rm.bit m) r (16 - r)) ∧ RowKit.Hid (N = m % 2 ^ r) ∧ (k = 0 ∨ l.getD (k - 1) 0 < r) ∧ wr = w1.drewN d) (fun _ kv _ => (l.length - intOf kv).toNat)
  case atStart => exact ⟨0, 0, 0, 0, by omega, by omega, rfl, rfl, HR, Lib.hid (by simp), .inl rfl, rfl⟩
  case round =>
    obtain ⟨k, r, d, N, hk, hr, rfl, rfl, HD, HN, hpre, rfl⟩ := hrel
    by_cases hlt : k < l.length
    · obtain ⟨b, off, rfl, hb, hcells⟩ := row_at hI (by intro h; subst h; simp at hlt)
      have hcx := hcells k hlt
      have hd := HD.out
      rw [drop_at hlt] at hd
      clear HD
      obtain ⟨t1, t2, t3, t4, t5⟩ := Rm.take_one m hr hd.symm
      have HD2 := Lib.hid t3
      have hn1 := Rm.mod_bd m (l.getD k 0)
      rw [t4, ← HN.out] at hn1
      rw [← HN.out] at t5
      have hxp := Rm.pow_bd t2
      clear hd t3 t4 HN
      cases k with
      | zero =>
        clear hpre hcells
        simp only [Nat.add_zero] at hcx
        obtain ⟨x, ex⟩ : ∃ x, l.getD 0 0 = x := ⟨_, rfl⟩
        rw [ex] at hcx t1 t2 HD2 hn1 hxp t5
        have EX := Lib.hid ex
        clear ex
        have hor := Rm.or_pow N x t2 hn1.1 hn1.2
        have HN2 := Lib.hid t5.symm
        clear t5
        have g1 : decide ((x : Int) < 0) = false := decide_eq_false (by omega)
        have g2 : decide (15 < (x : Int)) = false := decide_eq_false (by omega)
        have hx16 : (x : Int) ≤ 15 := by omega
        go_wp2_with fail
        go_quiet (fail)
        go_wp2_with fail
        refine ⟨⟨1, x + 1, d + nq, N + 2 ^ x, by omega, by omega, rfl, by go_num, HD2, HN2, .inr ?_, by first | rfl | exact World.drewN_drewN ..⟩, by simp [intOf]; omega⟩
        have := EX.out
        show l.getD 0 0 < x + 1
        rw [this]; omega
      | succ k' =>
        have hcy := hcells k' (by omega)
        have hpre2 : l.getD k' 0 < r := by
          rcases hpre with h | h
          · omega
          · exact h
        clear hpre hcells
        generalize l.getD k' 0 = y at *
        obtain ⟨x, ex⟩ : ∃ x, l.getD (k' + 1) 0 = x := ⟨_, rfl⟩
        rw [ex] at hcx t1 t2 HD2 hn1 hxp t5
        have EX := Lib.hid ex
        clear ex
        have hor := Rm.or_pow N x t2 hn1.1 hn1.2
        have HN2 := Lib.hid t5.symm
        clear t5
        have g1 : decide ((x : Int) < 0) = false := decide_eq_false (by omega)
        have g2 : decide (15 < (x : Int)) = false := decide_eq_false (by omega)
        have g3 : decide ((x : Int) ≤ (y : Int)) = false := decide_eq_false (by omega)
        have hx16 : (x : Int) ≤ 15 := by omega
        go_wp2_with fail
        go_quiet (fail)
        go_wp2_with fail
        refine ⟨⟨k' + 1 + 1, x + 1, d + nq, N + 2 ^ x, by omega, by omega, rfl, by go_num, HD2, HN2, .inr ?_, by first | rfl | exact World.drewN_drewN ..⟩, by simp [intOf]; omega⟩
        have := EX.out
        show l.getD (k' + 1) 0 < x + 1
        rw [this]; omega
    · obtain rfl : k = l.length := by omega
      have hd := HD.out
      rw [List.drop_length] at hd
      have hm := Rm.take_none m hr hd.symm
      rw [← HN.out] at hm
      have hm2 : bits .and .i64 m 65535 = N := by rw [Rm.and65535, hm]
      clear hd HD HN hm
      go_wp2_with fail
      refine (hc _).mono ?_
      clear hc
      rintro e w2 ⟨rfl, n2, rfl⟩
      have hL2 : Below w.heap.size w (w1.drewN (d + n2)) := below_drewN hL1 _
      go_wp2_with fail
      refine (awake_c _).mono ?_
      rintro e w9 ⟨rfl, hb⟩
      have hL9 := next hL2 hb
      clear hb
      go_wp2
      go_ret
      exact ⟨rfl, hL9⟩

set_option maxRecDepth 100000 in
theorem lifted (os : Os) (started : os.Started) (H : Type) (enc : TypeId × Value → H) :
    ReturnsInHanded {} Try.checked os 7 .any (Rows.regsAllSpec.pre6 enc Try.prog Try.f7 Rows.regsAllRow.domain false) (Rows.regsAllSpec.post enc Try.prog Try.f7 false true false false) := by
  refine returnsInHanded_of_change (C := Try.checked) own started (by kernel_rfl) Try.func7
    (ChangeSpec.witness6 (enc := enc) (C := Try.checked) false ⟨#[], #[.int .i64 0], []⟩ 8 (by kernel_rfl) (by kernel_rfl) (by kernel_rfl) (by kernel_rfl)) ?_
  intro W base args ds gs before hval0 hW _ _
  have hval : ∀ (j : Nat) t v, Try.f7.params[j]? = some t → args[j]? = some v → Value.okWide Try.prog W .any base t v := hval0
  have hW' := hW
  obtain ⟨p, q, hA0, hV, rfl, _, _⟩ := hW
  have hA : DataW.TrodAll enc Try.prog W 0 (fun _ => true) true Try.f7.params.toList args.toList ds p := hA0
  rw [Try.params7] at hA hval
  obtain ⟨v0, vs0, d0, ds0, p0, q0, hargs, rfl, rfl, h0, r0⟩ := trodAll_cons hA
  obtain ⟨rfl, rfl, rfl⟩ := trodAll_nil r0
  obtain rfl : args = #[v0] := by cases args; simp_all
  obtain ⟨rfl, rfl⟩ := trodVars_none hV
  obtain ⟨a0, rfl, rfl, rfl, w0⟩ := open_int Try.underlying3 (hval 0 3 v0 rfl rfl) h0
  clear hA0 hval0
  refine (walk a0 w0 W).mono fun e W' ⟨he, bel⟩ => ?_
  subst he
  exact ⟨_, rfl, _, _, _, [], _, [], hW', trodAll_mk1 (shut_bool Try.underlying4 _), (trodAll_cons_mk (shut_int Try.underlying3 w0) trodAll_mk0), rfl, bel.frame _, fun h => by cases h⟩

theorem over : Rows.regsAllRow.holds Try.pinned (OpenSpec.ofChange Rows.regsAllSpec) :=
  OpenClaim.holds_of_wide 7 Try.f7 rfl rfl rfl rfl rfl rfl rfl ⟨rfl, rfl, rfl, rfl, rfl⟩ rfl rfl rfl rfl rfl (by kernel_rfl) Try.func7 (by kernel_rfl)
    (of_decide_eq_true (by kernel_rfl)) (by unfold Func.isWrapper; first | (rw [if_pos (by decide +kernel)]; kernel_rfl) | (rw [if_neg (by decide +kernel)]; exact ⟨rfl, rfl⟩))
    (fun os started H enc _ => lifted os started H enc)

theorem proved : Rows.RegsAllSaid := over
end Go.Proofs.Ytdnggaomdbdieaa.regsAll
