/- Short's addTo: a piece's bits in their field. No conditions but those that each fact names (text by gen_yc.py). -/
import Derived.Test.YtcphhojdfpedkaaDoorGz
namespace Go.Proofs.YtcphhojdfpedkaaDoor
open Go.ChangeShapes Go.WideShapes Go.ChangeAt Go.RowKit
namespace Ys
open Sp (P bitsP addP partP)
structure InsAt (w : World) (b : Nat) (i : Nm.I) : Prop where
  cell : ∀ j, w.cell? ⟨b, j, none⟩ = (insC i)[j]?
  free : ∀ j, w.frozen? ⟨b, j, none⟩ = false
  lt : b < w.heap.size
theorem insAt_set {w : World} {b : Nat} {i i' : Nm.I} (h : InsAt w b i) (o : Nat) (v : Value) (ho : o < 9) (hc : ∀ j, (insC i')[j]? = if j = o then some v else (insC i)[j]?) : InsAt (w.setCell ⟨b, o, none⟩ v) b i' := by
  have hs : ∃ u, w.cell? ⟨b, o, none⟩ = some u := by
    rw [h.cell o]
    exact ⟨_, List.getElem?_eq_getElem (by simpa [insC] using ho)⟩
  obtain ⟨u, hu⟩ := hs
  refine ⟨fun j => ?_, fun j => by rw [World.frozen?_setCell]; exact h.free j, by simpa using h.lt⟩
  rw [hc j]
  by_cases hj : j = o
  · subst hj
    rw [if_pos rfl, World.cell?_setCell_same _ _ _ hu]
  · rw [if_neg hj, World.cell?_setCell_other _ _ _ _ (by intro e; exact hj (by injection e with e1 e2; exact e2.symm)), h.cell j]
theorem InsAt.below {w w' : World} {b : Nat} {i : Nm.I} (h : InsAt w b i) (hb : Below w.heap.size w w') : InsAt w' b i :=
  ⟨fun j => (hb.cell (p := ⟨b, j, none⟩) h.lt).trans (h.cell j), fun j => (hb.frozen (p := ⟨b, j, none⟩) h.lt).trans (h.free j), Nat.lt_of_lt_of_le h.lt hb.size⟩
theorem wrap_part (X u : Int) (X0 : 0 ≤ X) (X1 : X < 65536) (hu1 : u ≤ 15) : IntKind.i64.wrap (IntKind.u32.wrap (X * 2 ^ u.toNat)) = X * 2 ^ u.toNat ∧ 0 ≤ X * 2 ^ u.toNat ∧ X * 2 ^ u.toNat < 2147483648 := by
  have h3 : (2 : Int) ^ u.toNat ≤ 2 ^ 15 := by
    have := Nat.pow_le_pow_right (n := 2) (by decide) (show u.toNat ≤ 15 by omega)
    exact_mod_cast this
  have h2 : (0 : Int) < 2 ^ u.toNat := Int.pow_pos (by decide)
  have h4 : X * 2 ^ u.toNat ≤ 65535 * 2 ^ u.toNat := Int.mul_le_mul_of_nonneg_right (by omega) (Int.le_of_lt h2)
  have h5 := Int.mul_nonneg X0 (Int.le_of_lt h2)
  refine ⟨?_, h5, by omega⟩
  rw [IntKind.wrap_u32, IntKind.wrap_i64]
  omega
set_option maxRecDepth 20000 in
set_option maxHeartbeats 1000000 in
theorem addTo_0 (c a u : Int) (op cond rd rn rm imm mode list : Int) (s : Bool) (h : Int) (Y : Int) (hY : partP ⟨0, c, a, u⟩ h = Y) (b B : Nat) (w : World) (hp : okP ⟨0, c, a, u⟩) (h0 : 0 ≤ h) (h1 : h < 65536) (hB : B ≤ b)
    (hi : InsAt w b ⟨op, cond, rd, rn, rm, imm, mode, list, s⟩) :
    Calls Tryd.prog 40 #[pieceV 0 c a u, .pointer (some ⟨b, 0, none⟩), .int .u32 h] w fun e w' => e = .returned (.tuple #[]) ∧ InsAt w' b ⟨op, cond, (bits .or .i64 rd Y), rn, rm, imm, mode, list, s⟩ ∧ Below B w w' := by
  have hg := get_piece _ h hp h0
  have hbd := bits_lt ⟨0, c, a, u⟩ h hp.2.2.2.1
  obtain ⟨X, hX⟩ : ∃ X, bitsP ⟨0, c, a, u⟩ h = X := ⟨_, rfl⟩
  rw [hX] at hg hbd
  obtain ⟨X0, X1⟩ := hbd
  have HG := Lib.hid (fun W => get_c h (a + c - 1) a W h0 (by omega))
  dsimp only at hg
  rw [hg] at HG
  have HL := Lib.hid (fun W => last_c 0 c a u ⟨hp.1, hp.2.1⟩ ⟨hp.2.2.1, hp.2.2.2.1⟩ W)
  have hu0 : 0 ≤ u := hp.2.2.2.2.1
  have hu1 : u ≤ 15 := hp.2.2.2.2.2.1
  unfold partP at hY
  rw [hX] at hY
  dsimp only at hY
  obtain ⟨eW, Y0, Y1⟩ := wrap_part X u X0 X1 hu1
  rw [hY] at eW Y0 Y1
  have HY := Lib.hid hY
  clear hY
  have HI := Lib.hid hi
  have hlt := hi.lt
  clear hX hg hp hi
  unfold pieceV
  go_enter Tryd.func40, Tryd.ntmps40
  go_wp2
  go_region_held3 (fun w' => w'.cell? ⟨w.heap.size, 0, none⟩ = some (.int .i64 0) ∧ w'.cell? ⟨w.heap.size, 1, none⟩ = some (.int .i64 c) ∧ w'.cell? ⟨w.heap.size, 2, none⟩ = some (.int .i64 a) ∧ w'.cell? ⟨w.heap.size, 3, none⟩ = some (.int .i64 u) ∧ w.heap.size < w'.heap.size ∧ Below w.heap.size w w')
    (first
      | (go_split_ands; refine ⟨by assumption, by assumption, by assumption, by assumption, by assumption, by first | exact below_drewN (by assumption) _ | exact below_other (by assumption) _⟩)
      | (go_split_ands; refine ⟨(hbel2.cell (by assumption)).trans (by assumption), (hbel2.cell (by assumption)).trans (by assumption), (hbel2.cell (by assumption)).trans (by assumption), (hbel2.cell (by assumption)).trans (by assumption), Nat.lt_of_lt_of_le (by assumption) hbel2.size, Below.trans (by assumption) (hbel2.mono (by omega))⟩)
      | (refine ⟨by go_simp, by go_simp, by go_simp, by go_simp, by simp, ((Below.refl _ _).alloc (Nat.le_refl _) _).drew⟩))
    (first
      | (go_at_call 63; refine (HL.out _).mono ?_; rintro e w' ⟨rfl, hbel2⟩)
      | (go_at_call 15; refine (HG.out _).mono ?_; rintro e w' ⟨rfl, n2, rfl⟩))
  all_goals
    go_split_ands
    have hb2 : Below w.heap.size w (w'.drewN n2) := by assumption
    have hq : w'.cell? ⟨w.heap.size, 0, none⟩ = some (.int .i64 0) := by
      have : (w'.drewN n2).cell? ⟨w.heap.size, 0, none⟩ = some (.int .i64 0) := by assumption
      simpa using this
    rw [HY.out, eW]
    have hI2 := HI.out.below hb2
    have hsz := hb2.size
    have hc2 : ∀ j, w'.cell? ⟨b, j, none⟩ = _ := fun j => (show w'.cell? ⟨b, j, none⟩ = (w'.drewN n2).cell? ⟨b, j, none⟩ by simp).trans (hI2.cell j)
    have hf2 : ∀ j, w'.frozen? ⟨b, j, none⟩ = false := fun j => (show w'.frozen? ⟨b, j, none⟩ = (w'.drewN n2).frozen? ⟨b, j, none⟩ by simp).trans (hI2.free j)
    unfold insC at hc2
    dsimp only at hc2
    clear hbel2
    go_wp2
    refine bodyPost_end (v := .tuple #[]) (by simp [results, Tryd.f40, go_sem]) rfl ?_
    have hsw : ∀ p v, (w'.setCell p v).drewN n2 = (w'.drewN n2).setCell p v := fun _ _ => by simp
    rw [hsw]
    refine ⟨rfl, insAt_set hI2 2 _ (by decide) (fun j => ?_), (hb2.mono (by omega)).setCell (by exact hB) _⟩
    rcases j with _ | _ | _ | _ | _ | _ | _ | _ | _ | j <;> simp [insC]
set_option maxRecDepth 20000 in
set_option maxHeartbeats 1000000 in
theorem addTo_1 (c a u : Int) (op cond rd rn rm imm mode list : Int) (s : Bool) (h : Int) (Y : Int) (hY : partP ⟨1, c, a, u⟩ h = Y) (b B : Nat) (w : World) (hp : okP ⟨1, c, a, u⟩) (h0 : 0 ≤ h) (h1 : h < 65536) (hB : B ≤ b)
    (hi : InsAt w b ⟨op, cond, rd, rn, rm, imm, mode, list, s⟩) :
    Calls Tryd.prog 40 #[pieceV 1 c a u, .pointer (some ⟨b, 0, none⟩), .int .u32 h] w fun e w' => e = .returned (.tuple #[]) ∧ InsAt w' b ⟨op, cond, rd, (bits .or .i64 rn Y), rm, imm, mode, list, s⟩ ∧ Below B w w' := by
  have hg := get_piece _ h hp h0
  have hbd := bits_lt ⟨1, c, a, u⟩ h hp.2.2.2.1
  obtain ⟨X, hX⟩ : ∃ X, bitsP ⟨1, c, a, u⟩ h = X := ⟨_, rfl⟩
  rw [hX] at hg hbd
  obtain ⟨X0, X1⟩ := hbd
  have HG := Lib.hid (fun W => get_c h (a + c - 1) a W h0 (by omega))
  dsimp only at hg
  rw [hg] at HG
  have HL := Lib.hid (fun W => last_c 1 c a u ⟨hp.1, hp.2.1⟩ ⟨hp.2.2.1, hp.2.2.2.1⟩ W)
  have hu0 : 0 ≤ u := hp.2.2.2.2.1
  have hu1 : u ≤ 15 := hp.2.2.2.2.2.1
  unfold partP at hY
  rw [hX] at hY
  dsimp only at hY
  obtain ⟨eW, Y0, Y1⟩ := wrap_part X u X0 X1 hu1
  rw [hY] at eW Y0 Y1
  have HY := Lib.hid hY
  clear hY
  have HI := Lib.hid hi
  have hlt := hi.lt
  clear hX hg hp hi
  unfold pieceV
  go_enter Tryd.func40, Tryd.ntmps40
  go_wp2
  go_region_held3 (fun w' => w'.cell? ⟨w.heap.size, 0, none⟩ = some (.int .i64 1) ∧ w'.cell? ⟨w.heap.size, 1, none⟩ = some (.int .i64 c) ∧ w'.cell? ⟨w.heap.size, 2, none⟩ = some (.int .i64 a) ∧ w'.cell? ⟨w.heap.size, 3, none⟩ = some (.int .i64 u) ∧ w.heap.size < w'.heap.size ∧ Below w.heap.size w w')
    (first
      | (go_split_ands; refine ⟨by assumption, by assumption, by assumption, by assumption, by assumption, by first | exact below_drewN (by assumption) _ | exact below_other (by assumption) _⟩)
      | (go_split_ands; refine ⟨(hbel2.cell (by assumption)).trans (by assumption), (hbel2.cell (by assumption)).trans (by assumption), (hbel2.cell (by assumption)).trans (by assumption), (hbel2.cell (by assumption)).trans (by assumption), Nat.lt_of_lt_of_le (by assumption) hbel2.size, Below.trans (by assumption) (hbel2.mono (by omega))⟩)
      | (refine ⟨by go_simp, by go_simp, by go_simp, by go_simp, by simp, ((Below.refl _ _).alloc (Nat.le_refl _) _).drew⟩))
    (first
      | (go_at_call 63; refine (HL.out _).mono ?_; rintro e w' ⟨rfl, hbel2⟩)
      | (go_at_call 15; refine (HG.out _).mono ?_; rintro e w' ⟨rfl, n2, rfl⟩))
  all_goals
    go_split_ands
    have hb2 : Below w.heap.size w (w'.drewN n2) := by assumption
    have hq : w'.cell? ⟨w.heap.size, 0, none⟩ = some (.int .i64 1) := by
      have : (w'.drewN n2).cell? ⟨w.heap.size, 0, none⟩ = some (.int .i64 1) := by assumption
      simpa using this
    rw [HY.out, eW]
    have hI2 := HI.out.below hb2
    have hsz := hb2.size
    have hc2 : ∀ j, w'.cell? ⟨b, j, none⟩ = _ := fun j => (show w'.cell? ⟨b, j, none⟩ = (w'.drewN n2).cell? ⟨b, j, none⟩ by simp).trans (hI2.cell j)
    have hf2 : ∀ j, w'.frozen? ⟨b, j, none⟩ = false := fun j => (show w'.frozen? ⟨b, j, none⟩ = (w'.drewN n2).frozen? ⟨b, j, none⟩ by simp).trans (hI2.free j)
    unfold insC at hc2
    dsimp only at hc2
    clear hbel2
    go_wp2
    refine bodyPost_end (v := .tuple #[]) (by simp [results, Tryd.f40, go_sem]) rfl ?_
    have hsw : ∀ p v, (w'.setCell p v).drewN n2 = (w'.drewN n2).setCell p v := fun _ _ => by simp
    rw [hsw]
    refine ⟨rfl, insAt_set hI2 3 _ (by decide) (fun j => ?_), (hb2.mono (by omega)).setCell (by exact hB) _⟩
    rcases j with _ | _ | _ | _ | _ | _ | _ | _ | _ | j <;> simp [insC]
set_option maxRecDepth 20000 in
set_option maxHeartbeats 1000000 in
theorem addTo_2 (c a u : Int) (op cond rd rn rm imm mode list : Int) (s : Bool) (h : Int) (Y : Int) (hY : partP ⟨2, c, a, u⟩ h = Y) (b B : Nat) (w : World) (hp : okP ⟨2, c, a, u⟩) (h0 : 0 ≤ h) (h1 : h < 65536) (hB : B ≤ b)
    (hi : InsAt w b ⟨op, cond, rd, rn, rm, imm, mode, list, s⟩) :
    Calls Tryd.prog 40 #[pieceV 2 c a u, .pointer (some ⟨b, 0, none⟩), .int .u32 h] w fun e w' => e = .returned (.tuple #[]) ∧ InsAt w' b ⟨op, cond, rd, rn, (bits .or .i64 rm Y), imm, mode, list, s⟩ ∧ Below B w w' := by
  have hg := get_piece _ h hp h0
  have hbd := bits_lt ⟨2, c, a, u⟩ h hp.2.2.2.1
  obtain ⟨X, hX⟩ : ∃ X, bitsP ⟨2, c, a, u⟩ h = X := ⟨_, rfl⟩
  rw [hX] at hg hbd
  obtain ⟨X0, X1⟩ := hbd
  have HG := Lib.hid (fun W => get_c h (a + c - 1) a W h0 (by omega))
  dsimp only at hg
  rw [hg] at HG
  have HL := Lib.hid (fun W => last_c 2 c a u ⟨hp.1, hp.2.1⟩ ⟨hp.2.2.1, hp.2.2.2.1⟩ W)
  have hu0 : 0 ≤ u := hp.2.2.2.2.1
  have hu1 : u ≤ 15 := hp.2.2.2.2.2.1
  unfold partP at hY
  rw [hX] at hY
  dsimp only at hY
  obtain ⟨eW, Y0, Y1⟩ := wrap_part X u X0 X1 hu1
  rw [hY] at eW Y0 Y1
  have HY := Lib.hid hY
  clear hY
  have HI := Lib.hid hi
  have hlt := hi.lt
  clear hX hg hp hi
  unfold pieceV
  go_enter Tryd.func40, Tryd.ntmps40
  go_wp2
  go_region_held3 (fun w' => w'.cell? ⟨w.heap.size, 0, none⟩ = some (.int .i64 2) ∧ w'.cell? ⟨w.heap.size, 1, none⟩ = some (.int .i64 c) ∧ w'.cell? ⟨w.heap.size, 2, none⟩ = some (.int .i64 a) ∧ w'.cell? ⟨w.heap.size, 3, none⟩ = some (.int .i64 u) ∧ w.heap.size < w'.heap.size ∧ Below w.heap.size w w')
    (first
      | (go_split_ands; refine ⟨by assumption, by assumption, by assumption, by assumption, by assumption, by first | exact below_drewN (by assumption) _ | exact below_other (by assumption) _⟩)
      | (go_split_ands; refine ⟨(hbel2.cell (by assumption)).trans (by assumption), (hbel2.cell (by assumption)).trans (by assumption), (hbel2.cell (by assumption)).trans (by assumption), (hbel2.cell (by assumption)).trans (by assumption), Nat.lt_of_lt_of_le (by assumption) hbel2.size, Below.trans (by assumption) (hbel2.mono (by omega))⟩)
      | (refine ⟨by go_simp, by go_simp, by go_simp, by go_simp, by simp, ((Below.refl _ _).alloc (Nat.le_refl _) _).drew⟩))
    (first
      | (go_at_call 63; refine (HL.out _).mono ?_; rintro e w' ⟨rfl, hbel2⟩)
      | (go_at_call 15; refine (HG.out _).mono ?_; rintro e w' ⟨rfl, n2, rfl⟩))
  all_goals
    go_split_ands
    have hb2 : Below w.heap.size w (w'.drewN n2) := by assumption
    have hq : w'.cell? ⟨w.heap.size, 0, none⟩ = some (.int .i64 2) := by
      have : (w'.drewN n2).cell? ⟨w.heap.size, 0, none⟩ = some (.int .i64 2) := by assumption
      simpa using this
    rw [HY.out, eW]
    have hI2 := HI.out.below hb2
    have hsz := hb2.size
    have hc2 : ∀ j, w'.cell? ⟨b, j, none⟩ = _ := fun j => (show w'.cell? ⟨b, j, none⟩ = (w'.drewN n2).cell? ⟨b, j, none⟩ by simp).trans (hI2.cell j)
    have hf2 : ∀ j, w'.frozen? ⟨b, j, none⟩ = false := fun j => (show w'.frozen? ⟨b, j, none⟩ = (w'.drewN n2).frozen? ⟨b, j, none⟩ by simp).trans (hI2.free j)
    unfold insC at hc2
    dsimp only at hc2
    clear hbel2
    go_wp2
    refine bodyPost_end (v := .tuple #[]) (by simp [results, Tryd.f40, go_sem]) rfl ?_
    have hsw : ∀ p v, (w'.setCell p v).drewN n2 = (w'.drewN n2).setCell p v := fun _ _ => by simp
    rw [hsw]
    refine ⟨rfl, insAt_set hI2 4 _ (by decide) (fun j => ?_), (hb2.mono (by omega)).setCell (by exact hB) _⟩
    rcases j with _ | _ | _ | _ | _ | _ | _ | _ | _ | j <;> simp [insC]
set_option maxRecDepth 20000 in
set_option maxHeartbeats 1000000 in
theorem addTo_3 (c a u : Int) (op cond rd rn rm imm mode list : Int) (s : Bool) (h : Int) (Y : Int) (hY : partP ⟨3, c, a, u⟩ h = Y) (b B : Nat) (w : World) (hp : okP ⟨3, c, a, u⟩) (h0 : 0 ≤ h) (h1 : h < 65536) (hB : B ≤ b)
    (hi : InsAt w b ⟨op, cond, rd, rn, rm, imm, mode, list, s⟩) :
    Calls Tryd.prog 40 #[pieceV 3 c a u, .pointer (some ⟨b, 0, none⟩), .int .u32 h] w fun e w' => e = .returned (.tuple #[]) ∧ InsAt w' b ⟨op, cond, rd, rn, rm, (bits .or .i64 imm Y), mode, list, s⟩ ∧ Below B w w' := by
  have hg := get_piece _ h hp h0
  have hbd := bits_lt ⟨3, c, a, u⟩ h hp.2.2.2.1
  obtain ⟨X, hX⟩ : ∃ X, bitsP ⟨3, c, a, u⟩ h = X := ⟨_, rfl⟩
  rw [hX] at hg hbd
  obtain ⟨X0, X1⟩ := hbd
  have HG := Lib.hid (fun W => get_c h (a + c - 1) a W h0 (by omega))
  dsimp only at hg
  rw [hg] at HG
  have HL := Lib.hid (fun W => last_c 3 c a u ⟨hp.1, hp.2.1⟩ ⟨hp.2.2.1, hp.2.2.2.1⟩ W)
  have hu0 : 0 ≤ u := hp.2.2.2.2.1
  have hu1 : u ≤ 15 := hp.2.2.2.2.2.1
  unfold partP at hY
  rw [hX] at hY
  dsimp only at hY
  obtain ⟨eW, Y0, Y1⟩ := wrap_part X u X0 X1 hu1
  rw [hY] at eW Y0 Y1
  have HY := Lib.hid hY
  clear hY
  have HI := Lib.hid hi
  have hlt := hi.lt
  clear hX hg hp hi
  unfold pieceV
  go_enter Tryd.func40, Tryd.ntmps40
  go_wp2
  go_region_held3 (fun w' => w'.cell? ⟨w.heap.size, 0, none⟩ = some (.int .i64 3) ∧ w'.cell? ⟨w.heap.size, 1, none⟩ = some (.int .i64 c) ∧ w'.cell? ⟨w.heap.size, 2, none⟩ = some (.int .i64 a) ∧ w'.cell? ⟨w.heap.size, 3, none⟩ = some (.int .i64 u) ∧ w.heap.size < w'.heap.size ∧ Below w.heap.size w w')
    (first
      | (go_split_ands; refine ⟨by assumption, by assumption, by assumption, by assumption, by assumption, by first | exact below_drewN (by assumption) _ | exact below_other (by assumption) _⟩)
      | (go_split_ands; refine ⟨(hbel2.cell (by assumption)).trans (by assumption), (hbel2.cell (by assumption)).trans (by assumption), (hbel2.cell (by assumption)).trans (by assumption), (hbel2.cell (by assumption)).trans (by assumption), Nat.lt_of_lt_of_le (by assumption) hbel2.size, Below.trans (by assumption) (hbel2.mono (by omega))⟩)
      | (refine ⟨by go_simp, by go_simp, by go_simp, by go_simp, by simp, ((Below.refl _ _).alloc (Nat.le_refl _) _).drew⟩))
    (first
      | (go_at_call 63; refine (HL.out _).mono ?_; rintro e w' ⟨rfl, hbel2⟩)
      | (go_at_call 15; refine (HG.out _).mono ?_; rintro e w' ⟨rfl, n2, rfl⟩))
  all_goals
    go_split_ands
    have hb2 : Below w.heap.size w (w'.drewN n2) := by assumption
    have hq : w'.cell? ⟨w.heap.size, 0, none⟩ = some (.int .i64 3) := by
      have : (w'.drewN n2).cell? ⟨w.heap.size, 0, none⟩ = some (.int .i64 3) := by assumption
      simpa using this
    rw [HY.out, eW]
    have hI2 := HI.out.below hb2
    have hsz := hb2.size
    have hc2 : ∀ j, w'.cell? ⟨b, j, none⟩ = _ := fun j => (show w'.cell? ⟨b, j, none⟩ = (w'.drewN n2).cell? ⟨b, j, none⟩ by simp).trans (hI2.cell j)
    have hf2 : ∀ j, w'.frozen? ⟨b, j, none⟩ = false := fun j => (show w'.frozen? ⟨b, j, none⟩ = (w'.drewN n2).frozen? ⟨b, j, none⟩ by simp).trans (hI2.free j)
    unfold insC at hc2
    dsimp only at hc2
    clear hbel2
    go_wp2
    refine bodyPost_end (v := .tuple #[]) (by simp [results, Tryd.f40, go_sem]) rfl ?_
    have hsw : ∀ p v, (w'.setCell p v).drewN n2 = (w'.drewN n2).setCell p v := fun _ _ => by simp
    rw [hsw]
    refine ⟨rfl, insAt_set hI2 5 _ (by decide) (fun j => ?_), (hb2.mono (by omega)).setCell (by exact hB) _⟩
    rcases j with _ | _ | _ | _ | _ | _ | _ | _ | _ | j <;> simp [insC]
set_option maxRecDepth 20000 in
set_option maxHeartbeats 1000000 in
theorem addTo_4 (c a u : Int) (op cond rd rn rm imm mode list : Int) (s : Bool) (h : Int) (Y : Int) (hY : partP ⟨4, c, a, u⟩ h = Y) (b B : Nat) (w : World) (hp : okP ⟨4, c, a, u⟩) (h0 : 0 ≤ h) (h1 : h < 65536) (hB : B ≤ b)
    (hi : InsAt w b ⟨op, cond, rd, rn, rm, imm, mode, list, s⟩) :
    Calls Tryd.prog 40 #[pieceV 4 c a u, .pointer (some ⟨b, 0, none⟩), .int .u32 h] w fun e w' => e = .returned (.tuple #[]) ∧ InsAt w' b ⟨op, cond, rd, rn, rm, imm, mode, (bits .or .i64 list Y), s⟩ ∧ Below B w w' := by
  have hg := get_piece _ h hp h0
  have hbd := bits_lt ⟨4, c, a, u⟩ h hp.2.2.2.1
  obtain ⟨X, hX⟩ : ∃ X, bitsP ⟨4, c, a, u⟩ h = X := ⟨_, rfl⟩
  rw [hX] at hg hbd
  obtain ⟨X0, X1⟩ := hbd
  have HG := Lib.hid (fun W => get_c h (a + c - 1) a W h0 (by omega))
  dsimp only at hg
  rw [hg] at HG
  have HL := Lib.hid (fun W => last_c 4 c a u ⟨hp.1, hp.2.1⟩ ⟨hp.2.2.1, hp.2.2.2.1⟩ W)
  have hu0 : 0 ≤ u := hp.2.2.2.2.1
  have hu1 : u ≤ 15 := hp.2.2.2.2.2.1
  unfold partP at hY
  rw [hX] at hY
  dsimp only at hY
  obtain ⟨eW, Y0, Y1⟩ := wrap_part X u X0 X1 hu1
  rw [hY] at eW Y0 Y1
  have HY := Lib.hid hY
  clear hY
  have HI := Lib.hid hi
  have hlt := hi.lt
  clear hX hg hp hi
  unfold pieceV
  go_enter Tryd.func40, Tryd.ntmps40
  go_wp2
  go_region_held3 (fun w' => w'.cell? ⟨w.heap.size, 0, none⟩ = some (.int .i64 4) ∧ w'.cell? ⟨w.heap.size, 1, none⟩ = some (.int .i64 c) ∧ w'.cell? ⟨w.heap.size, 2, none⟩ = some (.int .i64 a) ∧ w'.cell? ⟨w.heap.size, 3, none⟩ = some (.int .i64 u) ∧ w.heap.size < w'.heap.size ∧ Below w.heap.size w w')
    (first
      | (go_split_ands; refine ⟨by assumption, by assumption, by assumption, by assumption, by assumption, by first | exact below_drewN (by assumption) _ | exact below_other (by assumption) _⟩)
      | (go_split_ands; refine ⟨(hbel2.cell (by assumption)).trans (by assumption), (hbel2.cell (by assumption)).trans (by assumption), (hbel2.cell (by assumption)).trans (by assumption), (hbel2.cell (by assumption)).trans (by assumption), Nat.lt_of_lt_of_le (by assumption) hbel2.size, Below.trans (by assumption) (hbel2.mono (by omega))⟩)
      | (refine ⟨by go_simp, by go_simp, by go_simp, by go_simp, by simp, ((Below.refl _ _).alloc (Nat.le_refl _) _).drew⟩))
    (first
      | (go_at_call 63; refine (HL.out _).mono ?_; rintro e w' ⟨rfl, hbel2⟩)
      | (go_at_call 15; refine (HG.out _).mono ?_; rintro e w' ⟨rfl, n2, rfl⟩))
  all_goals
    go_split_ands
    have hb2 : Below w.heap.size w (w'.drewN n2) := by assumption
    have hq : w'.cell? ⟨w.heap.size, 0, none⟩ = some (.int .i64 4) := by
      have : (w'.drewN n2).cell? ⟨w.heap.size, 0, none⟩ = some (.int .i64 4) := by assumption
      simpa using this
    rw [HY.out, eW]
    have hI2 := HI.out.below hb2
    have hsz := hb2.size
    have hc2 : ∀ j, w'.cell? ⟨b, j, none⟩ = _ := fun j => (show w'.cell? ⟨b, j, none⟩ = (w'.drewN n2).cell? ⟨b, j, none⟩ by simp).trans (hI2.cell j)
    have hf2 : ∀ j, w'.frozen? ⟨b, j, none⟩ = false := fun j => (show w'.frozen? ⟨b, j, none⟩ = (w'.drewN n2).frozen? ⟨b, j, none⟩ by simp).trans (hI2.free j)
    unfold insC at hc2
    dsimp only at hc2
    clear hbel2
    go_wp2
    refine bodyPost_end (v := .tuple #[]) (by simp [results, Tryd.f40, go_sem]) rfl ?_
    have hsw : ∀ p v, (w'.setCell p v).drewN n2 = (w'.drewN n2).setCell p v := fun _ _ => by simp
    rw [hsw]
    refine ⟨rfl, insAt_set hI2 7 _ (by decide) (fun j => ?_), (hb2.mono (by omega)).setCell (by exact hB) _⟩
    rcases j with _ | _ | _ | _ | _ | _ | _ | _ | _ | j <;> simp [insC]
set_option maxRecDepth 20000 in
set_option maxHeartbeats 1000000 in
theorem addTo_5 (c a u : Int) (op cond rd rn rm imm mode list : Int) (s : Bool) (h : Int) (Y : Int) (hY : partP ⟨5, c, a, u⟩ h = Y) (b B : Nat) (w : World) (hp : okP ⟨5, c, a, u⟩) (h0 : 0 ≤ h) (h1 : h < 65536) (hB : B ≤ b)
    (hi : InsAt w b ⟨op, cond, rd, rn, rm, imm, mode, list, s⟩) :
    Calls Tryd.prog 40 #[pieceV 5 c a u, .pointer (some ⟨b, 0, none⟩), .int .u32 h] w fun e w' => e = .returned (.tuple #[]) ∧ InsAt w' b ⟨op, (bits .or .i64 cond Y), rd, rn, rm, imm, mode, list, s⟩ ∧ Below B w w' := by
  have hg := get_piece _ h hp h0
  have hbd := bits_lt ⟨5, c, a, u⟩ h hp.2.2.2.1
  obtain ⟨X, hX⟩ : ∃ X, bitsP ⟨5, c, a, u⟩ h = X := ⟨_, rfl⟩
  rw [hX] at hg hbd
  obtain ⟨X0, X1⟩ := hbd
  have HG := Lib.hid (fun W => get_c h (a + c - 1) a W h0 (by omega))
  dsimp only at hg
  rw [hg] at HG
  have HL := Lib.hid (fun W => last_c 5 c a u ⟨hp.1, hp.2.1⟩ ⟨hp.2.2.1, hp.2.2.2.1⟩ W)
  have hu0 : 0 ≤ u := hp.2.2.2.2.1
  have hu1 : u ≤ 15 := hp.2.2.2.2.2.1
  unfold partP at hY
  rw [hX] at hY
  dsimp only at hY
  obtain ⟨eW, Y0, Y1⟩ := wrap_part X u X0 X1 hu1
  rw [hY] at eW Y0 Y1
  have HY := Lib.hid hY
  clear hY
  have HI := Lib.hid hi
  have hlt := hi.lt
  clear hX hg hp hi
  unfold pieceV
  go_enter Tryd.func40, Tryd.ntmps40
  go_wp2
  go_region_held3 (fun w' => w'.cell? ⟨w.heap.size, 0, none⟩ = some (.int .i64 5) ∧ w'.cell? ⟨w.heap.size, 1, none⟩ = some (.int .i64 c) ∧ w'.cell? ⟨w.heap.size, 2, none⟩ = some (.int .i64 a) ∧ w'.cell? ⟨w.heap.size, 3, none⟩ = some (.int .i64 u) ∧ w.heap.size < w'.heap.size ∧ Below w.heap.size w w')
    (first
      | (go_split_ands; refine ⟨by assumption, by assumption, by assumption, by assumption, by assumption, by first | exact below_drewN (by assumption) _ | exact below_other (by assumption) _⟩)
      | (go_split_ands; refine ⟨(hbel2.cell (by assumption)).trans (by assumption), (hbel2.cell (by assumption)).trans (by assumption), (hbel2.cell (by assumption)).trans (by assumption), (hbel2.cell (by assumption)).trans (by assumption), Nat.lt_of_lt_of_le (by assumption) hbel2.size, Below.trans (by assumption) (hbel2.mono (by omega))⟩)
      | (refine ⟨by go_simp, by go_simp, by go_simp, by go_simp, by simp, ((Below.refl _ _).alloc (Nat.le_refl _) _).drew⟩))
    (first
      | (go_at_call 63; refine (HL.out _).mono ?_; rintro e w' ⟨rfl, hbel2⟩)
      | (go_at_call 15; refine (HG.out _).mono ?_; rintro e w' ⟨rfl, n2, rfl⟩))
  all_goals
    go_split_ands
    have hb2 : Below w.heap.size w (w'.drewN n2) := by assumption
    have hq : w'.cell? ⟨w.heap.size, 0, none⟩ = some (.int .i64 5) := by
      have : (w'.drewN n2).cell? ⟨w.heap.size, 0, none⟩ = some (.int .i64 5) := by assumption
      simpa using this
    rw [HY.out, eW]
    have hI2 := HI.out.below hb2
    have hsz := hb2.size
    have hc2 : ∀ j, w'.cell? ⟨b, j, none⟩ = _ := fun j => (show w'.cell? ⟨b, j, none⟩ = (w'.drewN n2).cell? ⟨b, j, none⟩ by simp).trans (hI2.cell j)
    have hf2 : ∀ j, w'.frozen? ⟨b, j, none⟩ = false := fun j => (show w'.frozen? ⟨b, j, none⟩ = (w'.drewN n2).frozen? ⟨b, j, none⟩ by simp).trans (hI2.free j)
    unfold insC at hc2
    dsimp only at hc2
    clear hbel2
    go_wp2
    refine bodyPost_end (v := .tuple #[]) (by simp [results, Tryd.f40, go_sem]) rfl ?_
    have hsw : ∀ p v, (w'.setCell p v).drewN n2 = (w'.drewN n2).setCell p v := fun _ _ => by simp
    rw [hsw]
    refine ⟨rfl, insAt_set hI2 1 _ (by decide) (fun j => ?_), (hb2.mono (by omega)).setCell (by exact hB) _⟩
    rcases j with _ | _ | _ | _ | _ | _ | _ | _ | _ | j <;> simp [insC]
set_option maxRecDepth 20000 in
set_option maxHeartbeats 1000000 in
theorem addTo_6 (c a u : Int) (op cond rd rn rm imm mode list : Int) (s : Bool) (h : Int) (N : Int) (hN : (Om.gA 1 h 0) = N) (b B : Nat) (w : World) (hp : okP ⟨6, c, a, u⟩) (h0 : 0 ≤ h) (h1 : h < 65536) (hB : B ≤ b)
    (hi : InsAt w b ⟨op, cond, rd, rn, rm, imm, mode, list, s⟩) (hT : Tabs w) :
    Calls Tryd.prog 40 #[pieceV 6 c a u, .pointer (some ⟨b, 0, none⟩), .int .u32 h] w fun e w' => e = .returned (.tuple #[]) ∧ InsAt w' b ⟨op, cond, rd, rn, rm, N, mode, list, s⟩ ∧ Below B w w' := by
  have hg := get_piece _ h hp h0
  have hbd := bits_lt ⟨6, c, a, u⟩ h hp.2.2.2.1
  obtain ⟨X, hX⟩ : ∃ X, bitsP ⟨6, c, a, u⟩ h = X := ⟨_, rfl⟩
  rw [hX] at hg hbd
  obtain ⟨X0, X1⟩ := hbd
  have HG := Lib.hid (fun W => get_c h (a + c - 1) a W h0 (by omega))
  dsimp only at hg
  rw [hg] at HG
  have HL := Lib.hid (fun W => last_c 6 c a u ⟨hp.1, hp.2.1⟩ ⟨hp.2.2.1, hp.2.2.2.1⟩ W)
  have hu0 : 0 ≤ u := hp.2.2.2.2.1
  have hu1 : u ≤ 15 := hp.2.2.2.2.2.1
  have ho := fun W hT => oget_c 1 h 0 W (by decide) hT
  rw [show h % 4294967296 = h by omega, show (0 : Int) % 4294967296 = 0 by decide, Om.getV_ar 1 h 0 (by decide) h0 (by decide), hN] at ho
  have HO := Lib.hid ho
  have HT := Lib.hid hT
  obtain ⟨eW, Y0, Y1⟩ := wrap_part X u X0 X1 hu1
  obtain ⟨Y, hY⟩ : ∃ Y, X * 2 ^ u.toNat = Y := ⟨_, rfl⟩
  rw [hY] at eW Y0 Y1
  have HY := Lib.hid hY
  clear ho hT hN hY
  have HI := Lib.hid hi
  have hlt := hi.lt
  clear hX hg hp hi
  unfold pieceV
  go_enter Tryd.func40, Tryd.ntmps40
  go_wp2
  go_region_held3 (fun w' => w'.cell? ⟨w.heap.size, 0, none⟩ = some (.int .i64 6) ∧ w'.cell? ⟨w.heap.size, 1, none⟩ = some (.int .i64 c) ∧ w'.cell? ⟨w.heap.size, 2, none⟩ = some (.int .i64 a) ∧ w'.cell? ⟨w.heap.size, 3, none⟩ = some (.int .i64 u) ∧ w.heap.size < w'.heap.size ∧ Below w.heap.size w w')
    (first
      | (go_split_ands; refine ⟨by assumption, by assumption, by assumption, by assumption, by assumption, by first | exact below_drewN (by assumption) _ | exact below_other (by assumption) _⟩)
      | (go_split_ands; refine ⟨(hbel2.cell (by assumption)).trans (by assumption), (hbel2.cell (by assumption)).trans (by assumption), (hbel2.cell (by assumption)).trans (by assumption), (hbel2.cell (by assumption)).trans (by assumption), Nat.lt_of_lt_of_le (by assumption) hbel2.size, Below.trans (by assumption) (hbel2.mono (by omega))⟩)
      | (refine ⟨by go_simp, by go_simp, by go_simp, by go_simp, by simp, ((Below.refl _ _).alloc (Nat.le_refl _) _).drew⟩))
    (first
      | (go_at_call 63; refine (HL.out _).mono ?_; rintro e w' ⟨rfl, hbel2⟩)
      | (go_at_call 15; refine (HG.out _).mono ?_; rintro e w' ⟨rfl, n2, rfl⟩))
  all_goals
    go_split_ands
    have hb2 : Below w.heap.size w (w'.drewN n2) := by assumption
    have hq : w'.cell? ⟨w.heap.size, 0, none⟩ = some (.int .i64 6) := by
      have : (w'.drewN n2).cell? ⟨w.heap.size, 0, none⟩ = some (.int .i64 6) := by assumption
      simpa using this
    rw [HY.out, eW]
    have hI2 := HI.out.below hb2
    have hsz := hb2.size
    have hc2 : ∀ j, w'.cell? ⟨b, j, none⟩ = _ := fun j => (show w'.cell? ⟨b, j, none⟩ = (w'.drewN n2).cell? ⟨b, j, none⟩ by simp).trans (hI2.cell j)
    have hf2 : ∀ j, w'.frozen? ⟨b, j, none⟩ = false := fun j => (show w'.frozen? ⟨b, j, none⟩ = (w'.drewN n2).frozen? ⟨b, j, none⟩ by simp).trans (hI2.free j)
    unfold insC at hc2
    dsimp only at hc2
    clear hbel2
    go_wp2_with fail
    refine (HO.out _ (HT.out.below hb2 HT.out.big)).mono ?_
    rintro e w3 ⟨rfl, hb3⟩
    have hI3 := hI2.below hb3
    have hc3 := hI3.cell
    have hf3 := hI3.free
    unfold insC at hc3
    dsimp only at hc3
    clear hc2 hf2
    go_wp2
    refine bodyPost_end (v := .tuple #[]) (by simp [results, Tryd.f40, go_sem]) rfl ?_
    refine ⟨rfl, insAt_set hI3 5 _ (by decide) (fun j => ?_), ((hb2.trans (hb3.mono (by omega))).mono (by omega)).setCell (by exact hB) _⟩
    rcases j with _ | _ | _ | _ | _ | _ | _ | _ | _ | j <;> simp [insC]
set_option maxRecDepth 20000 in
set_option maxHeartbeats 1000000 in
theorem addTo_7 (c a u : Int) (op cond rd rn rm imm mode list : Int) (s : Bool) (h : Int) (N : Int) (hN : (Om.gA 2 h 0) = N) (b B : Nat) (w : World) (hp : okP ⟨7, c, a, u⟩) (h0 : 0 ≤ h) (h1 : h < 65536) (hB : B ≤ b)
    (hi : InsAt w b ⟨op, cond, rd, rn, rm, imm, mode, list, s⟩) (hT : Tabs w) :
    Calls Tryd.prog 40 #[pieceV 7 c a u, .pointer (some ⟨b, 0, none⟩), .int .u32 h] w fun e w' => e = .returned (.tuple #[]) ∧ InsAt w' b ⟨op, cond, rd, rn, rm, N, mode, list, s⟩ ∧ Below B w w' := by
  have hg := get_piece _ h hp h0
  have hbd := bits_lt ⟨7, c, a, u⟩ h hp.2.2.2.1
  obtain ⟨X, hX⟩ : ∃ X, bitsP ⟨7, c, a, u⟩ h = X := ⟨_, rfl⟩
  rw [hX] at hg hbd
  obtain ⟨X0, X1⟩ := hbd
  have HG := Lib.hid (fun W => get_c h (a + c - 1) a W h0 (by omega))
  dsimp only at hg
  rw [hg] at HG
  have HL := Lib.hid (fun W => last_c 7 c a u ⟨hp.1, hp.2.1⟩ ⟨hp.2.2.1, hp.2.2.2.1⟩ W)
  have hu0 : 0 ≤ u := hp.2.2.2.2.1
  have hu1 : u ≤ 15 := hp.2.2.2.2.2.1
  have ho := fun W hT => oget_c 2 h 0 W (by decide) hT
  rw [show h % 4294967296 = h by omega, show (0 : Int) % 4294967296 = 0 by decide, Om.getV_ar 2 h 0 (by decide) h0 (by decide), hN] at ho
  have HO := Lib.hid ho
  have HT := Lib.hid hT
  obtain ⟨eW, Y0, Y1⟩ := wrap_part X u X0 X1 hu1
  obtain ⟨Y, hY⟩ : ∃ Y, X * 2 ^ u.toNat = Y := ⟨_, rfl⟩
  rw [hY] at eW Y0 Y1
  have HY := Lib.hid hY
  clear ho hT hN hY
  have HI := Lib.hid hi
  have hlt := hi.lt
  clear hX hg hp hi
  unfold pieceV
  go_enter Tryd.func40, Tryd.ntmps40
  go_wp2
  go_region_held3 (fun w' => w'.cell? ⟨w.heap.size, 0, none⟩ = some (.int .i64 7) ∧ w'.cell? ⟨w.heap.size, 1, none⟩ = some (.int .i64 c) ∧ w'.cell? ⟨w.heap.size, 2, none⟩ = some (.int .i64 a) ∧ w'.cell? ⟨w.heap.size, 3, none⟩ = some (.int .i64 u) ∧ w.heap.size < w'.heap.size ∧ Below w.heap.size w w')
    (first
      | (go_split_ands; refine ⟨by assumption, by assumption, by assumption, by assumption, by assumption, by first | exact below_drewN (by assumption) _ | exact below_other (by assumption) _⟩)
      | (go_split_ands; refine ⟨(hbel2.cell (by assumption)).trans (by assumption), (hbel2.cell (by assumption)).trans (by assumption), (hbel2.cell (by assumption)).trans (by assumption), (hbel2.cell (by assumption)).trans (by assumption), Nat.lt_of_lt_of_le (by assumption) hbel2.size, Below.trans (by assumption) (hbel2.mono (by omega))⟩)
      | (refine ⟨by go_simp, by go_simp, by go_simp, by go_simp, by simp, ((Below.refl _ _).alloc (Nat.le_refl _) _).drew⟩))
    (first
      | (go_at_call 63; refine (HL.out _).mono ?_; rintro e w' ⟨rfl, hbel2⟩)
      | (go_at_call 15; refine (HG.out _).mono ?_; rintro e w' ⟨rfl, n2, rfl⟩))
  all_goals
    go_split_ands
    have hb2 : Below w.heap.size w (w'.drewN n2) := by assumption
    have hq : w'.cell? ⟨w.heap.size, 0, none⟩ = some (.int .i64 7) := by
      have : (w'.drewN n2).cell? ⟨w.heap.size, 0, none⟩ = some (.int .i64 7) := by assumption
      simpa using this
    rw [HY.out, eW]
    have hI2 := HI.out.below hb2
    have hsz := hb2.size
    have hc2 : ∀ j, w'.cell? ⟨b, j, none⟩ = _ := fun j => (show w'.cell? ⟨b, j, none⟩ = (w'.drewN n2).cell? ⟨b, j, none⟩ by simp).trans (hI2.cell j)
    have hf2 : ∀ j, w'.frozen? ⟨b, j, none⟩ = false := fun j => (show w'.frozen? ⟨b, j, none⟩ = (w'.drewN n2).frozen? ⟨b, j, none⟩ by simp).trans (hI2.free j)
    unfold insC at hc2
    dsimp only at hc2
    clear hbel2
    go_wp2_with fail
    refine (HO.out _ (HT.out.below hb2 HT.out.big)).mono ?_
    rintro e w3 ⟨rfl, hb3⟩
    have hI3 := hI2.below hb3
    have hc3 := hI3.cell
    have hf3 := hI3.free
    unfold insC at hc3
    dsimp only at hc3
    clear hc2 hf2
    go_wp2
    refine bodyPost_end (v := .tuple #[]) (by simp [results, Tryd.f40, go_sem]) rfl ?_
    refine ⟨rfl, insAt_set hI3 5 _ (by decide) (fun j => ?_), ((hb2.trans (hb3.mono (by omega))).mono (by omega)).setCell (by exact hB) _⟩
    rcases j with _ | _ | _ | _ | _ | _ | _ | _ | _ | j <;> simp [insC]
set_option maxRecDepth 20000 in
set_option maxHeartbeats 1000000 in
theorem addTo_8 (c a u : Int) (op cond rd rn rm imm mode list : Int) (s : Bool) (h : Int) (N : Int) (hN : (Om.gA 5 h 0) = N) (b B : Nat) (w : World) (hp : okP ⟨8, c, a, u⟩) (h0 : 0 ≤ h) (h1 : h < 65536) (hB : B ≤ b)
    (hi : InsAt w b ⟨op, cond, rd, rn, rm, imm, mode, list, s⟩) (hT : Tabs w) :
    Calls Tryd.prog 40 #[pieceV 8 c a u, .pointer (some ⟨b, 0, none⟩), .int .u32 h] w fun e w' => e = .returned (.tuple #[]) ∧ InsAt w' b ⟨op, cond, rd, rn, rm, N, mode, list, s⟩ ∧ Below B w w' := by
  have hg := get_piece _ h hp h0
  have hbd := bits_lt ⟨8, c, a, u⟩ h hp.2.2.2.1
  obtain ⟨X, hX⟩ : ∃ X, bitsP ⟨8, c, a, u⟩ h = X := ⟨_, rfl⟩
  rw [hX] at hg hbd
  obtain ⟨X0, X1⟩ := hbd
  have HG := Lib.hid (fun W => get_c h (a + c - 1) a W h0 (by omega))
  dsimp only at hg
  rw [hg] at HG
  have HL := Lib.hid (fun W => last_c 8 c a u ⟨hp.1, hp.2.1⟩ ⟨hp.2.2.1, hp.2.2.2.1⟩ W)
  have hu0 : 0 ≤ u := hp.2.2.2.2.1
  have hu1 : u ≤ 15 := hp.2.2.2.2.2.1
  have ho := fun W hT => oget_c 5 h 0 W (by decide) hT
  rw [show h % 4294967296 = h by omega, show (0 : Int) % 4294967296 = 0 by decide, Om.getV_ar 5 h 0 (by decide) h0 (by decide), hN] at ho
  have HO := Lib.hid ho
  have HT := Lib.hid hT
  obtain ⟨eW, Y0, Y1⟩ := wrap_part X u X0 X1 hu1
  obtain ⟨Y, hY⟩ : ∃ Y, X * 2 ^ u.toNat = Y := ⟨_, rfl⟩
  rw [hY] at eW Y0 Y1
  have HY := Lib.hid hY
  clear ho hT hN hY
  have HI := Lib.hid hi
  have hlt := hi.lt
  clear hX hg hp hi
  unfold pieceV
  go_enter Tryd.func40, Tryd.ntmps40
  go_wp2
  go_region_held3 (fun w' => w'.cell? ⟨w.heap.size, 0, none⟩ = some (.int .i64 8) ∧ w'.cell? ⟨w.heap.size, 1, none⟩ = some (.int .i64 c) ∧ w'.cell? ⟨w.heap.size, 2, none⟩ = some (.int .i64 a) ∧ w'.cell? ⟨w.heap.size, 3, none⟩ = some (.int .i64 u) ∧ w.heap.size < w'.heap.size ∧ Below w.heap.size w w')
    (first
      | (go_split_ands; refine ⟨by assumption, by assumption, by assumption, by assumption, by assumption, by first | exact below_drewN (by assumption) _ | exact below_other (by assumption) _⟩)
      | (go_split_ands; refine ⟨(hbel2.cell (by assumption)).trans (by assumption), (hbel2.cell (by assumption)).trans (by assumption), (hbel2.cell (by assumption)).trans (by assumption), (hbel2.cell (by assumption)).trans (by assumption), Nat.lt_of_lt_of_le (by assumption) hbel2.size, Below.trans (by assumption) (hbel2.mono (by omega))⟩)
      | (refine ⟨by go_simp, by go_simp, by go_simp, by go_simp, by simp, ((Below.refl _ _).alloc (Nat.le_refl _) _).drew⟩))
    (first
      | (go_at_call 63; refine (HL.out _).mono ?_; rintro e w' ⟨rfl, hbel2⟩)
      | (go_at_call 15; refine (HG.out _).mono ?_; rintro e w' ⟨rfl, n2, rfl⟩))
  all_goals
    go_split_ands
    have hb2 : Below w.heap.size w (w'.drewN n2) := by assumption
    have hq : w'.cell? ⟨w.heap.size, 0, none⟩ = some (.int .i64 8) := by
      have : (w'.drewN n2).cell? ⟨w.heap.size, 0, none⟩ = some (.int .i64 8) := by assumption
      simpa using this
    rw [HY.out, eW]
    have hI2 := HI.out.below hb2
    have hsz := hb2.size
    have hc2 : ∀ j, w'.cell? ⟨b, j, none⟩ = _ := fun j => (show w'.cell? ⟨b, j, none⟩ = (w'.drewN n2).cell? ⟨b, j, none⟩ by simp).trans (hI2.cell j)
    have hf2 : ∀ j, w'.frozen? ⟨b, j, none⟩ = false := fun j => (show w'.frozen? ⟨b, j, none⟩ = (w'.drewN n2).frozen? ⟨b, j, none⟩ by simp).trans (hI2.free j)
    unfold insC at hc2
    dsimp only at hc2
    clear hbel2
    go_wp2_with fail
    refine (HO.out _ (HT.out.below hb2 HT.out.big)).mono ?_
    rintro e w3 ⟨rfl, hb3⟩
    have hI3 := hI2.below hb3
    have hc3 := hI3.cell
    have hf3 := hI3.free
    unfold insC at hc3
    dsimp only at hc3
    clear hc2 hf2
    go_wp2
    refine bodyPost_end (v := .tuple #[]) (by simp [results, Tryd.f40, go_sem]) rfl ?_
    refine ⟨rfl, insAt_set hI3 5 _ (by decide) (fun j => ?_), ((hb2.trans (hb3.mono (by omega))).mono (by omega)).setCell (by exact hB) _⟩
    rcases j with _ | _ | _ | _ | _ | _ | _ | _ | _ | j <;> simp [insC]
theorem gA_1 (h : Int) : Om.gA 1 h 0 = Sp.nearI h := by
  unfold Om.gA Om.sg Sp.nearI
  rw [if_pos rfl]
  by_cases hq : h % 256 < 128
  · rw [if_pos hq, if_pos hq]; omega
  · rw [if_neg hq, if_neg hq]; omega
theorem gA_2 (h : Int) : Om.gA 2 h 0 = Sp.farI h := by
  unfold Om.gA Om.sg Sp.farI
  rw [if_neg (by decide), if_pos rfl]
  by_cases hq : h % 2048 < 1024
  · rw [if_pos hq, if_pos hq]; omega
  · rw [if_neg hq, if_neg hq]; omega
theorem gA_5 (h : Int) : Om.gA 5 h 0 = Sp.aheadI h := by
  unfold Om.gA Sp.aheadI
  rw [if_neg (by decide), if_neg (by decide), if_neg (by decide), if_neg (by decide), if_pos rfl]
  omega
theorem addTo_c (p : P) (i : Nm.I) (h : Int) (b B : Nat) (w : World) (hp : okP p) (h0 : 0 ≤ h) (h1 : h < 65536) (hB : B ≤ b) (hi : InsAt w b i) (hT : Tabs w) :
    Calls Tryd.prog 40 #[.agg (pcC p).toArray, .pointer (some ⟨b, 0, none⟩), .int .u32 h] w fun e w' => e = .returned (.tuple #[]) ∧ InsAt w' b (addP h i p) ∧ Below B w w' := by
  obtain ⟨f, c, a, u⟩ := p
  obtain ⟨op, cond, rd, rn, rm, imm, mode, list, s⟩ := i
  have f0 := hp.2.2.2.2.2.2.1
  have f8 := hp.2.2.2.2.2.2.2
  dsimp only at f0 f8
  rcases (by omega : f = 0 ∨ f = 1 ∨ f = 2 ∨ f = 3 ∨ f = 4 ∨ f = 5 ∨ f = 6 ∨ f = 7 ∨ f = 8) with rfl | rfl | rfl | rfl | rfl | rfl | rfl | rfl | rfl
  · refine (addTo_0 c a u op cond rd rn rm imm mode list s h _ rfl b B w hp h0 h1 hB hi).mono ?_
    rintro e w' ⟨he, h3, h4⟩
    exact ⟨he, h3, h4⟩
  · refine (addTo_1 c a u op cond rd rn rm imm mode list s h _ rfl b B w hp h0 h1 hB hi).mono ?_
    rintro e w' ⟨he, h3, h4⟩
    exact ⟨he, h3, h4⟩
  · refine (addTo_2 c a u op cond rd rn rm imm mode list s h _ rfl b B w hp h0 h1 hB hi).mono ?_
    rintro e w' ⟨he, h3, h4⟩
    exact ⟨he, h3, h4⟩
  · refine (addTo_3 c a u op cond rd rn rm imm mode list s h _ rfl b B w hp h0 h1 hB hi).mono ?_
    rintro e w' ⟨he, h3, h4⟩
    exact ⟨he, h3, h4⟩
  · refine (addTo_4 c a u op cond rd rn rm imm mode list s h _ rfl b B w hp h0 h1 hB hi).mono ?_
    rintro e w' ⟨he, h3, h4⟩
    exact ⟨he, h3, h4⟩
  · refine (addTo_5 c a u op cond rd rn rm imm mode list s h _ rfl b B w hp h0 h1 hB hi).mono ?_
    rintro e w' ⟨he, h3, h4⟩
    exact ⟨he, h3, h4⟩
  · refine (addTo_6 c a u op cond rd rn rm imm mode list s h _ rfl b B w hp h0 h1 hB hi hT).mono ?_
    rintro e w' ⟨he, h3, h4⟩
    refine ⟨he, ?_, h4⟩
    rw [gA_1 h] at h3
    exact h3
  · refine (addTo_7 c a u op cond rd rn rm imm mode list s h _ rfl b B w hp h0 h1 hB hi hT).mono ?_
    rintro e w' ⟨he, h3, h4⟩
    refine ⟨he, ?_, h4⟩
    rw [gA_2 h] at h3
    exact h3
  · refine (addTo_8 c a u op cond rd rn rm imm mode list s h _ rfl b B w hp h0 h1 hB hi hT).mono ?_
    rintro e w' ⟨he, h3, h4⟩
    refine ⟨he, ?_, h4⟩
    rw [gA_5 h] at h3
    exact h3
end Ys
end Go.Proofs.YtcphhojdfpedkaaDoor
