/- Plain data that lie in cells: what a reading tells of the cells, whatever the nesting of arrays and structs. No program, no conditions but those that each fact names. -/
import Derived.Test.YthpoficikcicmaaDoorRows
import Derived.WalkKit
import Derived.ProofKit
import Derived.OpenShut
import Derived.LaidMore
import Derived.Lib.LaidTab
import Derived.Deep.MidRow
import Derived.Below
namespace Go.Proofs.YthpoficikcicmaaDoor
open Go.ChangeShapes Go.WideShapes Go.ChangeAt Go.RowKit

/-! what a datum of numbers, bools, strings, arrays and structs is as a row of cells -/
namespace Flat
mutual
def flat {H : Type} : DataW H → Option (List Value)
  | .lit (.int k n) => some [.int k n]
  | .lit (.bool b) => some [.bool b]
  | .lit (.string l) => some [.string ⟨l.toArray⟩]
  | .agg ds => flats ds
  | _ => none
def flats {H : Type} : List (DataW H) → Option (List Value)
  | [] => some []
  | d :: r => (flat d).bind fun a => (flats r).map fun b => a ++ b
end

/-- the fields lie one behind the other, from o on, and fill the type -/
def rowB (tight : TypeId → Bool) (P : Program) (all : Nat) : Nat → List Field → Bool
  | o, [] => o == all
  | o, f :: r => f.offset == o && tight f.type && rowB tight P all (o + P.cellsOf f.type) r
/-- no cell lies between fields or elements -/
def tight (P : Program) : Nat → TypeId → Bool
  | 0, _ => false
  | n + 1, t => match P.underlying t with
    | some (.struct fs) => rowB (tight P n) P (P.cellsOf t) 0 fs.toList
    | some (.array k e) => P.cellsOf t == k * P.cellsOf e && tight P n e
    | _ => true

theorem flats_cons {H : Type} {d : DataW H} {r : List (DataW H)} {cs : List Value} (h : flats (d :: r) = some cs) : ∃ a b, flat d = some a ∧ flats r = some b ∧ cs = a ++ b := by
  simp only [flats, Option.bind_eq_some_iff, Option.map_eq_some_iff] at h
  obtain ⟨a, ha, b, hb, rfl⟩ := h
  exact ⟨a, b, ha, hb, rfl⟩

theorem cut (cs : List Value) (o c : Nat) : (cs.drop o).take c ++ cs.drop (o + c) = cs.drop o := by
  rw [← List.drop_drop]; exact List.take_append_drop _ _

variable {H : Type} {enc : TypeId × Value → H} {P : Program} {w : World} {base : Nat} {sp : Nat → Bool} {held : Bool}

theorem row_cells {fuel n : Nat} {all : Nat} {cs : List Value} (hl : cs.length = all)
    (ih : ∀ (t : TypeId) (cs cs' : List Value) (d : DataW H) (p : List MemPlace), DataW.trod enc P w base sp held fuel t cs = some (d, p) → flat d = some cs' → tight P n t = true → cs = cs') :
    ∀ (fs : List Field) (o : Nat) (xs : List (DataW H × List MemPlace)) (r : List Value),
      fs.mapM (fun f => DataW.trod enc P w base sp held fuel f.type ((cs.drop f.offset).take (P.cellsOf f.type))) = some xs → rowB (tight P n) P all o fs = true → flats (xs.map (·.1)) = some r → cs.drop o = r
  | [], o, xs, r, hm, hr, hf => by
    simp only [List.mapM_nil, Option.pure_def, Option.some.injEq] at hm
    subst hm
    simp [rowB] at hr
    simp [flats] at hf
    subst hf
    rw [List.drop_eq_nil_of_le (by omega)]
  | f :: fs, o, xs, r, hm, hr, hf => by
    simp only [List.mapM_cons, Option.bind_eq_bind, Option.bind_eq_some_iff, Option.pure_def, Option.some.injEq] at hm
    obtain ⟨x, hx, xs', hxs, rfl⟩ := hm
    simp only [rowB, Bool.and_eq_true, beq_iff_eq] at hr
    obtain ⟨⟨ho, ht⟩, hr⟩ := hr
    subst ho
    obtain ⟨a, b, ha, hb, rfl⟩ := flats_cons (by simpa using hf)
    have h1 := ih _ _ a x.1 x.2 hx ha ht
    have h2 := row_cells hl ih fs _ xs' b hxs hr hb
    rw [← cut cs f.offset (P.cellsOf f.type), h1, h2]

theorem arr_cells {fuel n : Nat} {e : TypeId} {cs : List Value}
    (ih : ∀ (t : TypeId) (cs cs' : List Value) (d : DataW H) (p : List MemPlace), DataW.trod enc P w base sp held fuel t cs = some (d, p) → flat d = some cs' → tight P n t = true → cs = cs') (ht : tight P n e = true) :
    ∀ (m s : Nat) (xs : List (DataW H × List MemPlace)) (r : List Value), cs.length = (s + m) * P.cellsOf e →
      (List.range' s m).mapM (fun i => DataW.trod enc P w base sp held fuel e ((cs.drop (i * P.cellsOf e)).take (P.cellsOf e))) = some xs → flats (xs.map (·.1)) = some r → cs.drop (s * P.cellsOf e) = r
  | 0, s, xs, r, hl, hm, hf => by
    simp only [List.range'_zero, List.mapM_nil, Option.pure_def, Option.some.injEq] at hm
    subst hm
    simp [flats] at hf
    subst hf
    rw [List.drop_eq_nil_of_le (by rw [hl]; simp)]
  | m + 1, s, xs, r, hl, hm, hf => by
    simp only [List.range'_succ, List.mapM_cons, Option.bind_eq_bind, Option.bind_eq_some_iff, Option.pure_def, Option.some.injEq] at hm
    obtain ⟨x, hx, xs', hxs, rfl⟩ := hm
    obtain ⟨a, b, ha, hb, rfl⟩ := flats_cons (by simpa using hf)
    have h1 := ih _ _ a x.1 x.2 hx ha ht
    have h2 := arr_cells ih ht m (s + 1) xs' b (by rw [hl]; congr 1; omega) hxs hb
    rw [← cut cs (s * P.cellsOf e) (P.cellsOf e), h1, ← h2, Nat.succ_mul]

/-- A reading that holds numbers and bools alone, in arrays and structs: the cells are just these. -/
theorem cells : ∀ (fuel n : Nat) (t : TypeId) (cs cs' : List Value) (d : DataW H) (p : List MemPlace), DataW.trod enc P w base sp held fuel t cs = some (d, p) → flat d = some cs' → tight P n t = true → cs = cs'
  | 0, _, _, _, _, _, _, h, _, _ => by simp [DataW.trod] at h
  | _ + 1, 0, _, _, _, _, _, _, _, ht => by simp [tight] at ht
  | fuel + 1, n + 1, t, cs, cs', d, p, h, hf, ht => by
    have ih := fun t cs cs' d p => cells fuel n t cs cs' d p
    unfold DataW.trod at h
    unfold tight at ht
    split at h
    case h_2 =>
      split at h
      · rename_i hk
        obtain ⟨rfl, _⟩ := hk
        simp only [Option.some.injEq, Prod.mk.injEq] at h
        obtain ⟨rfl, _⟩ := h
        simpa [flat] using hf
      · cases h
    case h_4 =>
      split at h
      · simp only [Option.some.injEq, Prod.mk.injEq] at h
        obtain ⟨rfl, _⟩ := h
        simpa [flat] using hf
      · cases h
    case h_8 =>
      split at h
      · simp only [Option.bind_eq_some_iff, Option.map_eq_some_iff, Prod.mk.injEq] at h
        obtain ⟨_, _, _, _, rfl, _⟩ := h
        simp [flat] at hf
      · cases h
    case h_9 =>
      rename_i fs hu
      rw [hu] at ht
      split at h
      · rename_i hl
        simp only [Option.map_eq_some_iff, Prod.mk.injEq] at h
        obtain ⟨xs, hm, rfl, _⟩ := h
        have := row_cells hl ih fs.toList 0 xs cs' hm ht (by simpa [flat] using hf)
        simpa using this
      · cases h
    case h_10 =>
      rename_i k e hu
      rw [hu] at ht
      simp only [Bool.and_eq_true, beq_iff_eq] at ht
      split at h
      · rename_i hl
        simp only [Option.map_eq_some_iff, Prod.mk.injEq] at h
        obtain ⟨xs, hm, rfl, _⟩ := h
        rw [List.range_eq_range'] at hm
        have := arr_cells ih ht.2 k 0 xs cs' (by rw [hl, ht.1]; simp) hm (by simpa [flat] using hf)
        simpa using this
      · cases h
    case h_12 =>
      split at h
      · simp only [Option.some.injEq, Prod.mk.injEq] at h
        obtain ⟨rfl, _⟩ := h
        simp [flat] at hf
      · simp only [Option.map_eq_some_iff, Prod.mk.injEq] at h
        obtain ⟨_, _, rfl, _⟩ := h
        simp [flat] at hf
      · cases h
    case h_14 =>
      split at h
      · split at h
        · simp only [Option.bind_eq_some_iff] at h
          obtain ⟨es, _, h⟩ := h
          split at h
          · simp only [Option.some.injEq, Prod.mk.injEq] at h
            obtain ⟨rfl, _⟩ := h
            simp [flat] at hf
          · cases h
        · cases h
      · cases h
    all_goals try (cases h; done)
    all_goals try (simp only [Option.map_eq_some_iff, Prod.mk.injEq, Option.some.injEq] at h)
    all_goals try (obtain ⟨⟨⟩, rfl⟩ := h; simp [flat] at hf; exact hf; done)
    all_goals try (obtain ⟨rfl, _⟩ := h; simp [flat] at hf; done)
    all_goals try (obtain ⟨rfl, _⟩ := h; simp [flat] at hf; exact hf)
    all_goals try (obtain ⟨_, _, rfl, _⟩ := h; simp [flat] at hf; done)
    all_goals (split at h <;> simp only [Option.some.injEq, Prod.mk.injEq, reduceCtorEq] at h <;> obtain ⟨rfl, _⟩ := h <;> simp [flat] at hf <;> first | done | exact hf)
end Flat
end Go.Proofs.YthpoficikcicmaaDoor
