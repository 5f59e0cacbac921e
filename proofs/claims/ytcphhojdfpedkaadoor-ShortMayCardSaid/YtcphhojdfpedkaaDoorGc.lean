/- A region that draws its order, holds loads beside calls, and ENDS IN ONE OPERATION THAT WAITS FOR ALL OTHERS (a store into a cell that the region itself loads): loads are taken first under a condition S on the world; behind the last operation S is not asked. No program; no conditions but those that each law names. A region that draws its order, walked in the order of its text: each operation either yields one value in every world that meets S (it may be taken first), or is the only one that may come up. No program; no conditions but those that each law names. -/
import Derived.StillTail
import Derived.Deep.RegionHeld
import Derived.WalkKit
import Derived.ProofKit
import Derived.OpenShut
import Derived.WalkLawsBesides
import Derived.Lib.Hide
import Derived.Outline
import Derived.Deep.QuietTactic
import Derived.BigQuiet

namespace Go.Proofs.YtcphhojdfpedkaaDoor
open Go
section
variable {P : Program} {ops : Array Oper} {Q : Exit → Act → World → Prop} {md : Region.Mode} {S : World → Prop}
def wpAnyG (P : Program) (md : Region.Mode) (ops : Array Oper) (Q : Exit → Act → World → Prop) (S : World → Prop) (n : Nat) : Nat → Array Bool → Act → World → Prop
  | 0, listed, a, w => Region.ready md ops listed = [] ∧ Q .normal a w
  | fuel + 1, listed, a, w =>
    (Region.ready md ops listed = [] → Q .normal a w) ∧
    ∀ i ∈ Region.ready md ops listed, wpOp P ops Q i (fun a' w' => (i ≠ n → S w') ∧ wpAnyG P md ops Q S n fuel (listed.setIfInBounds i true) a' w') a w
theorem wpAny_of_G {n : Nat} : ∀ (fuel : Nat) (listed : Array Bool) (a : Act) (w : World), wpAnyG P md ops Q S n fuel listed a w → wpAny P md ops Q fuel listed a w
  | 0, _, _, _, h => h
  | fuel + 1, _, _, _, h => ⟨h.1, fun i hi => wpOp_mono (fun a' w' h' => wpAny_of_G fuel _ a' w' h'.2) (h.2 i hi)⟩
theorem wpAnyG_first {n i : Nat} {oi : Oper} {v : Value} (hi : ops[i]? = some oi) (hsel : ∀ (j : Nat) (o : Oper) cs b, ops[j]? = some o → o.op ≠ .select cs b)
    (hs : Region.sinkB md ops n = true) (hc : Region.chainB md ops n = true) (hn : n < ops.size) (hin : i < n)
    (hQ : ∀ c a w, Q (.panic c) (a.put oi.dst v) w → Q (.panic c) a w) :
    ∀ (fuel : Nat) (listed : Array Bool) (a : Act) (w : World), HeadInv md ops n listed →
      (∀ j oj, ops[j]? = some oj → j ≠ i → listed.getD j true = false → (∀ e ∈ oj.after, Region.binds md e = true → e.on ≠ i) → oi.apart ops oj = true) →
      i ∈ Region.ready md ops listed → YieldsIf P ops S oi v a → S w →
      wpAnyG P md ops Q S n fuel (listed.setIfInBounds i true) (a.put oi.dst v) w → wpAnyG P md ops Q S n (fuel + 1) listed a w := by
  intro fuel
  induction fuel with
  | zero =>
    intro listed a w _ _ hr hy hS H
    refine ⟨fun h => (by rw [h] at hr; cases hr), fun j hj => ?_⟩
    by_cases hji : j = i
    · subst hji; exact hy.wpOp hi hS ⟨fun _ => hS, H⟩
    · have := ready_mono hj hji
      rw [H.1] at this
      cases this
  | succ fuel ih =>
    intro listed a w inv hfree hr hy hS H
    have hun := (mem_ready.1 hr).1
    refine ⟨fun h => (by rw [h] at hr; cases hr), fun j hj => ?_⟩
    have hjn : j < n := by
      rcases Nat.lt_or_ge j n with h | h
      · exact h
      · exact absurd hj (tail_waits hs hc hn inv _ i rfl hin hun j h)
    by_cases hji : j = i
    · subst hji; exact hy.wpOp hi hS ⟨fun _ => hS, H⟩
    · have h1 := H.2 j (ready_mono hj hji)
      obtain ⟨hjun, oj, hoj, hall⟩ := mem_ready.1 hj
      have hnot : ∀ e ∈ oj.after, Region.binds md e = true → e.on ≠ i := fun e he hb heq => by
        have h1 := hall e he hb
        rw [heq, getD_both hun] at h1
        cases h1
      have h2 := wpOp_putIf hoj (hfree j oj hoj hji hjun hnot) (fun cs b => hsel i oi cs b hi) (fun cs b => hsel j oj cs b hoj) hQ hy h1
      have hfree' : ∀ k ok, ops[k]? = some ok → k ≠ i → (listed.setIfInBounds j true).getD k true = false →
          (∀ e ∈ ok.after, Region.binds md e = true → e.on ≠ i) → oi.apart ops ok = true := fun k ok hk hki hun2 hno => by
        refine hfree k ok hk hki ?_ hno
        by_cases hjk : j = k
        · subst hjk; exact hjun
        · rw [getD_set_ne true hjk] at hun2; exact hun2
      refine wpOp_mono (fun a' w' h3 => ⟨h3.2.1, ih (listed.setIfInBounds j true) a' w' (inv.set hj hjn) hfree' (ready_mono hr (Ne.symm hji)) h3.1 (h3.2.1 (by omega)) ?_⟩) h2
      rw [Array.setIfInBounds_comm _ _ hji]
      exact h3.2.2
def headB (md : Region.Mode) (ops : Array Oper) (n : Nat) (listed : Array Bool) : Bool :=
  decide (listed.size = ops.size) &&
  ((List.range ops.size).all fun j => !listed.getD j false || match ops[j]? with
    | some oj => oj.after.all fun e => !Region.binds md e || listed.getD e.on false
    | none => true) &&
  (List.range ops.size).all fun t => decide (t < n) || !listed.getD t true
theorem headB_inv {n : Nat} {listed : Array Bool} (h : headB md ops n listed = true) : HeadInv md ops n listed := by
  unfold headB at h
  simp only [Bool.and_eq_true, decide_eq_true_eq] at h
  obtain ⟨⟨h1, h2⟩, h3⟩ := h
  refine ⟨h1, fun j oj hj hl e he hb => ?_, fun t ht ht' => ?_⟩
  · have hlt : j < ops.size := (Array.getElem?_eq_some_iff.1 hj).1
    have := List.all_eq_true.1 h2 j (List.mem_range.2 hlt)
    rw [hl, hj] at this
    simp only [Bool.not_true, Bool.false_or] at this
    have h4 := Array.all_eq_true_iff_forall_mem.1 this e he
    rw [hb] at h4
    simpa using h4
  · have := List.all_eq_true.1 h3 t (List.mem_range.2 ht')
    simp only [Bool.or_eq_true, decide_eq_true_eq, Bool.not_eq_true'] at this
    rcases this with h4 | h4
    · omega
    · exact h4
def takeB (md : Region.Mode) (ops : Array Oper) (n i : Nat) (listed : Array Bool) : Bool :=
  Region.noSelect ops && decide (n < ops.size) && decide (i < n) && Region.sinkB md ops n && Region.chainB md ops n && headB md ops n listed && Region.free md ops listed i && (Region.ready md ops listed).contains i
theorem wpAnyG_take {n i : Nat} {oi : Oper} {v : Value} {fuel : Nat} {listed : Array Bool} {a : Act} {w : World} (hi : ops[i]? = some oi) (hB : takeB md ops n i listed = true)
    (hQ : ∀ c a w, Q (.panic c) (a.put oi.dst v) w → Q (.panic c) a w) (hy : YieldsIf P ops S oi v a) (hS : S w)
    (h : wpAnyG P md ops Q S n fuel (listed.setIfInBounds i true) (a.put oi.dst v) w) : wpAnyG P md ops Q S n (fuel + 1) listed a w := by
  unfold takeB at hB
  simp only [Bool.and_eq_true, decide_eq_true_eq] at hB
  obtain ⟨⟨⟨⟨⟨⟨⟨h1, h2⟩, h3⟩, h4⟩, h5⟩, h6⟩, h7⟩, h8⟩ := hB
  exact wpAnyG_first hi (Region.noSelect_spec h1) h4 h5 h2 h3 hQ fuel listed a w (headB_inv h6) (Region.free_spec hi h7) (by simpa using h8) hy hS h
end
end Go.Proofs.YtcphhojdfpedkaaDoor

namespace Go.Proofs.YtcphhojdfpedkaaDoor
open Go
section
variable {P : Program} {ops : Array Oper} {Q : Exit → Act → World → Prop} {md : Region.Mode} {S : World → Prop}
def wpIdx (P : Program) (ops : Array Oper) (Q : Exit → Act → World → Prop) (S : World → Prop) : List (Oper × Bool) → Act → World → Prop
  | [], a, w => Q .normal a w
  | x :: r, a, w => match x.2 with
    | true => ∃ v, YieldsIf P ops S x.1 v a ∧ wpIdx P ops Q S r (a.put x.1.dst v) w
    | false => if Region.wanted x.1 (yielded ops a.tmps) = true then Oper.wp P x.1 a w (fun a' w' => S w' ∧ wpIdx P ops Q S r a' w') Q else wpIdx P ops Q S r (a.put x.1.dst undef) w
def firstK (n k : Nat) : Array Bool := ((List.range n).map fun j => decide (j < k)).toArray
def idxB (md : Region.Mode) (ops : Array Oper) (n : Nat) : Nat → List Bool → Bool
  | k, [] => decide (k = ops.size) && (Region.ready md ops (firstK ops.size k)).isEmpty
  | k, true :: r => decide (k < n) && takeB md ops n k (firstK ops.size k) && ((firstK ops.size k).setIfInBounds k true == firstK ops.size (k + 1)) && idxB md ops n (k + 1) r
  | k, false :: r => decide (k < ops.size) && (Region.ready md ops (firstK ops.size k) == [k]) && ((firstK ops.size k).setIfInBounds k true == firstK ops.size (k + 1)) && idxB md ops n (k + 1) r
theorem G_of_idx {n : Nat} (hQ : ∀ c a d v w, Q (.panic c) (a.put d v) w → Q (.panic c) a w) :
    ∀ (l : List (Oper × Bool)) (k fuel : Nat) (a : Act) (w : World), l.map (·.1) = ops.toList.drop k → fuel = l.length → idxB md ops n k (l.map (·.2)) = true → S w → wpIdx P ops Q S l a w → wpAnyG P md ops Q S n fuel (firstK ops.size k) a w
  | [], k, fuel, a, w, hl, hf, hB, hS, h => by
    subst hf
    unfold idxB at hB
    simp only [List.map_nil, Bool.and_eq_true, List.isEmpty_iff] at hB
    exact ⟨hB.2, h⟩
  | (o, true) :: r, k, fuel, a, w, hl, hf, hB, hS, h => by
    obtain ⟨v, hy, h⟩ := h
    simp only [List.map_cons] at hl hB
    unfold idxB at hB
    simp only [Bool.and_eq_true, decide_eq_true_eq, beq_iff_eq] at hB
    obtain ⟨⟨⟨h1, h2⟩, h3⟩, h4⟩ := hB
    have ho : ops[k]? = some o := by
      have := congrArg List.head? hl
      simp only [List.head?_cons, List.head?_drop] at this
      rw [← this.symm]
      simp
    have hr : r.map (·.1) = ops.toList.drop (k + 1) := by
      have := congrArg List.tail hl
      simpa using this
    subst hf
    refine wpAnyG_take ho h2 (fun c a w => hQ c a _ _ w) hy hS ?_
    rw [h3]
    exact G_of_idx hQ r (k + 1) _ _ _ hr rfl h4 hS h
  | (o, false) :: r, k, fuel, a, w, hl, hf, hB, hS, h => by
    simp only [List.map_cons] at hl hB
    unfold idxB at hB
    simp only [Bool.and_eq_true, decide_eq_true_eq, beq_iff_eq] at hB
    obtain ⟨⟨⟨h1, h2⟩, h3⟩, h4⟩ := hB
    have ho : ops[k]? = some o := by
      have := congrArg List.head? hl
      simp only [List.head?_cons, List.head?_drop] at this
      rw [← this.symm]
      simp
    have hr : r.map (·.1) = ops.toList.drop (k + 1) := by
      have := congrArg List.tail hl
      simpa using this
    subst hf
    refine ⟨fun h0 => (by rw [h0] at h2; cases h2), fun j hj => ?_⟩
    rw [h2] at hj
    obtain rfl : j = k := by simpa using hj
    have h' : if Region.wanted o (yielded ops a.tmps) = true then Oper.wp P o a w (fun a' w' => S w' ∧ wpIdx P ops Q S r a' w') Q else wpIdx P ops Q S r (a.put o.dst undef) w := h
    refine wpOp_step ho fun K' hK => ?_
    split
    · rename_i hw
      rw [if_pos hw] at h'
      refine Oper.wp_mono (fun a' w' hx => ?_) h'
      have h5 := G_of_idx hQ r (j + 1) _ _ _ hr rfl h4 hx.1 hx.2
      rw [← h3] at h5
      exact hK a' w' ⟨fun _ => hx.1, h5⟩
    · rename_i hw
      rw [if_neg hw] at h'
      have h5 := G_of_idx hQ r (j + 1) _ _ _ hr rfl h4 hS h'
      rw [← h3] at h5
      exact hK _ _ ⟨fun _ => hS, h5⟩
theorem first0 (n : Nat) : firstK n 0 = Array.replicate n false := by
  unfold firstK
  apply Array.ext'
  simp only [Nat.not_lt_zero, decide_false, List.map_const', List.length_range]
  simp
theorem wp_region_idx (n : Nat) (cls : List Bool) {id : Nat} {a : Act} {w : World} (hm : P.follows .mixedOrders = true) (hB : (decide (cls.length = ops.size) && idxB .any ops n 0 cls) = true)
    (hQ : ∀ c a d v w, Q (.panic c) (a.put d v) w → Q (.panic c) a w) (hS : S w.drew) (h : wpIdx P ops Q S (ops.toList.zip cls) a w.drew) : (Code.region id ops true).wp P Q a w := by
  simp only [Bool.and_eq_true, decide_eq_true_eq] at hB
  have hlen : ops.toList.length = cls.length := by simpa using hB.1.symm
  have e1 : (ops.toList.zip cls).map (·.1) = ops.toList := List.map_fst_zip (Nat.le_of_eq hlen)
  have e2 : (ops.toList.zip cls).map (·.2) = cls := List.map_snd_zip (Nat.le_of_eq hlen.symm)
  have := G_of_idx (P := P) (md := .any) (n := n) hQ (ops.toList.zip cls) 0 ops.size a w.drew (by rw [e1]; rfl) (by simp [hlen, hB.1]) (by rw [e2]; exact hB.2) hS h
  rw [first0] at this
  exact wp_region_any hm (wpAny_of_G _ _ _ _ this)
variable {o : Oper} {r : List (Oper × Bool)} {a : Act} {w : World}
theorem idx_end (h : Q .normal a w) : wpIdx P ops Q S [] a w := h
theorem idx_pure (hg : o.guard = none) (v : Value) (hv : ∀ W, S W → (execOp a.eval o).run P W = .ok (.value v) W) (h : wpIdx P ops Q S r (a.put o.dst v) w) : wpIdx P ops Q S ((o, true) :: r) a w :=
  ⟨v, .inl ⟨by simp [Region.wanted, hg], hv⟩, h⟩
theorem wanted_is {k d : Nat} {b c : Bool} (hg : o.guard = some (k, b)) (hk : (ops[k]?).map (·.dst) = some (some d)) (hw : a.tmps[d]? = some (.bool c)) : Region.wanted o (yielded ops a.tmps) = (c == b) := by
  unfold Region.wanted yielded
  rw [hg]
  cases ho : ops[k]? with
  | none => rw [ho] at hk; cases hk
  | some x =>
    rw [ho] at hk
    simp only [Option.map_some, Option.some.injEq] at hk
    simp [ho, hk, hw]
theorem idx_yes {k d : Nat} {b : Bool} (hg : o.guard = some (k, b)) (hk : (ops[k]?).map (·.dst) = some (some d)) (hw : a.tmps[d]? = some (.bool b)) (v : Value) (hv : ∀ W, S W → (execOp a.eval o).run P W = .ok (.value v) W) (h : wpIdx P ops Q S r (a.put o.dst v) w) : wpIdx P ops Q S ((o, true) :: r) a w :=
  ⟨v, .inl ⟨by rw [wanted_is hg hk hw]; simp, hv⟩, h⟩
theorem idx_no {k d : Nat} {b : Bool} (hg : o.guard = some (k, b)) (hk : (ops[k]?).map (·.dst) = some (some d)) (hw : a.tmps[d]? = some (.bool (!b))) (h : wpIdx P ops Q S r (a.put o.dst undef) w) : wpIdx P ops Q S ((o, true) :: r) a w :=
  ⟨undef, .inr ⟨by rw [wanted_is hg hk hw]; cases b <;> rfl, rfl⟩, h⟩
theorem idx_call (hg : o.guard = none) (h : ∀ K : Act → World → Prop, RowKit.Hid (∀ a w, S w → wpIdx P ops Q S r a w → K a w) → o.wp P a w K Q) : wpIdx P ops Q S ((o, false) :: r) a w := by
  show if Region.wanted o (yielded ops a.tmps) = true then _ else _
  rw [if_pos (by simp [Region.wanted, hg])]
  exact h _ (Lib.hid fun _ _ h1 h2 => ⟨h1, h2⟩)
theorem idx_call_yes {k d : Nat} {b : Bool} (hg : o.guard = some (k, b)) (hk : (ops[k]?).map (·.dst) = some (some d)) (hw : a.tmps[d]? = some (.bool b)) (h : ∀ K : Act → World → Prop, RowKit.Hid (∀ a w, S w → wpIdx P ops Q S r a w → K a w) → o.wp P a w K Q) : wpIdx P ops Q S ((o, false) :: r) a w := by
  show if Region.wanted o (yielded ops a.tmps) = true then _ else _
  rw [if_pos (by rw [wanted_is hg hk hw]; simp)]
  exact h _ (Lib.hid fun _ _ h1 h2 => ⟨h1, h2⟩)
end
end Go.Proofs.YtcphhojdfpedkaaDoor
