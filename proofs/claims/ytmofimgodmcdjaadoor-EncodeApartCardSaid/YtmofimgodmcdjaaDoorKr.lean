/- A straight row of operations that the kernel runs by itself: as many as one likes, none opened by simp. No program; no conditions but those that each law names. -/
import Derived.Test.YtmofimgodmcdjaaDoorRows
import Derived.Test.YtmofimgodmcdjaaDoorGa
import Derived.Deep.MidRow
import Derived.Laws.Tables
import Derived.Laws.Alloc2
namespace Go.Proofs.YtmofimgodmcdjaaDoor
open Go Go.ChangeShapes Go.WideShapes Go.ChangeAt Go.RowKit

/-- what an operand comes to, where the slots are a function -/
def evalE (e : Nat → Value) : Operand → Value
  | .tmp t => e t
  | .const v => v
  | .global g => .pointer (some ⟨g, 0, none⟩)
  | .func f => .func (.func f) #[] #[]
def putE (e : Nat → Value) (d : Nat) (v : Value) : Nat → Value := fun t => if t = d then v else e t
/-- the row run from the slots e and the world w, if each operation yields a value for a slot below n -/
def runsE (P : Program) (n : Nat) : List Oper → (Nat → Value) → World → Option ((Nat → Value) × World)
  | [], e, w => some (e, w)
  | o :: r, e, w => match o.guard, o.dst, (execOp (evalE e) o).run P w with
    | none, some d, .ok (.value v) w' => if d < n then runsE P n r (putE e d v) w' else none
    | _, _, _ => none
def Meets (a : Act) (n : Nat) (e : Nat → Value) : Prop := a.tmps.size = n ∧ ∀ t, a.tmps.getD t undef = e t
theorem Meets.eval {a : Act} {n : Nat} {e : Nat → Value} (h : Meets a n e) : a.eval = evalE e := by
  funext x
  cases x with
  | tmp t => exact h.2 t
  | const v => rfl
  | global g => rfl
  | func f => rfl
theorem Meets.put {a : Act} {n : Nat} {e : Nat → Value} (h : Meets a n e) (d : Nat) (v : Value) (hd : d < n) : Meets (a.put (some d) v) n (putE e d v) := by
  refine ⟨by simpa [Act.put] using h.1, fun t => ?_⟩
  unfold putE
  by_cases ht : t = d
  · subst ht
    rw [if_pos rfl]
    simp [Act.put, h.1, hd]
  · rw [if_neg ht, ← h.2 t]
    simp [Act.put, Ne.symm ht]
theorem wpList_runsE {P : Program} {ops : Array Oper} {Q : Exit → Act → World → Prop} {rest : List Oper} {n : Nat} : ∀ (l : List Oper) (a : Act) (w : World) (e e' : Nat → Value) (w' : World), Meets a n e → runsE P n l e w = some (e', w') →
    (∀ a' : Act, Meets a' n e' → a'.defers = a.defers → wpList P ops Q rest a' w') → wpList P ops Q (l ++ rest) a w
  | [], a, w, e, e', w', hm, hs, h => by
    cases hs
    exact h a hm rfl
  | o :: r, a, w, e, e', w', hm, hs, h => by
    unfold runsE at hs
    split at hs
    · rename_i d v w1 hg hd hr
      split at hs
      · rename_i hdn
        refine wpList_plain hg fun K hK => ?_
        unfold Oper.wp
        rw [hm.eval, hr]
        refine hK _ _ ?_
        rw [hd]
        exact wpList_runsE r _ _ _ _ _ (hm.put d v hdn) hs h
      · cases hs
    · cases hs
/-- the first k of a row; of the slots behind it only what view shows is kept -/
theorem wpList_firstE {P : Program} {ops : Array Oper} {Q : Exit → Act → World → Prop} {l : List Oper} {a : Act} {w : World} (k n : Nat) (e : Nat → Value) (hm : Meets a n e) {α : Type} (view : (Nat → Value) → α) (V : α) (w' : World)
    (hw : (runsE P n (l.take k) e w).map (fun s => (view s.1, s.2)) = some (V, w'))
    (h : ∀ (a' : Act) (e' : Nat → Value), view e' = V → Meets a' n e' → a'.defers = a.defers → wpList P ops Q (l.drop k) a' w') : wpList P ops Q l a w := by
  cases hr : runsE P n (l.take k) e w with
  | none => rw [hr] at hw; cases hw
  | some s =>
    obtain ⟨e', w2⟩ := s
    rw [hr] at hw
    simp only [Option.map_some, Option.some.injEq, Prod.mk.injEq] at hw
    obtain ⟨hv, rfl⟩ := hw
    have := wpList_runsE (rest := l.drop k) (ops := ops) (Q := Q) (l.take k) a w e e' w2 hm hr (fun a' h1 h2 => h a' e' hv h1 h2)
    rwa [List.take_append_drop] at this
/-- one store of a whole array or struct, and nothing behind it -/
theorem wpList_last_store {P : Program} {ops : Array Oper} {Q : Exit → Act → World → Prop} {l : List Oper} {a : Act} {w : World} (ty : TypeId) (x y : Operand) (b : Nat) (cells : Array Value)
    (hg : l.map (·.guard) = [none]) (ho : l.map (·.op) = [.store ty x y]) (hd : l.map (·.dst) = [none])
    (hx : a.eval x = .pointer (some ⟨b, 0, none⟩)) (hy : a.eval y = .agg cells)
    (ht : w.there b 0 cells.size) (hi : (P.info? ty).map (·.size) = some cells.size) (h1 : cells.all (·.oneCell') = true)
    (h : Q .normal a (w.setCells b 0 cells.toList)) : wpList P ops Q l a w := by
  cases l with
  | nil => cases hg
  | cons op r =>
    simp only [List.map_cons, List.cons.injEq, List.map_eq_nil_iff] at hg ho hd
    obtain ⟨hg, rfl⟩ := hg
    replace ho := ho.1
    replace hd := hd.1
    refine wpList_store_mid hg ty x y ho b 0 cells hx hy ht hi h1 ?_
    rw [hd]
    exact h
/-- a build of a whole array out of slots, ahead of the rest -/
theorem wpList_build_one {P : Program} {ops : Array Oper} {Q : Exit → Act → World → Prop} {l : List Oper} {a : Act} {w : World} (t : TypeId) (parts : Array (Nat × Operand)) (d : Tmp) (cells : Array Value)
    (hg : (l.take 1).map (·.guard) = [none]) (ho : (l.take 1).map (·.op) = [.build t parts]) (hd : (l.take 1).map (·.dst) = [some d])
    (hb : P.built t (parts.map fun (i, x) => (i, a.eval x)).toList = some cells)
    (h : wpList P ops Q (l.drop 1) (a.put (some d) (.agg cells)) w) : wpList P ops Q l a w := by
  cases l with
  | nil => cases hg
  | cons op r =>
    simp only [List.take_succ_cons, List.take_zero, List.map_cons, List.map_nil, List.cons.injEq, and_true] at hg ho hd
    refine wpList_plain hg fun K hK => ?_
    refine wp_build t parts ho (by rw [hb]; rfl) ?_
    rw [hb, hd]
    exact hK _ _ h

/-! a whole array out of all its parts -/
theorem set_row (v mid post : List Value) : ∀ (pre : List Value) (k : Nat), mid.length = v.length → k ≤ pre.length → (v.zipIdx k).foldl (fun cs (x : Value × Nat) => cs.setIfInBounds (pre.length - k + x.2) x.1) (pre ++ (mid ++ post)).toArray = (pre ++ (v ++ post)).toArray := by
  induction v generalizing mid with
  | nil =>
    intro pre k h _
    cases mid with
    | nil => rfl
    | cons _ _ => cases h
  | cons x r ih =>
    intro pre k h hk
    cases mid with
    | nil => cases h
    | cons m ms =>
      simp only [List.zipIdx_cons, List.foldl_cons]
      have e : (pre ++ (m :: ms ++ post)).toArray.setIfInBounds (pre.length - k + k) x = ((pre ++ [x]) ++ (ms ++ post)).toArray := by
        rw [Nat.sub_add_cancel hk]
        simp
      rw [e]
      have h2 := ih ms (pre ++ [x]) (k + 1) (by simpa using h) (by simp; omega)
      rw [show (pre ++ [x]).length - (k + 1) = pre.length - k by simp] at h2
      rw [h2]
      simp
theorem fill_all (s : Nat) : ∀ (vs : List (List Value)) (pre rest : List Value) (k : Nat), (∀ v ∈ vs, v.length = s) → pre.length = k * s → rest.length = vs.length * s →
    Instr.fill (fun i => some (i * s, s)) (pre ++ rest).toArray ((vs.zipIdx k).map fun (x : List Value × Nat) => (x.2, Value.agg x.1.toArray)) = some (pre ++ vs.flatten).toArray := by
  intro vs
  induction vs with
  | nil =>
    intro pre rest k _ _ h
    cases rest with
    | nil => rfl
    | cons _ _ => simp at h
  | cons v r ih =>
    intro pre rest k hv hp hr
    have hvl := hv v (by simp)
    have hr' : s ≤ rest.length := by rw [hr, List.length_cons, Nat.succ_mul]; omega
    simp only [List.zipIdx_cons, List.map_cons]
    unfold Instr.fill
    simp only [Value.cells, List.size_toArray, List.length_append]
    rw [if_neg (by simp [hvl, hp]; omega)]
    have h1 := set_row v (rest.take s) (rest.drop s) pre 0 (by simp [hvl]; omega) (by omega)
    rw [List.take_append_drop, Nat.sub_zero, hp] at h1
    rw [show v.toArray.zipIdx = (v.zipIdx 0).toArray by simp]
    have h2 : (Array.foldl (fun cs (x : Value × Nat) => cs.setIfInBounds (k * s + x.2) x.1) (pre ++ rest).toArray (v.zipIdx 0).toArray) = (pre ++ (v ++ rest.drop s)).toArray := by
      rw [List.foldl_toArray]
      exact h1
    refine (congrArg (fun z => Instr.fill (fun i => some (i * s, s)) z _) h2).trans ?_
    have h3 := ih (pre ++ v) (rest.drop s) (k + 1) (fun x hx => hv x (by simp [hx])) (by simp [hp, hvl, Nat.succ_mul]) (by simp [hr, Nat.succ_mul])
    rw [List.append_assoc] at h3
    rw [h3]
    simp

theorem built_all {P : Program} {t : TypeId} {n : Nat} {e : TypeId} (s : Nat) (zs : List Value) (vs : List (List Value)) (hu : P.underlying t = some (.array n e)) (hz : ((P.info? t).bind (·.zero)).map (·.cells) = some zs.toArray)
    (he : (P.info? e).map (·.size) = some s) (hv : ∀ v ∈ vs, v.length = s) (hl : zs.length = vs.length * s) : P.built t ((vs.zipIdx 0).map fun (x : List Value × Nat) => (x.2, Value.agg x.1.toArray)) = some vs.flatten.toArray := by
  unfold Program.built
  cases hit : P.info? t with
  | none => rw [hit] at hz; cases hz
  | some it =>
    cases hie : P.info? e with
    | none => rw [hie] at he; cases he
    | some ie =>
      cases hzz : it.zero with
      | none => rw [hit] at hz; simp [hzz] at hz
      | some z =>
        rw [hit] at hz
        rw [hie] at he
        simp only [Option.bind_some, hzz, Option.map_some, Option.some.injEq] at hz he
        subst he
        simp only [hu, hie]
        have := fill_all ie.size vs [] zs 0 hv (by simp) hl
        rw [hzz]
        simp only
        rw [hz]
        simpa using this

theorem there_new (w : World) (c : Array Value) (t : TypeId) (n : Nat) (h : n ≤ c.size) : (w.alloc (.cells c t)).there w.heap.size 0 n := fun j hj => by
  refine ⟨?_, World.frozen?_alloc_new w c t _⟩
  rw [World.cell?_alloc_new]
  simp
  omega
theorem setCells_new {w : World} {t : TypeId} : ∀ (cs mid pre : List Value), mid.length = cs.length → (w.alloc (.cells (pre ++ mid).toArray t)).setCells w.heap.size pre.length cs = w.alloc (.cells (pre ++ cs).toArray t)
  | [], mid, pre, h => by
    cases mid with
    | nil => rfl
    | cons _ _ => cases h
  | v :: r, mid, pre, h => by
    cases mid with
    | nil => cases h
    | cons m ms =>
      have e : (w.alloc (.cells (pre ++ m :: ms).toArray t)).setCell ⟨w.heap.size, pre.length, none⟩ v = w.alloc (.cells ((pre ++ [v]) ++ ms).toArray t) := by
        rw [World.setCell_alloc_new]
        simp
      show ((w.alloc _).setCell _ v).setCells w.heap.size (pre.length + 1) r = _
      rw [e]
      have h2 := setCells_new (w := w) (t := t) r ms (pre ++ [v]) (by simpa using h)
      rw [show (pre ++ [v]).length = pre.length + 1 by simp] at h2
      rw [h2]
      simp
/-- a whole array or struct stored into a block that was made just before -/
theorem wpList_store_new {P : Program} {ops : Array Oper} {Q : Exit → Act → World → Prop} {rest : List Oper} {op : Oper} {a : Act} {w : World} (hg : op.guard = none) (hd : op.dst = none) (ty : TypeId) (x y : Operand) (ho : op.op = .store ty x y) (c : Array Value) (cs : List Value)
    (hx : a.eval x = .pointer (some ⟨w.heap.size, 0, none⟩)) (hy : a.eval y = .agg cs.toArray) (hc : c.size = cs.length)
    (hi : (P.info? ty).map (·.size) = some cs.toArray.size) (h1 : cs.toArray.all (·.oneCell') = true)
    (h : wpList P ops Q rest a (w.alloc (.cells cs.toArray ty))) : wpList P ops Q (op :: rest) a (w.alloc (.cells c ty)) := by
  refine wpList_store_mid hg ty x y ho w.heap.size 0 cs.toArray hx hy (there_new w c ty _ (by simp [hc])) hi h1 ?_
  rw [hd]
  have e := setCells_new (w := w) (t := ty) cs c.toList [] (by simpa using hc)
  simp only [List.nil_append, List.length_nil] at e
  rw [show (c.toList).toArray = c from rfl] at e
  rw [show cs.toArray.toList = cs from rfl, e]
  exact h
theorem results_cell {P : Program} {fn : Func} {tmps : Array Value} {w : World} (s : Tmp) (ty : TypeId) (b : Nat) (cs : List Value) (d : TypeDesc) (hr : fn.results = #[.cell s ty])
    (hs : tmps.getD s undef = .pointer (some ⟨b, 0, none⟩)) (hc : w.rangeAt b 0 cs) (hu : P.underlying ty = some d) (hd : d.isRow = true) (hi : (P.info? ty).map (·.size) = some cs.length) :
    (results fn tmps).run P w = .ok (.agg cs.toArray) w := by
  unfold results
  rw [hr]
  have hs' : tmps[s]?.getD undef = .pointer (some ⟨b, 0, none⟩) := by simpa using hs
  simp [hs', asAddr, run_loadVar_mid w b 0 ty cs d hc hu hd hi]
end Go.Proofs.YtmofimgodmcdjaaDoor
