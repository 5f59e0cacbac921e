/- A straight row of operations that the kernel runs by itself: as many as one likes, none opened by simp. No program; no conditions but those that each law names. A straight row of composites and of calls of functions that only make a value, run by the kernel. No program; no conditions but those that each law names. A region that draws its order, of composites, loads of what lies still and calls that only make a value, with one operation behind them all: whatever order is drawn, each slot comes to one value. No program; no conditions but those that each law names. -/
import Derived.Test.YtcphhojdfpedkaaDoorRows
import Derived.WalkKit
import Derived.ProofKit
import Derived.OpenShut
import Derived.WalkLawsBesides
import Derived.Lib.Hide
import Derived.Outline
import Derived.Deep.QuietTactic
import Derived.BigQuiet
import Derived.Deep.MidRow
import Derived.Laws.Tables
import Derived.Laws.Alloc2
import Derived.Below
import Derived.StillTail
import Derived.Deep.RegionHeld

namespace Go.Proofs.YtcphhojdfpedkaaDoor
open Go Go.ChangeShapes Go.WideShapes Go.ChangeAt Go.RowKit
def evalE (e : Nat → Value) : Operand → Value
  | .tmp t => e t
  | .const v => v
  | .global g => .pointer (some ⟨g, 0, none⟩)
  | .func f => .func (.func f) #[] #[]
def putE (e : Nat → Value) (d : Nat) (v : Value) : Nat → Value := fun t => if t = d then v else e t
def runsE (P : Program) (n : Nat) : List Oper → (Nat → Value) → World → Option ((Nat → Value) × World)
  | [], e, w => some (e, w)
  | o :: r, e, w => match o.guard, o.dst, (execOp (evalE e) o).run P w with
    | none, some d, .ok (.value v) w' => if d < n then runsE P n r (putE e d v) w' else none
    | _, _, _ => none
def Meets (a : Act) (n : Nat) (e : Nat → Value) : Prop := a.tmps.size = n ∧ ∀ t, a.tmps.getD t undef = e t
theorem Meets.eval {a : Act} {n : Nat} {e : Nat → Value} (h : Meets a n e) : a.eval = evalE e := by
  funext x
  cases x with
  | tmp t => exact h.2 t
  | const v => rfl
  | global g => rfl
  | func f => rfl
theorem Meets.put {a : Act} {n : Nat} {e : Nat → Value} (h : Meets a n e) (d : Nat) (v : Value) (hd : d < n) : Meets (a.put (some d) v) n (putE e d v) := by
  refine ⟨by simpa [Act.put] using h.1, fun t => ?_⟩
  unfold putE
  by_cases ht : t = d
  · subst ht
    rw [if_pos rfl]
    simp [Act.put, h.1, hd]
  · rw [if_neg ht, ← h.2 t]
    simp [Act.put, Ne.symm ht]
theorem wpList_runsE {P : Program} {ops : Array Oper} {Q : Exit → Act → World → Prop} {rest : List Oper} {n : Nat} : ∀ (l : List Oper) (a : Act) (w : World) (e e' : Nat → Value) (w' : World), Meets a n e → runsE P n l e w = some (e', w') →
    (∀ a' : Act, Meets a' n e' → a'.defers = a.defers → wpList P ops Q rest a' w') → wpList P ops Q (l ++ rest) a w
  | [], a, w, e, e', w', hm, hs, h => by
    cases hs
    exact h a hm rfl
  | o :: r, a, w, e, e', w', hm, hs, h => by
    unfold runsE at hs
    split at hs
    · rename_i d v w1 hg hd hr
      split at hs
      · rename_i hdn
        refine wpList_plain hg fun K hK => ?_
        unfold Oper.wp
        rw [hm.eval, hr]
        refine hK _ _ ?_
        rw [hd]
        exact wpList_runsE r _ _ _ _ _ (hm.put d v hdn) hs h
      · cases hs
    · cases hs
theorem wpList_firstE {P : Program} {ops : Array Oper} {Q : Exit → Act → World → Prop} {l : List Oper} {a : Act} {w : World} (k n : Nat) (e : Nat → Value) (hm : Meets a n e) {α : Type} (view : (Nat → Value) → α) (V : α) (w' : World)
    (hw : (runsE P n (l.take k) e w).map (fun s => (view s.1, s.2)) = some (V, w'))
    (h : ∀ (a' : Act) (e' : Nat → Value), view e' = V → Meets a' n e' → a'.defers = a.defers → wpList P ops Q (l.drop k) a' w') : wpList P ops Q l a w := by
  cases hr : runsE P n (l.take k) e w with
  | none => rw [hr] at hw; cases hw
  | some s =>
    obtain ⟨e', w2⟩ := s
    rw [hr] at hw
    simp only [Option.map_some, Option.some.injEq, Prod.mk.injEq] at hw
    obtain ⟨hv, rfl⟩ := hw
    have := wpList_runsE (rest := l.drop k) (ops := ops) (Q := Q) (l.take k) a w e e' w2 hm hr (fun a' h1 h2 => h a' e' hv h1 h2)
    rwa [List.take_append_drop] at this
/-! a whole array out of all its parts -/
theorem set_row (v mid post : List Value) : ∀ (pre : List Value) (k : Nat), mid.length = v.length → k ≤ pre.length → (v.zipIdx k).foldl (fun cs (x : Value × Nat) => cs.setIfInBounds (pre.length - k + x.2) x.1) (pre ++ (mid ++ post)).toArray = (pre ++ (v ++ post)).toArray := by
  induction v generalizing mid with
  | nil =>
    intro pre k h _
    cases mid with
    | nil => rfl
    | cons _ _ => cases h
  | cons x r ih =>
    intro pre k h hk
    cases mid with
    | nil => cases h
    | cons m ms =>
      simp only [List.zipIdx_cons, List.foldl_cons]
      have e : (pre ++ (m :: ms ++ post)).toArray.setIfInBounds (pre.length - k + k) x = ((pre ++ [x]) ++ (ms ++ post)).toArray := by
        rw [Nat.sub_add_cancel hk]
        simp
      rw [e]
      have h2 := ih ms (pre ++ [x]) (k + 1) (by simpa using h) (by simp; omega)
      rw [show (pre ++ [x]).length - (k + 1) = pre.length - k by simp] at h2
      rw [h2]
      simp
theorem fill_all (s : Nat) : ∀ (vs : List (List Value)) (pre rest : List Value) (k : Nat), (∀ v ∈ vs, v.length = s) → pre.length = k * s → rest.length = vs.length * s →
    Instr.fill (fun i => some (i * s, s)) (pre ++ rest).toArray ((vs.zipIdx k).map fun (x : List Value × Nat) => (x.2, Value.agg x.1.toArray)) = some (pre ++ vs.flatten).toArray := by
  intro vs
  induction vs with
  | nil =>
    intro pre rest k _ _ h
    cases rest with
    | nil => rfl
    | cons _ _ => simp at h
  | cons v r ih =>
    intro pre rest k hv hp hr
    have hvl := hv v (by simp)
    have hr' : s ≤ rest.length := by rw [hr, List.length_cons, Nat.succ_mul]; omega
    simp only [List.zipIdx_cons, List.map_cons]
    unfold Instr.fill
    simp only [Value.cells, List.size_toArray, List.length_append]
    rw [if_neg (by simp [hvl, hp]; omega)]
    have h1 := set_row v (rest.take s) (rest.drop s) pre 0 (by simp [hvl]; omega) (by omega)
    rw [List.take_append_drop, Nat.sub_zero, hp] at h1
    rw [show v.toArray.zipIdx = (v.zipIdx 0).toArray by simp]
    have h2 : (Array.foldl (fun cs (x : Value × Nat) => cs.setIfInBounds (k * s + x.2) x.1) (pre ++ rest).toArray (v.zipIdx 0).toArray) = (pre ++ (v ++ rest.drop s)).toArray := by
      rw [List.foldl_toArray]
      exact h1
    refine (congrArg (fun z => Instr.fill (fun i => some (i * s, s)) z _) h2).trans ?_
    have h3 := ih (pre ++ v) (rest.drop s) (k + 1) (fun x hx => hv x (by simp [hx])) (by simp [hp, hvl, Nat.succ_mul]) (by simp [hr, Nat.succ_mul])
    rw [List.append_assoc] at h3
    rw [h3]
    simp
theorem built_all {P : Program} {t : TypeId} {n : Nat} {e : TypeId} (s : Nat) (zs : List Value) (vs : List (List Value)) (hu : P.underlying t = some (.array n e)) (hz : ((P.info? t).bind (·.zero)).map (·.cells) = some zs.toArray)
    (he : (P.info? e).map (·.size) = some s) (hv : ∀ v ∈ vs, v.length = s) (hl : zs.length = vs.length * s) : P.built t ((vs.zipIdx 0).map fun (x : List Value × Nat) => (x.2, Value.agg x.1.toArray)) = some vs.flatten.toArray := by
  unfold Program.built
  cases hit : P.info? t with
  | none => rw [hit] at hz; cases hz
  | some it =>
    cases hie : P.info? e with
    | none => rw [hie] at he; cases he
    | some ie =>
      cases hzz : it.zero with
      | none => rw [hit] at hz; simp [hzz] at hz
      | some z =>
        rw [hit] at hz
        rw [hie] at he
        simp only [Option.bind_some, hzz, Option.map_some, Option.some.injEq] at hz he
        subst he
        simp only [hu, hie]
        have := fill_all ie.size vs [] zs 0 hv (by simp) hl
        rw [hzz]
        simp only
        rw [hz]
        simpa using this
theorem there_new (w : World) (c : Array Value) (t : TypeId) (n : Nat) (h : n ≤ c.size) : (w.alloc (.cells c t)).there w.heap.size 0 n := fun j hj => by
  refine ⟨?_, World.frozen?_alloc_new w c t _⟩
  rw [World.cell?_alloc_new]
  simp
  omega
theorem setCells_new {w : World} {t : TypeId} : ∀ (cs mid pre : List Value), mid.length = cs.length → (w.alloc (.cells (pre ++ mid).toArray t)).setCells w.heap.size pre.length cs = w.alloc (.cells (pre ++ cs).toArray t)
  | [], mid, pre, h => by
    cases mid with
    | nil => rfl
    | cons _ _ => cases h
  | v :: r, mid, pre, h => by
    cases mid with
    | nil => cases h
    | cons m ms =>
      have e : (w.alloc (.cells (pre ++ m :: ms).toArray t)).setCell ⟨w.heap.size, pre.length, none⟩ v = w.alloc (.cells ((pre ++ [v]) ++ ms).toArray t) := by
        rw [World.setCell_alloc_new]
        simp
      show ((w.alloc _).setCell _ v).setCells w.heap.size (pre.length + 1) r = _
      rw [e]
      have h2 := setCells_new (w := w) (t := t) r ms (pre ++ [v]) (by simpa using h)
      rw [show (pre ++ [v]).length = pre.length + 1 by simp] at h2
      rw [h2]
      simp
theorem wpList_store_new {P : Program} {ops : Array Oper} {Q : Exit → Act → World → Prop} {rest : List Oper} {op : Oper} {a : Act} {w : World} (hg : op.guard = none) (hd : op.dst = none) (ty : TypeId) (x y : Operand) (ho : op.op = .store ty x y) (c : Array Value) (cs : List Value)
    (hx : a.eval x = .pointer (some ⟨w.heap.size, 0, none⟩)) (hy : a.eval y = .agg cs.toArray) (hc : c.size = cs.length)
    (hi : (P.info? ty).map (·.size) = some cs.toArray.size) (h1 : cs.toArray.all (·.oneCell') = true)
    (h : wpList P ops Q rest a (w.alloc (.cells cs.toArray ty))) : wpList P ops Q (op :: rest) a (w.alloc (.cells c ty)) := by
  refine wpList_store_mid hg ty x y ho w.heap.size 0 cs.toArray hx hy (there_new w c ty _ (by simp [hc])) hi h1 ?_
  rw [hd]
  have e := setCells_new (w := w) (t := ty) cs c.toList [] (by simpa using hc)
  simp only [List.nil_append, List.length_nil] at e
  rw [show (c.toList).toArray = c from rfl] at e
  rw [show cs.toArray.toList = cs from rfl, e]
  exact h
theorem results_cell {P : Program} {fn : Func} {tmps : Array Value} {w : World} (s : Tmp) (ty : TypeId) (b : Nat) (cs : List Value) (d : TypeDesc) (hr : fn.results = #[.cell s ty])
    (hs : tmps.getD s undef = .pointer (some ⟨b, 0, none⟩)) (hc : w.rangeAt b 0 cs) (hu : P.underlying ty = some d) (hd : d.isRow = true) (hi : (P.info? ty).map (·.size) = some cs.length) :
    (results fn tmps).run P w = .ok (.agg cs.toArray) w := by
  unfold results
  rw [hr]
  have hs' : tmps[s]?.getD undef = .pointer (some ⟨b, 0, none⟩) := by simpa using hs
  simp [hs', asAddr, run_loadVar_mid w b 0 ty cs d hc hu hd hi]
end Go.Proofs.YtcphhojdfpedkaaDoor

namespace Go.Proofs.YtcphhojdfpedkaaDoor
open Go Go.ChangeShapes Go.WideShapes Go.ChangeAt Go.RowKit
structure Looks where
  ty : TypeId
  at_ : Nat → Option (List Value)
  blk : Nat → Nat
structure Seen (P : Program) (L : Looks) (e : Nat → Value) (w : World) : Prop where
  row : ∃ d, P.underlying L.ty = some d ∧ d.isRow = true
  all : ∀ k cs, L.at_ k = some cs → e k = .pointer (some ⟨L.blk k, 0, none⟩) ∧ w.rangeAt (L.blk k) 0 cs ∧ L.blk k < w.heap.size ∧ (P.info? L.ty).map (·.size) = some cs.length
theorem Seen.below {P : Program} {L : Looks} {e : Nat → Value} {w w' : World} (h : Seen P L e w) (hb : Below w.heap.size w w') : Seen P L e w' := by
  refine ⟨h.row, fun k cs hk => ?_⟩
  obtain ⟨h1, h2, h3, h4⟩ := h.all k cs hk
  exact ⟨h1, fun j v hv => (hb.cell (p := ⟨L.blk k, 0 + j, none⟩) h3).trans (h2 j v hv), Nat.lt_of_lt_of_le h3 hb.size, h4⟩
end Go.Proofs.YtcphhojdfpedkaaDoor

namespace Go.Proofs.YtcphhojdfpedkaaDoor
open Go Go.ChangeShapes Go.WideShapes Go.ChangeAt Go.RowKit
section
variable {P : Program} {ops : Array Oper} {Q : Exit → Act → World → Prop}
def valueOf (P : Program) (ans : FuncId → List Value → Option Value) (L : Looks) (E : Nat → Value) (o : Oper) : Option Value :=
  match o.op with
  | .build t parts => (P.built t (parts.map fun (i, x) => (i, evalE E x)).toList).map .agg
  | .load ty (.tmp k) => if ty = L.ty then (L.at_ k).map fun cs => .agg cs.toArray else none
  | .call ⟨.value (.func f), args, _⟩ => ans f (args.map (evalE E)).toList
  | _ => none
def operandsOf (o : Oper) : List Operand :=
  match o.op with
  | .build _ parts => parts.toList.map (·.2)
  | .call ⟨_, args, _⟩ => args.toList
  | _ => []
def waitsOn (b : Nat) (o : Oper) : Operand → Bool
  | .tmp t => decide (t < b) || o.after.any fun e => Region.binds .any e && (e.on + b == t)
  | _ => true
def backB (i : Nat) (o : Oper) : Bool := o.after.all fun e => !Region.binds .any e || decide (e.on < i)
def fixedB (b i : Nat) (o : Oper) : Bool := o.guard.isNone && (o.dst == some (i + b)) && (operandsOf o).all (waitsOn b o) && backB i o
def awaitedB (ops : Array Oper) (i j : Nat) : Bool := decide (i < j) && match ops[j]? with
  | some o => o.after.any fun e => Region.binds .any e && (e.on == i)
  | none => false
structure Going (N b n : Nat) (E : Nat → Value) (d0 : List Deferred) (listed : Array Bool) (a : Act) : Prop where
  size : a.tmps.size = N
  low : ∀ t, t < b → a.tmps.getD t undef = E t
  done : ∀ i, i < n → listed.getD i false = true → a.tmps.getD (i + b) undef = E (i + b)
  defers : a.defers = d0
theorem eval_is {a : Act} {E : Nat → Value} {x : Operand} (h : ∀ t, x = .tmp t → a.tmps.getD t undef = E t) : a.eval x = evalE E x := by
  cases x with
  | tmp t => exact h t rfl
  | const v => rfl
  | global g => rfl
  | func f => rfl
theorem oper_fixed {ans : FuncId → List Value → Option Value} {L : Looks} {E : Nat → Value} {S : World → Prop} {o : Oper} {a : Act} {w : World} {K : Act → World → Prop} {v : Value}
    (H : ∀ f args v, ans f args = some v → (∀ W, (callFunc f args.toArray).run P W = .ok (.enter f args.toArray) W) ∧ ∀ W, Calls P f args.toArray W fun e W' => e = .returned v ∧ Below W.heap.size W W')
    (hSs : ∀ W, S W → Seen P L E W) (hSb : ∀ W W', S W → Below W.heap.size W W' → S W')
    (hv : valueOf P ans L E o = some v) (hx : ∀ x ∈ operandsOf o, a.eval x = evalE E x) (hp : ∀ k cs, L.at_ k = some cs → a.tmps.getD k undef = E k) (hS : S w)
    (hK : ∀ w', S w' → K (a.put o.dst v) w') : Oper.wp P o a w K Q := by
  unfold valueOf at hv
  unfold operandsOf at hx
  split at hv
  · rename_i t parts ho
    rw [ho] at hx
    dsimp only at hx
    have e : (parts.map fun (x : Nat × Operand) => (x.1, a.eval x.2)) = parts.map fun (x : Nat × Operand) => (x.1, evalE E x.2) := by
      apply Array.map_congr_left
      intro x hxm
      rw [hx x.2 (by simp only [List.mem_map]; exact ⟨x, by simpa using hxm, rfl⟩)]
    cases hb : P.built t (parts.map fun (i, x) => (i, evalE E x)).toList with
    | none => rw [hb] at hv; cases hv
    | some cells =>
      rw [hb] at hv
      obtain rfl := Option.some.inj hv
      have hb' : P.built t (parts.map fun (i, x) => (i, a.eval x)).toList = some cells := by
        rw [← hb]
        exact congrArg (fun z : Array (Nat × Value) => P.built t z.toList) e
      refine wp_build t parts ho (by rw [hb']; rfl) ?_
      rw [hb']
      exact hK w hS
  · rename_i ty k ho
    split at hv
    · rename_i hty
      subst hty
      cases hk : L.at_ k with
      | none => rw [hk] at hv; cases hv
      | some cs =>
        rw [hk] at hv
        obtain rfl := Option.some.inj hv
        obtain ⟨h1, h2, h3, h4⟩ := (hSs w hS).all k cs hk
        obtain ⟨desc, h5, h6⟩ := (hSs w hS).row
        exact wp_load_mid L.ty (.tmp k) ho (L.blk k) 0 ((hp k cs hk).trans h1) cs desc h2 h5 h6 h4 (hK w hS)
    · cases hv
  · rename_i f args tys ho
    rw [ho] at hx
    dsimp only at hx
    have e : args.map a.eval = args.map (evalE E) := Array.map_congr_left fun x hxm => hx x (by simpa using hxm)
    obtain ⟨h1, h2⟩ := H _ _ _ hv
    simp only [Array.toArray_toList] at h1 h2
    have hr : (execOp a.eval o).run P w = .ok (.enter f (args.map (evalE E))) w := by
      have h1' := h1 w
      unfold execOp
      rw [ho]
      dsimp only
      unfold resolve
      rw [e]
      simpa [Act.eval, Deferred.ofValue, invoke, Sem.run] using h1'
    unfold Oper.wp
    rw [hr, Oper.upon_enter]
    refine (h2 w).mono ?_
    rintro e' w' ⟨rfl, hb⟩
    exact hK w' (hSb w w' hS hb)
  · cases hv
theorem count_same {p q : Nat → Bool} : ∀ (m : Nat), (∀ j, j < m → q j = p j) → (List.range m).countP q = (List.range m).countP p
  | 0, _ => rfl
  | m + 1, h => by
    rw [List.range_succ, List.countP_append, List.countP_append, count_same m (fun j hj => h j (by omega))]
    simp [List.countP_cons, h m (by omega)]
theorem count_less {p q : Nat → Bool} {i : Nat} (hp : p i = true) (hq : q i = false) (hne : ∀ j, j ≠ i → q j = p j) : ∀ (m : Nat), i < m → (List.range m).countP q + 1 = (List.range m).countP p
  | 0, h => absurd h (Nat.not_lt_zero _)
  | m + 1, h => by
    rw [List.range_succ, List.countP_append, List.countP_append]
    by_cases hi : i = m
    · subst hi
      rw [count_same i (fun j hj => hne j (by omega))]
      simp [hp, hq]
    · have := count_less hp hq hne m (by omega)
      simp [List.countP_cons, hne m (Ne.symm hi)]
      omega
theorem ready_some {listed : Array Bool} (hsz : listed.size = ops.size) (hback : ∀ i o, ops[i]? = some o → backB i o = true) :
    ∀ (i : Nat), i < ops.size → listed.getD i true = false → Region.ready .any ops listed ≠ [] := by
  intro i
  induction i using Nat.strongRecOn with
  | _ i ih =>
    intro hi hun
    have ho : ops[i]? = some ops[i] := Array.getElem?_eq_getElem hi
    have hb := hback i _ ho
    unfold backB at hb
    by_cases hall : ∀ e ∈ (ops[i]).after, Region.binds .any e = true → listed.getD e.on false = true
    · have : i ∈ Region.ready .any ops listed := mem_ready.2 ⟨hun, _, ho, hall⟩
      intro h
      rw [h] at this
      cases this
    · have : ∃ e ∈ (ops[i]).after, Region.binds .any e = true ∧ listed.getD e.on false = false := by
        refine Classical.byContradiction fun hn => hall fun e he hbi => ?_
        cases hl : listed.getD e.on false with
        | true => rfl
        | false => exact absurd ⟨e, he, hbi, hl⟩ hn
      obtain ⟨e, he, hbi, hl⟩ := this
      have h1 := Array.all_eq_true_iff_forall_mem.1 hb e he
      rw [hbi] at h1
      have hlt : e.on < i := by simpa using h1
      exact ih e.on hlt (by omega) (getD_in (by omega) hl)
theorem all_listed {n : Nat} {listed : Array Bool} (hsz : ops.size = n + 1) (hnext : ∀ i, i < n → ∃ j, awaitedB ops i j = true) (inv : HeadInv .any ops n listed) (hr : n ∈ Region.ready .any ops listed) :
    ∀ (d i : Nat), n - i = d → i < n → listed.getD i false = true := by
  intro d
  induction d using Nat.strongRecOn with
  | _ d ih =>
    intro i hd hi
    obtain ⟨j, hj⟩ := hnext i hi
    unfold awaitedB at hj
    simp only [Bool.and_eq_true, decide_eq_true_eq] at hj
    obtain ⟨hij, hj⟩ := hj
    split at hj
    · rename_i oj hoj
      obtain ⟨e, he, h2⟩ := Array.any_eq_true'.1 hj
      simp only [Bool.and_eq_true, beq_iff_eq] at h2
      have hjlt : j < ops.size := (Array.getElem?_eq_some_iff.1 hoj).1
      by_cases hjn : j = n
      · subst hjn
        obtain ⟨_, oi, hoi, hall⟩ := mem_ready.1 hr
        obtain rfl : oi = oj := Option.some.inj (hoi.symm.trans hoj)
        have h3 := hall e he h2.1
        rwa [h2.2] at h3
      · have h3 := inv.closed j oj hoj (ih (n - j) (by omega) j rfl (by omega)) e he h2.1
        rwa [h2.2] at h3
    · cases hj
theorem put_getD (a : Act) (d t : Nat) (v : Value) (hd : d < a.tmps.size) : (a.put (some d) v).tmps.getD t undef = if t = d then v else a.tmps.getD t undef := by
  by_cases ht : t = d
  · subst ht; rw [if_pos rfl]; simp [Act.put, hd]
  · rw [if_neg ht]; simp [Act.put, Ne.symm ht]
theorem Going.put {N b n : Nat} {E : Nat → Value} {d0 : List Deferred} {listed : Array Bool} {a : Act} (h : Going N b n E d0 listed a) {i : Nat} (hi : i < n) (hN : n + b ≤ N) :
    Going N b n E d0 (listed.setIfInBounds i true) (a.put (some (i + b)) (E (i + b))) := by
  have hs := h.size
  refine ⟨by simpa [Act.put] using hs, fun t ht => ?_, fun j hj hl => ?_, h.defers⟩
  · rw [put_getD _ _ _ _ (by omega), if_neg (by omega)]
    exact h.low t ht
  · rw [put_getD _ _ _ _ (by omega)]
    by_cases e : j + b = i + b
    · rw [if_pos e, e]
    · rw [if_neg e]
      rw [getD_set_ne false (by omega)] at hl
      exact h.done j hj hl
theorem any_fixed {N b n : Nat} {E : Nat → Value} {d0 : List Deferred} {ans : FuncId → List Value → Option Value} {L : Looks} {S : World → Prop}
    (hsz : ops.size = n + 1) (hN : n + b ≤ N)
    (hfix : ∀ i o, i < n → ops[i]? = some o → fixedB b i o = true ∧ valueOf P ans L E o = some (E (i + b)))
    (hlast : ∀ o, ops[n]? = some o → backB n o = true)
    (hnext : ∀ i, i < n → ∃ j, awaitedB ops i j = true)
    (H : ∀ f args v, ans f args = some v → (∀ W, (callFunc f args.toArray).run P W = .ok (.enter f args.toArray) W) ∧ ∀ W, Calls P f args.toArray W fun e W' => e = .returned v ∧ Below W.heap.size W W')
    (hSs : ∀ W, S W → Seen P L E W) (hSb : ∀ W W', S W → Below W.heap.size W W' → S W') (hlow : ∀ k cs, L.at_ k = some cs → k < b)
    (hend : ∀ a' w', a'.tmps.size = N → (∀ t, t < n + b → a'.tmps.getD t undef = E t) → a'.defers = d0 → S w' → ∀ K : Act → World → Prop, (∀ a2 w2, Q .normal a2 w2 → K a2 w2) → wpOp P ops Q n K a' w') :
    ∀ (fuel : Nat) (listed : Array Bool) (a : Act) (w : World), (List.range (n + 1)).countP (fun j => !listed.getD j false) ≤ fuel → HeadInv .any ops n listed → Going N b n E d0 listed a → S w → wpAny P .any ops Q fuel listed a w := by
  have hback : ∀ i o, ops[i]? = some o → backB i o = true := fun i o ho => by
    have hlt : i < ops.size := (Array.getElem?_eq_some_iff.1 ho).1
    by_cases hi : i = n
    · subst hi; exact hlast o ho
    · have := (hfix i o (by omega) ho).1
      unfold fixedB at this
      simp only [Bool.and_eq_true] at this
      exact this.2
  intro fuel
  induction fuel with
  | zero =>
    intro listed a w hc inv _ _
    have hn := getD_both (inv.tail n (Nat.le_refl _) (by omega))
    have h1 : 0 < (List.range (n + 1)).countP (fun j => !listed.getD j false) := List.countP_pos_iff.2 ⟨n, by simp, by rw [hn]; rfl⟩
    omega
  | succ fuel ih =>
    intro listed a w hc inv hg hS
    have hnt := inv.tail n (Nat.le_refl _) (by omega)
    refine ⟨fun h0 => absurd h0 (ready_some inv.size hback n (by omega) hnt), fun i hi => ?_⟩
    obtain ⟨hun, o, ho, hall⟩ := mem_ready.1 hi
    have hlt : i < ops.size := (Array.getElem?_eq_some_iff.1 ho).1
    by_cases hin : i = n
    · subst hin
      have hal := fun j hj => all_listed hsz hnext inv hi (i - j) j rfl hj
      refine hend a w hg.size (fun t ht => ?_) hg.defers hS _ (fun a2 w2 hq => ?_)
      · by_cases hb : t < b
        · exact hg.low t hb
        · have h1 := hg.done (t - b) (by omega) (hal (t - b) (by omega))
          rwa [show t - b + b = t by omega] at h1
      · have hempty : Region.ready .any ops (listed.setIfInBounds i true) = [] := by
          refine List.eq_nil_iff_forall_not_mem.2 fun j hj => ?_
          obtain ⟨hjun, oj, hoj, _⟩ := mem_ready.1 hj
          have hjlt : j < ops.size := (Array.getElem?_eq_some_iff.1 hoj).1
          have h2 := getD_both hjun
          by_cases hji : j = i
          · subst hji
            have : j < listed.size := by rw [inv.size]; omega
            simp [this] at h2
          · rw [getD_set_ne false (Ne.symm hji), hal j (by omega)] at h2
            cases h2
        cases fuel with
        | zero => exact ⟨hempty, hq⟩
        | succ f => exact ⟨fun _ => hq, fun j hj => by rw [hempty] at hj; cases hj⟩
    · have hi' : i < n := by omega
      obtain ⟨hfx, hv⟩ := hfix i o hi' ho
      unfold fixedB at hfx
      simp only [Bool.and_eq_true, Option.isNone_iff_eq_none, beq_iff_eq, List.all_eq_true] at hfx
      obtain ⟨⟨⟨hgd, hdst⟩, hops⟩, _⟩ := hfx
      refine wpOp_step ho fun K' hK => ?_
      rw [if_pos (by simp [Region.wanted, hgd])]
      refine oper_fixed H hSs hSb hv (fun x hx => ?_) (fun k cs hk => hg.low k (hlow k cs hk)) hS (fun w' hS' => ?_)
      · refine eval_is fun t et => ?_
        subst et
        have h1 := hops _ hx
        unfold waitsOn at h1
        simp only [Bool.or_eq_true, decide_eq_true_eq] at h1
        rcases h1 with h1 | h1
        · exact hg.low t h1
        · obtain ⟨e, he, h2⟩ := Array.any_eq_true'.1 h1
          simp only [Bool.and_eq_true, beq_iff_eq] at h2
          have h3 := hall e he h2.1
          have hbk := hback i o ho
          unfold backB at hbk
          have h4 := Array.all_eq_true_iff_forall_mem.1 hbk e he
          rw [h2.1] at h4
          have hlt2 : e.on < i := by simpa using h4
          have h5 := hg.done e.on (by omega) h3
          rwa [h2.2] at h5
      · refine hK _ _ ?_
        rw [hdst]
        refine ih _ _ _ ?_ (inv.set hi hi') (hg.put hi' hN) hS'
        have hun2 := getD_both hun
        have hlt3 : i < listed.size := by rw [inv.size]; exact hlt
        have := count_less (p := fun j => !listed.getD j false) (q := fun j => !(listed.setIfInBounds i true).getD j false) (i := i) (by rw [hun2]; rfl) (by simp [hlt3]) (fun j hj => by rw [getD_set_ne false (Ne.symm hj)]) (n + 1) (by omega)
        omega
theorem wp_region_fixed {N b n : Nat} {E : Nat → Value} {ans : FuncId → List Value → Option Value} {L : Looks} {S : World → Prop} {id : Nat} {a : Act} {w : World} (hm : P.follows .mixedOrders = true)
    (hsz : ops.size = n + 1) (hN : n + b ≤ N)
    (hfix : ∀ i o, i < n → ops[i]? = some o → fixedB b i o = true ∧ valueOf P ans L E o = some (E (i + b)))
    (hlast : ∀ o, ops[n]? = some o → backB n o = true)
    (hnext : ∀ i, i < n → ∃ j, awaitedB ops i j = true)
    (H : ∀ f args v, ans f args = some v → (∀ W, (callFunc f args.toArray).run P W = .ok (.enter f args.toArray) W) ∧ ∀ W, Calls P f args.toArray W fun e W' => e = .returned v ∧ Below W.heap.size W W')
    (hSs : ∀ W, S W → Seen P L E W) (hSb : ∀ W W', S W → Below W.heap.size W W' → S W') (hlow : ∀ k cs, L.at_ k = some cs → k < b)
    (ha : a.tmps.size = N) (hb : ∀ t, t < b → a.tmps.getD t undef = E t) (hS : S w.drew)
    (hend : ∀ a' w', a'.tmps.size = N → (∀ t, t < n + b → a'.tmps.getD t undef = E t) → a'.defers = a.defers → S w' → ∀ K : Act → World → Prop, (∀ a2 w2, Q .normal a2 w2 → K a2 w2) → wpOp P ops Q n K a' w') :
    (Code.region id ops true).wp P Q a w := by
  refine wp_region_any hm ?_
  refine any_fixed (N := N) (b := b) (n := n) (E := E) (d0 := a.defers) (ans := ans) (L := L) (S := S) hsz hN hfix hlast hnext H hSs hSb hlow hend ops.size _ a _ ?_ ?_ ?_ hS
  · rw [hsz]
    exact Nat.le_trans (List.countP_le_length) (by simp)
  · exact ⟨by simp, fun j oj _ hl => (by rw [getD_replicate_false] at hl; cases hl), fun t _ ht => (by simp [ht])⟩
  · exact ⟨ha, hb, fun i _ hl => (by rw [getD_replicate_false] at hl; cases hl), rfl⟩
end
end Go.Proofs.YtcphhojdfpedkaaDoor
