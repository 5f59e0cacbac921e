/-
  NARROWER THAN 'FOR EVERY INPUT', by the rows' own cells (each row's printed sentence says how): CondsHolds: laid · CondsNames: laid · CondsMasks: laid · CondsStates: laid · CondsTurned: laid · CondsBack: laid · CondsWalk: laid.
  DERIVED. THE GIVEN ROWS OF THIS SEAT. 7 by the template 'for every input the law returns true; each argument reads behind the call as it read before'; 0 by the template 'total and deterministic' (their statements: YtndeknebpimiaaaDoorTotals.lean).
  GIVEN WITH THE SEED: the statements are not yours to turn. If you find one false, say at which input.
  Laid BY PROGRAM, IN A SANDBOX (cutbox-rows.mjs): the forced cells as the released guide's own fill.sh prints them over the translation 7cca4994f80d077b… (all of the seat's roots in one cut). By AI agents, Wed Nov 11 2026. No macro, syntax, notation, axiom, sorry.
-/
import Derived.Test.YtndeknebpimiaaaDoorChecked
import GoSem.Claim
import GoSem.ClaimJoined
import GoSem.ClaimMapViews
import Derived.JoinedTies
import Derived.KernelRfl
namespace Go.Proofs.YtndeknebpimiaaaDoor
/- THE CELL 'sum', in the pinned program and in every row, IS THE sha256 OF THE DUMP (.gsa) THAT YtndeknebpimiaaaDoorProg.lean LOADS. Nothing in Lean hashes anything: it is a label: what it is worth is what the hold of that sum in a sandbox is worth. -/
noncomputable def Tryd.pinned : Pinned := { name := "ytndeknebpimiaaadoor", sum := "7cca4994f80d077b491767e2d0093bbb4a1bb1ed6fe2aa21e60bf4363f96253a", checked := Tryd.checked }
namespace Rows
def none {H : Type} : Left H := { results := [], args := [] }

/- WHAT THE LISTED PACKAGE-LEVEL VARIABLES READ AS WHEN THE CALL BEGINS. Each datum BY PROGRAM (the guide's laid-datum.mjs) off the statement by which the dump's own 'gosem.cut.vars' lays the variable. In a bare row this is a premise. The card (YtndeknebpimiaaaDoorCards.lean) ties it to the program's text. -/
def laid_cartouche_conds_names {H : Type} : DataW H := .agg [.lit (.string [101, 113]), .lit (.string [110, 101]), .lit (.string [99, 115]), .lit (.string [99, 99]), .lit (.string [109, 105]), .lit (.string [112, 108]), .lit (.string [118, 115]), .lit (.string [118, 99]), .lit (.string [104, 105]), .lit (.string [108, 115]), .lit (.string [103, 101]), .lit (.string [108, 116]), .lit (.string [103, 116]), .lit (.string [108, 101])]

/-- 'cartouchelaw04.CondsHolds': WHATEVER THE INPUT: true; the input reads as it did. -/
def condsHoldsSpec : ChangeSpec := { name := "condsHolds", fn := fun _ => fun
  | [d1, d2] => { results := [.lit (.bool true)], args := [d1, d2] }
  | _ => none }
def condsHoldsRow : OpenClaim := { program := "ytndeknebpimiaaadoor", sum := "7cca4994f80d077b491767e2d0093bbb4a1bb1ed6fe2aa21e60bf4363f96253a", func := "cartouche/cartouchelaw04.CondsHolds", spec := "condsHolds", named := ["cartouche/conds.names"], apart := false, laid := [("cartouche/conds.names", laid_cartouche_conds_names)] }
def CondsHoldsSaid : Prop := condsHoldsRow.holds Tryd.pinned (OpenSpec.ofChange condsHoldsSpec)

/-- ITS FALSE NEIGHBOUR: 'it returns false'. Refute it at one input. -/
def condsHoldsWrong : ChangeSpec := { name := "condsHolds", fn := fun _ => fun
  | [d1, d2] => { results := [.lit (.bool false)], args := [d1, d2] }
  | _ => none }
def CondsHoldsWrongFalsely : Prop := condsHoldsRow.holds Tryd.pinned (OpenSpec.ofChange condsHoldsWrong)

/-- 'cartouchelaw04.CondsNames': WHATEVER THE INPUT: true; the input reads as it did. -/
def condsNamesSpec : ChangeSpec := { name := "condsNames", fn := fun _ => fun
  | [d] => { results := [.lit (.bool true)], args := [d] }
  | _ => none }
def condsNamesRow : OpenClaim := { program := "ytndeknebpimiaaadoor", sum := "7cca4994f80d077b491767e2d0093bbb4a1bb1ed6fe2aa21e60bf4363f96253a", func := "cartouche/cartouchelaw04.CondsNames", spec := "condsNames", named := ["cartouche/conds.names"], apart := false, laid := [("cartouche/conds.names", laid_cartouche_conds_names)] }
def CondsNamesSaid : Prop := condsNamesRow.holds Tryd.pinned (OpenSpec.ofChange condsNamesSpec)

/-- ITS FALSE NEIGHBOUR: 'it returns false'. Refute it at one input. -/
def condsNamesWrong : ChangeSpec := { name := "condsNames", fn := fun _ => fun
  | [d] => { results := [.lit (.bool false)], args := [d] }
  | _ => none }
def CondsNamesWrongFalsely : Prop := condsNamesRow.holds Tryd.pinned (OpenSpec.ofChange condsNamesWrong)

/-- 'cartouchelaw04.CondsMasks': WHATEVER THE INPUT: true; the input reads as it did. -/
def condsMasksSpec : ChangeSpec := { name := "condsMasks", fn := fun _ => fun
  | [d1, d2, d3] => { results := [.lit (.bool true)], args := [d1, d2, d3] }
  | _ => none }
def condsMasksRow : OpenClaim := { program := "ytndeknebpimiaaadoor", sum := "7cca4994f80d077b491767e2d0093bbb4a1bb1ed6fe2aa21e60bf4363f96253a", func := "cartouche/cartouchelaw04.CondsMasks", spec := "condsMasks", named := ["cartouche/conds.names"], apart := false, laid := [("cartouche/conds.names", laid_cartouche_conds_names)] }
def CondsMasksSaid : Prop := condsMasksRow.holds Tryd.pinned (OpenSpec.ofChange condsMasksSpec)

/-- ITS FALSE NEIGHBOUR: 'it returns false'. Refute it at one input. -/
def condsMasksWrong : ChangeSpec := { name := "condsMasks", fn := fun _ => fun
  | [d1, d2, d3] => { results := [.lit (.bool false)], args := [d1, d2, d3] }
  | _ => none }
def CondsMasksWrongFalsely : Prop := condsMasksRow.holds Tryd.pinned (OpenSpec.ofChange condsMasksWrong)

/-- 'cartouchelaw04.CondsStates': WHATEVER THE INPUT: true; the input reads as it did. -/
def condsStatesSpec : ChangeSpec := { name := "condsStates", fn := fun _ => fun
  | [d] => { results := [.lit (.bool true)], args := [d] }
  | _ => none }
def condsStatesRow : OpenClaim := { program := "ytndeknebpimiaaadoor", sum := "7cca4994f80d077b491767e2d0093bbb4a1bb1ed6fe2aa21e60bf4363f96253a", func := "cartouche/cartouchelaw04.CondsStates", spec := "condsStates", named := ["cartouche/conds.names"], apart := false, laid := [("cartouche/conds.names", laid_cartouche_conds_names)] }
def CondsStatesSaid : Prop := condsStatesRow.holds Tryd.pinned (OpenSpec.ofChange condsStatesSpec)

/-- ITS FALSE NEIGHBOUR: 'it returns false'. Refute it at one input. -/
def condsStatesWrong : ChangeSpec := { name := "condsStates", fn := fun _ => fun
  | [d] => { results := [.lit (.bool false)], args := [d] }
  | _ => none }
def CondsStatesWrongFalsely : Prop := condsStatesRow.holds Tryd.pinned (OpenSpec.ofChange condsStatesWrong)

/-- 'cartouchelaw04.CondsTurned': WHATEVER THE INPUT: true; the input reads as it did. -/
def condsTurnedSpec : ChangeSpec := { name := "condsTurned", fn := fun _ => fun
  | [d1, d2] => { results := [.lit (.bool true)], args := [d1, d2] }
  | _ => none }
def condsTurnedRow : OpenClaim := { program := "ytndeknebpimiaaadoor", sum := "7cca4994f80d077b491767e2d0093bbb4a1bb1ed6fe2aa21e60bf4363f96253a", func := "cartouche/cartouchelaw04.CondsTurned", spec := "condsTurned", named := ["cartouche/conds.names"], apart := false, laid := [("cartouche/conds.names", laid_cartouche_conds_names)] }
def CondsTurnedSaid : Prop := condsTurnedRow.holds Tryd.pinned (OpenSpec.ofChange condsTurnedSpec)

/-- ITS FALSE NEIGHBOUR: 'it returns false'. Refute it at one input. -/
def condsTurnedWrong : ChangeSpec := { name := "condsTurned", fn := fun _ => fun
  | [d1, d2] => { results := [.lit (.bool false)], args := [d1, d2] }
  | _ => none }
def CondsTurnedWrongFalsely : Prop := condsTurnedRow.holds Tryd.pinned (OpenSpec.ofChange condsTurnedWrong)

/-- 'cartouchelaw04.CondsBack': WHATEVER THE INPUT: true; the input reads as it did. -/
def condsBackSpec : ChangeSpec := { name := "condsBack", fn := fun _ => fun
  | [d1, d2] => { results := [.lit (.bool true)], args := [d1, d2] }
  | _ => none }
def condsBackRow : OpenClaim := { program := "ytndeknebpimiaaadoor", sum := "7cca4994f80d077b491767e2d0093bbb4a1bb1ed6fe2aa21e60bf4363f96253a", func := "cartouche/cartouchelaw04.CondsBack", spec := "condsBack", named := ["cartouche/conds.names"], apart := false, laid := [("cartouche/conds.names", laid_cartouche_conds_names)] }
def CondsBackSaid : Prop := condsBackRow.holds Tryd.pinned (OpenSpec.ofChange condsBackSpec)

/-- ITS FALSE NEIGHBOUR: 'it returns false'. Refute it at one input. -/
def condsBackWrong : ChangeSpec := { name := "condsBack", fn := fun _ => fun
  | [d1, d2] => { results := [.lit (.bool false)], args := [d1, d2] }
  | _ => none }
def CondsBackWrongFalsely : Prop := condsBackRow.holds Tryd.pinned (OpenSpec.ofChange condsBackWrong)

/-- 'cartouchelaw04.CondsWalk': WHATEVER THE INPUT: true; the input reads as it did. -/
def condsWalkSpec : ChangeSpec := { name := "condsWalk", fn := fun _ => fun
  | [d1, d2] => { results := [.lit (.bool true)], args := [d1, d2] }
  | _ => none }
def condsWalkRow : OpenClaim := { program := "ytndeknebpimiaaadoor", sum := "7cca4994f80d077b491767e2d0093bbb4a1bb1ed6fe2aa21e60bf4363f96253a", func := "cartouche/cartouchelaw04.CondsWalk", spec := "condsWalk", named := ["cartouche/conds.names"], apart := false, laid := [("cartouche/conds.names", laid_cartouche_conds_names)] }
def CondsWalkSaid : Prop := condsWalkRow.holds Tryd.pinned (OpenSpec.ofChange condsWalkSpec)

/-- ITS FALSE NEIGHBOUR: 'it returns false'. Refute it at one input. -/
def condsWalkWrong : ChangeSpec := { name := "condsWalk", fn := fun _ => fun
  | [d1, d2] => { results := [.lit (.bool false)], args := [d1, d2] }
  | _ => none }
def CondsWalkWrongFalsely : Prop := condsWalkRow.holds Tryd.pinned (OpenSpec.ofChange condsWalkWrong)

/- THE SECOND FORM. 'bulk': how many values and letters a reading holds, each counted each time it is reached (what is shared counts as often as it is met; a slice's spare places count too). A statement '..UptoSaid' is the law's where the arguments, and the package variables that the reading takes, are together of bulk at most 1048576: NARROWER than '..Said'. Prove '..Said' where nothing that the law and all that it calls make is longer than what came in: it says more and counts as full. Else prove '..UptoSaid'. A law counts once. -/
mutual
def uptoBulk {H : Type} : DataW H → Nat
  | .lit (.string bytes) => bytes.length + 1
  | .lit _ => 1
  | .nil => 1
  | .ptr d => uptoBulk d + 1
  | .slice elems spare => uptoBulkAll elems + uptoBulkAll spare + 1
  | .agg parts => uptoBulkAll parts + 1
  | .iface _ d => uptoBulk d + 1
  | .map entries => uptoBulkEntries entries + 1
  | .held _ => 1
def uptoBulkAll {H : Type} : List (DataW H) → Nat
  | [] => 0
  | d :: r => uptoBulk d + uptoBulkAll r
def uptoBulkEntries {H : Type} : List (Lit × DataW H) → Nat
  | [] => 0
  | x :: r => uptoBulkEntry x + uptoBulkEntries r
def uptoBulkEntry {H : Type} : Lit × DataW H → Nat
  | (.string bytes, d) => bytes.length + uptoBulk d + 1
  | (_, d) => uptoBulk d + 1
 end
def uptoSmall : (H : Type) → List (DataW H) → Bool := fun _ ds => decide (uptoBulkAll ds ≤ 1048576)
def OpenSpec.upto (s : _root_.Go.ChangeSpec) : _root_.Go.OpenSpec := { _root_.Go.OpenSpec.ofChange s with cond := some uptoSmall }

/-- 'cartouchelaw04.CondsHolds', WHERE WHAT IT READS IS OF BULK AT MOST 1048576: true; the input reads as it did. -/
def condsHoldsUptoRow : OpenClaim := { program := "ytndeknebpimiaaadoor", sum := "7cca4994f80d077b491767e2d0093bbb4a1bb1ed6fe2aa21e60bf4363f96253a", func := "cartouche/cartouchelaw04.CondsHolds", spec := "condsHolds", named := ["cartouche/conds.names"], apart := false, laid := [("cartouche/conds.names", laid_cartouche_conds_names)], narrowed := true }
def CondsHoldsUptoSaid : Prop := condsHoldsUptoRow.holds Tryd.pinned (OpenSpec.upto condsHoldsSpec)

/-- 'cartouchelaw04.CondsNames', WHERE WHAT IT READS IS OF BULK AT MOST 1048576: true; the input reads as it did. -/
def condsNamesUptoRow : OpenClaim := { program := "ytndeknebpimiaaadoor", sum := "7cca4994f80d077b491767e2d0093bbb4a1bb1ed6fe2aa21e60bf4363f96253a", func := "cartouche/cartouchelaw04.CondsNames", spec := "condsNames", named := ["cartouche/conds.names"], apart := false, laid := [("cartouche/conds.names", laid_cartouche_conds_names)], narrowed := true }
def CondsNamesUptoSaid : Prop := condsNamesUptoRow.holds Tryd.pinned (OpenSpec.upto condsNamesSpec)

/-- 'cartouchelaw04.CondsMasks', WHERE WHAT IT READS IS OF BULK AT MOST 1048576: true; the input reads as it did. -/
def condsMasksUptoRow : OpenClaim := { program := "ytndeknebpimiaaadoor", sum := "7cca4994f80d077b491767e2d0093bbb4a1bb1ed6fe2aa21e60bf4363f96253a", func := "cartouche/cartouchelaw04.CondsMasks", spec := "condsMasks", named := ["cartouche/conds.names"], apart := false, laid := [("cartouche/conds.names", laid_cartouche_conds_names)], narrowed := true }
def CondsMasksUptoSaid : Prop := condsMasksUptoRow.holds Tryd.pinned (OpenSpec.upto condsMasksSpec)

/-- 'cartouchelaw04.CondsStates', WHERE WHAT IT READS IS OF BULK AT MOST 1048576: true; the input reads as it did. -/
def condsStatesUptoRow : OpenClaim := { program := "ytndeknebpimiaaadoor", sum := "7cca4994f80d077b491767e2d0093bbb4a1bb1ed6fe2aa21e60bf4363f96253a", func := "cartouche/cartouchelaw04.CondsStates", spec := "condsStates", named := ["cartouche/conds.names"], apart := false, laid := [("cartouche/conds.names", laid_cartouche_conds_names)], narrowed := true }
def CondsStatesUptoSaid : Prop := condsStatesUptoRow.holds Tryd.pinned (OpenSpec.upto condsStatesSpec)

/-- 'cartouchelaw04.CondsTurned', WHERE WHAT IT READS IS OF BULK AT MOST 1048576: true; the input reads as it did. -/
def condsTurnedUptoRow : OpenClaim := { program := "ytndeknebpimiaaadoor", sum := "7cca4994f80d077b491767e2d0093bbb4a1bb1ed6fe2aa21e60bf4363f96253a", func := "cartouche/cartouchelaw04.CondsTurned", spec := "condsTurned", named := ["cartouche/conds.names"], apart := false, laid := [("cartouche/conds.names", laid_cartouche_conds_names)], narrowed := true }
def CondsTurnedUptoSaid : Prop := condsTurnedUptoRow.holds Tryd.pinned (OpenSpec.upto condsTurnedSpec)

/-- 'cartouchelaw04.CondsBack', WHERE WHAT IT READS IS OF BULK AT MOST 1048576: true; the input reads as it did. -/
def condsBackUptoRow : OpenClaim := { program := "ytndeknebpimiaaadoor", sum := "7cca4994f80d077b491767e2d0093bbb4a1bb1ed6fe2aa21e60bf4363f96253a", func := "cartouche/cartouchelaw04.CondsBack", spec := "condsBack", named := ["cartouche/conds.names"], apart := false, laid := [("cartouche/conds.names", laid_cartouche_conds_names)], narrowed := true }
def CondsBackUptoSaid : Prop := condsBackUptoRow.holds Tryd.pinned (OpenSpec.upto condsBackSpec)

/-- 'cartouchelaw04.CondsWalk', WHERE WHAT IT READS IS OF BULK AT MOST 1048576: true; the input reads as it did. -/
def condsWalkUptoRow : OpenClaim := { program := "ytndeknebpimiaaadoor", sum := "7cca4994f80d077b491767e2d0093bbb4a1bb1ed6fe2aa21e60bf4363f96253a", func := "cartouche/cartouchelaw04.CondsWalk", spec := "condsWalk", named := ["cartouche/conds.names"], apart := false, laid := [("cartouche/conds.names", laid_cartouche_conds_names)], narrowed := true }
def CondsWalkUptoSaid : Prop := condsWalkUptoRow.holds Tryd.pinned (OpenSpec.upto condsWalkSpec)

end Rows
end Go.Proofs.YtndeknebpimiaaaDoor
