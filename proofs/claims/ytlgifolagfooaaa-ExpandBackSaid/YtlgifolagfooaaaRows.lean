/-
  No cell of these rows narrows 'for every input' (looked for: loops, veiled, ifaces, maps, wideKeys, modest, calm, conditions, laid).
  DERIVED. THE GIVEN ROWS OF THIS SEAT. 5 by the template 'for every input the law returns true; each argument reads behind the call as it read before'; 0 by the template 'total and deterministic' (their statements: YtlgifolagfooaaaTotals.lean).
  GIVEN WITH THE SEED: the statements are not yours to turn. If you find one false, say at which input.
  Laid BY PROGRAM, IN A SANDBOX (cutbox-rows.mjs): the forced cells as the released guide's own fill.sh prints them over the translation 25a08fb6a84b0dfd… (all of the seat's roots in one cut). By AI agents, Wed Nov 11 2026. No macro, syntax, notation, axiom, sorry.
-/
import Derived.Test.YtlgifolagfooaaaChecked
import GoSem.Claim
import GoSem.ClaimJoined
import GoSem.ClaimMapViews
import Derived.JoinedTies
import Derived.KernelRfl
namespace Go.Proofs.Ytlgifolagfooaaa
/- THE CELL 'sum', in the pinned program and in every row, IS THE sha256 OF THE DUMP (.gsa) THAT YtlgifolagfooaaaProg.lean LOADS. Nothing in Lean hashes anything: it is a label: what it is worth is what the hold of that sum in a sandbox is worth. -/
noncomputable def Try.pinned : Pinned := { name := "ytlgifolagfooaaa", sum := "25a08fb6a84b0dfdcbc79e6b4e3dc32014d80faa21f9db5599a14bd3774519c0", checked := Try.checked }
namespace Rows
def none {H : Type} : Left H := { results := [], args := [] }

/-- 'cartouchelaw02.ExpandExpands': WHATEVER THE INPUT: true; the input reads as it did. -/
def expandExpandsSpec : ChangeSpec := { name := "expandExpands", fn := fun _ => fun
  | [d] => { results := [.lit (.bool true)], args := [d] }
  | _ => none }
def expandExpandsRow : OpenClaim := { program := "ytlgifolagfooaaa", sum := "25a08fb6a84b0dfdcbc79e6b4e3dc32014d80faa21f9db5599a14bd3774519c0", func := "cartouche/cartouchelaw02.ExpandExpands", spec := "expandExpands", apart := false }
def ExpandExpandsSaid : Prop := expandExpandsRow.holds Try.pinned (OpenSpec.ofChange expandExpandsSpec)

/-- ITS FALSE NEIGHBOUR: 'it returns false'. Refute it at one input. -/
def expandExpandsWrong : ChangeSpec := { name := "expandExpands", fn := fun _ => fun
  | [d] => { results := [.lit (.bool false)], args := [d] }
  | _ => none }
def ExpandExpandsWrongFalsely : Prop := expandExpandsRow.holds Try.pinned (OpenSpec.ofChange expandExpandsWrong)

/-- 'cartouchelaw02.ExpandFinds': WHATEVER THE INPUT: true; the input reads as it did. -/
def expandFindsSpec : ChangeSpec := { name := "expandFinds", fn := fun _ => fun
  | [d] => { results := [.lit (.bool true)], args := [d] }
  | _ => none }
def expandFindsRow : OpenClaim := { program := "ytlgifolagfooaaa", sum := "25a08fb6a84b0dfdcbc79e6b4e3dc32014d80faa21f9db5599a14bd3774519c0", func := "cartouche/cartouchelaw02.ExpandFinds", spec := "expandFinds", apart := false }
def ExpandFindsSaid : Prop := expandFindsRow.holds Try.pinned (OpenSpec.ofChange expandFindsSpec)

/-- ITS FALSE NEIGHBOUR: 'it returns false'. Refute it at one input. -/
def expandFindsWrong : ChangeSpec := { name := "expandFinds", fn := fun _ => fun
  | [d] => { results := [.lit (.bool false)], args := [d] }
  | _ => none }
def ExpandFindsWrongFalsely : Prop := expandFindsRow.holds Try.pinned (OpenSpec.ofChange expandFindsWrong)

/-- 'cartouchelaw02.ExpandBack': WHATEVER THE INPUT: true; the input reads as it did. -/
def expandBackSpec : ChangeSpec := { name := "expandBack", fn := fun _ => fun
  | [d] => { results := [.lit (.bool true)], args := [d] }
  | _ => none }
def expandBackRow : OpenClaim := { program := "ytlgifolagfooaaa", sum := "25a08fb6a84b0dfdcbc79e6b4e3dc32014d80faa21f9db5599a14bd3774519c0", func := "cartouche/cartouchelaw02.ExpandBack", spec := "expandBack", apart := false }
def ExpandBackSaid : Prop := expandBackRow.holds Try.pinned (OpenSpec.ofChange expandBackSpec)

/-- ITS FALSE NEIGHBOUR: 'it returns false'. Refute it at one input. -/
def expandBackWrong : ChangeSpec := { name := "expandBack", fn := fun _ => fun
  | [d] => { results := [.lit (.bool false)], args := [d] }
  | _ => none }
def ExpandBackWrongFalsely : Prop := expandBackRow.holds Try.pinned (OpenSpec.ofChange expandBackWrong)

/-- 'cartouchelaw02.ExpandByte': WHATEVER THE INPUT: true; the input reads as it did. -/
def expandByteSpec : ChangeSpec := { name := "expandByte", fn := fun _ => fun
  | [d] => { results := [.lit (.bool true)], args := [d] }
  | _ => none }
def expandByteRow : OpenClaim := { program := "ytlgifolagfooaaa", sum := "25a08fb6a84b0dfdcbc79e6b4e3dc32014d80faa21f9db5599a14bd3774519c0", func := "cartouche/cartouchelaw02.ExpandByte", spec := "expandByte", apart := false }
def ExpandByteSaid : Prop := expandByteRow.holds Try.pinned (OpenSpec.ofChange expandByteSpec)

/-- ITS FALSE NEIGHBOUR: 'it returns false'. Refute it at one input. -/
def expandByteWrong : ChangeSpec := { name := "expandByte", fn := fun _ => fun
  | [d] => { results := [.lit (.bool false)], args := [d] }
  | _ => none }
def ExpandByteWrongFalsely : Prop := expandByteRow.holds Try.pinned (OpenSpec.ofChange expandByteWrong)

/-- 'cartouchelaw02.ExpandFew': WHATEVER THE INPUT: true; the input reads as it did. -/
def expandFewSpec : ChangeSpec := { name := "expandFew", fn := fun _ => fun
  | [d] => { results := [.lit (.bool true)], args := [d] }
  | _ => none }
def expandFewRow : OpenClaim := { program := "ytlgifolagfooaaa", sum := "25a08fb6a84b0dfdcbc79e6b4e3dc32014d80faa21f9db5599a14bd3774519c0", func := "cartouche/cartouchelaw02.ExpandFew", spec := "expandFew", apart := false }
def ExpandFewSaid : Prop := expandFewRow.holds Try.pinned (OpenSpec.ofChange expandFewSpec)

/-- ITS FALSE NEIGHBOUR: 'it returns false'. Refute it at one input. -/
def expandFewWrong : ChangeSpec := { name := "expandFew", fn := fun _ => fun
  | [d] => { results := [.lit (.bool false)], args := [d] }
  | _ => none }
def ExpandFewWrongFalsely : Prop := expandFewRow.holds Try.pinned (OpenSpec.ofChange expandFewWrong)

/- THE SECOND FORM. 'bulk': how many values and letters a reading holds, each counted each time it is reached (what is shared counts as often as it is met; a slice's spare places count too). A statement '..UptoSaid' is the law's where the arguments, and the package variables that the reading takes, are together of bulk at most 1048576: NARROWER than '..Said'. Prove '..Said' where nothing that the law and all that it calls make is longer than what came in: it says more and counts as full. Else prove '..UptoSaid'. A law counts once. -/
mutual
def uptoBulk {H : Type} : DataW H → Nat
  | .lit (.string bytes) => bytes.length + 1
  | .lit _ => 1
  | .nil => 1
  | .ptr d => uptoBulk d + 1
  | .slice elems spare => uptoBulkAll elems + uptoBulkAll spare + 1
  | .agg parts => uptoBulkAll parts + 1
  | .iface _ d => uptoBulk d + 1
  | .map entries => uptoBulkEntries entries + 1
  | .held _ => 1
def uptoBulkAll {H : Type} : List (DataW H) → Nat
  | [] => 0
  | d :: r => uptoBulk d + uptoBulkAll r
def uptoBulkEntries {H : Type} : List (Lit × DataW H) → Nat
  | [] => 0
  | x :: r => uptoBulkEntry x + uptoBulkEntries r
def uptoBulkEntry {H : Type} : Lit × DataW H → Nat
  | (.string bytes, d) => bytes.length + uptoBulk d + 1
  | (_, d) => uptoBulk d + 1
 end
def uptoSmall : (H : Type) → List (DataW H) → Bool := fun _ ds => decide (uptoBulkAll ds ≤ 1048576)
def OpenSpec.upto (s : _root_.Go.ChangeSpec) : _root_.Go.OpenSpec := { _root_.Go.OpenSpec.ofChange s with cond := some uptoSmall }

/-- 'cartouchelaw02.ExpandExpands', WHERE WHAT IT READS IS OF BULK AT MOST 1048576: true; the input reads as it did. -/
def expandExpandsUptoRow : OpenClaim := { program := "ytlgifolagfooaaa", sum := "25a08fb6a84b0dfdcbc79e6b4e3dc32014d80faa21f9db5599a14bd3774519c0", func := "cartouche/cartouchelaw02.ExpandExpands", spec := "expandExpands", apart := false, narrowed := true }
def ExpandExpandsUptoSaid : Prop := expandExpandsUptoRow.holds Try.pinned (OpenSpec.upto expandExpandsSpec)

/-- 'cartouchelaw02.ExpandFinds', WHERE WHAT IT READS IS OF BULK AT MOST 1048576: true; the input reads as it did. -/
def expandFindsUptoRow : OpenClaim := { program := "ytlgifolagfooaaa", sum := "25a08fb6a84b0dfdcbc79e6b4e3dc32014d80faa21f9db5599a14bd3774519c0", func := "cartouche/cartouchelaw02.ExpandFinds", spec := "expandFinds", apart := false, narrowed := true }
def ExpandFindsUptoSaid : Prop := expandFindsUptoRow.holds Try.pinned (OpenSpec.upto expandFindsSpec)

/-- 'cartouchelaw02.ExpandBack', WHERE WHAT IT READS IS OF BULK AT MOST 1048576: true; the input reads as it did. -/
def expandBackUptoRow : OpenClaim := { program := "ytlgifolagfooaaa", sum := "25a08fb6a84b0dfdcbc79e6b4e3dc32014d80faa21f9db5599a14bd3774519c0", func := "cartouche/cartouchelaw02.ExpandBack", spec := "expandBack", apart := false, narrowed := true }
def ExpandBackUptoSaid : Prop := expandBackUptoRow.holds Try.pinned (OpenSpec.upto expandBackSpec)

/-- 'cartouchelaw02.ExpandByte', WHERE WHAT IT READS IS OF BULK AT MOST 1048576: true; the input reads as it did. -/
def expandByteUptoRow : OpenClaim := { program := "ytlgifolagfooaaa", sum := "25a08fb6a84b0dfdcbc79e6b4e3dc32014d80faa21f9db5599a14bd3774519c0", func := "cartouche/cartouchelaw02.ExpandByte", spec := "expandByte", apart := false, narrowed := true }
def ExpandByteUptoSaid : Prop := expandByteUptoRow.holds Try.pinned (OpenSpec.upto expandByteSpec)

/-- 'cartouchelaw02.ExpandFew', WHERE WHAT IT READS IS OF BULK AT MOST 1048576: true; the input reads as it did. -/
def expandFewUptoRow : OpenClaim := { program := "ytlgifolagfooaaa", sum := "25a08fb6a84b0dfdcbc79e6b4e3dc32014d80faa21f9db5599a14bd3774519c0", func := "cartouche/cartouchelaw02.ExpandFew", spec := "expandFew", apart := false, narrowed := true }
def ExpandFewUptoSaid : Prop := expandFewUptoRow.holds Try.pinned (OpenSpec.upto expandFewSpec)

end Rows
end Go.Proofs.Ytlgifolagfooaaa
