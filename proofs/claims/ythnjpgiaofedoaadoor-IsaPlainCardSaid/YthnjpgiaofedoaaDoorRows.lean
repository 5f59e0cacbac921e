/-
  NARROWER THAN 'FOR EVERY INPUT', by the rows' own cells (each row's printed sentence says how): IsaNames: laid · IsaBack: laid · IsaBare: laid · IsaPlain: laid.
  DERIVED. THE GIVEN ROWS OF THIS SEAT. 4 by the template 'for every input the law returns true; each argument reads behind the call as it read before'; 0 by the template 'total and deterministic' (their statements: YthnjpgiaofedoaaDoorTotals.lean).
  GIVEN WITH THE SEED: the statements are not yours to turn. If you find one false, say at which input.
  Laid BY PROGRAM, IN A SANDBOX (cutbox-rows.mjs): the forced cells as the released guide's own fill.sh prints them over the translation 10950abfd7d6253a… (all of the seat's roots in one cut). By AI agents, Wed Nov 11 2026. No macro, syntax, notation, axiom, sorry.
-/
import Derived.Test.YthnjpgiaofedoaaDoorChecked
import GoSem.Claim
import GoSem.ClaimJoined
import GoSem.ClaimMapViews
import Derived.JoinedTies
import Derived.KernelRfl
namespace Go.Proofs.YthnjpgiaofedoaaDoor
/- THE CELL 'sum', in the pinned program and in every row, IS THE sha256 OF THE DUMP (.gsa) THAT YthnjpgiaofedoaaDoorProg.lean LOADS. Nothing in Lean hashes anything: it is a label: what it is worth is what the hold of that sum in a sandbox is worth. -/
noncomputable def Tryd.pinned : Pinned := { name := "ythnjpgiaofedoaadoor", sum := "10950abfd7d6253ac9439c2b492e2a725d1b706a6dac54b4b0123489a0863ee5", checked := Tryd.checked }
namespace Rows
def none {H : Type} : Left H := { results := [], args := [] }

/- WHAT THE LISTED PACKAGE-LEVEL VARIABLES READ AS WHEN THE CALL BEGINS. Each datum BY PROGRAM (the guide's laid-datum.mjs) off the statement by which the dump's own 'gosem.cut.vars' lays the variable. In a bare row this is a premise. The card (YthnjpgiaofedoaaDoorCards.lean) ties it to the program's text. -/
def laid_cartouche_isa_names {H : Type} : DataW H := .agg [.lit (.string []), .lit (.string [97, 110, 100]), .lit (.string [101, 111, 114]), .lit (.string [111, 114, 114]), .lit (.string [98, 105, 99]), .lit (.string [97, 100, 100]), .lit (.string [97, 100, 99]), .lit (.string [115, 117, 98]), .lit (.string [115, 98, 99]), .lit (.string [114, 115, 98]), .lit (.string [109, 111, 118]), .lit (.string [109, 118, 110]), .lit (.string [99, 109, 112]), .lit (.string [99, 109, 110]), .lit (.string [116, 115, 116]), .lit (.string [116, 101, 113]), .lit (.string [108, 115, 108]), .lit (.string [108, 115, 114]), .lit (.string [97, 115, 114]), .lit (.string [114, 111, 114]), .lit (.string [109, 117, 108]), .lit (.string [117, 100, 105, 118]), .lit (.string [115, 100, 105, 118]), .lit (.string [109, 111, 118, 119]), .lit (.string [109, 111, 118, 116]), .lit (.string [108, 100, 114]), .lit (.string [108, 100, 114, 98]), .lit (.string [108, 100, 114, 104]), .lit (.string [115, 116, 114]), .lit (.string [115, 116, 114, 98]), .lit (.string [115, 116, 114, 104]), .lit (.string [108, 100, 109]), .lit (.string [115, 116, 109]), .lit (.string [112, 117, 115, 104]), .lit (.string [112, 111, 112]), .lit (.string [98]), .lit (.string [98, 108]), .lit (.string [99, 98, 122]), .lit (.string [99, 98, 110, 122]), .lit (.string [98, 120]), .lit (.string [108, 100, 114]), .lit (.string [97, 100, 114]), .lit (.string [105, 116]), .lit (.string [110, 111, 112]), .lit (.string [98, 107, 112, 116]), .lit (.string [116, 98, 98])]

/-- 'cartouchelaw06.IsaNames': WHATEVER THE INPUT: true; the input reads as it did. -/
def isaNamesSpec : ChangeSpec := { name := "isaNames", fn := fun _ => fun
  | [d1, d2] => { results := [.lit (.bool true)], args := [d1, d2] }
  | _ => none }
def isaNamesRow : OpenClaim := { program := "ythnjpgiaofedoaadoor", sum := "10950abfd7d6253ac9439c2b492e2a725d1b706a6dac54b4b0123489a0863ee5", func := "cartouche/cartouchelaw06.IsaNames", spec := "isaNames", named := ["cartouche/isa.names"], apart := false, laid := [("cartouche/isa.names", laid_cartouche_isa_names)] }
def IsaNamesSaid : Prop := isaNamesRow.holds Tryd.pinned (OpenSpec.ofChange isaNamesSpec)

/-- ITS FALSE NEIGHBOUR: 'it returns false'. Refute it at one input. -/
def isaNamesWrong : ChangeSpec := { name := "isaNames", fn := fun _ => fun
  | [d1, d2] => { results := [.lit (.bool false)], args := [d1, d2] }
  | _ => none }
def IsaNamesWrongFalsely : Prop := isaNamesRow.holds Tryd.pinned (OpenSpec.ofChange isaNamesWrong)

/-- 'cartouchelaw06.IsaBack': WHATEVER THE INPUT: true; the input reads as it did. -/
def isaBackSpec : ChangeSpec := { name := "isaBack", fn := fun _ => fun
  | [d] => { results := [.lit (.bool true)], args := [d] }
  | _ => none }
def isaBackRow : OpenClaim := { program := "ythnjpgiaofedoaadoor", sum := "10950abfd7d6253ac9439c2b492e2a725d1b706a6dac54b4b0123489a0863ee5", func := "cartouche/cartouchelaw06.IsaBack", spec := "isaBack", named := ["cartouche/isa.names"], apart := false, laid := [("cartouche/isa.names", laid_cartouche_isa_names)] }
def IsaBackSaid : Prop := isaBackRow.holds Tryd.pinned (OpenSpec.ofChange isaBackSpec)

/-- ITS FALSE NEIGHBOUR: 'it returns false'. Refute it at one input. -/
def isaBackWrong : ChangeSpec := { name := "isaBack", fn := fun _ => fun
  | [d] => { results := [.lit (.bool false)], args := [d] }
  | _ => none }
def IsaBackWrongFalsely : Prop := isaBackRow.holds Tryd.pinned (OpenSpec.ofChange isaBackWrong)

/-- 'cartouchelaw06.IsaBare': WHATEVER THE INPUT: true; the input reads as it did. -/
def isaBareSpec : ChangeSpec := { name := "isaBare", fn := fun _ => fun
  | [d] => { results := [.lit (.bool true)], args := [d] }
  | _ => none }
def isaBareRow : OpenClaim := { program := "ythnjpgiaofedoaadoor", sum := "10950abfd7d6253ac9439c2b492e2a725d1b706a6dac54b4b0123489a0863ee5", func := "cartouche/cartouchelaw06.IsaBare", spec := "isaBare", named := ["cartouche/isa.names"], apart := false, laid := [("cartouche/isa.names", laid_cartouche_isa_names)] }
def IsaBareSaid : Prop := isaBareRow.holds Tryd.pinned (OpenSpec.ofChange isaBareSpec)

/-- ITS FALSE NEIGHBOUR: 'it returns false'. Refute it at one input. -/
def isaBareWrong : ChangeSpec := { name := "isaBare", fn := fun _ => fun
  | [d] => { results := [.lit (.bool false)], args := [d] }
  | _ => none }
def IsaBareWrongFalsely : Prop := isaBareRow.holds Tryd.pinned (OpenSpec.ofChange isaBareWrong)

/-- 'cartouchelaw06.IsaPlain': WHATEVER THE INPUT: true; the input reads as it did. -/
def isaPlainSpec : ChangeSpec := { name := "isaPlain", fn := fun _ => fun
  | [d] => { results := [.lit (.bool true)], args := [d] }
  | _ => none }
def isaPlainRow : OpenClaim := { program := "ythnjpgiaofedoaadoor", sum := "10950abfd7d6253ac9439c2b492e2a725d1b706a6dac54b4b0123489a0863ee5", func := "cartouche/cartouchelaw06.IsaPlain", spec := "isaPlain", named := ["cartouche/isa.names"], apart := false, laid := [("cartouche/isa.names", laid_cartouche_isa_names)] }
def IsaPlainSaid : Prop := isaPlainRow.holds Tryd.pinned (OpenSpec.ofChange isaPlainSpec)

/-- ITS FALSE NEIGHBOUR: 'it returns false'. Refute it at one input. -/
def isaPlainWrong : ChangeSpec := { name := "isaPlain", fn := fun _ => fun
  | [d] => { results := [.lit (.bool false)], args := [d] }
  | _ => none }
def IsaPlainWrongFalsely : Prop := isaPlainRow.holds Tryd.pinned (OpenSpec.ofChange isaPlainWrong)

/- THE SECOND FORM. 'bulk': how many values and letters a reading holds, each counted each time it is reached (what is shared counts as often as it is met; a slice's spare places count too). A statement '..UptoSaid' is the law's where the arguments, and the package variables that the reading takes, are together of bulk at most 1048576: NARROWER than '..Said'. Prove '..Said' where nothing that the law and all that it calls make is longer than what came in: it says more and counts as full. Else prove '..UptoSaid'. A law counts once. -/
mutual
def uptoBulk {H : Type} : DataW H → Nat
  | .lit (.string bytes) => bytes.length + 1
  | .lit _ => 1
  | .nil => 1
  | .ptr d => uptoBulk d + 1
  | .slice elems spare => uptoBulkAll elems + uptoBulkAll spare + 1
  | .agg parts => uptoBulkAll parts + 1
  | .iface _ d => uptoBulk d + 1
  | .map entries => uptoBulkEntries entries + 1
  | .held _ => 1
def uptoBulkAll {H : Type} : List (DataW H) → Nat
  | [] => 0
  | d :: r => uptoBulk d + uptoBulkAll r
def uptoBulkEntries {H : Type} : List (Lit × DataW H) → Nat
  | [] => 0
  | x :: r => uptoBulkEntry x + uptoBulkEntries r
def uptoBulkEntry {H : Type} : Lit × DataW H → Nat
  | (.string bytes, d) => bytes.length + uptoBulk d + 1
  | (_, d) => uptoBulk d + 1
 end
def uptoSmall : (H : Type) → List (DataW H) → Bool := fun _ ds => decide (uptoBulkAll ds ≤ 1048576)
def OpenSpec.upto (s : _root_.Go.ChangeSpec) : _root_.Go.OpenSpec := { _root_.Go.OpenSpec.ofChange s with cond := some uptoSmall }

/-- 'cartouchelaw06.IsaNames', WHERE WHAT IT READS IS OF BULK AT MOST 1048576: true; the input reads as it did. -/
def isaNamesUptoRow : OpenClaim := { program := "ythnjpgiaofedoaadoor", sum := "10950abfd7d6253ac9439c2b492e2a725d1b706a6dac54b4b0123489a0863ee5", func := "cartouche/cartouchelaw06.IsaNames", spec := "isaNames", named := ["cartouche/isa.names"], apart := false, laid := [("cartouche/isa.names", laid_cartouche_isa_names)], narrowed := true }
def IsaNamesUptoSaid : Prop := isaNamesUptoRow.holds Tryd.pinned (OpenSpec.upto isaNamesSpec)

/-- 'cartouchelaw06.IsaBack', WHERE WHAT IT READS IS OF BULK AT MOST 1048576: true; the input reads as it did. -/
def isaBackUptoRow : OpenClaim := { program := "ythnjpgiaofedoaadoor", sum := "10950abfd7d6253ac9439c2b492e2a725d1b706a6dac54b4b0123489a0863ee5", func := "cartouche/cartouchelaw06.IsaBack", spec := "isaBack", named := ["cartouche/isa.names"], apart := false, laid := [("cartouche/isa.names", laid_cartouche_isa_names)], narrowed := true }
def IsaBackUptoSaid : Prop := isaBackUptoRow.holds Tryd.pinned (OpenSpec.upto isaBackSpec)

/-- 'cartouchelaw06.IsaBare', WHERE WHAT IT READS IS OF BULK AT MOST 1048576: true; the input reads as it did. -/
def isaBareUptoRow : OpenClaim := { program := "ythnjpgiaofedoaadoor", sum := "10950abfd7d6253ac9439c2b492e2a725d1b706a6dac54b4b0123489a0863ee5", func := "cartouche/cartouchelaw06.IsaBare", spec := "isaBare", named := ["cartouche/isa.names"], apart := false, laid := [("cartouche/isa.names", laid_cartouche_isa_names)], narrowed := true }
def IsaBareUptoSaid : Prop := isaBareUptoRow.holds Tryd.pinned (OpenSpec.upto isaBareSpec)

/-- 'cartouchelaw06.IsaPlain', WHERE WHAT IT READS IS OF BULK AT MOST 1048576: true; the input reads as it did. -/
def isaPlainUptoRow : OpenClaim := { program := "ythnjpgiaofedoaadoor", sum := "10950abfd7d6253ac9439c2b492e2a725d1b706a6dac54b4b0123489a0863ee5", func := "cartouche/cartouchelaw06.IsaPlain", spec := "isaPlain", named := ["cartouche/isa.names"], apart := false, laid := [("cartouche/isa.names", laid_cartouche_isa_names)], narrowed := true }
def IsaPlainUptoSaid : Prop := isaPlainUptoRow.holds Tryd.pinned (OpenSpec.upto isaPlainSpec)

end Rows
end Go.Proofs.YthnjpgiaofedoaaDoor
