/-
  NARROWER THAN 'FOR EVERY INPUT', by the rows' own cells (each row's printed sentence says how): EncodeApart: laid.
  DERIVED. THE GIVEN ROWS OF THIS SEAT. 1 by the template 'for every input the law returns true; each argument reads behind the call as it read before'; 0 by the template 'total and deterministic' (their statements: YtmofimgodmcdjaaDoorTotals.lean).
  GIVEN WITH THE SEED: the statements are not yours to turn. If you find one false, say at which input.
  Laid BY PROGRAM, IN A SANDBOX (cutbox-rows.mjs): the forced cells as the released guide's own fill.sh prints them over the translation 5ae7e5804450f675… (all of the seat's roots in one cut). By AI agents, Wed Nov 11 2026. No macro, syntax, notation, axiom, sorry.
-/
import Derived.Test.YtmofimgodmcdjaaDoorChecked
import GoSem.Claim
import GoSem.ClaimJoined
import GoSem.ClaimMapViews
import Derived.JoinedTies
import Derived.KernelRfl
namespace Go.Proofs.YtmofimgodmcdjaaDoor
/- THE CELL 'sum', in the pinned program and in every row, IS THE sha256 OF THE DUMP (.gsa) THAT YtmofimgodmcdjaaDoorProg.lean LOADS. Nothing in Lean hashes anything: it is a label: what it is worth is what the hold of that sum in a sandbox is worth. -/
noncomputable def Tryd.pinned : Pinned := { name := "ytmofimgodmcdjaadoor", sum := "5ae7e5804450f675879a52fcceb8ddb6fcc0291f28ae08114d4fe4163cbee284", checked := Tryd.checked }
namespace Rows
def none {H : Type} : Left H := { results := [], args := [] }

/- WHAT THE LISTED PACKAGE-LEVEL VARIABLES READ AS WHEN THE CALL BEGINS. Each datum BY PROGRAM (the guide's laid-datum.mjs) off the statement by which the dump's own 'gosem.cut.vars' lays the variable. In a bare row this is a premise. The card (YtmofimgodmcdjaaDoorCards.lean) ties it to the program's text. -/
def laid_cartouche_offs_ranges {H : Type} : DataW H := .agg [.agg [.lit (.int .i64 (-256)), .lit (.int .i64 254), .lit (.int .i64 9)], .agg [.lit (.int .i64 (-2048)), .lit (.int .i64 2046), .lit (.int .i64 12)], .agg [.lit (.int .i64 (-1048576)), .lit (.int .i64 1048574), .lit (.int .i64 21)], .agg [.lit (.int .i64 (-16777216)), .lit (.int .i64 16777214), .lit (.int .i64 25)], .agg [.lit (.int .i64 0), .lit (.int .i64 126), .lit (.int .i64 8)]]
def laid_cartouche_offs_pieces {H : Type} : DataW H := .agg [.agg [.lit (.int .i64 1), .lit (.int .i64 0), .lit (.int .i64 0), .lit (.int .i64 8), .lit (.int .i64 1)], .agg [.lit (.int .i64 2), .lit (.int .i64 0), .lit (.int .i64 0), .lit (.int .i64 11), .lit (.int .i64 1)], .agg [.lit (.int .i64 3), .lit (.int .i64 0), .lit (.int .i64 10), .lit (.int .i64 20), .lit (.int .i64 20)], .agg [.lit (.int .i64 3), .lit (.int .i64 0), .lit (.int .i64 0), .lit (.int .i64 17), .lit (.int .i64 12)], .agg [.lit (.int .i64 3), .lit (.int .i64 1), .lit (.int .i64 13), .lit (.int .i64 18), .lit (.int .i64 18)], .agg [.lit (.int .i64 3), .lit (.int .i64 1), .lit (.int .i64 11), .lit (.int .i64 19), .lit (.int .i64 19)], .agg [.lit (.int .i64 3), .lit (.int .i64 1), .lit (.int .i64 0), .lit (.int .i64 11), .lit (.int .i64 1)], .agg [.lit (.int .i64 4), .lit (.int .i64 0), .lit (.int .i64 10), .lit (.int .i64 24), .lit (.int .i64 24)], .agg [.lit (.int .i64 4), .lit (.int .i64 0), .lit (.int .i64 0), .lit (.int .i64 21), .lit (.int .i64 12)], .agg [.lit (.int .i64 4), .lit (.int .i64 1), .lit (.int .i64 13), .lit (.int .i64 23), .lit (.int .i64 23)], .agg [.lit (.int .i64 4), .lit (.int .i64 1), .lit (.int .i64 11), .lit (.int .i64 22), .lit (.int .i64 22)], .agg [.lit (.int .i64 4), .lit (.int .i64 1), .lit (.int .i64 0), .lit (.int .i64 11), .lit (.int .i64 1)], .agg [.lit (.int .i64 5), .lit (.int .i64 0), .lit (.int .i64 9), .lit (.int .i64 6), .lit (.int .i64 6)], .agg [.lit (.int .i64 5), .lit (.int .i64 0), .lit (.int .i64 3), .lit (.int .i64 5), .lit (.int .i64 1)]]

/-- 'cartouchelaw09.EncodeApart': WHATEVER THE INPUT: true; the input reads as it did. -/
def encodeApartSpec : ChangeSpec := { name := "encodeApart", fn := fun _ => fun
  | [d1, d2, d3] => { results := [.lit (.bool true)], args := [d1, d2, d3] }
  | _ => none }
def encodeApartRow : OpenClaim := { program := "ytmofimgodmcdjaadoor", sum := "5ae7e5804450f675879a52fcceb8ddb6fcc0291f28ae08114d4fe4163cbee284", func := "cartouche/cartouchelaw09.EncodeApart", spec := "encodeApart", unfollowed := true, recurses := true, named := ["cartouche/offs.ranges", "cartouche/offs.pieces"], apart := false, laid := [("cartouche/offs.ranges", laid_cartouche_offs_ranges), ("cartouche/offs.pieces", laid_cartouche_offs_pieces)] }
def EncodeApartSaid : Prop := encodeApartRow.holds Tryd.pinned (OpenSpec.ofChange encodeApartSpec)

/-- ITS FALSE NEIGHBOUR: 'it returns false'. Refute it at one input. -/
def encodeApartWrong : ChangeSpec := { name := "encodeApart", fn := fun _ => fun
  | [d1, d2, d3] => { results := [.lit (.bool false)], args := [d1, d2, d3] }
  | _ => none }
def EncodeApartWrongFalsely : Prop := encodeApartRow.holds Tryd.pinned (OpenSpec.ofChange encodeApartWrong)

/- THE SECOND FORM. 'bulk': how many values and letters a reading holds, each counted each time it is reached (what is shared counts as often as it is met; a slice's spare places count too). A statement '..UptoSaid' is the law's where the arguments, and the package variables that the reading takes, are together of bulk at most 1048576: NARROWER than '..Said'. Prove '..Said' where nothing that the law and all that it calls make is longer than what came in: it says more and counts as full. Else prove '..UptoSaid'. A law counts once. -/
mutual
def uptoBulk {H : Type} : DataW H → Nat
  | .lit (.string bytes) => bytes.length + 1
  | .lit _ => 1
  | .nil => 1
  | .ptr d => uptoBulk d + 1
  | .slice elems spare => uptoBulkAll elems + uptoBulkAll spare + 1
  | .agg parts => uptoBulkAll parts + 1
  | .iface _ d => uptoBulk d + 1
  | .map entries => uptoBulkEntries entries + 1
  | .held _ => 1
def uptoBulkAll {H : Type} : List (DataW H) → Nat
  | [] => 0
  | d :: r => uptoBulk d + uptoBulkAll r
def uptoBulkEntries {H : Type} : List (Lit × DataW H) → Nat
  | [] => 0
  | x :: r => uptoBulkEntry x + uptoBulkEntries r
def uptoBulkEntry {H : Type} : Lit × DataW H → Nat
  | (.string bytes, d) => bytes.length + uptoBulk d + 1
  | (_, d) => uptoBulk d + 1
 end
def uptoSmall : (H : Type) → List (DataW H) → Bool := fun _ ds => decide (uptoBulkAll ds ≤ 1048576)
def OpenSpec.upto (s : _root_.Go.ChangeSpec) : _root_.Go.OpenSpec := { _root_.Go.OpenSpec.ofChange s with cond := some uptoSmall }

/-- 'cartouchelaw09.EncodeApart', WHERE WHAT IT READS IS OF BULK AT MOST 1048576: true; the input reads as it did. -/
def encodeApartUptoRow : OpenClaim := { program := "ytmofimgodmcdjaadoor", sum := "5ae7e5804450f675879a52fcceb8ddb6fcc0291f28ae08114d4fe4163cbee284", func := "cartouche/cartouchelaw09.EncodeApart", spec := "encodeApart", unfollowed := true, recurses := true, named := ["cartouche/offs.ranges", "cartouche/offs.pieces"], apart := false, laid := [("cartouche/offs.ranges", laid_cartouche_offs_ranges), ("cartouche/offs.pieces", laid_cartouche_offs_pieces)], narrowed := true }
def EncodeApartUptoSaid : Prop := encodeApartUptoRow.holds Tryd.pinned (OpenSpec.upto encodeApartSpec)

end Rows
end Go.Proofs.YtmofimgodmcdjaaDoor
