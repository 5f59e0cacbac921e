/-
  NARROWER THAN 'FOR EVERY INPUT', by the rows' own cells (each row's printed sentence says how): TallLow: laid · TallBlocks: laid.
  DERIVED. THE GIVEN ROWS OF THIS SEAT. 2 by the template 'for every input the law returns true; each argument reads behind the call as it read before'; 0 by the template 'total and deterministic' (their statements: YtdcnkmkaafimlaaDoorTotals.lean).
  GIVEN WITH THE SEED: the statements are not yours to turn. If you find one false, say at which input.
  Laid BY PROGRAM, IN A SANDBOX (cutbox-rows.mjs): the forced cells as the released guide's own fill.sh prints them over the translation e543a72c00edfb3b… (all of the seat's roots in one cut). By AI agents, Wed Nov 11 2026. No macro, syntax, notation, axiom, sorry.
-/
import Derived.Test.YtdcnkmkaafimlaaDoorChecked
import GoSem.Claim
import GoSem.ClaimJoined
import GoSem.ClaimMapViews
import Derived.JoinedTies
import Derived.KernelRfl
namespace Go.Proofs.YtdcnkmkaafimlaaDoor
/- THE CELL 'sum', in the pinned program and in every row, IS THE sha256 OF THE DUMP (.gsa) THAT YtdcnkmkaafimlaaDoorProg.lean LOADS. Nothing in Lean hashes anything: it is a label: what it is worth is what the hold of that sum in a sandbox is worth. -/
noncomputable def Tryd.pinned : Pinned := { name := "ytdcnkmkaafimlaadoor", sum := "e543a72c00edfb3be39e96e4b5b926ba33ff7efc25e215cc70150d22fc19989f", checked := Tryd.checked }
namespace Rows
def none {H : Type} : Left H := { results := [], args := [] }

/- WHAT THE LISTED PACKAGE-LEVEL VARIABLES READ AS WHEN THE CALL BEGINS. Each datum BY PROGRAM (the guide's laid-datum.mjs) off the statement by which the dump's own 'gosem.cut.vars' lays the variable. In a bare row this is a premise. The card (YtdcnkmkaafimlaaDoorCards.lean) ties it to the program's text. -/
def laid_cartouche_offs_ranges {H : Type} : DataW H := .agg [.agg [.lit (.int .i64 (-256)), .lit (.int .i64 254), .lit (.int .i64 9)], .agg [.lit (.int .i64 (-2048)), .lit (.int .i64 2046), .lit (.int .i64 12)], .agg [.lit (.int .i64 (-1048576)), .lit (.int .i64 1048574), .lit (.int .i64 21)], .agg [.lit (.int .i64 (-16777216)), .lit (.int .i64 16777214), .lit (.int .i64 25)], .agg [.lit (.int .i64 0), .lit (.int .i64 126), .lit (.int .i64 8)]]
def laid_cartouche_offs_pieces {H : Type} : DataW H := .agg [.agg [.lit (.int .i64 1), .lit (.int .i64 0), .lit (.int .i64 0), .lit (.int .i64 8), .lit (.int .i64 1)], .agg [.lit (.int .i64 2), .lit (.int .i64 0), .lit (.int .i64 0), .lit (.int .i64 11), .lit (.int .i64 1)], .agg [.lit (.int .i64 3), .lit (.int .i64 0), .lit (.int .i64 10), .lit (.int .i64 20), .lit (.int .i64 20)], .agg [.lit (.int .i64 3), .lit (.int .i64 0), .lit (.int .i64 0), .lit (.int .i64 17), .lit (.int .i64 12)], .agg [.lit (.int .i64 3), .lit (.int .i64 1), .lit (.int .i64 13), .lit (.int .i64 18), .lit (.int .i64 18)], .agg [.lit (.int .i64 3), .lit (.int .i64 1), .lit (.int .i64 11), .lit (.int .i64 19), .lit (.int .i64 19)], .agg [.lit (.int .i64 3), .lit (.int .i64 1), .lit (.int .i64 0), .lit (.int .i64 11), .lit (.int .i64 1)], .agg [.lit (.int .i64 4), .lit (.int .i64 0), .lit (.int .i64 10), .lit (.int .i64 24), .lit (.int .i64 24)], .agg [.lit (.int .i64 4), .lit (.int .i64 0), .lit (.int .i64 0), .lit (.int .i64 21), .lit (.int .i64 12)], .agg [.lit (.int .i64 4), .lit (.int .i64 1), .lit (.int .i64 13), .lit (.int .i64 23), .lit (.int .i64 23)], .agg [.lit (.int .i64 4), .lit (.int .i64 1), .lit (.int .i64 11), .lit (.int .i64 22), .lit (.int .i64 22)], .agg [.lit (.int .i64 4), .lit (.int .i64 1), .lit (.int .i64 0), .lit (.int .i64 11), .lit (.int .i64 1)], .agg [.lit (.int .i64 5), .lit (.int .i64 0), .lit (.int .i64 9), .lit (.int .i64 6), .lit (.int .i64 6)], .agg [.lit (.int .i64 5), .lit (.int .i64 0), .lit (.int .i64 3), .lit (.int .i64 5), .lit (.int .i64 1)]]
def laid_cartouche_tall_whole {H : Type} : DataW H := .agg [.lit (.int .i64 1), .lit (.int .i64 4), .lit (.int .i64 3), .lit (.int .i64 0), .lit (.int .i64 2), .lit (.int .i64 0), .lit (.int .i64 0), .lit (.int .i64 0), .lit (.int .i64 5), .lit (.int .i64 0), .lit (.int .i64 6), .lit (.int .i64 8), .lit (.int .i64 0), .lit (.int .i64 7), .lit (.int .i64 9), .lit (.int .i64 0)]
def laid_cartouche_tall_moves {H : Type} : DataW H := .agg [.lit (.int .i64 0), .lit (.int .i64 0), .lit (.int .i64 10), .lit (.int .i64 11), .lit (.int .i64 0), .lit (.int .i64 0), .lit (.int .i64 0), .lit (.int .i64 0), .lit (.int .i64 0), .lit (.int .i64 0), .lit (.int .i64 0), .lit (.int .i64 0), .lit (.int .i64 0), .lit (.int .i64 0), .lit (.int .i64 0), .lit (.int .i64 0)]
def laid_cartouche_tall_comparisons {H : Type} : DataW H := .agg [.lit (.int .i64 14), .lit (.int .i64 0), .lit (.int .i64 0), .lit (.int .i64 0), .lit (.int .i64 15), .lit (.int .i64 0), .lit (.int .i64 0), .lit (.int .i64 0), .lit (.int .i64 13), .lit (.int .i64 0), .lit (.int .i64 0), .lit (.int .i64 0), .lit (.int .i64 0), .lit (.int .i64 12), .lit (.int .i64 0), .lit (.int .i64 0)]

/-- 'cartouchelaw11.TallLow': WHATEVER THE INPUT: true; the input reads as it did. -/
def tallLowSpec : ChangeSpec := { name := "tallLow", fn := fun _ => fun
  | [d1, d2, d3] => { results := [.lit (.bool true)], args := [d1, d2, d3] }
  | _ => none }
def tallLowRow : OpenClaim := { program := "ytdcnkmkaafimlaadoor", sum := "e543a72c00edfb3be39e96e4b5b926ba33ff7efc25e215cc70150d22fc19989f", func := "cartouche/cartouchelaw11.TallLow", spec := "tallLow", unfollowed := true, recurses := true, named := ["cartouche/tall.whole", "cartouche/tall.moves", "cartouche/tall.comparisons", "cartouche/offs.pieces", "cartouche/offs.ranges"], apart := false, laid := [("cartouche/offs.ranges", laid_cartouche_offs_ranges), ("cartouche/offs.pieces", laid_cartouche_offs_pieces), ("cartouche/tall.whole", laid_cartouche_tall_whole), ("cartouche/tall.moves", laid_cartouche_tall_moves), ("cartouche/tall.comparisons", laid_cartouche_tall_comparisons)] }
def TallLowSaid : Prop := tallLowRow.holds Tryd.pinned (OpenSpec.ofChange tallLowSpec)

/-- ITS FALSE NEIGHBOUR: 'it returns false'. Refute it at one input. -/
def tallLowWrong : ChangeSpec := { name := "tallLow", fn := fun _ => fun
  | [d1, d2, d3] => { results := [.lit (.bool false)], args := [d1, d2, d3] }
  | _ => none }
def TallLowWrongFalsely : Prop := tallLowRow.holds Tryd.pinned (OpenSpec.ofChange tallLowWrong)

/-- 'cartouchelaw11.TallBlocks': WHATEVER THE INPUT: true; the input reads as it did. -/
def tallBlocksSpec : ChangeSpec := { name := "tallBlocks", fn := fun _ => fun
  | [d1, d2] => { results := [.lit (.bool true)], args := [d1, d2] }
  | _ => none }
def tallBlocksRow : OpenClaim := { program := "ytdcnkmkaafimlaadoor", sum := "e543a72c00edfb3be39e96e4b5b926ba33ff7efc25e215cc70150d22fc19989f", func := "cartouche/cartouchelaw11.TallBlocks", spec := "tallBlocks", unfollowed := true, recurses := true, named := ["cartouche/tall.whole", "cartouche/tall.moves", "cartouche/tall.comparisons", "cartouche/offs.pieces", "cartouche/offs.ranges"], apart := false, laid := [("cartouche/offs.ranges", laid_cartouche_offs_ranges), ("cartouche/offs.pieces", laid_cartouche_offs_pieces), ("cartouche/tall.whole", laid_cartouche_tall_whole), ("cartouche/tall.moves", laid_cartouche_tall_moves), ("cartouche/tall.comparisons", laid_cartouche_tall_comparisons)] }
def TallBlocksSaid : Prop := tallBlocksRow.holds Tryd.pinned (OpenSpec.ofChange tallBlocksSpec)

/-- ITS FALSE NEIGHBOUR: 'it returns false'. Refute it at one input. -/
def tallBlocksWrong : ChangeSpec := { name := "tallBlocks", fn := fun _ => fun
  | [d1, d2] => { results := [.lit (.bool false)], args := [d1, d2] }
  | _ => none }
def TallBlocksWrongFalsely : Prop := tallBlocksRow.holds Tryd.pinned (OpenSpec.ofChange tallBlocksWrong)

/- THE SECOND FORM. 'bulk': how many values and letters a reading holds, each counted each time it is reached (what is shared counts as often as it is met; a slice's spare places count too). A statement '..UptoSaid' is the law's where the arguments, and the package variables that the reading takes, are together of bulk at most 1048576: NARROWER than '..Said'. Prove '..Said' where nothing that the law and all that it calls make is longer than what came in: it says more and counts as full. Else prove '..UptoSaid'. A law counts once. -/
mutual
def uptoBulk {H : Type} : DataW H → Nat
  | .lit (.string bytes) => bytes.length + 1
  | .lit _ => 1
  | .nil => 1
  | .ptr d => uptoBulk d + 1
  | .slice elems spare => uptoBulkAll elems + uptoBulkAll spare + 1
  | .agg parts => uptoBulkAll parts + 1
  | .iface _ d => uptoBulk d + 1
  | .map entries => uptoBulkEntries entries + 1
  | .held _ => 1
def uptoBulkAll {H : Type} : List (DataW H) → Nat
  | [] => 0
  | d :: r => uptoBulk d + uptoBulkAll r
def uptoBulkEntries {H : Type} : List (Lit × DataW H) → Nat
  | [] => 0
  | x :: r => uptoBulkEntry x + uptoBulkEntries r
def uptoBulkEntry {H : Type} : Lit × DataW H → Nat
  | (.string bytes, d) => bytes.length + uptoBulk d + 1
  | (_, d) => uptoBulk d + 1
 end
def uptoSmall : (H : Type) → List (DataW H) → Bool := fun _ ds => decide (uptoBulkAll ds ≤ 1048576)
def OpenSpec.upto (s : _root_.Go.ChangeSpec) : _root_.Go.OpenSpec := { _root_.Go.OpenSpec.ofChange s with cond := some uptoSmall }

/-- 'cartouchelaw11.TallLow', WHERE WHAT IT READS IS OF BULK AT MOST 1048576: true; the input reads as it did. -/
def tallLowUptoRow : OpenClaim := { program := "ytdcnkmkaafimlaadoor", sum := "e543a72c00edfb3be39e96e4b5b926ba33ff7efc25e215cc70150d22fc19989f", func := "cartouche/cartouchelaw11.TallLow", spec := "tallLow", unfollowed := true, recurses := true, named := ["cartouche/tall.whole", "cartouche/tall.moves", "cartouche/tall.comparisons", "cartouche/offs.pieces", "cartouche/offs.ranges"], apart := false, laid := [("cartouche/offs.ranges", laid_cartouche_offs_ranges), ("cartouche/offs.pieces", laid_cartouche_offs_pieces), ("cartouche/tall.whole", laid_cartouche_tall_whole), ("cartouche/tall.moves", laid_cartouche_tall_moves), ("cartouche/tall.comparisons", laid_cartouche_tall_comparisons)], narrowed := true }
def TallLowUptoSaid : Prop := tallLowUptoRow.holds Tryd.pinned (OpenSpec.upto tallLowSpec)

/-- 'cartouchelaw11.TallBlocks', WHERE WHAT IT READS IS OF BULK AT MOST 1048576: true; the input reads as it did. -/
def tallBlocksUptoRow : OpenClaim := { program := "ytdcnkmkaafimlaadoor", sum := "e543a72c00edfb3be39e96e4b5b926ba33ff7efc25e215cc70150d22fc19989f", func := "cartouche/cartouchelaw11.TallBlocks", spec := "tallBlocks", unfollowed := true, recurses := true, named := ["cartouche/tall.whole", "cartouche/tall.moves", "cartouche/tall.comparisons", "cartouche/offs.pieces", "cartouche/offs.ranges"], apart := false, laid := [("cartouche/offs.ranges", laid_cartouche_offs_ranges), ("cartouche/offs.pieces", laid_cartouche_offs_pieces), ("cartouche/tall.whole", laid_cartouche_tall_whole), ("cartouche/tall.moves", laid_cartouche_tall_moves), ("cartouche/tall.comparisons", laid_cartouche_tall_comparisons)], narrowed := true }
def TallBlocksUptoSaid : Prop := tallBlocksUptoRow.holds Tryd.pinned (OpenSpec.upto tallBlocksSpec)

end Rows
end Go.Proofs.YtdcnkmkaafimlaaDoor
