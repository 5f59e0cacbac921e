/-
  NARROWER THAN 'FOR EVERY INPUT', by the rows' own cells (each row's printed sentence says how): ShortDecodes: laid · ShortBack: laid · ShortMay: laid · ShortLong: laid · ShortBlocks: laid.
  DERIVED. THE GIVEN ROWS OF THIS SEAT. 5 by the template 'for every input the law returns true; each argument reads behind the call as it read before'; 0 by the template 'total and deterministic' (their statements: YtcphhojdfpedkaaDoorTotals.lean).
  GIVEN WITH THE SEED: the statements are not yours to turn. If you find one false, say at which input.
  Laid BY PROGRAM, IN A SANDBOX (cutbox-rows.mjs): the forced cells as the released guide's own fill.sh prints them over the translation 2c186d9fb01490c9… (all of the seat's roots in one cut). By AI agents, Wed Nov 11 2026. No macro, syntax, notation, axiom, sorry.
-/
import Derived.Test.YtcphhojdfpedkaaDoorChecked
import GoSem.Claim
import GoSem.ClaimJoined
import GoSem.ClaimMapViews
import Derived.JoinedTies
import Derived.KernelRfl
namespace Go.Proofs.YtcphhojdfpedkaaDoor
/- THE CELL 'sum', in the pinned program and in every row, IS THE sha256 OF THE DUMP (.gsa) THAT YtcphhojdfpedkaaDoorProg.lean LOADS. Nothing in Lean hashes anything: it is a label: what it is worth is what the hold of that sum in a sandbox is worth. -/
noncomputable def Tryd.pinned : Pinned := { name := "ytcphhojdfpedkaadoor", sum := "2c186d9fb01490c9b46314a2d3caf13a6da287c32ad0e0f54740b0d59a83b351", checked := Tryd.checked }
namespace Rows
def none {H : Type} : Left H := { results := [], args := [] }

/- WHAT THE LISTED PACKAGE-LEVEL VARIABLES READ AS WHEN THE CALL BEGINS. Each datum BY PROGRAM (the guide's laid-datum.mjs) off the statement by which the dump's own 'gosem.cut.vars' lays the variable. In a bare row this is a premise. The card (YtcphhojdfpedkaaDoorCards.lean) ties it to the program's text. -/
def laid_cartouche_offs_ranges {H : Type} : DataW H := .agg [.agg [.lit (.int .i64 (-256)), .lit (.int .i64 254), .lit (.int .i64 9)], .agg [.lit (.int .i64 (-2048)), .lit (.int .i64 2046), .lit (.int .i64 12)], .agg [.lit (.int .i64 (-1048576)), .lit (.int .i64 1048574), .lit (.int .i64 21)], .agg [.lit (.int .i64 (-16777216)), .lit (.int .i64 16777214), .lit (.int .i64 25)], .agg [.lit (.int .i64 0), .lit (.int .i64 126), .lit (.int .i64 8)]]
def laid_cartouche_offs_pieces {H : Type} : DataW H := .agg [.agg [.lit (.int .i64 1), .lit (.int .i64 0), .lit (.int .i64 0), .lit (.int .i64 8), .lit (.int .i64 1)], .agg [.lit (.int .i64 2), .lit (.int .i64 0), .lit (.int .i64 0), .lit (.int .i64 11), .lit (.int .i64 1)], .agg [.lit (.int .i64 3), .lit (.int .i64 0), .lit (.int .i64 10), .lit (.int .i64 20), .lit (.int .i64 20)], .agg [.lit (.int .i64 3), .lit (.int .i64 0), .lit (.int .i64 0), .lit (.int .i64 17), .lit (.int .i64 12)], .agg [.lit (.int .i64 3), .lit (.int .i64 1), .lit (.int .i64 13), .lit (.int .i64 18), .lit (.int .i64 18)], .agg [.lit (.int .i64 3), .lit (.int .i64 1), .lit (.int .i64 11), .lit (.int .i64 19), .lit (.int .i64 19)], .agg [.lit (.int .i64 3), .lit (.int .i64 1), .lit (.int .i64 0), .lit (.int .i64 11), .lit (.int .i64 1)], .agg [.lit (.int .i64 4), .lit (.int .i64 0), .lit (.int .i64 10), .lit (.int .i64 24), .lit (.int .i64 24)], .agg [.lit (.int .i64 4), .lit (.int .i64 0), .lit (.int .i64 0), .lit (.int .i64 21), .lit (.int .i64 12)], .agg [.lit (.int .i64 4), .lit (.int .i64 1), .lit (.int .i64 13), .lit (.int .i64 23), .lit (.int .i64 23)], .agg [.lit (.int .i64 4), .lit (.int .i64 1), .lit (.int .i64 11), .lit (.int .i64 22), .lit (.int .i64 22)], .agg [.lit (.int .i64 4), .lit (.int .i64 1), .lit (.int .i64 0), .lit (.int .i64 11), .lit (.int .i64 1)], .agg [.lit (.int .i64 5), .lit (.int .i64 0), .lit (.int .i64 9), .lit (.int .i64 6), .lit (.int .i64 6)], .agg [.lit (.int .i64 5), .lit (.int .i64 0), .lit (.int .i64 3), .lit (.int .i64 5), .lit (.int .i64 1)]]

/-- 'cartouchelaw10.ShortDecodes': WHATEVER THE INPUT: true; the input reads as it did. -/
def shortDecodesSpec : ChangeSpec := { name := "shortDecodes", fn := fun _ => fun
  | [d1, d2] => { results := [.lit (.bool true)], args := [d1, d2] }
  | _ => none }
def shortDecodesRow : OpenClaim := { program := "ytcphhojdfpedkaadoor", sum := "2c186d9fb01490c9b46314a2d3caf13a6da287c32ad0e0f54740b0d59a83b351", func := "cartouche/cartouchelaw10.ShortDecodes", spec := "shortDecodes", unfollowed := true, recurses := true, named := ["cartouche/offs.pieces", "cartouche/offs.ranges"], apart := false, laid := [("cartouche/offs.ranges", laid_cartouche_offs_ranges), ("cartouche/offs.pieces", laid_cartouche_offs_pieces)] }
def ShortDecodesSaid : Prop := shortDecodesRow.holds Tryd.pinned (OpenSpec.ofChange shortDecodesSpec)

/-- ITS FALSE NEIGHBOUR: 'it returns false'. Refute it at one input. -/
def shortDecodesWrong : ChangeSpec := { name := "shortDecodes", fn := fun _ => fun
  | [d1, d2] => { results := [.lit (.bool false)], args := [d1, d2] }
  | _ => none }
def ShortDecodesWrongFalsely : Prop := shortDecodesRow.holds Tryd.pinned (OpenSpec.ofChange shortDecodesWrong)

/-- 'cartouchelaw10.ShortBack': WHATEVER THE INPUT: true; the input reads as it did. -/
def shortBackSpec : ChangeSpec := { name := "shortBack", fn := fun _ => fun
  | [d1, d2] => { results := [.lit (.bool true)], args := [d1, d2] }
  | _ => none }
def shortBackRow : OpenClaim := { program := "ytcphhojdfpedkaadoor", sum := "2c186d9fb01490c9b46314a2d3caf13a6da287c32ad0e0f54740b0d59a83b351", func := "cartouche/cartouchelaw10.ShortBack", spec := "shortBack", unfollowed := true, recurses := true, named := ["cartouche/offs.pieces", "cartouche/offs.ranges"], apart := false, laid := [("cartouche/offs.ranges", laid_cartouche_offs_ranges), ("cartouche/offs.pieces", laid_cartouche_offs_pieces)] }
def ShortBackSaid : Prop := shortBackRow.holds Tryd.pinned (OpenSpec.ofChange shortBackSpec)

/-- ITS FALSE NEIGHBOUR: 'it returns false'. Refute it at one input. -/
def shortBackWrong : ChangeSpec := { name := "shortBack", fn := fun _ => fun
  | [d1, d2] => { results := [.lit (.bool false)], args := [d1, d2] }
  | _ => none }
def ShortBackWrongFalsely : Prop := shortBackRow.holds Tryd.pinned (OpenSpec.ofChange shortBackWrong)

/-- 'cartouchelaw10.ShortMay': WHATEVER THE INPUT: true; the input reads as it did. -/
def shortMaySpec : ChangeSpec := { name := "shortMay", fn := fun _ => fun
  | [d1, d2] => { results := [.lit (.bool true)], args := [d1, d2] }
  | _ => none }
def shortMayRow : OpenClaim := { program := "ytcphhojdfpedkaadoor", sum := "2c186d9fb01490c9b46314a2d3caf13a6da287c32ad0e0f54740b0d59a83b351", func := "cartouche/cartouchelaw10.ShortMay", spec := "shortMay", unfollowed := true, recurses := true, named := ["cartouche/offs.pieces", "cartouche/offs.ranges"], apart := false, laid := [("cartouche/offs.ranges", laid_cartouche_offs_ranges), ("cartouche/offs.pieces", laid_cartouche_offs_pieces)] }
def ShortMaySaid : Prop := shortMayRow.holds Tryd.pinned (OpenSpec.ofChange shortMaySpec)

/-- ITS FALSE NEIGHBOUR: 'it returns false'. Refute it at one input. -/
def shortMayWrong : ChangeSpec := { name := "shortMay", fn := fun _ => fun
  | [d1, d2] => { results := [.lit (.bool false)], args := [d1, d2] }
  | _ => none }
def ShortMayWrongFalsely : Prop := shortMayRow.holds Tryd.pinned (OpenSpec.ofChange shortMayWrong)

/-- 'cartouchelaw10.ShortLong': WHATEVER THE INPUT: true; the input reads as it did. -/
def shortLongSpec : ChangeSpec := { name := "shortLong", fn := fun _ => fun
  | [d1, d2] => { results := [.lit (.bool true)], args := [d1, d2] }
  | _ => none }
def shortLongRow : OpenClaim := { program := "ytcphhojdfpedkaadoor", sum := "2c186d9fb01490c9b46314a2d3caf13a6da287c32ad0e0f54740b0d59a83b351", func := "cartouche/cartouchelaw10.ShortLong", spec := "shortLong", unfollowed := true, recurses := true, named := ["cartouche/offs.pieces", "cartouche/offs.ranges"], apart := false, laid := [("cartouche/offs.ranges", laid_cartouche_offs_ranges), ("cartouche/offs.pieces", laid_cartouche_offs_pieces)] }
def ShortLongSaid : Prop := shortLongRow.holds Tryd.pinned (OpenSpec.ofChange shortLongSpec)

/-- ITS FALSE NEIGHBOUR: 'it returns false'. Refute it at one input. -/
def shortLongWrong : ChangeSpec := { name := "shortLong", fn := fun _ => fun
  | [d1, d2] => { results := [.lit (.bool false)], args := [d1, d2] }
  | _ => none }
def ShortLongWrongFalsely : Prop := shortLongRow.holds Tryd.pinned (OpenSpec.ofChange shortLongWrong)

/-- 'cartouchelaw10.ShortBlocks': WHATEVER THE INPUT: true; the input reads as it did. -/
def shortBlocksSpec : ChangeSpec := { name := "shortBlocks", fn := fun _ => fun
  | [d] => { results := [.lit (.bool true)], args := [d] }
  | _ => none }
def shortBlocksRow : OpenClaim := { program := "ytcphhojdfpedkaadoor", sum := "2c186d9fb01490c9b46314a2d3caf13a6da287c32ad0e0f54740b0d59a83b351", func := "cartouche/cartouchelaw10.ShortBlocks", spec := "shortBlocks", unfollowed := true, recurses := true, named := ["cartouche/offs.pieces", "cartouche/offs.ranges"], apart := false, laid := [("cartouche/offs.ranges", laid_cartouche_offs_ranges), ("cartouche/offs.pieces", laid_cartouche_offs_pieces)] }
def ShortBlocksSaid : Prop := shortBlocksRow.holds Tryd.pinned (OpenSpec.ofChange shortBlocksSpec)

/-- ITS FALSE NEIGHBOUR: 'it returns false'. Refute it at one input. -/
def shortBlocksWrong : ChangeSpec := { name := "shortBlocks", fn := fun _ => fun
  | [d] => { results := [.lit (.bool false)], args := [d] }
  | _ => none }
def ShortBlocksWrongFalsely : Prop := shortBlocksRow.holds Tryd.pinned (OpenSpec.ofChange shortBlocksWrong)

/- THE SECOND FORM. 'bulk': how many values and letters a reading holds, each counted each time it is reached (what is shared counts as often as it is met; a slice's spare places count too). A statement '..UptoSaid' is the law's where the arguments, and the package variables that the reading takes, are together of bulk at most 1048576: NARROWER than '..Said'. Prove '..Said' where nothing that the law and all that it calls make is longer than what came in: it says more and counts as full. Else prove '..UptoSaid'. A law counts once. -/
mutual
def uptoBulk {H : Type} : DataW H → Nat
  | .lit (.string bytes) => bytes.length + 1
  | .lit _ => 1
  | .nil => 1
  | .ptr d => uptoBulk d + 1
  | .slice elems spare => uptoBulkAll elems + uptoBulkAll spare + 1
  | .agg parts => uptoBulkAll parts + 1
  | .iface _ d => uptoBulk d + 1
  | .map entries => uptoBulkEntries entries + 1
  | .held _ => 1
def uptoBulkAll {H : Type} : List (DataW H) → Nat
  | [] => 0
  | d :: r => uptoBulk d + uptoBulkAll r
def uptoBulkEntries {H : Type} : List (Lit × DataW H) → Nat
  | [] => 0
  | x :: r => uptoBulkEntry x + uptoBulkEntries r
def uptoBulkEntry {H : Type} : Lit × DataW H → Nat
  | (.string bytes, d) => bytes.length + uptoBulk d + 1
  | (_, d) => uptoBulk d + 1
 end
def uptoSmall : (H : Type) → List (DataW H) → Bool := fun _ ds => decide (uptoBulkAll ds ≤ 1048576)
def OpenSpec.upto (s : _root_.Go.ChangeSpec) : _root_.Go.OpenSpec := { _root_.Go.OpenSpec.ofChange s with cond := some uptoSmall }

/-- 'cartouchelaw10.ShortDecodes', WHERE WHAT IT READS IS OF BULK AT MOST 1048576: true; the input reads as it did. -/
def shortDecodesUptoRow : OpenClaim := { program := "ytcphhojdfpedkaadoor", sum := "2c186d9fb01490c9b46314a2d3caf13a6da287c32ad0e0f54740b0d59a83b351", func := "cartouche/cartouchelaw10.ShortDecodes", spec := "shortDecodes", unfollowed := true, recurses := true, named := ["cartouche/offs.pieces", "cartouche/offs.ranges"], apart := false, laid := [("cartouche/offs.ranges", laid_cartouche_offs_ranges), ("cartouche/offs.pieces", laid_cartouche_offs_pieces)], narrowed := true }
def ShortDecodesUptoSaid : Prop := shortDecodesUptoRow.holds Tryd.pinned (OpenSpec.upto shortDecodesSpec)

/-- 'cartouchelaw10.ShortBack', WHERE WHAT IT READS IS OF BULK AT MOST 1048576: true; the input reads as it did. -/
def shortBackUptoRow : OpenClaim := { program := "ytcphhojdfpedkaadoor", sum := "2c186d9fb01490c9b46314a2d3caf13a6da287c32ad0e0f54740b0d59a83b351", func := "cartouche/cartouchelaw10.ShortBack", spec := "shortBack", unfollowed := true, recurses := true, named := ["cartouche/offs.pieces", "cartouche/offs.ranges"], apart := false, laid := [("cartouche/offs.ranges", laid_cartouche_offs_ranges), ("cartouche/offs.pieces", laid_cartouche_offs_pieces)], narrowed := true }
def ShortBackUptoSaid : Prop := shortBackUptoRow.holds Tryd.pinned (OpenSpec.upto shortBackSpec)

/-- 'cartouchelaw10.ShortMay', WHERE WHAT IT READS IS OF BULK AT MOST 1048576: true; the input reads as it did. -/
def shortMayUptoRow : OpenClaim := { program := "ytcphhojdfpedkaadoor", sum := "2c186d9fb01490c9b46314a2d3caf13a6da287c32ad0e0f54740b0d59a83b351", func := "cartouche/cartouchelaw10.ShortMay", spec := "shortMay", unfollowed := true, recurses := true, named := ["cartouche/offs.pieces", "cartouche/offs.ranges"], apart := false, laid := [("cartouche/offs.ranges", laid_cartouche_offs_ranges), ("cartouche/offs.pieces", laid_cartouche_offs_pieces)], narrowed := true }
def ShortMayUptoSaid : Prop := shortMayUptoRow.holds Tryd.pinned (OpenSpec.upto shortMaySpec)

/-- 'cartouchelaw10.ShortLong', WHERE WHAT IT READS IS OF BULK AT MOST 1048576: true; the input reads as it did. -/
def shortLongUptoRow : OpenClaim := { program := "ytcphhojdfpedkaadoor", sum := "2c186d9fb01490c9b46314a2d3caf13a6da287c32ad0e0f54740b0d59a83b351", func := "cartouche/cartouchelaw10.ShortLong", spec := "shortLong", unfollowed := true, recurses := true, named := ["cartouche/offs.pieces", "cartouche/offs.ranges"], apart := false, laid := [("cartouche/offs.ranges", laid_cartouche_offs_ranges), ("cartouche/offs.pieces", laid_cartouche_offs_pieces)], narrowed := true }
def ShortLongUptoSaid : Prop := shortLongUptoRow.holds Tryd.pinned (OpenSpec.upto shortLongSpec)

/-- 'cartouchelaw10.ShortBlocks', WHERE WHAT IT READS IS OF BULK AT MOST 1048576: true; the input reads as it did. -/
def shortBlocksUptoRow : OpenClaim := { program := "ytcphhojdfpedkaadoor", sum := "2c186d9fb01490c9b46314a2d3caf13a6da287c32ad0e0f54740b0d59a83b351", func := "cartouche/cartouchelaw10.ShortBlocks", spec := "shortBlocks", unfollowed := true, recurses := true, named := ["cartouche/offs.pieces", "cartouche/offs.ranges"], apart := false, laid := [("cartouche/offs.ranges", laid_cartouche_offs_ranges), ("cartouche/offs.pieces", laid_cartouche_offs_pieces)], narrowed := true }
def ShortBlocksUptoSaid : Prop := shortBlocksUptoRow.holds Tryd.pinned (OpenSpec.upto shortBlocksSpec)

end Rows
end Go.Proofs.YtcphhojdfpedkaaDoor
