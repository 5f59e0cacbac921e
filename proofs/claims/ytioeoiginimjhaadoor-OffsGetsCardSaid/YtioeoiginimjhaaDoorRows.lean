/-
  NARROWER THAN 'FOR EVERY INPUT', by the rows' own cells (each row's printed sentence says how): OffsPuts: laid · OffsGets: laid · OffsBack: laid · OffsAll: laid · OffsWider: laid.
  DERIVED. THE GIVEN ROWS OF THIS SEAT. 5 by the template 'for every input the law returns true; each argument reads behind the call as it read before'; 0 by the template 'total and deterministic' (their statements: YtioeoiginimjhaaDoorTotals.lean).
  GIVEN WITH THE SEED: the statements are not yours to turn. If you find one false, say at which input.
  Laid BY PROGRAM, IN A SANDBOX (cutbox-rows.mjs): the forced cells as the released guide's own fill.sh prints them over the translation 05407ac01c69bd87… (all of the seat's roots in one cut). By AI agents, Wed Nov 11 2026. No macro, syntax, notation, axiom, sorry.
-/
import Derived.Test.YtioeoiginimjhaaDoorChecked
import GoSem.Claim
import GoSem.ClaimJoined
import GoSem.ClaimMapViews
import Derived.JoinedTies
import Derived.KernelRfl
namespace Go.Proofs.YtioeoiginimjhaaDoor
/- THE CELL 'sum', in the pinned program and in every row, IS THE sha256 OF THE DUMP (.gsa) THAT YtioeoiginimjhaaDoorProg.lean LOADS. Nothing in Lean hashes anything: it is a label: what it is worth is what the hold of that sum in a sandbox is worth. -/
noncomputable def Tryd.pinned : Pinned := { name := "ytioeoiginimjhaadoor", sum := "05407ac01c69bd87fedb54a92e715fc992d16402f3119461fc4635b88b935383", checked := Tryd.checked }
namespace Rows
def none {H : Type} : Left H := { results := [], args := [] }

/- WHAT THE LISTED PACKAGE-LEVEL VARIABLES READ AS WHEN THE CALL BEGINS. Each datum BY PROGRAM (the guide's laid-datum.mjs) off the statement by which the dump's own 'gosem.cut.vars' lays the variable. In a bare row this is a premise. The card (YtioeoiginimjhaaDoorCards.lean) ties it to the program's text. -/
def laid_cartouche_offs_ranges {H : Type} : DataW H := .agg [.agg [.lit (.int .i64 (-256)), .lit (.int .i64 254), .lit (.int .i64 9)], .agg [.lit (.int .i64 (-2048)), .lit (.int .i64 2046), .lit (.int .i64 12)], .agg [.lit (.int .i64 (-1048576)), .lit (.int .i64 1048574), .lit (.int .i64 21)], .agg [.lit (.int .i64 (-16777216)), .lit (.int .i64 16777214), .lit (.int .i64 25)], .agg [.lit (.int .i64 0), .lit (.int .i64 126), .lit (.int .i64 8)]]
def laid_cartouche_offs_pieces {H : Type} : DataW H := .agg [.agg [.lit (.int .i64 1), .lit (.int .i64 0), .lit (.int .i64 0), .lit (.int .i64 8), .lit (.int .i64 1)], .agg [.lit (.int .i64 2), .lit (.int .i64 0), .lit (.int .i64 0), .lit (.int .i64 11), .lit (.int .i64 1)], .agg [.lit (.int .i64 3), .lit (.int .i64 0), .lit (.int .i64 10), .lit (.int .i64 20), .lit (.int .i64 20)], .agg [.lit (.int .i64 3), .lit (.int .i64 0), .lit (.int .i64 0), .lit (.int .i64 17), .lit (.int .i64 12)], .agg [.lit (.int .i64 3), .lit (.int .i64 1), .lit (.int .i64 13), .lit (.int .i64 18), .lit (.int .i64 18)], .agg [.lit (.int .i64 3), .lit (.int .i64 1), .lit (.int .i64 11), .lit (.int .i64 19), .lit (.int .i64 19)], .agg [.lit (.int .i64 3), .lit (.int .i64 1), .lit (.int .i64 0), .lit (.int .i64 11), .lit (.int .i64 1)], .agg [.lit (.int .i64 4), .lit (.int .i64 0), .lit (.int .i64 10), .lit (.int .i64 24), .lit (.int .i64 24)], .agg [.lit (.int .i64 4), .lit (.int .i64 0), .lit (.int .i64 0), .lit (.int .i64 21), .lit (.int .i64 12)], .agg [.lit (.int .i64 4), .lit (.int .i64 1), .lit (.int .i64 13), .lit (.int .i64 23), .lit (.int .i64 23)], .agg [.lit (.int .i64 4), .lit (.int .i64 1), .lit (.int .i64 11), .lit (.int .i64 22), .lit (.int .i64 22)], .agg [.lit (.int .i64 4), .lit (.int .i64 1), .lit (.int .i64 0), .lit (.int .i64 11), .lit (.int .i64 1)], .agg [.lit (.int .i64 5), .lit (.int .i64 0), .lit (.int .i64 9), .lit (.int .i64 6), .lit (.int .i64 6)], .agg [.lit (.int .i64 5), .lit (.int .i64 0), .lit (.int .i64 3), .lit (.int .i64 5), .lit (.int .i64 1)]]

/-- 'cartouchelaw03.OffsPuts': WHATEVER THE INPUT: true; the input reads as it did. -/
def offsPutsSpec : ChangeSpec := { name := "offsPuts", fn := fun _ => fun
  | [d1, d2] => { results := [.lit (.bool true)], args := [d1, d2] }
  | _ => none }
def offsPutsRow : OpenClaim := { program := "ytioeoiginimjhaadoor", sum := "05407ac01c69bd87fedb54a92e715fc992d16402f3119461fc4635b88b935383", func := "cartouche/cartouchelaw03.OffsPuts", spec := "offsPuts", named := ["cartouche/offs.pieces", "cartouche/offs.ranges"], apart := false, laid := [("cartouche/offs.ranges", laid_cartouche_offs_ranges), ("cartouche/offs.pieces", laid_cartouche_offs_pieces)] }
def OffsPutsSaid : Prop := offsPutsRow.holds Tryd.pinned (OpenSpec.ofChange offsPutsSpec)

/-- ITS FALSE NEIGHBOUR: 'it returns false'. Refute it at one input. -/
def offsPutsWrong : ChangeSpec := { name := "offsPuts", fn := fun _ => fun
  | [d1, d2] => { results := [.lit (.bool false)], args := [d1, d2] }
  | _ => none }
def OffsPutsWrongFalsely : Prop := offsPutsRow.holds Tryd.pinned (OpenSpec.ofChange offsPutsWrong)

/-- 'cartouchelaw03.OffsGets': WHATEVER THE INPUT: true; the input reads as it did. -/
def offsGetsSpec : ChangeSpec := { name := "offsGets", fn := fun _ => fun
  | [d1, d2, d3] => { results := [.lit (.bool true)], args := [d1, d2, d3] }
  | _ => none }
def offsGetsRow : OpenClaim := { program := "ytioeoiginimjhaadoor", sum := "05407ac01c69bd87fedb54a92e715fc992d16402f3119461fc4635b88b935383", func := "cartouche/cartouchelaw03.OffsGets", spec := "offsGets", named := ["cartouche/offs.pieces", "cartouche/offs.ranges"], apart := false, laid := [("cartouche/offs.ranges", laid_cartouche_offs_ranges), ("cartouche/offs.pieces", laid_cartouche_offs_pieces)] }
def OffsGetsSaid : Prop := offsGetsRow.holds Tryd.pinned (OpenSpec.ofChange offsGetsSpec)

/-- ITS FALSE NEIGHBOUR: 'it returns false'. Refute it at one input. -/
def offsGetsWrong : ChangeSpec := { name := "offsGets", fn := fun _ => fun
  | [d1, d2, d3] => { results := [.lit (.bool false)], args := [d1, d2, d3] }
  | _ => none }
def OffsGetsWrongFalsely : Prop := offsGetsRow.holds Tryd.pinned (OpenSpec.ofChange offsGetsWrong)

/-- 'cartouchelaw03.OffsBack': WHATEVER THE INPUT: true; the input reads as it did. -/
def offsBackSpec : ChangeSpec := { name := "offsBack", fn := fun _ => fun
  | [d1, d2, d3] => { results := [.lit (.bool true)], args := [d1, d2, d3] }
  | _ => none }
def offsBackRow : OpenClaim := { program := "ytioeoiginimjhaadoor", sum := "05407ac01c69bd87fedb54a92e715fc992d16402f3119461fc4635b88b935383", func := "cartouche/cartouchelaw03.OffsBack", spec := "offsBack", named := ["cartouche/offs.ranges", "cartouche/offs.pieces"], apart := false, laid := [("cartouche/offs.ranges", laid_cartouche_offs_ranges), ("cartouche/offs.pieces", laid_cartouche_offs_pieces)] }
def OffsBackSaid : Prop := offsBackRow.holds Tryd.pinned (OpenSpec.ofChange offsBackSpec)

/-- ITS FALSE NEIGHBOUR: 'it returns false'. Refute it at one input. -/
def offsBackWrong : ChangeSpec := { name := "offsBack", fn := fun _ => fun
  | [d1, d2, d3] => { results := [.lit (.bool false)], args := [d1, d2, d3] }
  | _ => none }
def OffsBackWrongFalsely : Prop := offsBackRow.holds Tryd.pinned (OpenSpec.ofChange offsBackWrong)

/-- 'cartouchelaw03.OffsAll': WHATEVER THE INPUT: true; the input reads as it did. -/
def offsAllSpec : ChangeSpec := { name := "offsAll", fn := fun _ => fun
  | [d1, d2, d3] => { results := [.lit (.bool true)], args := [d1, d2, d3] }
  | _ => none }
def offsAllRow : OpenClaim := { program := "ytioeoiginimjhaadoor", sum := "05407ac01c69bd87fedb54a92e715fc992d16402f3119461fc4635b88b935383", func := "cartouche/cartouchelaw03.OffsAll", spec := "offsAll", named := ["cartouche/offs.pieces", "cartouche/offs.ranges"], apart := false, laid := [("cartouche/offs.ranges", laid_cartouche_offs_ranges), ("cartouche/offs.pieces", laid_cartouche_offs_pieces)] }
def OffsAllSaid : Prop := offsAllRow.holds Tryd.pinned (OpenSpec.ofChange offsAllSpec)

/-- ITS FALSE NEIGHBOUR: 'it returns false'. Refute it at one input. -/
def offsAllWrong : ChangeSpec := { name := "offsAll", fn := fun _ => fun
  | [d1, d2, d3] => { results := [.lit (.bool false)], args := [d1, d2, d3] }
  | _ => none }
def OffsAllWrongFalsely : Prop := offsAllRow.holds Tryd.pinned (OpenSpec.ofChange offsAllWrong)

/-- 'cartouchelaw03.OffsWider': WHATEVER THE INPUT: true; the input reads as it did. -/
def offsWiderSpec : ChangeSpec := { name := "offsWider", fn := fun _ => fun
  | [d] => { results := [.lit (.bool true)], args := [d] }
  | _ => none }
def offsWiderRow : OpenClaim := { program := "ytioeoiginimjhaadoor", sum := "05407ac01c69bd87fedb54a92e715fc992d16402f3119461fc4635b88b935383", func := "cartouche/cartouchelaw03.OffsWider", spec := "offsWider", named := ["cartouche/offs.ranges", "cartouche/offs.pieces"], apart := false, laid := [("cartouche/offs.ranges", laid_cartouche_offs_ranges), ("cartouche/offs.pieces", laid_cartouche_offs_pieces)] }
def OffsWiderSaid : Prop := offsWiderRow.holds Tryd.pinned (OpenSpec.ofChange offsWiderSpec)

/-- ITS FALSE NEIGHBOUR: 'it returns false'. Refute it at one input. -/
def offsWiderWrong : ChangeSpec := { name := "offsWider", fn := fun _ => fun
  | [d] => { results := [.lit (.bool false)], args := [d] }
  | _ => none }
def OffsWiderWrongFalsely : Prop := offsWiderRow.holds Tryd.pinned (OpenSpec.ofChange offsWiderWrong)

/- THE SECOND FORM. 'bulk': how many values and letters a reading holds, each counted each time it is reached (what is shared counts as often as it is met; a slice's spare places count too). A statement '..UptoSaid' is the law's where the arguments, and the package variables that the reading takes, are together of bulk at most 1048576: NARROWER than '..Said'. Prove '..Said' where nothing that the law and all that it calls make is longer than what came in: it says more and counts as full. Else prove '..UptoSaid'. A law counts once. -/
mutual
def uptoBulk {H : Type} : DataW H → Nat
  | .lit (.string bytes) => bytes.length + 1
  | .lit _ => 1
  | .nil => 1
  | .ptr d => uptoBulk d + 1
  | .slice elems spare => uptoBulkAll elems + uptoBulkAll spare + 1
  | .agg parts => uptoBulkAll parts + 1
  | .iface _ d => uptoBulk d + 1
  | .map entries => uptoBulkEntries entries + 1
  | .held _ => 1
def uptoBulkAll {H : Type} : List (DataW H) → Nat
  | [] => 0
  | d :: r => uptoBulk d + uptoBulkAll r
def uptoBulkEntries {H : Type} : List (Lit × DataW H) → Nat
  | [] => 0
  | x :: r => uptoBulkEntry x + uptoBulkEntries r
def uptoBulkEntry {H : Type} : Lit × DataW H → Nat
  | (.string bytes, d) => bytes.length + uptoBulk d + 1
  | (_, d) => uptoBulk d + 1
 end
def uptoSmall : (H : Type) → List (DataW H) → Bool := fun _ ds => decide (uptoBulkAll ds ≤ 1048576)
def OpenSpec.upto (s : _root_.Go.ChangeSpec) : _root_.Go.OpenSpec := { _root_.Go.OpenSpec.ofChange s with cond := some uptoSmall }

/-- 'cartouchelaw03.OffsPuts', WHERE WHAT IT READS IS OF BULK AT MOST 1048576: true; the input reads as it did. -/
def offsPutsUptoRow : OpenClaim := { program := "ytioeoiginimjhaadoor", sum := "05407ac01c69bd87fedb54a92e715fc992d16402f3119461fc4635b88b935383", func := "cartouche/cartouchelaw03.OffsPuts", spec := "offsPuts", named := ["cartouche/offs.pieces", "cartouche/offs.ranges"], apart := false, laid := [("cartouche/offs.ranges", laid_cartouche_offs_ranges), ("cartouche/offs.pieces", laid_cartouche_offs_pieces)], narrowed := true }
def OffsPutsUptoSaid : Prop := offsPutsUptoRow.holds Tryd.pinned (OpenSpec.upto offsPutsSpec)

/-- 'cartouchelaw03.OffsGets', WHERE WHAT IT READS IS OF BULK AT MOST 1048576: true; the input reads as it did. -/
def offsGetsUptoRow : OpenClaim := { program := "ytioeoiginimjhaadoor", sum := "05407ac01c69bd87fedb54a92e715fc992d16402f3119461fc4635b88b935383", func := "cartouche/cartouchelaw03.OffsGets", spec := "offsGets", named := ["cartouche/offs.pieces", "cartouche/offs.ranges"], apart := false, laid := [("cartouche/offs.ranges", laid_cartouche_offs_ranges), ("cartouche/offs.pieces", laid_cartouche_offs_pieces)], narrowed := true }
def OffsGetsUptoSaid : Prop := offsGetsUptoRow.holds Tryd.pinned (OpenSpec.upto offsGetsSpec)

/-- 'cartouchelaw03.OffsBack', WHERE WHAT IT READS IS OF BULK AT MOST 1048576: true; the input reads as it did. -/
def offsBackUptoRow : OpenClaim := { program := "ytioeoiginimjhaadoor", sum := "05407ac01c69bd87fedb54a92e715fc992d16402f3119461fc4635b88b935383", func := "cartouche/cartouchelaw03.OffsBack", spec := "offsBack", named := ["cartouche/offs.ranges", "cartouche/offs.pieces"], apart := false, laid := [("cartouche/offs.ranges", laid_cartouche_offs_ranges), ("cartouche/offs.pieces", laid_cartouche_offs_pieces)], narrowed := true }
def OffsBackUptoSaid : Prop := offsBackUptoRow.holds Tryd.pinned (OpenSpec.upto offsBackSpec)

/-- 'cartouchelaw03.OffsAll', WHERE WHAT IT READS IS OF BULK AT MOST 1048576: true; the input reads as it did. -/
def offsAllUptoRow : OpenClaim := { program := "ytioeoiginimjhaadoor", sum := "05407ac01c69bd87fedb54a92e715fc992d16402f3119461fc4635b88b935383", func := "cartouche/cartouchelaw03.OffsAll", spec := "offsAll", named := ["cartouche/offs.pieces", "cartouche/offs.ranges"], apart := false, laid := [("cartouche/offs.ranges", laid_cartouche_offs_ranges), ("cartouche/offs.pieces", laid_cartouche_offs_pieces)], narrowed := true }
def OffsAllUptoSaid : Prop := offsAllUptoRow.holds Tryd.pinned (OpenSpec.upto offsAllSpec)

/-- 'cartouchelaw03.OffsWider', WHERE WHAT IT READS IS OF BULK AT MOST 1048576: true; the input reads as it did. -/
def offsWiderUptoRow : OpenClaim := { program := "ytioeoiginimjhaadoor", sum := "05407ac01c69bd87fedb54a92e715fc992d16402f3119461fc4635b88b935383", func := "cartouche/cartouchelaw03.OffsWider", spec := "offsWider", named := ["cartouche/offs.ranges", "cartouche/offs.pieces"], apart := false, laid := [("cartouche/offs.ranges", laid_cartouche_offs_ranges), ("cartouche/offs.pieces", laid_cartouche_offs_pieces)], narrowed := true }
def OffsWiderUptoSaid : Prop := offsWiderUptoRow.holds Tryd.pinned (OpenSpec.upto offsWiderSpec)

end Rows
end Go.Proofs.YtioeoiginimjhaaDoor
