/- narrow's Encode and Can as the document's rows tell them; the chapter's examples (awake). No conditions but those that each fact names. -/
import Derived.Test.YtmofimgodmcdjaaDoorRows
import Derived.Test.YtmofimgodmcdjaaDoorNr
import Derived.Test.YtmofimgodmcdjaaDoorGq
namespace Go.Proofs.YtmofimgodmcdjaaDoor
open Go.ChangeShapes Go.WideShapes Go.ChangeAt Go.RowKit

theorem penc_c (op cond rd rn rm imm mode list : Int) (s it : Bool) (hw : Nm.Wide list) (w : World) (hT : Tabs w) :
    Calls Tryd.prog 12 #[.agg #[.int .i64 op, .int .i64 cond, .int .i64 rd, .int .i64 rn, .int .i64 rm, .int .i64 imm, .int .i64 mode, .int .i64 list, .bool s], .bool it] w fun e w' => e = .returned (optV (Nm.encI ⟨op, cond, rd, rn, rm, imm, mode, list, s⟩ it)) ∧ Below w.heap.size w w' := by
  rw [← Pl.enc_is op cond rd rn rm imm mode list s it hw]
  exact enc_c op cond rd rn rm imm mode list s it w hT

end Go.Proofs.YtmofimgodmcdjaaDoor
