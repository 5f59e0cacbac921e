/- The contracts of narrow's when, traits, fieldsOf. No conditions but those that each fact names. -/
import Derived.Test.YtmofimgodmcdjaaDoorRows
import Derived.Test.YtmofimgodmcdjaaDoorGa
namespace Go.Proofs.YtmofimgodmcdjaaDoor
open Go.ChangeShapes Go.WideShapes Go.ChangeAt Go.RowKit

theorem when_c (b : Bool) (x y : Int) (w : World) :
    Calls Tryd.prog 49 #[.bool b, .int .i64 x, .int .i64 y] w fun e w' => e = .returned (.int .i64 (if b = true then x else y)) ∧ ∃ n, w' = w.drewN n := by
  cases b with
  | true =>
    go_enter Tryd.func49, Tryd.ntmps49
    go_wp2
    go_ret
    exact ⟨rfl, 0, rfl⟩
  | false =>
    go_enter Tryd.func49, Tryd.ntmps49
    go_wp2
    go_ret
    exact ⟨rfl, 0, rfl⟩

def wh (b : Bool) (x y : Int) : Int := if b = true then x else y
theorem when_w (b : Bool) (x y : Int) (w : World) :
    Calls Tryd.prog 49 #[.bool b, .int .i64 x, .int .i64 y] w fun e w' => e = .returned (.int .i64 (wh b x y)) ∧ ∃ n, w' = w.drewN n := when_c b x y w

/-- what an instruction is of what forms ask -/
def traitsI (cond rd rn rm mode : Int) (s it : Bool) : Int :=
  bits .or .i64 (bits .or .i64 (bits .or .i64 (bits .or .i64 (bits .or .i64 (bits .or .i64 (bits .or .i64 (bits .or .i64 (wh (mode == 1) 1 0) (wh (mode == 2) 2 0)) (wh it 8 4)) (wh s 16 32)) (wh (s != it) 64 0)) (wh (rd == rn) 128 0)) (wh (rd == rm) 256 0)) (wh (rn == 13) 512 0)) (wh (cond == 14) 1024 2048)

set_option maxRecDepth 100000 in
set_option maxHeartbeats 1000000 in
theorem traits_c (op cond rd rn rm imm mode list : Int) (s it : Bool) (w : World) :
    Calls Tryd.prog 17 #[.agg #[.int .i64 op, .int .i64 cond, .int .i64 rd, .int .i64 rn, .int .i64 rm, .int .i64 imm, .int .i64 mode, .int .i64 list, .bool s], .bool it] w fun e w' => e = .returned (.int .i64 (traitsI cond rd rn rm mode s it)) ∧ Below w.heap.size w w' := by
  unfold traitsI
  go_enter Tryd.func17, Tryd.ntmps17
  go_wp2
  go_quiet ((go_at_call 49; first | exact Calls.quiet_of (when_w _ _ _ _) | exact drawn_on (when_w _ _ _ _)))
  go_wp2
  go_ret
  exact ⟨rfl, below_drewN ((Below.refl _ _).alloc (Nat.le_refl _) _) _⟩

theorem fieldsOf_c (op cond rd rn rm imm mode list : Int) (s : Bool) (w : World) :
    Calls Tryd.prog 50 #[.agg #[.int .i64 op, .int .i64 cond, .int .i64 rd, .int .i64 rn, .int .i64 rm, .int .i64 imm, .int .i64 mode, .int .i64 list, .bool s]] w fun e w' => e = .returned (.agg #[.int .u32 0, .int .u32 (rd % 4294967296), .int .u32 (rn % 4294967296), .int .u32 (rm % 4294967296), .int .u32 (imm % 4294967296), .int .u32 (list % 4294967296), .int .u32 (cond % 4294967296)]) ∧ Below w.heap.size w w' := by
  go_enter Tryd.func50, Tryd.ntmps50
  go_wp2
  refine bodyPost_ret (v := .agg #[.int .u32 0, .int .u32 (rd % 4294967296), .int .u32 (rn % 4294967296), .int .u32 (rm % 4294967296), .int .u32 (imm % 4294967296), .int .u32 (list % 4294967296), .int .u32 (cond % 4294967296)]) (by simp [results, Tryd.results50, go_sem]) rfl ⟨rfl, ?_⟩
  exact ((Below.refl _ _).alloc (Nat.le_refl _) _).alloc (by simp) _
end Go.Proofs.YtmofimgodmcdjaaDoor
