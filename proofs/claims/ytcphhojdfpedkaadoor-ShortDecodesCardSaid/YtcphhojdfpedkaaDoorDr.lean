/- Contract of the document's own Decode of a halfword, whole. No conditions. -/
import Derived.Test.YtcphhojdfpedkaaDoorGo
import Derived.Test.YtcphhojdfpedkaaDoorGe
import Derived.Test.YtcphhojdfpedkaaDoorQk
namespace Go.Proofs.YtcphhojdfpedkaaDoor
open Go.ChangeShapes Go.WideShapes Go.ChangeAt Go.RowKit
open Rd (IV decV)
open Sm (shortP noneI)
theorem rget_1 (h : Int) (h0 : 0 ≤ h) (h1 : h < 65536) (w : World) : Calls Tryd.prog 49 #[.int .i64 1, .int .i64 h, .int .i64 0] w fun e w' => e = .returned (.int .i64 (if h % 256 < 128 then h % 256 * 2 else h % 256 * 2 - 512)) ∧ ∃ n, w' = w.drewN n := by
  have hg := orget_1 h 0 w
  rw [show Om.gA 1 (h % 4294967296) (0 % 4294967296) = if h % 256 < 128 then h % 256 * 2 else h % 256 * 2 - 512 by
    unfold Om.gA Om.sg
    rw [if_pos rfl, show h % 4294967296 = h by omega]
    by_cases hq : h % 256 < 128
    · rw [if_pos hq, if_pos hq]; omega
    · rw [if_neg hq, if_neg hq]; omega] at hg
  exact hg
theorem rget_2 (h : Int) (h0 : 0 ≤ h) (h1 : h < 65536) (w : World) : Calls Tryd.prog 49 #[.int .i64 2, .int .i64 h, .int .i64 0] w fun e w' => e = .returned (.int .i64 (if h % 2048 < 1024 then h % 2048 * 2 else h % 2048 * 2 - 4096)) ∧ ∃ n, w' = w.drewN n := by
  have hg := orget_2 h 0 w
  rw [show Om.gA 2 (h % 4294967296) (0 % 4294967296) = if h % 2048 < 1024 then h % 2048 * 2 else h % 2048 * 2 - 4096 by
    unfold Om.gA Om.sg
    rw [if_neg (by decide), if_pos rfl, show h % 4294967296 = h by omega]
    by_cases hq : h % 2048 < 1024
    · rw [if_pos hq, if_pos hq]; omega
    · rw [if_neg hq, if_neg hq]; omega] at hg
  exact hg
theorem rget_5 (h : Int) (h0 : 0 ≤ h) (h1 : h < 65536) (w : World) : Calls Tryd.prog 49 #[.int .i64 5, .int .i64 h, .int .i64 0] w fun e w' => e = .returned (.int .i64 (h / 512 % 2 * 64 + h / 8 % 32 * 2)) ∧ ∃ n, w' = w.drewN n := by
  have hg := orget_5 h 0 w
  rw [show Om.gA 5 (h % 4294967296) (0 % 4294967296) = h / 512 % 2 * 64 + h / 8 % 32 * 2 by
    unfold Om.gA
    rw [if_neg (by decide), if_neg (by decide), if_neg (by decide), if_neg (by decide), if_pos rfl]
    omega] at hg
  exact hg
theorem rdec_c (h : Int) (it : Bool) (w : World) :
    Calls Tryd.prog 9 #[.int .i64 h, .bool it] w fun e w' => e = .returned (decV (shortP (h % 65536) it)) ∧ Below w.heap.size w w' :=
  Rd.decode_c h it (fun hl => Rd.one_c (h % 65536) it (by omega) hl (fun W => rget_1 _ (by omega) (by omega) W) (fun W => rget_2 _ (by omega) (by omega) W) (fun W => rget_5 _ (by omega) (by omega) W))
    (fun i hw W => rcheck_c i.op i.cond i.rd i.rn i.rm i.imm i.mode i.list i.s W hw) w
end Go.Proofs.YtcphhojdfpedkaaDoor
