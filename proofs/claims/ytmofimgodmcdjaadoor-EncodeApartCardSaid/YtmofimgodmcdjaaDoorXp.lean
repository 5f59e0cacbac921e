/- The search over wide's forms, plainly: by the forms that have the operation. No conditions but those that each fact names. -/
import Derived.Test.YtmofimgodmcdjaaDoorXo
namespace Go.Proofs.YtmofimgodmcdjaaDoor
open Go.ChangeShapes Go.WideShapes Go.ChangeAt Go.RowKit
namespace Xw

/-- the forms that have an operation: their words, and their functions by number -/
def cands (op : Int) : List Fw → List (Int × Nat × Nat)
  | [] => []
  | f :: r => match findP op f.of_ with
    | some b => (b, f.tk, f.fd) :: cands op r
    | none => cands op r
def searchC (cond rd rn rm imm mode list : Int) (s it : Bool) : List (Int × Nat × Nat) → Option Int
  | [] => none
  | c :: r => if takesP c.2.1 cond rd rm imm mode list s it = true then some (bits .or .u32 c.1 (fieldsP c.2.2 cond rd rn rm imm list s)) else searchC cond rd rn rm imm mode list s it r
theorem search_is (op cond rd rn rm imm mode list : Int) (s it : Bool) : ∀ l, searchP op cond rd rn rm imm mode list s it l = searchC cond rd rn rm imm mode list s it (cands op l)
  | [] => rfl
  | f :: r => by
    unfold searchP cands
    cases findP op f.of_ with
    | none => exact search_is op cond rd rn rm imm mode list s it r
    | some b =>
      dsimp only
      unfold searchC
      dsimp only
      rw [search_is op cond rd rn rm imm mode list s it r]
def splitW (x : Int) : Int × Int := (x / 65536, x % 65536)
theorem some_split (x a b : Int) (h : x = a * 65536 + b) (h0 : 0 ≤ b) (h1 : b < 65536) : (some x).map splitW = some (a, b) := by
  unfold splitW
  rw [Option.map_some, show x / 65536 = a by omega, show x % 65536 = b by omega]
theorem find_some {x n : Int} (h0 : 0 ≤ x) (h : Wm.findF x = some n) : findB x = true ∧ findI x = n ∧ 0 ≤ n ∧ n < 4096 := by
  have hb := Wm.finds x n h
  unfold Wm.findF at h
  rw [if_pos h0] at h
  unfold findB findI
  cases hN : Em.findN x.toNat with
  | none => rw [hN] at h; cases h
  | some m =>
    rw [hN] at h
    simp only [Option.map_some, Option.some.injEq] at h
    exact ⟨rfl, h, hb.1, hb.2.1⟩
theorem find_none {x : Int} (h0 : 0 ≤ x) (h : Wm.findF x = none) : findB x = false := by
  unfold Wm.findF at h
  rw [if_pos h0] at h
  unfold findB
  cases hN : Em.findN x.toNat with
  | none => rfl
  | some m => rw [hN] at h; cases h
theorem off12 (x : Bool) : ¬ ((1 : Int) == 2 && x) = true := by simp
theorem off21 (x : Bool) : ¬ (x && (2 : Int) == 1) = true := by simp
theorem off21' (x : Bool) : ¬ ((2 : Int) == 1 && x) = true := by simp
theorem offS (x : Bool) : ¬ ((1 : Int) == 1 && (x && !true)) = true := by simp
theorem off2 (x y : Bool) (h : y = false) : (x && y) ≠ true := by rw [h, Bool.and_false]; exact Bool.false_ne_true
theorem off1 (x y : Bool) (h : x = false) : (x && y) ≠ true := by rw [h, Bool.false_and]; exact Bool.false_ne_true
theorem cands_1 : cands 1 formT = [(4026531840, 3, 0), (3925868544, 5, 2)] := by kernel_rfl
theorem cands_2 : cands 2 formT = [(4034920448, 3, 0), (3934257152, 5, 2)] := by kernel_rfl
theorem cands_3 : cands 3 formT = [(4030726144, 3, 0), (3930062848, 5, 2)] := by kernel_rfl
theorem cands_4 : cands 4 formT = [(4028628992, 3, 0), (3927965696, 5, 2)] := by kernel_rfl
theorem cands_5 : cands 5 formT = [(4043309056, 3, 0), (4060086272, 4, 1), (3942645760, 5, 2)] := by kernel_rfl
theorem cands_6 : cands 6 formT = [(4047503360, 3, 0), (3946840064, 5, 2)] := by kernel_rfl
theorem cands_7 : cands 7 formT = [(4053794816, 3, 0), (4070572032, 4, 1), (3953131520, 5, 2)] := by kernel_rfl
theorem cands_8 : cands 8 formT = [(4049600512, 3, 0), (3948937216, 5, 2)] := by kernel_rfl
theorem cands_9 : cands 9 formT = [(4055891968, 3, 0), (3955228672, 5, 2)] := by kernel_rfl
theorem cands_10 : cands 10 formT = [(4031709184, 3, 0), (3931045888, 5, 2)] := by kernel_rfl
theorem cands_11 : cands 11 formT = [(4033806336, 3, 0), (3933143040, 5, 2)] := by kernel_rfl
theorem cands_12 : cands 12 formT = [(4054847232, 3, 0), (3954183936, 5, 2)] := by kernel_rfl
theorem cands_13 : cands 13 formT = [(4044361472, 3, 0), (3943698176, 5, 2)] := by kernel_rfl
theorem cands_14 : cands 14 formT = [(4027584256, 3, 0), (3926920960, 5, 2)] := by kernel_rfl
theorem cands_15 : cands 15 formT = [(4035972864, 3, 0), (3935309568, 5, 2)] := by kernel_rfl
theorem cands_16 : cands 16 formT = [(3931045888, 1, 3), (4194365440, 2, 2)] := by kernel_rfl
theorem cands_17 : cands 17 formT = [(3931045904, 1, 3), (4196462592, 2, 2)] := by kernel_rfl
theorem cands_18 : cands 18 formT = [(3931045920, 1, 3), (4198559744, 2, 2)] := by kernel_rfl
theorem cands_19 : cands 19 formT = [(3931045936, 1, 3), (4200656896, 2, 2)] := by kernel_rfl
theorem cands_20 : cands 20 formT = [(4211142656, 0, 2)] := by kernel_rfl
theorem cands_21 : cands 21 formT = [(4222677232, 0, 2)] := by kernel_rfl
theorem cands_22 : cands 22 formT = [(4220580080, 0, 2)] := by kernel_rfl
theorem cands_23 : cands 23 formT = [(4064280576, 0, 4)] := by kernel_rfl
theorem cands_24 : cands 24 formT = [(4072669184, 0, 4)] := by kernel_rfl
theorem cands_25 : cands 25 formT = [(4174381056, 1, 5), (4165992448, 2, 5)] := by kernel_rfl
theorem cands_26 : cands 26 formT = [(4170186752, 1, 5), (4161798144, 2, 5)] := by kernel_rfl
theorem cands_27 : cands 27 formT = [(4172283904, 1, 5), (4163895296, 2, 5)] := by kernel_rfl
theorem cands_28 : cands 28 formT = [(4173332480, 1, 5), (4164943872, 2, 5)] := by kernel_rfl
theorem cands_29 : cands 29 formT = [(4169138176, 1, 5), (4160749568, 2, 5)] := by kernel_rfl
theorem cands_30 : cands 30 formT = [(4171235328, 1, 5), (4162846720, 2, 5)] := by kernel_rfl
theorem cands_31 : cands 31 formT = [(3903848448, 0, 6)] := by kernel_rfl
theorem cands_32 : cands 32 formT = [(3902799872, 0, 6)] := by kernel_rfl
theorem cands_33 : cands 33 formT = [(3912040448, 6, 6)] := by kernel_rfl
theorem cands_34 : cands 34 formT = [(3904700416, 6, 6)] := by kernel_rfl
theorem cands_35 : cands 35 formT = [(4026564608, 7, 7), (4026568704, 8, 8)] := by kernel_rfl
theorem cands_36 : cands 36 formT = [(4026585088, 0, 8)] := by kernel_rfl
theorem cands_37 : cands 37 formT = [] := by kernel_rfl
theorem cands_38 : cands 38 formT = [] := by kernel_rfl
theorem cands_39 : cands 39 formT = [] := by kernel_rfl
theorem cands_40 : cands 40 formT = [(4175364096, 9, 5), (4166975488, 10, 5)] := by kernel_rfl
theorem cands_41 : cands 41 formT = [(4061069312, 9, 1), (4071555072, 10, 1)] := by kernel_rfl
theorem cands_42 : cands 42 formT = [] := by kernel_rfl
theorem cands_43 : cands 43 formT = [(4088365056, 0, 2)] := by kernel_rfl
theorem cands_44 : cands 44 formT = [] := by kernel_rfl
theorem cands_45 : cands 45 formT = [(3906007040, 0, 2)] := by kernel_rfl
end Xw
end Go.Proofs.YtmofimgodmcdjaaDoor
