/- The rows of the document's own Encode, each operation by itself, under what Check tells (text by gen_ve.py). No conditions but those that each fact names. -/
import Derived.Test.YtcphhojdfpedkaaDoorGk
import Derived.Test.YtcphhojdfpedkaaDoorVj
import Derived.Test.YtcphhojdfpedkaaDoorGr
import Derived.Test.YtcphhojdfpedkaaDoorVp
import Derived.Test.YtcphhojdfpedkaaDoorGp
import Derived.Test.YtcphhojdfpedkaaDoorGq
import Derived.Test.YtcphhojdfpedkaaDoorVx
namespace Go.Proofs.YtcphhojdfpedkaaDoor
open Go.ChangeShapes Go.WideShapes Go.ChangeAt Go.RowKit
namespace Pl
theorem tmod_even {n : Int} (h : Int.tmod n 2 = 0) : n % 2 = 0 := by rw [Int.tmod_eq_emod] at h; split at h <;> omega
theorem fits5_iff (imm : Int) : (fitsB 5 imm = true) = (0 ≤ imm ∧ imm ≤ 126 ∧ imm % 2 = 0) := by
  unfold fitsB
  simp only [decide_eq_true_eq]
  rw [show lowI 5 = 0 from rfl, show highI 5 = 126 from rfl]
  apply propext; omega
end Pl
theorem row_1_c (cond rd rn rm imm mode list : Int) (s f it : Bool) (w : World) (hok : Nm.okB ⟨1, cond, rd, rn, rm, imm, mode, list, s⟩ = true) (_hw : Nm.Wide list) :
    Calls Tryd.prog 23 #[.agg #[.int .i64 1, .int .i64 cond, .int .i64 rd, .int .i64 rn, .int .i64 rm, .int .i64 imm, .int .i64 mode, .int .i64 list, .bool s], .bool f, .bool it] w fun e w' => Okay e (Nm.twoI ⟨1, cond, rd, rn, rm, imm, mode, list, s⟩ f it) ∧ Below w.heap.size w w' := by
  obtain ⟨_, h1, h2, h3, h4, h5, h6⟩ := Nm.ok_parts hok
  clear hok
  have h3' := Nm.last_cases h3
  clear h3
  dsimp only at h1 h2 h3' h4 h5 h6
  clear h4
  clear h5 h6
  rcases h3' with ⟨rfl, q1, q2, rfl, rfl⟩ | ⟨rfl, q1, q2, q3, q4, rfl⟩ | ⟨rfl, q1, q2, rfl⟩
  · have FF : Im.fieldsI 1 0 s = ⟨24575, 24575, 24575, 0, 4294967295, 1, 0, 0⟩ := rfl
    rw [FF] at h1 h2 q1 q2
    dsimp only at h1 h2 q1 q2
    exfalso; omega
  · have FF : Im.fieldsI 1 1 s = ⟨24575, 24575, 24575, 0, 4294967295, 1, 0, 0⟩ := rfl
    rw [FF] at h1 h2 q1 q2 q3 q4
    dsimp only at h1 h2 q1 q2 q3 q4
    have hd := Nm.one_in h1 (by decide)
    have hn := Nm.one_in h2 (by decide)
    exact two1_1 cond rd rn 0 imm list s f it w
  · have FF : Im.fieldsI 1 2 s = ⟨24575, 24575, 24575, 0, 4294967295, 1, 0, 0⟩ := rfl
    rw [FF] at h1 h2 q1 q2
    dsimp only at h1 h2 q1 q2
    have hd := Nm.one_in h1 (by decide)
    have hn := Nm.one_in h2 (by decide)
    have hm := Nm.one_in q2 (by decide)
    exact two1_2 cond rd rn rm 0 list s f it w
theorem row_2_c (cond rd rn rm imm mode list : Int) (s f it : Bool) (w : World) (hok : Nm.okB ⟨2, cond, rd, rn, rm, imm, mode, list, s⟩ = true) (_hw : Nm.Wide list) :
    Calls Tryd.prog 23 #[.agg #[.int .i64 2, .int .i64 cond, .int .i64 rd, .int .i64 rn, .int .i64 rm, .int .i64 imm, .int .i64 mode, .int .i64 list, .bool s], .bool f, .bool it] w fun e w' => Okay e (Nm.twoI ⟨2, cond, rd, rn, rm, imm, mode, list, s⟩ f it) ∧ Below w.heap.size w w' := by
  obtain ⟨_, h1, h2, h3, h4, h5, h6⟩ := Nm.ok_parts hok
  clear hok
  have h3' := Nm.last_cases h3
  clear h3
  dsimp only at h1 h2 h3' h4 h5 h6
  clear h4
  clear h5 h6
  rcases h3' with ⟨rfl, q1, q2, rfl, rfl⟩ | ⟨rfl, q1, q2, q3, q4, rfl⟩ | ⟨rfl, q1, q2, rfl⟩
  · have FF : Im.fieldsI 2 0 s = ⟨24575, 24575, 24575, 0, 4294967295, 1, 0, 0⟩ := rfl
    rw [FF] at h1 h2 q1 q2
    dsimp only at h1 h2 q1 q2
    exfalso; omega
  · have FF : Im.fieldsI 2 1 s = ⟨24575, 24575, 24575, 0, 4294967295, 1, 0, 0⟩ := rfl
    rw [FF] at h1 h2 q1 q2 q3 q4
    dsimp only at h1 h2 q1 q2 q3 q4
    have hd := Nm.one_in h1 (by decide)
    have hn := Nm.one_in h2 (by decide)
    exact two2_1 cond rd rn 0 imm list s f it w
  · have FF : Im.fieldsI 2 2 s = ⟨24575, 24575, 24575, 0, 4294967295, 1, 0, 0⟩ := rfl
    rw [FF] at h1 h2 q1 q2
    dsimp only at h1 h2 q1 q2
    have hd := Nm.one_in h1 (by decide)
    have hn := Nm.one_in h2 (by decide)
    have hm := Nm.one_in q2 (by decide)
    exact two2_2 cond rd rn rm 0 list s f it w
theorem row_3_c (cond rd rn rm imm mode list : Int) (s f it : Bool) (w : World) (hok : Nm.okB ⟨3, cond, rd, rn, rm, imm, mode, list, s⟩ = true) (_hw : Nm.Wide list) :
    Calls Tryd.prog 23 #[.agg #[.int .i64 3, .int .i64 cond, .int .i64 rd, .int .i64 rn, .int .i64 rm, .int .i64 imm, .int .i64 mode, .int .i64 list, .bool s], .bool f, .bool it] w fun e w' => Okay e (Nm.twoI ⟨3, cond, rd, rn, rm, imm, mode, list, s⟩ f it) ∧ Below w.heap.size w w' := by
  obtain ⟨_, h1, h2, h3, h4, h5, h6⟩ := Nm.ok_parts hok
  clear hok
  have h3' := Nm.last_cases h3
  clear h3
  dsimp only at h1 h2 h3' h4 h5 h6
  clear h4
  clear h5 h6
  rcases h3' with ⟨rfl, q1, q2, rfl, rfl⟩ | ⟨rfl, q1, q2, q3, q4, rfl⟩ | ⟨rfl, q1, q2, rfl⟩
  · have FF : Im.fieldsI 3 0 s = ⟨24575, 24575, 24575, 0, 4294967295, 1, 0, 0⟩ := rfl
    rw [FF] at h1 h2 q1 q2
    dsimp only at h1 h2 q1 q2
    exfalso; omega
  · have FF : Im.fieldsI 3 1 s = ⟨24575, 24575, 24575, 0, 4294967295, 1, 0, 0⟩ := rfl
    rw [FF] at h1 h2 q1 q2 q3 q4
    dsimp only at h1 h2 q1 q2 q3 q4
    have hd := Nm.one_in h1 (by decide)
    have hn := Nm.one_in h2 (by decide)
    exact two3_1 cond rd rn 0 imm list s f it w
  · have FF : Im.fieldsI 3 2 s = ⟨24575, 24575, 24575, 0, 4294967295, 1, 0, 0⟩ := rfl
    rw [FF] at h1 h2 q1 q2
    dsimp only at h1 h2 q1 q2
    have hd := Nm.one_in h1 (by decide)
    have hn := Nm.one_in h2 (by decide)
    have hm := Nm.one_in q2 (by decide)
    exact two3_2 cond rd rn rm 0 list s f it w
theorem row_4_c (cond rd rn rm imm mode list : Int) (s f it : Bool) (w : World) (hok : Nm.okB ⟨4, cond, rd, rn, rm, imm, mode, list, s⟩ = true) (_hw : Nm.Wide list) :
    Calls Tryd.prog 23 #[.agg #[.int .i64 4, .int .i64 cond, .int .i64 rd, .int .i64 rn, .int .i64 rm, .int .i64 imm, .int .i64 mode, .int .i64 list, .bool s], .bool f, .bool it] w fun e w' => Okay e (Nm.twoI ⟨4, cond, rd, rn, rm, imm, mode, list, s⟩ f it) ∧ Below w.heap.size w w' := by
  obtain ⟨_, h1, h2, h3, h4, h5, h6⟩ := Nm.ok_parts hok
  clear hok
  have h3' := Nm.last_cases h3
  clear h3
  dsimp only at h1 h2 h3' h4 h5 h6
  clear h4
  clear h5 h6
  rcases h3' with ⟨rfl, q1, q2, rfl, rfl⟩ | ⟨rfl, q1, q2, q3, q4, rfl⟩ | ⟨rfl, q1, q2, rfl⟩
  · have FF : Im.fieldsI 4 0 s = ⟨24575, 24575, 24575, 0, 4294967295, 1, 0, 0⟩ := rfl
    rw [FF] at h1 h2 q1 q2
    dsimp only at h1 h2 q1 q2
    exfalso; omega
  · have FF : Im.fieldsI 4 1 s = ⟨24575, 24575, 24575, 0, 4294967295, 1, 0, 0⟩ := rfl
    rw [FF] at h1 h2 q1 q2 q3 q4
    dsimp only at h1 h2 q1 q2 q3 q4
    have hd := Nm.one_in h1 (by decide)
    have hn := Nm.one_in h2 (by decide)
    exact two4_1 cond rd rn 0 imm list s f it w
  · have FF : Im.fieldsI 4 2 s = ⟨24575, 24575, 24575, 0, 4294967295, 1, 0, 0⟩ := rfl
    rw [FF] at h1 h2 q1 q2
    dsimp only at h1 h2 q1 q2
    have hd := Nm.one_in h1 (by decide)
    have hn := Nm.one_in h2 (by decide)
    have hm := Nm.one_in q2 (by decide)
    exact two4_2 cond rd rn rm 0 list s f it w
theorem row_6_c (cond rd rn rm imm mode list : Int) (s f it : Bool) (w : World) (hok : Nm.okB ⟨6, cond, rd, rn, rm, imm, mode, list, s⟩ = true) (_hw : Nm.Wide list) :
    Calls Tryd.prog 23 #[.agg #[.int .i64 6, .int .i64 cond, .int .i64 rd, .int .i64 rn, .int .i64 rm, .int .i64 imm, .int .i64 mode, .int .i64 list, .bool s], .bool f, .bool it] w fun e w' => Okay e (Nm.twoI ⟨6, cond, rd, rn, rm, imm, mode, list, s⟩ f it) ∧ Below w.heap.size w w' := by
  obtain ⟨_, h1, h2, h3, h4, h5, h6⟩ := Nm.ok_parts hok
  clear hok
  have h3' := Nm.last_cases h3
  clear h3
  dsimp only at h1 h2 h3' h4 h5 h6
  clear h4
  clear h5 h6
  rcases h3' with ⟨rfl, q1, q2, rfl, rfl⟩ | ⟨rfl, q1, q2, q3, q4, rfl⟩ | ⟨rfl, q1, q2, rfl⟩
  · have FF : Im.fieldsI 6 0 s = ⟨24575, 24575, 24575, 0, 4294967295, 1, 0, 0⟩ := rfl
    rw [FF] at h1 h2 q1 q2
    dsimp only at h1 h2 q1 q2
    exfalso; omega
  · have FF : Im.fieldsI 6 1 s = ⟨24575, 24575, 24575, 0, 4294967295, 1, 0, 0⟩ := rfl
    rw [FF] at h1 h2 q1 q2 q3 q4
    dsimp only at h1 h2 q1 q2 q3 q4
    have hd := Nm.one_in h1 (by decide)
    have hn := Nm.one_in h2 (by decide)
    exact two6_1 cond rd rn 0 imm list s f it w
  · have FF : Im.fieldsI 6 2 s = ⟨24575, 24575, 24575, 0, 4294967295, 1, 0, 0⟩ := rfl
    rw [FF] at h1 h2 q1 q2
    dsimp only at h1 h2 q1 q2
    have hd := Nm.one_in h1 (by decide)
    have hn := Nm.one_in h2 (by decide)
    have hm := Nm.one_in q2 (by decide)
    exact two6_2 cond rd rn rm 0 list s f it w
theorem row_8_c (cond rd rn rm imm mode list : Int) (s f it : Bool) (w : World) (hok : Nm.okB ⟨8, cond, rd, rn, rm, imm, mode, list, s⟩ = true) (_hw : Nm.Wide list) :
    Calls Tryd.prog 23 #[.agg #[.int .i64 8, .int .i64 cond, .int .i64 rd, .int .i64 rn, .int .i64 rm, .int .i64 imm, .int .i64 mode, .int .i64 list, .bool s], .bool f, .bool it] w fun e w' => Okay e (Nm.twoI ⟨8, cond, rd, rn, rm, imm, mode, list, s⟩ f it) ∧ Below w.heap.size w w' := by
  obtain ⟨_, h1, h2, h3, h4, h5, h6⟩ := Nm.ok_parts hok
  clear hok
  have h3' := Nm.last_cases h3
  clear h3
  dsimp only at h1 h2 h3' h4 h5 h6
  clear h4
  clear h5 h6
  rcases h3' with ⟨rfl, q1, q2, rfl, rfl⟩ | ⟨rfl, q1, q2, q3, q4, rfl⟩ | ⟨rfl, q1, q2, rfl⟩
  · have FF : Im.fieldsI 8 0 s = ⟨24575, 24575, 24575, 0, 4294967295, 1, 0, 0⟩ := rfl
    rw [FF] at h1 h2 q1 q2
    dsimp only at h1 h2 q1 q2
    exfalso; omega
  · have FF : Im.fieldsI 8 1 s = ⟨24575, 24575, 24575, 0, 4294967295, 1, 0, 0⟩ := rfl
    rw [FF] at h1 h2 q1 q2 q3 q4
    dsimp only at h1 h2 q1 q2 q3 q4
    have hd := Nm.one_in h1 (by decide)
    have hn := Nm.one_in h2 (by decide)
    exact two8_1 cond rd rn 0 imm list s f it w
  · have FF : Im.fieldsI 8 2 s = ⟨24575, 24575, 24575, 0, 4294967295, 1, 0, 0⟩ := rfl
    rw [FF] at h1 h2 q1 q2
    dsimp only at h1 h2 q1 q2
    have hd := Nm.one_in h1 (by decide)
    have hn := Nm.one_in h2 (by decide)
    have hm := Nm.one_in q2 (by decide)
    exact two8_2 cond rd rn rm 0 list s f it w
theorem row_9_c (cond rd rn rm imm mode list : Int) (s f it : Bool) (w : World) (hok : Nm.okB ⟨9, cond, rd, rn, rm, imm, mode, list, s⟩ = true) (_hw : Nm.Wide list) :
    Calls Tryd.prog 23 #[.agg #[.int .i64 9, .int .i64 cond, .int .i64 rd, .int .i64 rn, .int .i64 rm, .int .i64 imm, .int .i64 mode, .int .i64 list, .bool s], .bool f, .bool it] w fun e w' => Okay e (Nm.twoI ⟨9, cond, rd, rn, rm, imm, mode, list, s⟩ f it) ∧ Below w.heap.size w w' := by
  obtain ⟨_, h1, h2, h3, h4, h5, h6⟩ := Nm.ok_parts hok
  clear hok
  have h3' := Nm.last_cases h3
  clear h3
  dsimp only at h1 h2 h3' h4 h5 h6
  clear h4
  clear h5 h6
  rcases h3' with ⟨rfl, q1, q2, rfl, rfl⟩ | ⟨rfl, q1, q2, q3, q4, rfl⟩ | ⟨rfl, q1, q2, rfl⟩
  · have FF : Im.fieldsI 9 0 s = ⟨24575, 24575, 24575, 0, 4294967295, 1, 0, 0⟩ := rfl
    rw [FF] at h1 h2 q1 q2
    dsimp only at h1 h2 q1 q2
    exfalso; omega
  · have FF : Im.fieldsI 9 1 s = ⟨24575, 24575, 24575, 0, 4294967295, 1, 0, 0⟩ := rfl
    rw [FF] at h1 h2 q1 q2 q3 q4
    dsimp only at h1 h2 q1 q2 q3 q4
    have hd := Nm.one_in h1 (by decide)
    have hn := Nm.one_in h2 (by decide)
    exact two9_1 cond rd rn 0 imm list s f it w
  · have FF : Im.fieldsI 9 2 s = ⟨24575, 24575, 24575, 0, 4294967295, 1, 0, 0⟩ := rfl
    rw [FF] at h1 h2 q1 q2
    dsimp only at h1 h2 q1 q2
    have hd := Nm.one_in h1 (by decide)
    have hn := Nm.one_in h2 (by decide)
    have hm := Nm.one_in q2 (by decide)
    exact two9_2 cond rd rn rm 0 list s f it w
theorem row_11_c (cond rd rn rm imm mode list : Int) (s f it : Bool) (w : World) (hok : Nm.okB ⟨11, cond, rd, rn, rm, imm, mode, list, s⟩ = true) (_hw : Nm.Wide list) :
    Calls Tryd.prog 23 #[.agg #[.int .i64 11, .int .i64 cond, .int .i64 rd, .int .i64 rn, .int .i64 rm, .int .i64 imm, .int .i64 mode, .int .i64 list, .bool s], .bool f, .bool it] w fun e w' => Okay e (Nm.twoI ⟨11, cond, rd, rn, rm, imm, mode, list, s⟩ f it) ∧ Below w.heap.size w w' := by
  obtain ⟨_, h1, h2, h3, h4, h5, h6⟩ := Nm.ok_parts hok
  clear hok
  have h3' := Nm.last_cases h3
  clear h3
  dsimp only at h1 h2 h3' h4 h5 h6
  clear h4
  clear h5 h6
  rcases h3' with ⟨rfl, q1, q2, rfl, rfl⟩ | ⟨rfl, q1, q2, q3, q4, rfl⟩ | ⟨rfl, q1, q2, rfl⟩
  · have FF : Im.fieldsI 11 0 s = ⟨24575, 0, 24575, 0, 4294967295, 1, 0, 0⟩ := rfl
    rw [FF] at h1 h2 q1 q2
    dsimp only at h1 h2 q1 q2
    exfalso; omega
  · have FF : Im.fieldsI 11 1 s = ⟨24575, 0, 24575, 0, 4294967295, 1, 0, 0⟩ := rfl
    rw [FF] at h1 h2 q1 q2 q3 q4
    dsimp only at h1 h2 q1 q2 q3 q4
    have hd := Nm.one_in h1 (by decide)
    have hn : rn = 0 := Nm.one_none h2
    exact two11_1 cond rd rn 0 imm list s f it w
  · have FF : Im.fieldsI 11 2 s = ⟨24575, 0, 24575, 0, 4294967295, 1, 0, 0⟩ := rfl
    rw [FF] at h1 h2 q1 q2
    dsimp only at h1 h2 q1 q2
    have hd := Nm.one_in h1 (by decide)
    have hn : rn = 0 := Nm.one_none h2
    have hm := Nm.one_in q2 (by decide)
    exact two11_2 cond rd rn rm 0 list s f it w
theorem row_13_c (cond rd rn rm imm mode list : Int) (s f it : Bool) (w : World) (hok : Nm.okB ⟨13, cond, rd, rn, rm, imm, mode, list, s⟩ = true) (_hw : Nm.Wide list) :
    Calls Tryd.prog 23 #[.agg #[.int .i64 13, .int .i64 cond, .int .i64 rd, .int .i64 rn, .int .i64 rm, .int .i64 imm, .int .i64 mode, .int .i64 list, .bool s], .bool f, .bool it] w fun e w' => Okay e (Nm.twoI ⟨13, cond, rd, rn, rm, imm, mode, list, s⟩ f it) ∧ Below w.heap.size w w' := by
  obtain ⟨_, h1, h2, h3, h4, h5, h6⟩ := Nm.ok_parts hok
  clear hok
  have h3' := Nm.last_cases h3
  clear h3
  dsimp only at h1 h2 h3' h4 h5 h6
  clear h4
  clear h5 h6
  rcases h3' with ⟨rfl, q1, q2, rfl, rfl⟩ | ⟨rfl, q1, q2, q3, q4, rfl⟩ | ⟨rfl, q1, q2, rfl⟩
  · have FF : Im.fieldsI 13 0 s = ⟨0, 24575, 24575, 0, 4294967295, 1, 0, 0⟩ := rfl
    rw [FF] at h1 h2 q1 q2
    dsimp only at h1 h2 q1 q2
    exfalso; omega
  · have FF : Im.fieldsI 13 1 s = ⟨0, 24575, 24575, 0, 4294967295, 1, 0, 0⟩ := rfl
    rw [FF] at h1 h2 q1 q2 q3 q4
    dsimp only at h1 h2 q1 q2 q3 q4
    have hd : rd = 0 := Nm.one_none h1
    have hn := Nm.one_in h2 (by decide)
    exact two13_1 cond rd rn 0 imm list s f it w
  · have FF : Im.fieldsI 13 2 s = ⟨0, 24575, 24575, 0, 4294967295, 1, 0, 0⟩ := rfl
    rw [FF] at h1 h2 q1 q2
    dsimp only at h1 h2 q1 q2
    have hd : rd = 0 := Nm.one_none h1
    have hn := Nm.one_in h2 (by decide)
    have hm := Nm.one_in q2 (by decide)
    exact two13_2 cond rd rn rm 0 list s f it w
theorem row_14_c (cond rd rn rm imm mode list : Int) (s f it : Bool) (w : World) (hok : Nm.okB ⟨14, cond, rd, rn, rm, imm, mode, list, s⟩ = true) (_hw : Nm.Wide list) :
    Calls Tryd.prog 23 #[.agg #[.int .i64 14, .int .i64 cond, .int .i64 rd, .int .i64 rn, .int .i64 rm, .int .i64 imm, .int .i64 mode, .int .i64 list, .bool s], .bool f, .bool it] w fun e w' => Okay e (Nm.twoI ⟨14, cond, rd, rn, rm, imm, mode, list, s⟩ f it) ∧ Below w.heap.size w w' := by
  obtain ⟨_, h1, h2, h3, h4, h5, h6⟩ := Nm.ok_parts hok
  clear hok
  have h3' := Nm.last_cases h3
  clear h3
  dsimp only at h1 h2 h3' h4 h5 h6
  clear h4
  clear h5 h6
  rcases h3' with ⟨rfl, q1, q2, rfl, rfl⟩ | ⟨rfl, q1, q2, q3, q4, rfl⟩ | ⟨rfl, q1, q2, rfl⟩
  · have FF : Im.fieldsI 14 0 s = ⟨0, 24575, 24575, 0, 4294967295, 1, 0, 0⟩ := rfl
    rw [FF] at h1 h2 q1 q2
    dsimp only at h1 h2 q1 q2
    exfalso; omega
  · have FF : Im.fieldsI 14 1 s = ⟨0, 24575, 24575, 0, 4294967295, 1, 0, 0⟩ := rfl
    rw [FF] at h1 h2 q1 q2 q3 q4
    dsimp only at h1 h2 q1 q2 q3 q4
    have hd : rd = 0 := Nm.one_none h1
    have hn := Nm.one_in h2 (by decide)
    exact two14_1 cond rd rn 0 imm list s f it w
  · have FF : Im.fieldsI 14 2 s = ⟨0, 24575, 24575, 0, 4294967295, 1, 0, 0⟩ := rfl
    rw [FF] at h1 h2 q1 q2
    dsimp only at h1 h2 q1 q2
    have hd : rd = 0 := Nm.one_none h1
    have hn := Nm.one_in h2 (by decide)
    have hm := Nm.one_in q2 (by decide)
    exact two14_2 cond rd rn rm 0 list s f it w
theorem row_20_c (cond rd rn rm imm mode list : Int) (s f it : Bool) (w : World) (hok : Nm.okB ⟨20, cond, rd, rn, rm, imm, mode, list, s⟩ = true) (_hw : Nm.Wide list) :
    Calls Tryd.prog 23 #[.agg #[.int .i64 20, .int .i64 cond, .int .i64 rd, .int .i64 rn, .int .i64 rm, .int .i64 imm, .int .i64 mode, .int .i64 list, .bool s], .bool f, .bool it] w fun e w' => Okay e (Nm.twoI ⟨20, cond, rd, rn, rm, imm, mode, list, s⟩ f it) ∧ Below w.heap.size w w' := by
  obtain ⟨_, h1, h2, h3, h4, h5, h6⟩ := Nm.ok_parts hok
  clear hok
  have h3' := Nm.last_cases h3
  clear h3
  dsimp only at h1 h2 h3' h4 h5 h6
  clear h4
  clear h5 h6
  rcases h3' with ⟨rfl, q1, q2, rfl, rfl⟩ | ⟨rfl, q1, q2, q3, q4, rfl⟩ | ⟨rfl, q1, q2, rfl⟩
  · have FF : Im.fieldsI 20 0 s = ⟨24575, 24575, 24575, 0, 0, 0, 0, 0⟩ := rfl
    rw [FF] at h1 h2 q1 q2
    dsimp only at h1 h2 q1 q2
    exfalso; omega
  · have FF : Im.fieldsI 20 1 s = ⟨24575, 24575, 24575, 0, 0, 0, 0, 0⟩ := rfl
    rw [FF] at h1 h2 q1 q2 q3 q4
    dsimp only at h1 h2 q1 q2 q3 q4
    exfalso; omega
  · have FF : Im.fieldsI 20 2 s = ⟨24575, 24575, 24575, 0, 0, 0, 0, 0⟩ := rfl
    rw [FF] at h1 h2 q1 q2
    dsimp only at h1 h2 q1 q2
    have hd := Nm.one_in h1 (by decide)
    have hn := Nm.one_in h2 (by decide)
    have hm := Nm.one_in q2 (by decide)
    exact two20_2 cond rd rn rm 0 list s f it w
theorem row_10_c (cond rd rn rm imm mode list : Int) (s f it : Bool) (w : World) (hok : Nm.okB ⟨10, cond, rd, rn, rm, imm, mode, list, s⟩ = true) (_hw : Nm.Wide list) :
    Calls Tryd.prog 22 #[.agg #[.int .i64 10, .int .i64 cond, .int .i64 rd, .int .i64 rn, .int .i64 rm, .int .i64 imm, .int .i64 mode, .int .i64 list, .bool s], .bool f, .bool it] w fun e w' => Okay e (Nm.moveI ⟨10, cond, rd, rn, rm, imm, mode, list, s⟩ f it) ∧ Below w.heap.size w w' := by
  obtain ⟨_, h1, h2, h3, h4, h5, h6⟩ := Nm.ok_parts hok
  clear hok
  have h3' := Nm.last_cases h3
  clear h3
  dsimp only at h1 h2 h3' h4 h5 h6
  clear h4
  clear h5 h6
  rcases h3' with ⟨rfl, q1, q2, rfl, rfl⟩ | ⟨rfl, q1, q2, q3, q4, rfl⟩ | ⟨rfl, q1, q2, rfl⟩
  · cases s
    · have FF : Im.fieldsI 10 0 false = ⟨24575, 0, 24575, 0, 4294967295, 1, 0, 0⟩ := rfl
      rw [FF] at h1 h2 q1 q2
      dsimp only at h1 h2 q1 q2
      exfalso; omega
    · have FF : Im.fieldsI 10 0 true = ⟨24575, 0, 24575, 0, 4294967295, 1, 0, 0⟩ := rfl
      rw [FF] at h1 h2 q1 q2
      dsimp only at h1 h2 q1 q2
      exfalso; omega
  · cases s
    · have FF : Im.fieldsI 10 1 false = ⟨24575, 0, 24575, 0, 4294967295, 1, 0, 0⟩ := rfl
      rw [FF] at h1 h2 q1 q2 q3 q4
      dsimp only at h1 h2 q1 q2 q3 q4
      have hd := Nm.one_in h1 (by decide)
      have hn : rn = 0 := Nm.one_none h2
      exact move10_1 cond rd rn 0 imm list false f it w (by omega)
    · have FF : Im.fieldsI 10 1 true = ⟨24575, 0, 24575, 0, 4294967295, 1, 0, 0⟩ := rfl
      rw [FF] at h1 h2 q1 q2 q3 q4
      dsimp only at h1 h2 q1 q2 q3 q4
      have hd := Nm.one_in h1 (by decide)
      have hn : rn = 0 := Nm.one_none h2
      exact move10_1 cond rd rn 0 imm list true f it w (by omega)
  · cases s
    · have FF : Im.fieldsI 10 2 false = ⟨32767, 0, 32767, 0, 0, 0, 0, 0⟩ := rfl
      rw [FF] at h1 h2 q1 q2
      dsimp only at h1 h2 q1 q2
      have hd := Nm.one_in h1 (by decide)
      have hn : rn = 0 := Nm.one_none h2
      have hm := Nm.one_in q2 (by decide)
      exact move10_2n cond rd rn rm 0 list f it w (by omega) (by omega) (by omega) (by omega)
    · have FF : Im.fieldsI 10 2 true = ⟨24575, 0, 24575, 0, 4294967295, 1, 0, 0⟩ := rfl
      rw [FF] at h1 h2 q1 q2
      dsimp only at h1 h2 q1 q2
      have hd := Nm.one_in h1 (by decide)
      have hn : rn = 0 := Nm.one_none h2
      have hm := Nm.one_in q2 (by decide)
      exact move10_2s cond rd rn rm 0 list f it w
theorem row_12_c (cond rd rn rm imm mode list : Int) (s f it : Bool) (w : World) (hok : Nm.okB ⟨12, cond, rd, rn, rm, imm, mode, list, s⟩ = true) (_hw : Nm.Wide list) :
    Calls Tryd.prog 22 #[.agg #[.int .i64 12, .int .i64 cond, .int .i64 rd, .int .i64 rn, .int .i64 rm, .int .i64 imm, .int .i64 mode, .int .i64 list, .bool s], .bool f, .bool it] w fun e w' => Okay e (Nm.moveI ⟨12, cond, rd, rn, rm, imm, mode, list, s⟩ f it) ∧ Below w.heap.size w w' := by
  obtain ⟨_, h1, h2, h3, h4, h5, h6⟩ := Nm.ok_parts hok
  clear hok
  have h3' := Nm.last_cases h3
  clear h3
  dsimp only at h1 h2 h3' h4 h5 h6
  clear h4
  clear h5 h6
  rcases h3' with ⟨rfl, q1, q2, rfl, rfl⟩ | ⟨rfl, q1, q2, q3, q4, rfl⟩ | ⟨rfl, q1, q2, rfl⟩
  · have FF : Im.fieldsI 12 0 s = ⟨0, 24575, 24575, 0, 4294967295, 1, 0, 0⟩ := rfl
    rw [FF] at h1 h2 q1 q2
    dsimp only at h1 h2 q1 q2
    exfalso; omega
  · have FF : Im.fieldsI 12 1 s = ⟨0, 24575, 24575, 0, 4294967295, 1, 0, 0⟩ := rfl
    rw [FF] at h1 h2 q1 q2 q3 q4
    dsimp only at h1 h2 q1 q2 q3 q4
    have hd : rd = 0 := Nm.one_none h1
    have hn := Nm.one_in h2 (by decide)
    exact move12_1 cond rd rn 0 imm list s f it w (by omega)
  · have FF : Im.fieldsI 12 2 s = ⟨0, 24575, 24575, 0, 4294967295, 1, 0, 0⟩ := rfl
    rw [FF] at h1 h2 q1 q2
    dsimp only at h1 h2 q1 q2
    have hd : rd = 0 := Nm.one_none h1
    have hn := Nm.one_in h2 (by decide)
    have hm := Nm.one_in q2 (by decide)
    cases hl : (Nm.low rn && Nm.low rm)
    · exact move12_2b cond rd rn rm 0 list s f it w hl (by omega) (by omega) (by omega) (by omega)
    · exact move12_2a cond rd rn rm 0 list s f it w hl
theorem row_5_c (cond rd rn rm imm mode list : Int) (s f : Bool) (w : World) (hok : Nm.okB ⟨5, cond, rd, rn, rm, imm, mode, list, s⟩ = true) (_hw : Nm.Wide list) :
    Calls Tryd.prog 21 #[.agg #[.int .i64 5, .int .i64 cond, .int .i64 rd, .int .i64 rn, .int .i64 rm, .int .i64 imm, .int .i64 mode, .int .i64 list, .bool s], .bool f] w fun e w' => Okay e (Nm.sumI ⟨5, cond, rd, rn, rm, imm, mode, list, s⟩ f) ∧ Below w.heap.size w w' := by
  obtain ⟨_, h1, h2, h3, h4, h5, h6⟩ := Nm.ok_parts hok
  clear hok
  have h3' := Nm.last_cases h3
  clear h3
  dsimp only at h1 h2 h3' h4 h5 h6
  clear h4
  clear h5 h6
  rcases h3' with ⟨rfl, q1, q2, rfl, rfl⟩ | ⟨rfl, q1, q2, q3, q4, rfl⟩ | ⟨rfl, q1, q2, rfl⟩
  · have FF : Im.fieldsI 5 0 s = ⟨24575, 24575, 24575, 0, 4294967295, 1, 0, 0⟩ := rfl
    rw [FF] at h1 h2 q1 q2
    dsimp only at h1 h2 q1 q2
    exfalso; omega
  · have FF : Im.fieldsI 5 1 s = ⟨24575, 24575, 24575, 0, 4294967295, 1, 0, 0⟩ := rfl
    rw [FF] at h1 h2 q1 q2 q3 q4
    dsimp only at h1 h2 q1 q2 q3 q4
    have hd := Nm.one_in h1 (by decide)
    have hn := Nm.one_in h2 (by decide)
    cases f
    · exact sum5_1d cond rd rn 0 imm list s w
    · cases hld : Nm.low rd
      · exact sum5_1b cond rd rn 0 imm list s w hld
      · cases hln : Nm.low rn
        · have hne : (rd == rn) = false := by
            cases h : (rd == rn)
            · rfl
            · rw [beq_iff_eq] at h
              rw [h, hln] at hld
              cases hld
          exact sum5_1e cond rd rn 0 imm list s w hld hln hne
        · cases hi : decide (imm ≤ 7)
          · exact sum5_1c cond rd rn 0 imm list s w hld hln (by omega) hi
          · exact sum5_1a cond rd rn 0 imm list s w hld hln (by omega) hi
  · have FF : Im.fieldsI 5 2 s = ⟨24575, 24575, 24575, 0, 4294967295, 1, 0, 0⟩ := rfl
    rw [FF] at h1 h2 q1 q2
    dsimp only at h1 h2 q1 q2
    have hd := Nm.one_in h1 (by decide)
    have hn := Nm.one_in h2 (by decide)
    have hm := Nm.one_in q2 (by decide)
    cases f
    · exact sum5_2c cond rd rn rm 0 list s w (by omega) (by omega) (by omega) (by omega)
    · cases hl : (Nm.low rd && (Nm.low rn && Nm.low rm))
      · exact sum5_2b cond rd rn rm 0 list s w hl (by omega) (by omega) (by omega) (by omega)
      · exact sum5_2a cond rd rn rm 0 list s w hl
theorem row_7_c (cond rd rn rm imm mode list : Int) (s f : Bool) (w : World) (hok : Nm.okB ⟨7, cond, rd, rn, rm, imm, mode, list, s⟩ = true) (_hw : Nm.Wide list) :
    Calls Tryd.prog 21 #[.agg #[.int .i64 7, .int .i64 cond, .int .i64 rd, .int .i64 rn, .int .i64 rm, .int .i64 imm, .int .i64 mode, .int .i64 list, .bool s], .bool f] w fun e w' => Okay e (Nm.sumI ⟨7, cond, rd, rn, rm, imm, mode, list, s⟩ f) ∧ Below w.heap.size w w' := by
  obtain ⟨_, h1, h2, h3, h4, h5, h6⟩ := Nm.ok_parts hok
  clear hok
  have h3' := Nm.last_cases h3
  clear h3
  dsimp only at h1 h2 h3' h4 h5 h6
  clear h4
  clear h5 h6
  rcases h3' with ⟨rfl, q1, q2, rfl, rfl⟩ | ⟨rfl, q1, q2, q3, q4, rfl⟩ | ⟨rfl, q1, q2, rfl⟩
  · have FF : Im.fieldsI 7 0 s = ⟨24575, 24575, 24575, 0, 4294967295, 1, 0, 0⟩ := rfl
    rw [FF] at h1 h2 q1 q2
    dsimp only at h1 h2 q1 q2
    exfalso; omega
  · have FF : Im.fieldsI 7 1 s = ⟨24575, 24575, 24575, 0, 4294967295, 1, 0, 0⟩ := rfl
    rw [FF] at h1 h2 q1 q2 q3 q4
    dsimp only at h1 h2 q1 q2 q3 q4
    have hd := Nm.one_in h1 (by decide)
    have hn := Nm.one_in h2 (by decide)
    cases f
    · exact sum7_1d cond rd rn 0 imm list s w
    · cases hld : Nm.low rd
      · exact sum7_1b cond rd rn 0 imm list s w hld
      · cases hln : Nm.low rn
        · have hne : (rd == rn) = false := by
            cases h : (rd == rn)
            · rfl
            · rw [beq_iff_eq] at h
              rw [h, hln] at hld
              cases hld
          exact sum7_1e cond rd rn 0 imm list s w hld hln hne
        · cases hi : decide (imm ≤ 7)
          · exact sum7_1c cond rd rn 0 imm list s w hld hln (by omega) hi
          · exact sum7_1a cond rd rn 0 imm list s w hld hln (by omega) hi
  · have FF : Im.fieldsI 7 2 s = ⟨24575, 24575, 24575, 0, 4294967295, 1, 0, 0⟩ := rfl
    rw [FF] at h1 h2 q1 q2
    dsimp only at h1 h2 q1 q2
    have hd := Nm.one_in h1 (by decide)
    have hn := Nm.one_in h2 (by decide)
    have hm := Nm.one_in q2 (by decide)
    cases f
    · exact sum7_2c cond rd rn rm 0 list s w (by omega) (by omega) (by omega) (by omega)
    · cases hl : (Nm.low rd && (Nm.low rn && Nm.low rm))
      · exact sum7_2b cond rd rn rm 0 list s w hl (by omega) (by omega) (by omega) (by omega)
      · exact sum7_2a cond rd rn rm 0 list s w hl
theorem row_16_c (cond rd rn rm imm mode list : Int) (s f : Bool) (w : World) (hok : Nm.okB ⟨16, cond, rd, rn, rm, imm, mode, list, s⟩ = true) (_hw : Nm.Wide list) :
    Calls Tryd.prog 24 #[.agg #[.int .i64 16, .int .i64 cond, .int .i64 rd, .int .i64 rn, .int .i64 rm, .int .i64 imm, .int .i64 mode, .int .i64 list, .bool s], .bool f] w fun e w' => Okay e (Nm.shiftI ⟨16, cond, rd, rn, rm, imm, mode, list, s⟩ f) ∧ Below w.heap.size w w' := by
  obtain ⟨_, h1, h2, h3, h4, h5, h6⟩ := Nm.ok_parts hok
  clear hok
  have h3' := Nm.last_cases h3
  clear h3
  dsimp only at h1 h2 h3' h4 h5 h6
  clear h4
  clear h5 h6
  rcases h3' with ⟨rfl, q1, q2, rfl, rfl⟩ | ⟨rfl, q1, q2, q3, q4, rfl⟩ | ⟨rfl, q1, q2, rfl⟩
  · have FF : Im.fieldsI 16 0 s = ⟨24575, 24575, 24575, 1, 31, 1, 0, 0⟩ := rfl
    rw [FF] at h1 h2 q1 q2
    dsimp only at h1 h2 q1 q2
    exfalso; omega
  · have FF : Im.fieldsI 16 1 s = ⟨24575, 24575, 24575, 1, 31, 1, 0, 0⟩ := rfl
    rw [FF] at h1 h2 q1 q2 q3 q4
    dsimp only at h1 h2 q1 q2 q3 q4
    have hd := Nm.one_in h1 (by decide)
    have hn := Nm.one_in h2 (by decide)
    exact shift16_1 cond rd rn 0 imm list s f w
  · have FF : Im.fieldsI 16 2 s = ⟨24575, 24575, 24575, 1, 31, 1, 0, 0⟩ := rfl
    rw [FF] at h1 h2 q1 q2
    dsimp only at h1 h2 q1 q2
    have hd := Nm.one_in h1 (by decide)
    have hn := Nm.one_in h2 (by decide)
    have hm := Nm.one_in q2 (by decide)
    exact shift16_2 cond rd rn rm 0 list s f w
theorem row_17_c (cond rd rn rm imm mode list : Int) (s f : Bool) (w : World) (hok : Nm.okB ⟨17, cond, rd, rn, rm, imm, mode, list, s⟩ = true) (_hw : Nm.Wide list) :
    Calls Tryd.prog 24 #[.agg #[.int .i64 17, .int .i64 cond, .int .i64 rd, .int .i64 rn, .int .i64 rm, .int .i64 imm, .int .i64 mode, .int .i64 list, .bool s], .bool f] w fun e w' => Okay e (Nm.shiftI ⟨17, cond, rd, rn, rm, imm, mode, list, s⟩ f) ∧ Below w.heap.size w w' := by
  obtain ⟨_, h1, h2, h3, h4, h5, h6⟩ := Nm.ok_parts hok
  clear hok
  have h3' := Nm.last_cases h3
  clear h3
  dsimp only at h1 h2 h3' h4 h5 h6
  clear h4
  clear h5 h6
  rcases h3' with ⟨rfl, q1, q2, rfl, rfl⟩ | ⟨rfl, q1, q2, q3, q4, rfl⟩ | ⟨rfl, q1, q2, rfl⟩
  · have FF : Im.fieldsI 17 0 s = ⟨24575, 24575, 24575, 1, 32, 1, 0, 0⟩ := rfl
    rw [FF] at h1 h2 q1 q2
    dsimp only at h1 h2 q1 q2
    exfalso; omega
  · have FF : Im.fieldsI 17 1 s = ⟨24575, 24575, 24575, 1, 32, 1, 0, 0⟩ := rfl
    rw [FF] at h1 h2 q1 q2 q3 q4
    dsimp only at h1 h2 q1 q2 q3 q4
    have hd := Nm.one_in h1 (by decide)
    have hn := Nm.one_in h2 (by decide)
    exact shift17_1 cond rd rn 0 imm list s f w
  · have FF : Im.fieldsI 17 2 s = ⟨24575, 24575, 24575, 1, 32, 1, 0, 0⟩ := rfl
    rw [FF] at h1 h2 q1 q2
    dsimp only at h1 h2 q1 q2
    have hd := Nm.one_in h1 (by decide)
    have hn := Nm.one_in h2 (by decide)
    have hm := Nm.one_in q2 (by decide)
    exact shift17_2 cond rd rn rm 0 list s f w
theorem row_18_c (cond rd rn rm imm mode list : Int) (s f : Bool) (w : World) (hok : Nm.okB ⟨18, cond, rd, rn, rm, imm, mode, list, s⟩ = true) (_hw : Nm.Wide list) :
    Calls Tryd.prog 24 #[.agg #[.int .i64 18, .int .i64 cond, .int .i64 rd, .int .i64 rn, .int .i64 rm, .int .i64 imm, .int .i64 mode, .int .i64 list, .bool s], .bool f] w fun e w' => Okay e (Nm.shiftI ⟨18, cond, rd, rn, rm, imm, mode, list, s⟩ f) ∧ Below w.heap.size w w' := by
  obtain ⟨_, h1, h2, h3, h4, h5, h6⟩ := Nm.ok_parts hok
  clear hok
  have h3' := Nm.last_cases h3
  clear h3
  dsimp only at h1 h2 h3' h4 h5 h6
  clear h4
  clear h5 h6
  rcases h3' with ⟨rfl, q1, q2, rfl, rfl⟩ | ⟨rfl, q1, q2, q3, q4, rfl⟩ | ⟨rfl, q1, q2, rfl⟩
  · have FF : Im.fieldsI 18 0 s = ⟨24575, 24575, 24575, 1, 32, 1, 0, 0⟩ := rfl
    rw [FF] at h1 h2 q1 q2
    dsimp only at h1 h2 q1 q2
    exfalso; omega
  · have FF : Im.fieldsI 18 1 s = ⟨24575, 24575, 24575, 1, 32, 1, 0, 0⟩ := rfl
    rw [FF] at h1 h2 q1 q2 q3 q4
    dsimp only at h1 h2 q1 q2 q3 q4
    have hd := Nm.one_in h1 (by decide)
    have hn := Nm.one_in h2 (by decide)
    exact shift18_1 cond rd rn 0 imm list s f w
  · have FF : Im.fieldsI 18 2 s = ⟨24575, 24575, 24575, 1, 32, 1, 0, 0⟩ := rfl
    rw [FF] at h1 h2 q1 q2
    dsimp only at h1 h2 q1 q2
    have hd := Nm.one_in h1 (by decide)
    have hn := Nm.one_in h2 (by decide)
    have hm := Nm.one_in q2 (by decide)
    exact shift18_2 cond rd rn rm 0 list s f w
theorem row_19_c (cond rd rn rm imm mode list : Int) (s f : Bool) (w : World) (hok : Nm.okB ⟨19, cond, rd, rn, rm, imm, mode, list, s⟩ = true) (_hw : Nm.Wide list) :
    Calls Tryd.prog 24 #[.agg #[.int .i64 19, .int .i64 cond, .int .i64 rd, .int .i64 rn, .int .i64 rm, .int .i64 imm, .int .i64 mode, .int .i64 list, .bool s], .bool f] w fun e w' => Okay e (Nm.shiftI ⟨19, cond, rd, rn, rm, imm, mode, list, s⟩ f) ∧ Below w.heap.size w w' := by
  obtain ⟨_, h1, h2, h3, h4, h5, h6⟩ := Nm.ok_parts hok
  clear hok
  have h3' := Nm.last_cases h3
  clear h3
  dsimp only at h1 h2 h3' h4 h5 h6
  clear h4
  clear h5 h6
  rcases h3' with ⟨rfl, q1, q2, rfl, rfl⟩ | ⟨rfl, q1, q2, q3, q4, rfl⟩ | ⟨rfl, q1, q2, rfl⟩
  · have FF : Im.fieldsI 19 0 s = ⟨24575, 24575, 24575, 1, 31, 1, 0, 0⟩ := rfl
    rw [FF] at h1 h2 q1 q2
    dsimp only at h1 h2 q1 q2
    exfalso; omega
  · have FF : Im.fieldsI 19 1 s = ⟨24575, 24575, 24575, 1, 31, 1, 0, 0⟩ := rfl
    rw [FF] at h1 h2 q1 q2 q3 q4
    dsimp only at h1 h2 q1 q2 q3 q4
    have hd := Nm.one_in h1 (by decide)
    have hn := Nm.one_in h2 (by decide)
    exact shift19_1 cond rd rn 0 imm list s f w
  · have FF : Im.fieldsI 19 2 s = ⟨24575, 24575, 24575, 1, 31, 1, 0, 0⟩ := rfl
    rw [FF] at h1 h2 q1 q2
    dsimp only at h1 h2 q1 q2
    have hd := Nm.one_in h1 (by decide)
    have hn := Nm.one_in h2 (by decide)
    have hm := Nm.one_in q2 (by decide)
    exact shift19_2 cond rd rn rm 0 list s f w
theorem row_25_c (cond rd rn rm imm mode list : Int) (s : Bool) (w : World) (hok : Nm.okB ⟨25, cond, rd, rn, rm, imm, mode, list, s⟩ = true) (_hw : Nm.Wide list) :
    Calls Tryd.prog 25 #[.agg #[.int .i64 25, .int .i64 cond, .int .i64 rd, .int .i64 rn, .int .i64 rm, .int .i64 imm, .int .i64 mode, .int .i64 list, .bool s]] w fun e w' => Okay e (Nm.loadI ⟨25, cond, rd, rn, rm, imm, mode, list, s⟩) ∧ Below w.heap.size w w' := by
  obtain ⟨_, h1, h2, h3, h4, h5, h6⟩ := Nm.ok_parts hok
  clear hok
  have h3' := Nm.last_cases h3
  clear h3
  dsimp only at h1 h2 h3' h4 h5 h6
  clear h4
  clear h5 h6
  rcases h3' with ⟨rfl, q1, q2, rfl, rfl⟩ | ⟨rfl, q1, q2, q3, q4, rfl⟩ | ⟨rfl, q1, q2, rfl⟩
  · have FF : Im.fieldsI 25 0 s = ⟨24575, 32767, 24575, 0, 4095, 1, 0, 0⟩ := rfl
    rw [FF] at h1 h2 q1 q2
    dsimp only at h1 h2 q1 q2
    exfalso; omega
  · have FF : Im.fieldsI 25 1 s = ⟨24575, 32767, 24575, 0, 4095, 1, 0, 0⟩ := rfl
    rw [FF] at h1 h2 q1 q2 q3 q4
    dsimp only at h1 h2 q1 q2 q3 q4
    have hd := Nm.one_in h1 (by decide)
    have hn := Nm.one_in h2 (by decide)
    by_cases h13 : rn = 13
    · subst h13
      exact load25_sp cond rd 0 imm list s w (by omega)
    · exact load25_1 cond rd rn 0 imm list s w (by omega) (by omega) (by simp [h13])
  · have FF : Im.fieldsI 25 2 s = ⟨24575, 32767, 24575, 0, 4095, 1, 0, 0⟩ := rfl
    rw [FF] at h1 h2 q1 q2
    dsimp only at h1 h2 q1 q2
    have hd := Nm.one_in h1 (by decide)
    have hn := Nm.one_in h2 (by decide)
    have hm := Nm.one_in q2 (by decide)
    exact load25_2 cond rd rn rm 0 list s w
theorem row_26_c (cond rd rn rm imm mode list : Int) (s : Bool) (w : World) (hok : Nm.okB ⟨26, cond, rd, rn, rm, imm, mode, list, s⟩ = true) (_hw : Nm.Wide list) :
    Calls Tryd.prog 25 #[.agg #[.int .i64 26, .int .i64 cond, .int .i64 rd, .int .i64 rn, .int .i64 rm, .int .i64 imm, .int .i64 mode, .int .i64 list, .bool s]] w fun e w' => Okay e (Nm.loadI ⟨26, cond, rd, rn, rm, imm, mode, list, s⟩) ∧ Below w.heap.size w w' := by
  obtain ⟨_, h1, h2, h3, h4, h5, h6⟩ := Nm.ok_parts hok
  clear hok
  have h3' := Nm.last_cases h3
  clear h3
  dsimp only at h1 h2 h3' h4 h5 h6
  clear h4
  clear h5 h6
  rcases h3' with ⟨rfl, q1, q2, rfl, rfl⟩ | ⟨rfl, q1, q2, q3, q4, rfl⟩ | ⟨rfl, q1, q2, rfl⟩
  · have FF : Im.fieldsI 26 0 s = ⟨24575, 32767, 24575, 0, 4095, 1, 0, 0⟩ := rfl
    rw [FF] at h1 h2 q1 q2
    dsimp only at h1 h2 q1 q2
    exfalso; omega
  · have FF : Im.fieldsI 26 1 s = ⟨24575, 32767, 24575, 0, 4095, 1, 0, 0⟩ := rfl
    rw [FF] at h1 h2 q1 q2 q3 q4
    dsimp only at h1 h2 q1 q2 q3 q4
    have hd := Nm.one_in h1 (by decide)
    have hn := Nm.one_in h2 (by decide)
    by_cases h13 : rn = 13
    · subst h13
      exact load26_sp cond rd 0 imm list s w (by omega)
    · exact load26_1 cond rd rn 0 imm list s w (by omega) (by omega) (by simp [h13])
  · have FF : Im.fieldsI 26 2 s = ⟨24575, 32767, 24575, 0, 4095, 1, 0, 0⟩ := rfl
    rw [FF] at h1 h2 q1 q2
    dsimp only at h1 h2 q1 q2
    have hd := Nm.one_in h1 (by decide)
    have hn := Nm.one_in h2 (by decide)
    have hm := Nm.one_in q2 (by decide)
    exact load26_2 cond rd rn rm 0 list s w
theorem row_27_c (cond rd rn rm imm mode list : Int) (s : Bool) (w : World) (hok : Nm.okB ⟨27, cond, rd, rn, rm, imm, mode, list, s⟩ = true) (_hw : Nm.Wide list) :
    Calls Tryd.prog 25 #[.agg #[.int .i64 27, .int .i64 cond, .int .i64 rd, .int .i64 rn, .int .i64 rm, .int .i64 imm, .int .i64 mode, .int .i64 list, .bool s]] w fun e w' => Okay e (Nm.loadI ⟨27, cond, rd, rn, rm, imm, mode, list, s⟩) ∧ Below w.heap.size w w' := by
  obtain ⟨_, h1, h2, h3, h4, h5, h6⟩ := Nm.ok_parts hok
  clear hok
  have h3' := Nm.last_cases h3
  clear h3
  dsimp only at h1 h2 h3' h4 h5 h6
  clear h4
  clear h5 h6
  rcases h3' with ⟨rfl, q1, q2, rfl, rfl⟩ | ⟨rfl, q1, q2, q3, q4, rfl⟩ | ⟨rfl, q1, q2, rfl⟩
  · have FF : Im.fieldsI 27 0 s = ⟨24575, 32767, 24575, 0, 4095, 1, 0, 0⟩ := rfl
    rw [FF] at h1 h2 q1 q2
    dsimp only at h1 h2 q1 q2
    exfalso; omega
  · have FF : Im.fieldsI 27 1 s = ⟨24575, 32767, 24575, 0, 4095, 1, 0, 0⟩ := rfl
    rw [FF] at h1 h2 q1 q2 q3 q4
    dsimp only at h1 h2 q1 q2 q3 q4
    have hd := Nm.one_in h1 (by decide)
    have hn := Nm.one_in h2 (by decide)
    by_cases h13 : rn = 13
    · subst h13
      exact load27_sp cond rd 0 imm list s w (by omega)
    · exact load27_1 cond rd rn 0 imm list s w (by omega) (by omega) (by simp [h13])
  · have FF : Im.fieldsI 27 2 s = ⟨24575, 32767, 24575, 0, 4095, 1, 0, 0⟩ := rfl
    rw [FF] at h1 h2 q1 q2
    dsimp only at h1 h2 q1 q2
    have hd := Nm.one_in h1 (by decide)
    have hn := Nm.one_in h2 (by decide)
    have hm := Nm.one_in q2 (by decide)
    exact load27_2 cond rd rn rm 0 list s w
theorem row_28_c (cond rd rn rm imm mode list : Int) (s : Bool) (w : World) (hok : Nm.okB ⟨28, cond, rd, rn, rm, imm, mode, list, s⟩ = true) (_hw : Nm.Wide list) :
    Calls Tryd.prog 25 #[.agg #[.int .i64 28, .int .i64 cond, .int .i64 rd, .int .i64 rn, .int .i64 rm, .int .i64 imm, .int .i64 mode, .int .i64 list, .bool s]] w fun e w' => Okay e (Nm.loadI ⟨28, cond, rd, rn, rm, imm, mode, list, s⟩) ∧ Below w.heap.size w w' := by
  obtain ⟨_, h1, h2, h3, h4, h5, h6⟩ := Nm.ok_parts hok
  clear hok
  have h3' := Nm.last_cases h3
  clear h3
  dsimp only at h1 h2 h3' h4 h5 h6
  clear h4
  clear h5 h6
  rcases h3' with ⟨rfl, q1, q2, rfl, rfl⟩ | ⟨rfl, q1, q2, q3, q4, rfl⟩ | ⟨rfl, q1, q2, rfl⟩
  · have FF : Im.fieldsI 28 0 s = ⟨24575, 32767, 24575, 0, 4095, 1, 0, 0⟩ := rfl
    rw [FF] at h1 h2 q1 q2
    dsimp only at h1 h2 q1 q2
    exfalso; omega
  · have FF : Im.fieldsI 28 1 s = ⟨24575, 32767, 24575, 0, 4095, 1, 0, 0⟩ := rfl
    rw [FF] at h1 h2 q1 q2 q3 q4
    dsimp only at h1 h2 q1 q2 q3 q4
    have hd := Nm.one_in h1 (by decide)
    have hn := Nm.one_in h2 (by decide)
    by_cases h13 : rn = 13
    · subst h13
      exact load28_sp cond rd 0 imm list s w (by omega)
    · exact load28_1 cond rd rn 0 imm list s w (by omega) (by omega) (by simp [h13])
  · have FF : Im.fieldsI 28 2 s = ⟨24575, 32767, 24575, 0, 4095, 1, 0, 0⟩ := rfl
    rw [FF] at h1 h2 q1 q2
    dsimp only at h1 h2 q1 q2
    have hd := Nm.one_in h1 (by decide)
    have hn := Nm.one_in h2 (by decide)
    have hm := Nm.one_in q2 (by decide)
    exact load28_2 cond rd rn rm 0 list s w
theorem row_29_c (cond rd rn rm imm mode list : Int) (s : Bool) (w : World) (hok : Nm.okB ⟨29, cond, rd, rn, rm, imm, mode, list, s⟩ = true) (_hw : Nm.Wide list) :
    Calls Tryd.prog 25 #[.agg #[.int .i64 29, .int .i64 cond, .int .i64 rd, .int .i64 rn, .int .i64 rm, .int .i64 imm, .int .i64 mode, .int .i64 list, .bool s]] w fun e w' => Okay e (Nm.loadI ⟨29, cond, rd, rn, rm, imm, mode, list, s⟩) ∧ Below w.heap.size w w' := by
  obtain ⟨_, h1, h2, h3, h4, h5, h6⟩ := Nm.ok_parts hok
  clear hok
  have h3' := Nm.last_cases h3
  clear h3
  dsimp only at h1 h2 h3' h4 h5 h6
  clear h4
  clear h5 h6
  rcases h3' with ⟨rfl, q1, q2, rfl, rfl⟩ | ⟨rfl, q1, q2, q3, q4, rfl⟩ | ⟨rfl, q1, q2, rfl⟩
  · have FF : Im.fieldsI 29 0 s = ⟨24575, 32767, 24575, 0, 4095, 1, 0, 0⟩ := rfl
    rw [FF] at h1 h2 q1 q2
    dsimp only at h1 h2 q1 q2
    exfalso; omega
  · have FF : Im.fieldsI 29 1 s = ⟨24575, 32767, 24575, 0, 4095, 1, 0, 0⟩ := rfl
    rw [FF] at h1 h2 q1 q2 q3 q4
    dsimp only at h1 h2 q1 q2 q3 q4
    have hd := Nm.one_in h1 (by decide)
    have hn := Nm.one_in h2 (by decide)
    by_cases h13 : rn = 13
    · subst h13
      exact load29_sp cond rd 0 imm list s w (by omega)
    · exact load29_1 cond rd rn 0 imm list s w (by omega) (by omega) (by simp [h13])
  · have FF : Im.fieldsI 29 2 s = ⟨24575, 32767, 24575, 0, 4095, 1, 0, 0⟩ := rfl
    rw [FF] at h1 h2 q1 q2
    dsimp only at h1 h2 q1 q2
    have hd := Nm.one_in h1 (by decide)
    have hn := Nm.one_in h2 (by decide)
    have hm := Nm.one_in q2 (by decide)
    exact load29_2 cond rd rn rm 0 list s w
theorem row_30_c (cond rd rn rm imm mode list : Int) (s : Bool) (w : World) (hok : Nm.okB ⟨30, cond, rd, rn, rm, imm, mode, list, s⟩ = true) (_hw : Nm.Wide list) :
    Calls Tryd.prog 25 #[.agg #[.int .i64 30, .int .i64 cond, .int .i64 rd, .int .i64 rn, .int .i64 rm, .int .i64 imm, .int .i64 mode, .int .i64 list, .bool s]] w fun e w' => Okay e (Nm.loadI ⟨30, cond, rd, rn, rm, imm, mode, list, s⟩) ∧ Below w.heap.size w w' := by
  obtain ⟨_, h1, h2, h3, h4, h5, h6⟩ := Nm.ok_parts hok
  clear hok
  have h3' := Nm.last_cases h3
  clear h3
  dsimp only at h1 h2 h3' h4 h5 h6
  clear h4
  clear h5 h6
  rcases h3' with ⟨rfl, q1, q2, rfl, rfl⟩ | ⟨rfl, q1, q2, q3, q4, rfl⟩ | ⟨rfl, q1, q2, rfl⟩
  · have FF : Im.fieldsI 30 0 s = ⟨24575, 32767, 24575, 0, 4095, 1, 0, 0⟩ := rfl
    rw [FF] at h1 h2 q1 q2
    dsimp only at h1 h2 q1 q2
    exfalso; omega
  · have FF : Im.fieldsI 30 1 s = ⟨24575, 32767, 24575, 0, 4095, 1, 0, 0⟩ := rfl
    rw [FF] at h1 h2 q1 q2 q3 q4
    dsimp only at h1 h2 q1 q2 q3 q4
    have hd := Nm.one_in h1 (by decide)
    have hn := Nm.one_in h2 (by decide)
    by_cases h13 : rn = 13
    · subst h13
      exact load30_sp cond rd 0 imm list s w (by omega)
    · exact load30_1 cond rd rn 0 imm list s w (by omega) (by omega) (by simp [h13])
  · have FF : Im.fieldsI 30 2 s = ⟨24575, 32767, 24575, 0, 4095, 1, 0, 0⟩ := rfl
    rw [FF] at h1 h2 q1 q2
    dsimp only at h1 h2 q1 q2
    have hd := Nm.one_in h1 (by decide)
    have hn := Nm.one_in h2 (by decide)
    have hm := Nm.one_in q2 (by decide)
    exact load30_2 cond rd rn rm 0 list s w
theorem row_35_c (cond rd rn rm imm mode list : Int) (s it : Bool) (w : World) (hok : Nm.okB ⟨35, cond, rd, rn, rm, imm, mode, list, s⟩ = true) (_hw : Nm.Wide list) :
    Calls Tryd.prog 26 #[.agg #[.int .i64 35, .int .i64 cond, .int .i64 rd, .int .i64 rn, .int .i64 rm, .int .i64 imm, .int .i64 mode, .int .i64 list, .bool s], .bool it] w fun e w' => Okay e (Nm.branchI ⟨35, cond, rd, rn, rm, imm, mode, list, s⟩ it) ∧ Below w.heap.size w w' := by
  obtain ⟨_, h1, h2, h3, h4, h5, h6⟩ := Nm.ok_parts hok
  clear hok
  have h3' := Nm.last_cases h3
  clear h3
  dsimp only at h1 h2 h3' h4 h5 h6
  clear h4
  have hc : 0 ≤ cond ∧ cond ≤ 14 := by simpa [Im.condB] using h5
  clear h5 h6
  rcases h3' with ⟨rfl, q1, q2, rfl, rfl⟩ | ⟨rfl, q1, q2, q3, q4, rfl⟩ | ⟨rfl, q1, q2, rfl⟩
  · have FF : Im.fieldsI 35 0 s = ⟨0, 0, 0, -16777216, 16777214, 2, 0, 0⟩ := rfl
    rw [FF] at h1 h2 q1 q2
    dsimp only at h1 h2 q1 q2
    exfalso; omega
  · have FF : Im.fieldsI 35 1 s = ⟨0, 0, 0, -16777216, 16777214, 2, 0, 0⟩ := rfl
    rw [FF] at h1 h2 q1 q2 q3 q4
    dsimp only at h1 h2 q1 q2 q3 q4
    have hd : rd = 0 := Nm.one_none h1
    have hn : rn = 0 := Nm.one_none h2
    have he := Pl.tmod_even q4
    by_cases h14 : cond = 14
    · subst h14
      cases hf : fitsB 2 imm
      · exact branchA_o rd rn 0 imm list s it w hf
      · by_cases hn : imm < 0
        · exact branchA_y rd rn 0 imm list s it w hf hn
        · exact branchA_n rd rn 0 imm list s it w hf hn
    · cases hf : fitsB 1 imm
      · exact branchB_o cond rd rn 0 imm list s it w (by simp [h14]) hf
      · by_cases hn : imm < 0
        · exact branchB_y cond rd rn 0 imm list s it w (by simp [h14]) hc.1 hc.2 hf hn
        · exact branchB_n cond rd rn 0 imm list s it w (by simp [h14]) hc.1 hc.2 hf hn
  · have FF : Im.fieldsI 35 2 s = ⟨0, 0, 0, -16777216, 16777214, 2, 0, 0⟩ := rfl
    rw [FF] at h1 h2 q1 q2
    dsimp only at h1 h2 q1 q2
    exfalso; omega
theorem row_37_c (cond rd rn rm imm mode list : Int) (s it : Bool) (w : World) (hok : Nm.okB ⟨37, cond, rd, rn, rm, imm, mode, list, s⟩ = true) (_hw : Nm.Wide list) :
    Calls Tryd.prog 26 #[.agg #[.int .i64 37, .int .i64 cond, .int .i64 rd, .int .i64 rn, .int .i64 rm, .int .i64 imm, .int .i64 mode, .int .i64 list, .bool s], .bool it] w fun e w' => Okay e (Nm.branchI ⟨37, cond, rd, rn, rm, imm, mode, list, s⟩ it) ∧ Below w.heap.size w w' := by
  obtain ⟨_, h1, h2, h3, h4, h5, h6⟩ := Nm.ok_parts hok
  clear hok
  have h3' := Nm.last_cases h3
  clear h3
  dsimp only at h1 h2 h3' h4 h5 h6
  clear h4
  clear h5 h6
  rcases h3' with ⟨rfl, q1, q2, rfl, rfl⟩ | ⟨rfl, q1, q2, q3, q4, rfl⟩ | ⟨rfl, q1, q2, rfl⟩
  · have FF : Im.fieldsI 37 0 s = ⟨0, 255, 0, 0, 126, 2, 0, 0⟩ := rfl
    rw [FF] at h1 h2 q1 q2
    dsimp only at h1 h2 q1 q2
    exfalso; omega
  · have FF : Im.fieldsI 37 1 s = ⟨0, 255, 0, 0, 126, 2, 0, 0⟩ := rfl
    rw [FF] at h1 h2 q1 q2 q3 q4
    dsimp only at h1 h2 q1 q2 q3 q4
    have hd : rd = 0 := Nm.one_none h1
    have hn := Nm.one_in h2 (by decide)
    have hn7 := Nm.low_of h2
    have he := Pl.tmod_even q4
    have hf : fitsB 5 imm = true := by rw [Pl.fits5_iff]; omega
    exact branch37 cond rd rn 0 imm list s it w hf (by omega) (by omega) (by omega)
  · have FF : Im.fieldsI 37 2 s = ⟨0, 255, 0, 0, 126, 2, 0, 0⟩ := rfl
    rw [FF] at h1 h2 q1 q2
    dsimp only at h1 h2 q1 q2
    exfalso; omega
theorem row_38_c (cond rd rn rm imm mode list : Int) (s it : Bool) (w : World) (hok : Nm.okB ⟨38, cond, rd, rn, rm, imm, mode, list, s⟩ = true) (_hw : Nm.Wide list) :
    Calls Tryd.prog 26 #[.agg #[.int .i64 38, .int .i64 cond, .int .i64 rd, .int .i64 rn, .int .i64 rm, .int .i64 imm, .int .i64 mode, .int .i64 list, .bool s], .bool it] w fun e w' => Okay e (Nm.branchI ⟨38, cond, rd, rn, rm, imm, mode, list, s⟩ it) ∧ Below w.heap.size w w' := by
  obtain ⟨_, h1, h2, h3, h4, h5, h6⟩ := Nm.ok_parts hok
  clear hok
  have h3' := Nm.last_cases h3
  clear h3
  dsimp only at h1 h2 h3' h4 h5 h6
  clear h4
  clear h5 h6
  rcases h3' with ⟨rfl, q1, q2, rfl, rfl⟩ | ⟨rfl, q1, q2, q3, q4, rfl⟩ | ⟨rfl, q1, q2, rfl⟩
  · have FF : Im.fieldsI 38 0 s = ⟨0, 255, 0, 0, 126, 2, 0, 0⟩ := rfl
    rw [FF] at h1 h2 q1 q2
    dsimp only at h1 h2 q1 q2
    exfalso; omega
  · have FF : Im.fieldsI 38 1 s = ⟨0, 255, 0, 0, 126, 2, 0, 0⟩ := rfl
    rw [FF] at h1 h2 q1 q2 q3 q4
    dsimp only at h1 h2 q1 q2 q3 q4
    have hd : rd = 0 := Nm.one_none h1
    have hn := Nm.one_in h2 (by decide)
    have hn7 := Nm.low_of h2
    have he := Pl.tmod_even q4
    have hf : fitsB 5 imm = true := by rw [Pl.fits5_iff]; omega
    exact branch38 cond rd rn 0 imm list s it w hf (by omega) (by omega) (by omega)
  · have FF : Im.fieldsI 38 2 s = ⟨0, 255, 0, 0, 126, 2, 0, 0⟩ := rfl
    rw [FF] at h1 h2 q1 q2
    dsimp only at h1 h2 q1 q2
    exfalso; omega
theorem row_15_c (cond rd rn rm imm mode list : Int) (s it : Bool) (w : World) (hok : Nm.okB ⟨15, cond, rd, rn, rm, imm, mode, list, s⟩ = true) (_hw : Nm.Wide list) :
    Calls Tryd.prog 27 #[.agg #[.int .i64 15, .int .i64 cond, .int .i64 rd, .int .i64 rn, .int .i64 rm, .int .i64 imm, .int .i64 mode, .int .i64 list, .bool s], .bool it] w fun e w' => Okay e (Nm.restI ⟨15, cond, rd, rn, rm, imm, mode, list, s⟩ it) ∧ Below w.heap.size w w' := by
  obtain ⟨_, h1, h2, h3, h4, h5, h6⟩ := Nm.ok_parts hok
  clear hok
  have h3' := Nm.last_cases h3
  clear h3
  dsimp only at h1 h2 h3' h4 h5 h6
  clear h4
  clear h5 h6
  rcases h3' with ⟨rfl, q1, q2, rfl, rfl⟩ | ⟨rfl, q1, q2, q3, q4, rfl⟩ | ⟨rfl, q1, q2, rfl⟩
  · have FF : Im.fieldsI 15 0 s = ⟨0, 24575, 24575, 0, 4294967295, 1, 0, 0⟩ := rfl
    rw [FF] at h1 h2 q1 q2
    dsimp only at h1 h2 q1 q2
    exfalso; omega
  · have FF : Im.fieldsI 15 1 s = ⟨0, 24575, 24575, 0, 4294967295, 1, 0, 0⟩ := rfl
    rw [FF] at h1 h2 q1 q2 q3 q4
    dsimp only at h1 h2 q1 q2 q3 q4
    have hd : rd = 0 := Nm.one_none h1
    have hn := Nm.one_in h2 (by decide)
    exact rest15 cond rd rn 0 imm 1 list s it w
  · have FF : Im.fieldsI 15 2 s = ⟨0, 24575, 24575, 0, 4294967295, 1, 0, 0⟩ := rfl
    rw [FF] at h1 h2 q1 q2
    dsimp only at h1 h2 q1 q2
    have hd : rd = 0 := Nm.one_none h1
    have hn := Nm.one_in h2 (by decide)
    have hm := Nm.one_in q2 (by decide)
    exact rest15 cond rd rn rm 0 2 list s it w
theorem row_21_c (cond rd rn rm imm mode list : Int) (s it : Bool) (w : World) (hok : Nm.okB ⟨21, cond, rd, rn, rm, imm, mode, list, s⟩ = true) (_hw : Nm.Wide list) :
    Calls Tryd.prog 27 #[.agg #[.int .i64 21, .int .i64 cond, .int .i64 rd, .int .i64 rn, .int .i64 rm, .int .i64 imm, .int .i64 mode, .int .i64 list, .bool s], .bool it] w fun e w' => Okay e (Nm.restI ⟨21, cond, rd, rn, rm, imm, mode, list, s⟩ it) ∧ Below w.heap.size w w' := by
  obtain ⟨_, h1, h2, h3, h4, h5, h6⟩ := Nm.ok_parts hok
  clear hok
  have h3' := Nm.last_cases h3
  clear h3
  dsimp only at h1 h2 h3' h4 h5 h6
  clear h4
  clear h5 h6
  rcases h3' with ⟨rfl, q1, q2, rfl, rfl⟩ | ⟨rfl, q1, q2, q3, q4, rfl⟩ | ⟨rfl, q1, q2, rfl⟩
  · have FF : Im.fieldsI 21 0 s = ⟨24575, 24575, 24575, 0, 0, 0, 0, 0⟩ := rfl
    rw [FF] at h1 h2 q1 q2
    dsimp only at h1 h2 q1 q2
    exfalso; omega
  · have FF : Im.fieldsI 21 1 s = ⟨24575, 24575, 24575, 0, 0, 0, 0, 0⟩ := rfl
    rw [FF] at h1 h2 q1 q2 q3 q4
    dsimp only at h1 h2 q1 q2 q3 q4
    exfalso; omega
  · have FF : Im.fieldsI 21 2 s = ⟨24575, 24575, 24575, 0, 0, 0, 0, 0⟩ := rfl
    rw [FF] at h1 h2 q1 q2
    dsimp only at h1 h2 q1 q2
    have hd := Nm.one_in h1 (by decide)
    have hn := Nm.one_in h2 (by decide)
    have hm := Nm.one_in q2 (by decide)
    exact rest21 cond rd rn rm 0 2 list s it w
theorem row_22_c (cond rd rn rm imm mode list : Int) (s it : Bool) (w : World) (hok : Nm.okB ⟨22, cond, rd, rn, rm, imm, mode, list, s⟩ = true) (_hw : Nm.Wide list) :
    Calls Tryd.prog 27 #[.agg #[.int .i64 22, .int .i64 cond, .int .i64 rd, .int .i64 rn, .int .i64 rm, .int .i64 imm, .int .i64 mode, .int .i64 list, .bool s], .bool it] w fun e w' => Okay e (Nm.restI ⟨22, cond, rd, rn, rm, imm, mode, list, s⟩ it) ∧ Below w.heap.size w w' := by
  obtain ⟨_, h1, h2, h3, h4, h5, h6⟩ := Nm.ok_parts hok
  clear hok
  have h3' := Nm.last_cases h3
  clear h3
  dsimp only at h1 h2 h3' h4 h5 h6
  clear h4
  clear h5 h6
  rcases h3' with ⟨rfl, q1, q2, rfl, rfl⟩ | ⟨rfl, q1, q2, q3, q4, rfl⟩ | ⟨rfl, q1, q2, rfl⟩
  · have FF : Im.fieldsI 22 0 s = ⟨24575, 24575, 24575, 0, 0, 0, 0, 0⟩ := rfl
    rw [FF] at h1 h2 q1 q2
    dsimp only at h1 h2 q1 q2
    exfalso; omega
  · have FF : Im.fieldsI 22 1 s = ⟨24575, 24575, 24575, 0, 0, 0, 0, 0⟩ := rfl
    rw [FF] at h1 h2 q1 q2 q3 q4
    dsimp only at h1 h2 q1 q2 q3 q4
    exfalso; omega
  · have FF : Im.fieldsI 22 2 s = ⟨24575, 24575, 24575, 0, 0, 0, 0, 0⟩ := rfl
    rw [FF] at h1 h2 q1 q2
    dsimp only at h1 h2 q1 q2
    have hd := Nm.one_in h1 (by decide)
    have hn := Nm.one_in h2 (by decide)
    have hm := Nm.one_in q2 (by decide)
    exact rest22 cond rd rn rm 0 2 list s it w
theorem row_23_c (cond rd rn rm imm mode list : Int) (s it : Bool) (w : World) (hok : Nm.okB ⟨23, cond, rd, rn, rm, imm, mode, list, s⟩ = true) (_hw : Nm.Wide list) :
    Calls Tryd.prog 27 #[.agg #[.int .i64 23, .int .i64 cond, .int .i64 rd, .int .i64 rn, .int .i64 rm, .int .i64 imm, .int .i64 mode, .int .i64 list, .bool s], .bool it] w fun e w' => Okay e (Nm.restI ⟨23, cond, rd, rn, rm, imm, mode, list, s⟩ it) ∧ Below w.heap.size w w' := by
  obtain ⟨_, h1, h2, h3, h4, h5, h6⟩ := Nm.ok_parts hok
  clear hok
  have h3' := Nm.last_cases h3
  clear h3
  dsimp only at h1 h2 h3' h4 h5 h6
  clear h4
  clear h5 h6
  rcases h3' with ⟨rfl, q1, q2, rfl, rfl⟩ | ⟨rfl, q1, q2, q3, q4, rfl⟩ | ⟨rfl, q1, q2, rfl⟩
  · have FF : Im.fieldsI 23 0 s = ⟨24575, 0, 0, 0, 65535, 1, 0, 0⟩ := rfl
    rw [FF] at h1 h2 q1 q2
    dsimp only at h1 h2 q1 q2
    exfalso; omega
  · have FF : Im.fieldsI 23 1 s = ⟨24575, 0, 0, 0, 65535, 1, 0, 0⟩ := rfl
    rw [FF] at h1 h2 q1 q2 q3 q4
    dsimp only at h1 h2 q1 q2 q3 q4
    have hd := Nm.one_in h1 (by decide)
    have hn : rn = 0 := Nm.one_none h2
    exact rest23 cond rd rn 0 imm 1 list s it w
  · have FF : Im.fieldsI 23 2 s = ⟨24575, 0, 0, 0, 65535, 1, 0, 0⟩ := rfl
    rw [FF] at h1 h2 q1 q2
    dsimp only at h1 h2 q1 q2
    exfalso; omega
theorem row_24_c (cond rd rn rm imm mode list : Int) (s it : Bool) (w : World) (hok : Nm.okB ⟨24, cond, rd, rn, rm, imm, mode, list, s⟩ = true) (_hw : Nm.Wide list) :
    Calls Tryd.prog 27 #[.agg #[.int .i64 24, .int .i64 cond, .int .i64 rd, .int .i64 rn, .int .i64 rm, .int .i64 imm, .int .i64 mode, .int .i64 list, .bool s], .bool it] w fun e w' => Okay e (Nm.restI ⟨24, cond, rd, rn, rm, imm, mode, list, s⟩ it) ∧ Below w.heap.size w w' := by
  obtain ⟨_, h1, h2, h3, h4, h5, h6⟩ := Nm.ok_parts hok
  clear hok
  have h3' := Nm.last_cases h3
  clear h3
  dsimp only at h1 h2 h3' h4 h5 h6
  clear h4
  clear h5 h6
  rcases h3' with ⟨rfl, q1, q2, rfl, rfl⟩ | ⟨rfl, q1, q2, q3, q4, rfl⟩ | ⟨rfl, q1, q2, rfl⟩
  · have FF : Im.fieldsI 24 0 s = ⟨24575, 0, 0, 0, 65535, 1, 0, 0⟩ := rfl
    rw [FF] at h1 h2 q1 q2
    dsimp only at h1 h2 q1 q2
    exfalso; omega
  · have FF : Im.fieldsI 24 1 s = ⟨24575, 0, 0, 0, 65535, 1, 0, 0⟩ := rfl
    rw [FF] at h1 h2 q1 q2 q3 q4
    dsimp only at h1 h2 q1 q2 q3 q4
    have hd := Nm.one_in h1 (by decide)
    have hn : rn = 0 := Nm.one_none h2
    exact rest24 cond rd rn 0 imm 1 list s it w
  · have FF : Im.fieldsI 24 2 s = ⟨24575, 0, 0, 0, 65535, 1, 0, 0⟩ := rfl
    rw [FF] at h1 h2 q1 q2
    dsimp only at h1 h2 q1 q2
    exfalso; omega
theorem row_31_c (cond rd rn rm imm mode list : Int) (s it : Bool) (w : World) (hok : Nm.okB ⟨31, cond, rd, rn, rm, imm, mode, list, s⟩ = true) (hw : Nm.Wide list) :
    Calls Tryd.prog 27 #[.agg #[.int .i64 31, .int .i64 cond, .int .i64 rd, .int .i64 rn, .int .i64 rm, .int .i64 imm, .int .i64 mode, .int .i64 list, .bool s], .bool it] w fun e w' => Okay e (Nm.restI ⟨31, cond, rd, rn, rm, imm, mode, list, s⟩ it) ∧ Below w.heap.size w w' := by
  obtain ⟨_, h1, h2, h3, h4, h5, h6⟩ := Nm.ok_parts hok
  clear hok
  have h3' := Nm.last_cases h3
  clear h3
  dsimp only at h1 h2 h3' h4 h5 h6
  have hl := Nm.list_most h4 24575 (by decide) rfl hw
  clear h5 h6
  rcases h3' with ⟨rfl, q1, q2, rfl, rfl⟩ | ⟨rfl, q1, q2, q3, q4, rfl⟩ | ⟨rfl, q1, q2, rfl⟩
  · have FF : Im.fieldsI 31 0 s = ⟨0, 24575, 0, 0, 0, 0, 24575, 2⟩ := rfl
    rw [FF] at h1 h2 q1 q2
    dsimp only at h1 h2 q1 q2
    have hd : rd = 0 := Nm.one_none h1
    have hn := Nm.one_in h2 (by decide)
    exact rest31 cond rd rn 0 0 0 list s it w hl.1 (by omega)
  · have FF : Im.fieldsI 31 1 s = ⟨0, 24575, 0, 0, 0, 0, 24575, 2⟩ := rfl
    rw [FF] at h1 h2 q1 q2 q3 q4
    dsimp only at h1 h2 q1 q2 q3 q4
    exfalso; omega
  · have FF : Im.fieldsI 31 2 s = ⟨0, 24575, 0, 0, 0, 0, 24575, 2⟩ := rfl
    rw [FF] at h1 h2 q1 q2
    dsimp only at h1 h2 q1 q2
    exfalso; omega
theorem row_32_c (cond rd rn rm imm mode list : Int) (s it : Bool) (w : World) (hok : Nm.okB ⟨32, cond, rd, rn, rm, imm, mode, list, s⟩ = true) (hw : Nm.Wide list) :
    Calls Tryd.prog 27 #[.agg #[.int .i64 32, .int .i64 cond, .int .i64 rd, .int .i64 rn, .int .i64 rm, .int .i64 imm, .int .i64 mode, .int .i64 list, .bool s], .bool it] w fun e w' => Okay e (Nm.restI ⟨32, cond, rd, rn, rm, imm, mode, list, s⟩ it) ∧ Below w.heap.size w w' := by
  obtain ⟨_, h1, h2, h3, h4, h5, h6⟩ := Nm.ok_parts hok
  clear hok
  have h3' := Nm.last_cases h3
  clear h3
  dsimp only at h1 h2 h3' h4 h5 h6
  have hl := Nm.list_most h4 24575 (by decide) rfl hw
  clear h5 h6
  rcases h3' with ⟨rfl, q1, q2, rfl, rfl⟩ | ⟨rfl, q1, q2, q3, q4, rfl⟩ | ⟨rfl, q1, q2, rfl⟩
  · have FF : Im.fieldsI 32 0 s = ⟨0, 24575, 0, 0, 0, 0, 24575, 2⟩ := rfl
    rw [FF] at h1 h2 q1 q2
    dsimp only at h1 h2 q1 q2
    have hd : rd = 0 := Nm.one_none h1
    have hn := Nm.one_in h2 (by decide)
    exact rest32 cond rd rn 0 0 0 list s it w hl.1 (by omega)
  · have FF : Im.fieldsI 32 1 s = ⟨0, 24575, 0, 0, 0, 0, 24575, 2⟩ := rfl
    rw [FF] at h1 h2 q1 q2 q3 q4
    dsimp only at h1 h2 q1 q2 q3 q4
    exfalso; omega
  · have FF : Im.fieldsI 32 2 s = ⟨0, 24575, 0, 0, 0, 0, 24575, 2⟩ := rfl
    rw [FF] at h1 h2 q1 q2
    dsimp only at h1 h2 q1 q2
    exfalso; omega
theorem row_33_c (cond rd rn rm imm mode list : Int) (s it : Bool) (w : World) (hok : Nm.okB ⟨33, cond, rd, rn, rm, imm, mode, list, s⟩ = true) (hw : Nm.Wide list) :
    Calls Tryd.prog 27 #[.agg #[.int .i64 33, .int .i64 cond, .int .i64 rd, .int .i64 rn, .int .i64 rm, .int .i64 imm, .int .i64 mode, .int .i64 list, .bool s], .bool it] w fun e w' => Okay e (Nm.restI ⟨33, cond, rd, rn, rm, imm, mode, list, s⟩ it) ∧ Below w.heap.size w w' := by
  obtain ⟨_, h1, h2, h3, h4, h5, h6⟩ := Nm.ok_parts hok
  clear hok
  have h3' := Nm.last_cases h3
  clear h3
  dsimp only at h1 h2 h3' h4 h5 h6
  have hl := Nm.list_most h4 24575 (by decide) rfl hw
  clear h5 h6
  rcases h3' with ⟨rfl, q1, q2, rfl, rfl⟩ | ⟨rfl, q1, q2, q3, q4, rfl⟩ | ⟨rfl, q1, q2, rfl⟩
  · have FF : Im.fieldsI 33 0 s = ⟨0, 0, 0, 0, 0, 0, 24575, 1⟩ := rfl
    rw [FF] at h1 h2 q1 q2
    dsimp only at h1 h2 q1 q2
    have hd : rd = 0 := Nm.one_none h1
    have hn : rn = 0 := Nm.one_none h2
    exact rest33 cond rd rn 0 0 0 list s it w hl.1 (by omega)
  · have FF : Im.fieldsI 33 1 s = ⟨0, 0, 0, 0, 0, 0, 24575, 1⟩ := rfl
    rw [FF] at h1 h2 q1 q2 q3 q4
    dsimp only at h1 h2 q1 q2 q3 q4
    exfalso; omega
  · have FF : Im.fieldsI 33 2 s = ⟨0, 0, 0, 0, 0, 0, 24575, 1⟩ := rfl
    rw [FF] at h1 h2 q1 q2
    dsimp only at h1 h2 q1 q2
    exfalso; omega
theorem row_34_c (cond rd rn rm imm mode list : Int) (s it : Bool) (w : World) (hok : Nm.okB ⟨34, cond, rd, rn, rm, imm, mode, list, s⟩ = true) (hw : Nm.Wide list) :
    Calls Tryd.prog 27 #[.agg #[.int .i64 34, .int .i64 cond, .int .i64 rd, .int .i64 rn, .int .i64 rm, .int .i64 imm, .int .i64 mode, .int .i64 list, .bool s], .bool it] w fun e w' => Okay e (Nm.restI ⟨34, cond, rd, rn, rm, imm, mode, list, s⟩ it) ∧ Below w.heap.size w w' := by
  obtain ⟨_, h1, h2, h3, h4, h5, h6⟩ := Nm.ok_parts hok
  clear hok
  have h3' := Nm.last_cases h3
  clear h3
  dsimp only at h1 h2 h3' h4 h5 h6
  have hl := Nm.list_most h4 57343 (by decide) rfl hw
  clear h5 h6
  rcases h3' with ⟨rfl, q1, q2, rfl, rfl⟩ | ⟨rfl, q1, q2, q3, q4, rfl⟩ | ⟨rfl, q1, q2, rfl⟩
  · have FF : Im.fieldsI 34 0 s = ⟨0, 0, 0, 0, 0, 0, 57343, 1⟩ := rfl
    rw [FF] at h1 h2 q1 q2
    dsimp only at h1 h2 q1 q2
    have hd : rd = 0 := Nm.one_none h1
    have hn : rn = 0 := Nm.one_none h2
    exact rest34 cond rd rn 0 0 0 list s it w hl.1 (by omega)
  · have FF : Im.fieldsI 34 1 s = ⟨0, 0, 0, 0, 0, 0, 57343, 1⟩ := rfl
    rw [FF] at h1 h2 q1 q2 q3 q4
    dsimp only at h1 h2 q1 q2 q3 q4
    exfalso; omega
  · have FF : Im.fieldsI 34 2 s = ⟨0, 0, 0, 0, 0, 0, 57343, 1⟩ := rfl
    rw [FF] at h1 h2 q1 q2
    dsimp only at h1 h2 q1 q2
    exfalso; omega
theorem row_36_c (cond rd rn rm imm mode list : Int) (s it : Bool) (w : World) (hok : Nm.okB ⟨36, cond, rd, rn, rm, imm, mode, list, s⟩ = true) (_hw : Nm.Wide list) :
    Calls Tryd.prog 27 #[.agg #[.int .i64 36, .int .i64 cond, .int .i64 rd, .int .i64 rn, .int .i64 rm, .int .i64 imm, .int .i64 mode, .int .i64 list, .bool s], .bool it] w fun e w' => Okay e (Nm.restI ⟨36, cond, rd, rn, rm, imm, mode, list, s⟩ it) ∧ Below w.heap.size w w' := by
  obtain ⟨_, h1, h2, h3, h4, h5, h6⟩ := Nm.ok_parts hok
  clear hok
  have h3' := Nm.last_cases h3
  clear h3
  dsimp only at h1 h2 h3' h4 h5 h6
  clear h4
  clear h5 h6
  rcases h3' with ⟨rfl, q1, q2, rfl, rfl⟩ | ⟨rfl, q1, q2, q3, q4, rfl⟩ | ⟨rfl, q1, q2, rfl⟩
  · have FF : Im.fieldsI 36 0 s = ⟨0, 0, 0, -16777216, 16777214, 2, 0, 0⟩ := rfl
    rw [FF] at h1 h2 q1 q2
    dsimp only at h1 h2 q1 q2
    exfalso; omega
  · have FF : Im.fieldsI 36 1 s = ⟨0, 0, 0, -16777216, 16777214, 2, 0, 0⟩ := rfl
    rw [FF] at h1 h2 q1 q2 q3 q4
    dsimp only at h1 h2 q1 q2 q3 q4
    have hd : rd = 0 := Nm.one_none h1
    have hn : rn = 0 := Nm.one_none h2
    have he := Pl.tmod_even q4
    exact rest36 cond rd rn 0 imm 1 list s it w
  · have FF : Im.fieldsI 36 2 s = ⟨0, 0, 0, -16777216, 16777214, 2, 0, 0⟩ := rfl
    rw [FF] at h1 h2 q1 q2
    dsimp only at h1 h2 q1 q2
    exfalso; omega
theorem row_39_c (cond rd rn rm imm mode list : Int) (s it : Bool) (w : World) (hok : Nm.okB ⟨39, cond, rd, rn, rm, imm, mode, list, s⟩ = true) (_hw : Nm.Wide list) :
    Calls Tryd.prog 27 #[.agg #[.int .i64 39, .int .i64 cond, .int .i64 rd, .int .i64 rn, .int .i64 rm, .int .i64 imm, .int .i64 mode, .int .i64 list, .bool s], .bool it] w fun e w' => Okay e (Nm.restI ⟨39, cond, rd, rn, rm, imm, mode, list, s⟩ it) ∧ Below w.heap.size w w' := by
  obtain ⟨_, h1, h2, h3, h4, h5, h6⟩ := Nm.ok_parts hok
  clear hok
  have h3' := Nm.last_cases h3
  clear h3
  dsimp only at h1 h2 h3' h4 h5 h6
  clear h4
  clear h5 h6
  rcases h3' with ⟨rfl, q1, q2, rfl, rfl⟩ | ⟨rfl, q1, q2, q3, q4, rfl⟩ | ⟨rfl, q1, q2, rfl⟩
  · have FF : Im.fieldsI 39 0 s = ⟨0, 0, 32767, 0, 0, 0, 0, 0⟩ := rfl
    rw [FF] at h1 h2 q1 q2
    dsimp only at h1 h2 q1 q2
    exfalso; omega
  · have FF : Im.fieldsI 39 1 s = ⟨0, 0, 32767, 0, 0, 0, 0, 0⟩ := rfl
    rw [FF] at h1 h2 q1 q2 q3 q4
    dsimp only at h1 h2 q1 q2 q3 q4
    exfalso; omega
  · have FF : Im.fieldsI 39 2 s = ⟨0, 0, 32767, 0, 0, 0, 0, 0⟩ := rfl
    rw [FF] at h1 h2 q1 q2
    dsimp only at h1 h2 q1 q2
    have hd : rd = 0 := Nm.one_none h1
    have hn : rn = 0 := Nm.one_none h2
    have hm := Nm.one_in q2 (by decide)
    exact rest39 cond rd rn rm 0 2 list s it w (by omega) (by omega)
theorem row_40_c (cond rd rn rm imm mode list : Int) (s it : Bool) (w : World) (hok : Nm.okB ⟨40, cond, rd, rn, rm, imm, mode, list, s⟩ = true) (_hw : Nm.Wide list) :
    Calls Tryd.prog 27 #[.agg #[.int .i64 40, .int .i64 cond, .int .i64 rd, .int .i64 rn, .int .i64 rm, .int .i64 imm, .int .i64 mode, .int .i64 list, .bool s], .bool it] w fun e w' => Okay e (Nm.restI ⟨40, cond, rd, rn, rm, imm, mode, list, s⟩ it) ∧ Below w.heap.size w w' := by
  obtain ⟨_, h1, h2, h3, h4, h5, h6⟩ := Nm.ok_parts hok
  clear hok
  have h3' := Nm.last_cases h3
  clear h3
  dsimp only at h1 h2 h3' h4 h5 h6
  clear h4
  clear h5 h6
  rcases h3' with ⟨rfl, q1, q2, rfl, rfl⟩ | ⟨rfl, q1, q2, q3, q4, rfl⟩ | ⟨rfl, q1, q2, rfl⟩
  · have FF : Im.fieldsI 40 0 s = ⟨24575, 0, 0, -4095, 4095, 1, 0, 0⟩ := rfl
    rw [FF] at h1 h2 q1 q2
    dsimp only at h1 h2 q1 q2
    exfalso; omega
  · have FF : Im.fieldsI 40 1 s = ⟨24575, 0, 0, -4095, 4095, 1, 0, 0⟩ := rfl
    rw [FF] at h1 h2 q1 q2 q3 q4
    dsimp only at h1 h2 q1 q2 q3 q4
    have hd := Nm.one_in h1 (by decide)
    have hn : rn = 0 := Nm.one_none h2
    by_cases hi : 0 ≤ imm
    · exact rest40_a cond rd rn 0 imm 1 list s it w hi
    · exact rest40_b cond rd rn 0 imm 1 list s it w (by omega)
  · have FF : Im.fieldsI 40 2 s = ⟨24575, 0, 0, -4095, 4095, 1, 0, 0⟩ := rfl
    rw [FF] at h1 h2 q1 q2
    dsimp only at h1 h2 q1 q2
    exfalso; omega
theorem row_41_c (cond rd rn rm imm mode list : Int) (s it : Bool) (w : World) (hok : Nm.okB ⟨41, cond, rd, rn, rm, imm, mode, list, s⟩ = true) (_hw : Nm.Wide list) :
    Calls Tryd.prog 27 #[.agg #[.int .i64 41, .int .i64 cond, .int .i64 rd, .int .i64 rn, .int .i64 rm, .int .i64 imm, .int .i64 mode, .int .i64 list, .bool s], .bool it] w fun e w' => Okay e (Nm.restI ⟨41, cond, rd, rn, rm, imm, mode, list, s⟩ it) ∧ Below w.heap.size w w' := by
  obtain ⟨_, h1, h2, h3, h4, h5, h6⟩ := Nm.ok_parts hok
  clear hok
  have h3' := Nm.last_cases h3
  clear h3
  dsimp only at h1 h2 h3' h4 h5 h6
  clear h4
  clear h5 h6
  rcases h3' with ⟨rfl, q1, q2, rfl, rfl⟩ | ⟨rfl, q1, q2, q3, q4, rfl⟩ | ⟨rfl, q1, q2, rfl⟩
  · have FF : Im.fieldsI 41 0 s = ⟨24575, 0, 0, -4095, 4095, 1, 0, 0⟩ := rfl
    rw [FF] at h1 h2 q1 q2
    dsimp only at h1 h2 q1 q2
    exfalso; omega
  · have FF : Im.fieldsI 41 1 s = ⟨24575, 0, 0, -4095, 4095, 1, 0, 0⟩ := rfl
    rw [FF] at h1 h2 q1 q2 q3 q4
    dsimp only at h1 h2 q1 q2 q3 q4
    have hd := Nm.one_in h1 (by decide)
    have hn : rn = 0 := Nm.one_none h2
    by_cases hi : 0 ≤ imm
    · exact rest41_a cond rd rn 0 imm 1 list s it w hi
    · exact rest41_b cond rd rn 0 imm 1 list s it w (by omega)
  · have FF : Im.fieldsI 41 2 s = ⟨24575, 0, 0, -4095, 4095, 1, 0, 0⟩ := rfl
    rw [FF] at h1 h2 q1 q2
    dsimp only at h1 h2 q1 q2
    exfalso; omega
theorem row_42_c (cond rd rn rm imm mode list : Int) (s it : Bool) (w : World) (hok : Nm.okB ⟨42, cond, rd, rn, rm, imm, mode, list, s⟩ = true) (_hw : Nm.Wide list) :
    Calls Tryd.prog 27 #[.agg #[.int .i64 42, .int .i64 cond, .int .i64 rd, .int .i64 rn, .int .i64 rm, .int .i64 imm, .int .i64 mode, .int .i64 list, .bool s], .bool it] w fun e w' => Okay e (Nm.restI ⟨42, cond, rd, rn, rm, imm, mode, list, s⟩ it) ∧ Below w.heap.size w w' := by
  obtain ⟨_, h1, h2, h3, h4, h5, h6⟩ := Nm.ok_parts hok
  clear hok
  have h3' := Nm.last_cases h3
  clear h3
  dsimp only at h1 h2 h3' h4 h5 h6
  clear h4
  have hc := Nm.conds_is (c := cond) (m := imm) (by simpa [Im.condB] using h5)
  clear h5 h6
  rcases h3' with ⟨rfl, q1, q2, rfl, rfl⟩ | ⟨rfl, q1, q2, q3, q4, rfl⟩ | ⟨rfl, q1, q2, rfl⟩
  · have FF : Im.fieldsI 42 0 s = ⟨0, 0, 0, 1, 15, 1, 0, 0⟩ := rfl
    rw [FF] at h1 h2 q1 q2
    dsimp only at h1 h2 q1 q2
    exfalso; omega
  · have FF : Im.fieldsI 42 1 s = ⟨0, 0, 0, 1, 15, 1, 0, 0⟩ := rfl
    rw [FF] at h1 h2 q1 q2 q3 q4
    dsimp only at h1 h2 q1 q2 q3 q4
    have hd : rd = 0 := Nm.one_none h1
    have hn : rn = 0 := Nm.one_none h2
    exact rest42 cond rd rn 0 imm 1 list s it w hc.1 hc.2.1 (by omega) (by omega)
  · have FF : Im.fieldsI 42 2 s = ⟨0, 0, 0, 1, 15, 1, 0, 0⟩ := rfl
    rw [FF] at h1 h2 q1 q2
    dsimp only at h1 h2 q1 q2
    exfalso; omega
theorem row_43_c (cond rd rn rm imm mode list : Int) (s it : Bool) (w : World) (hok : Nm.okB ⟨43, cond, rd, rn, rm, imm, mode, list, s⟩ = true) (_hw : Nm.Wide list) :
    Calls Tryd.prog 27 #[.agg #[.int .i64 43, .int .i64 cond, .int .i64 rd, .int .i64 rn, .int .i64 rm, .int .i64 imm, .int .i64 mode, .int .i64 list, .bool s], .bool it] w fun e w' => Okay e (Nm.restI ⟨43, cond, rd, rn, rm, imm, mode, list, s⟩ it) ∧ Below w.heap.size w w' := by
  obtain ⟨_, h1, h2, h3, h4, h5, h6⟩ := Nm.ok_parts hok
  clear hok
  have h3' := Nm.last_cases h3
  clear h3
  dsimp only at h1 h2 h3' h4 h5 h6
  clear h4
  clear h5 h6
  rcases h3' with ⟨rfl, q1, q2, rfl, rfl⟩ | ⟨rfl, q1, q2, q3, q4, rfl⟩ | ⟨rfl, q1, q2, rfl⟩
  · have FF : Im.fieldsI 43 0 s = ⟨0, 0, 0, 0, 0, 0, 0, 0⟩ := rfl
    rw [FF] at h1 h2 q1 q2
    dsimp only at h1 h2 q1 q2
    have hd : rd = 0 := Nm.one_none h1
    have hn : rn = 0 := Nm.one_none h2
    exact rest43 cond rd rn 0 0 0 list s it w
  · have FF : Im.fieldsI 43 1 s = ⟨0, 0, 0, 0, 0, 0, 0, 0⟩ := rfl
    rw [FF] at h1 h2 q1 q2 q3 q4
    dsimp only at h1 h2 q1 q2 q3 q4
    exfalso; omega
  · have FF : Im.fieldsI 43 2 s = ⟨0, 0, 0, 0, 0, 0, 0, 0⟩ := rfl
    rw [FF] at h1 h2 q1 q2
    dsimp only at h1 h2 q1 q2
    exfalso; omega
theorem row_44_c (cond rd rn rm imm mode list : Int) (s it : Bool) (w : World) (hok : Nm.okB ⟨44, cond, rd, rn, rm, imm, mode, list, s⟩ = true) (_hw : Nm.Wide list) :
    Calls Tryd.prog 27 #[.agg #[.int .i64 44, .int .i64 cond, .int .i64 rd, .int .i64 rn, .int .i64 rm, .int .i64 imm, .int .i64 mode, .int .i64 list, .bool s], .bool it] w fun e w' => Okay e (Nm.restI ⟨44, cond, rd, rn, rm, imm, mode, list, s⟩ it) ∧ Below w.heap.size w w' := by
  obtain ⟨_, h1, h2, h3, h4, h5, h6⟩ := Nm.ok_parts hok
  clear hok
  have h3' := Nm.last_cases h3
  clear h3
  dsimp only at h1 h2 h3' h4 h5 h6
  clear h4
  clear h5 h6
  rcases h3' with ⟨rfl, q1, q2, rfl, rfl⟩ | ⟨rfl, q1, q2, q3, q4, rfl⟩ | ⟨rfl, q1, q2, rfl⟩
  · have FF : Im.fieldsI 44 0 s = ⟨0, 0, 0, 0, 255, 1, 0, 0⟩ := rfl
    rw [FF] at h1 h2 q1 q2
    dsimp only at h1 h2 q1 q2
    exfalso; omega
  · have FF : Im.fieldsI 44 1 s = ⟨0, 0, 0, 0, 255, 1, 0, 0⟩ := rfl
    rw [FF] at h1 h2 q1 q2 q3 q4
    dsimp only at h1 h2 q1 q2 q3 q4
    have hd : rd = 0 := Nm.one_none h1
    have hn : rn = 0 := Nm.one_none h2
    exact rest44 cond rd rn 0 imm 1 list s it w (by omega) (by omega)
  · have FF : Im.fieldsI 44 2 s = ⟨0, 0, 0, 0, 255, 1, 0, 0⟩ := rfl
    rw [FF] at h1 h2 q1 q2
    dsimp only at h1 h2 q1 q2
    exfalso; omega
theorem row_45_c (cond rd rn rm imm mode list : Int) (s it : Bool) (w : World) (hok : Nm.okB ⟨45, cond, rd, rn, rm, imm, mode, list, s⟩ = true) (_hw : Nm.Wide list) :
    Calls Tryd.prog 27 #[.agg #[.int .i64 45, .int .i64 cond, .int .i64 rd, .int .i64 rn, .int .i64 rm, .int .i64 imm, .int .i64 mode, .int .i64 list, .bool s], .bool it] w fun e w' => Okay e (Nm.restI ⟨45, cond, rd, rn, rm, imm, mode, list, s⟩ it) ∧ Below w.heap.size w w' := by
  obtain ⟨_, h1, h2, h3, h4, h5, h6⟩ := Nm.ok_parts hok
  clear hok
  have h3' := Nm.last_cases h3
  clear h3
  dsimp only at h1 h2 h3' h4 h5 h6
  clear h4
  clear h5 h6
  rcases h3' with ⟨rfl, q1, q2, rfl, rfl⟩ | ⟨rfl, q1, q2, q3, q4, rfl⟩ | ⟨rfl, q1, q2, rfl⟩
  · have FF : Im.fieldsI 45 0 s = ⟨0, 24575, 24575, 0, 0, 0, 0, 0⟩ := rfl
    rw [FF] at h1 h2 q1 q2
    dsimp only at h1 h2 q1 q2
    exfalso; omega
  · have FF : Im.fieldsI 45 1 s = ⟨0, 24575, 24575, 0, 0, 0, 0, 0⟩ := rfl
    rw [FF] at h1 h2 q1 q2 q3 q4
    dsimp only at h1 h2 q1 q2 q3 q4
    exfalso; omega
  · have FF : Im.fieldsI 45 2 s = ⟨0, 24575, 24575, 0, 0, 0, 0, 0⟩ := rfl
    rw [FF] at h1 h2 q1 q2
    dsimp only at h1 h2 q1 q2
    have hd : rd = 0 := Nm.one_none h1
    have hn := Nm.one_in h2 (by decide)
    have hm := Nm.one_in q2 (by decide)
    exact rest45 cond rd rn rm 0 2 list s it w
end Go.Proofs.YtcphhojdfpedkaaDoor
