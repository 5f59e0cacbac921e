/- Plain facts on lists of registers and their texts, without any program. No conditions but those that each fact names. -/
import Derived.Test.YtdnggaomdbdieaaRm
import Derived.Lib.Join
namespace Go.Proofs.Ytdnggaomdbdieaa
namespace Rm

/-- the numbers of a list of registers -/
def intsN (l : List Nat) : List Int := l.map Int.ofNat
def allI (m : Int) : List Int := intsN (allN m)
theorem intsN_len (l : List Nat) : (intsN l).length = l.length := by simp [intsN]
theorem intsN_cons (x : Nat) (l : List Nat) : intsN (x :: l) = (x : Int) :: intsN l := rfl
theorem all_len (m : Int) : (allI m).length = countN m := intsN_len _
theorem all_step (m : Int) {r : Nat} (hr : r < 16) (acc : List Int) :
    acc ++ intsN (rest (bit m) r (16 - r)) = if bit m r then (acc ++ [(r : Int)]) ++ intsN (rest (bit m) (r + 1) (16 - (r + 1))) else acc ++ intsN (rest (bit m) (r + 1) (16 - (r + 1))) := by
  rw [rest_step (bit m) hr]
  split <;> simp [intsN]
theorem all_end (m : Int) {r : Nat} (hr : ¬ r < 16) (acc : List Int) : acc ++ intsN (rest (bit m) r (16 - r)) = acc := by
  rw [rest_end (bit m) hr]; simp [intsN]

/-! runs -/
/-- how many go on a run behind x -/
def ext : Nat → List Nat → Nat
  | _, [] => 0
  | x, y :: t => if y = x + 1 ∧ y ≤ 12 then 1 + ext y t else 0
theorem ext_le : ∀ (l : List Nat) (x : Nat), ext x l ≤ l.length
  | [], _ => by simp [ext]
  | y :: t, x => by
    have := ext_le t y
    rw [ext]; split <;> simp <;> omega
/-- the last of a run -/
theorem ext_get : ∀ (l : List Nat) (x : Nat), (x :: l).getD (ext x l) 0 = x + ext x l
  | [], x => by simp [ext]
  | y :: t, x => by
    have ih := ext_get t y
    rw [ext]; split
    · rename_i h
      rw [Nat.add_comm 1, List.getD_cons_succ, ih]; omega
    · simp
/-- the runs of a rising list: first and last -/
def runs : Nat → List Nat → List (Nat × Nat)
  | 0, _ => []
  | _ + 1, [] => []
  | f + 1, x :: t => (x, x + ext x t) :: runs f (t.drop (ext x t))
/-- how a run is written -/
def piece (p : Nat × Nat) : List UInt8 := if p.2 = p.1 then nameI p.1 else nameI p.1 ++ [45] ++ nameI p.2
def pieces (f : Nat) (l : List Nat) : List (List UInt8) := (runs f l).map piece
def printL (m : Int) : List UInt8 := [123] ++ Lib.join (pieces 16 (allN m)) [44, 32] ++ [125]

theorem pieces_nil (f : Nat) : pieces f [] = [] := by cases f <;> rfl
theorem pieces_cons (f : Nat) (x : Nat) (t : List Nat) : pieces (f + 1) (x :: t) = piece (x, x + ext x t) :: pieces f (t.drop (ext x t)) := rfl
theorem pieces_len (f : Nat) (l : List Nat) : (pieces f l).length ≤ f := by
  unfold pieces
  rw [List.length_map]
  induction f generalizing l with
  | zero => simp [runs]
  | succ f ih =>
    cases l with
    | nil => simp [runs]
    | cons x t => have := ih (t.drop (ext x t)); simp [runs]; omega

/-- as the loop reckons it: n of the run are counted -/
theorem run_go {x n : Nat} {y : Nat} {l : List Nat} (h : y = x + n ∧ y ≤ 12) (hn : 1 ≤ n) : n + ext (x + n - 1) (y :: l) = (n + 1) + ext (x + (n + 1) - 1) l := by
  rw [ext, if_pos ⟨by omega, h.2⟩, h.1, show x + (n + 1) - 1 = x + n by omega]; omega
theorem run_stop {x n : Nat} {y : Nat} {l : List Nat} (h : ¬ (y = x + n ∧ y ≤ 12)) (hn : 1 ≤ n) : n + ext (x + n - 1) (y :: l) = n := by
  rw [ext, if_neg (fun h' => h ⟨by omega, h'.2⟩)]; omega
theorem run_end (x n : Nat) : n + ext (x + n - 1) [] = n := by simp [ext]

/-- those that are there are not less than where one begins, and less than where one ends -/
theorem rest_bd (h : Nat → Bool) : ∀ (k r : Nat) (y : Nat), y ∈ rest h r k → r ≤ y ∧ y < r + k
  | 0, _, y, hy => by simp [rest] at hy
  | k + 1, r, y, hy => by
    rw [rest] at hy
    split at hy
    · rcases List.mem_cons.1 hy with rfl | hy
      · omega
      · have := rest_bd h k (r + 1) y hy; omega
    · have := rest_bd h k (r + 1) y hy; omega
theorem all_bd (m : Int) (y : Nat) (hy : y ∈ allN m) : y ≤ 15 := by have := rest_bd (bit m) 16 0 y hy; omega

theorem name_len (k : Nat) : (nameI (k : Int)).length ≤ 3 := by
  by_cases h : k ≤ 15
  · rw [name_in h]
    have h' : ((List.range 16).all fun k => decide ((nm k).length ≤ 3)) = true := by decide +kernel
    rw [List.all_eq_true] at h'
    simpa using h' k (by simp; omega)
  · rw [name_no (by omega)]; simp
theorem piece_len (p : Nat × Nat) : (piece p).length ≤ 7 := by
  have h1 := name_len p.1
  have h2 := name_len p.2
  unfold piece
  split
  · omega
  · simp; omega
theorem lens_le : ∀ (l : List (List UInt8)), (∀ x ∈ l, x.length ≤ 7) → Lib.lens l ≤ 7 * l.length
  | [], _ => by simp [Lib.lens]
  | x :: t, h => by
    have h1 := h x (by simp)
    have h2 := lens_le t (fun y hy => h y (by simp [hy]))
    simp only [Lib.lens, List.map_cons, List.sum_cons, List.length_cons] at h2 ⊢
    omega
theorem join_le (l : List (List UInt8)) (h : ∀ x ∈ l, x.length ≤ 7) (hl : l.length ≤ 16) : (Lib.join l [44, 32]).length ≤ 160 := by
  cases l with
  | nil => simp [Lib.join_nil]
  | cons x t =>
    have h2 := lens_le (x :: t) h
    rw [Lib.join_length]
    simp at hl h2 ⊢
    omega
theorem pieces_le (f : Nat) (l : List Nat) (x : List UInt8) (hx : x ∈ pieces f l) : x.length ≤ 7 := by
  unfold pieces at hx
  obtain ⟨p, _, rfl⟩ := List.mem_map.1 hx
  exact piece_len p
theorem join_all (m : Int) : (Lib.join (pieces 16 (allN m)) [44, 32]).length ≤ 160 := join_le _ (pieces_le 16 _) (pieces_len 16 _)

/-! the same, as the document writes it -/
def docStep (s : List UInt8) (p : Nat × Nat) : List UInt8 := (if s = [123] then s else s ++ [44, 32]) ++ nameI p.1 ++ (if p.1 < p.2 then [45] ++ nameI p.2 else [])
def docFold (s : List UInt8) (ps : List (Nat × Nat)) : List UInt8 := ps.foldl docStep s
theorem doc_tail : ∀ (ps : List (Nat × Nat)) (u : List UInt8), u ≠ [] → (∀ p ∈ ps, p.1 ≤ p.2 ∧ nameI p.1 ≠ []) → docFold ([123] ++ u) ps = [123] ++ u ++ Lib.joinTail [44, 32] (ps.map piece)
  | [], u, _, _ => by simp [docFold, Lib.joinTail]
  | p :: ps, u, hu, hp => by
    have h1 := hp p (by simp)
    have e : docStep ([123] ++ u) p = [123] ++ (u ++ [44, 32] ++ piece p) := by
      unfold docStep piece
      rw [if_neg (by simp [hu])]
      by_cases hq : p.2 = p.1
      · rw [if_pos hq, if_neg (by omega)]; simp
      · rw [if_neg hq, if_pos (by omega)]; simp
    have ih := doc_tail ps (u ++ [44, 32] ++ piece p) (by simp) (fun q hq => hp q (by simp [hq]))
    unfold docFold at ih ⊢
    rw [List.foldl_cons, e, ih]
    simp [Lib.joinTail]
theorem doc_is (ps : List (Nat × Nat)) (hp : ∀ p ∈ ps, p.1 ≤ p.2 ∧ nameI p.1 ≠ []) : docFold [123] ps = [123] ++ Lib.join (ps.map piece) [44, 32] := by
  cases ps with
  | nil => simp [docFold, Lib.join_nil]
  | cons p ps =>
    have h1 := hp p (by simp)
    have e : docStep [123] p = [123] ++ piece p := by
      unfold docStep piece
      rw [if_pos rfl]
      by_cases hq : p.2 = p.1
      · rw [if_pos hq, if_neg (by omega)]; simp
      · rw [if_neg hq, if_pos (by omega)]; simp
    have hn : piece p ≠ [] := by unfold piece; split <;> simp [h1.2]
    have ih := doc_tail ps (piece p) hn (fun q hq => hp q (by simp [hq]))
    unfold docFold at ih ⊢
    rw [List.foldl_cons, e, ih, List.map_cons, Lib.join_cons]
    simp
theorem name_some {k : Nat} (h : k ≤ 15) : nameI (k : Int) ≠ [] := by
  rw [name_in h]
  have h' : ((List.range 16).all fun k => decide (nm k ≠ [])) = true := by decide +kernel
  rw [List.all_eq_true] at h'
  simpa using h' k (by simp; omega)
theorem runs_ok : ∀ (f : Nat) (l : List Nat), (∀ y ∈ l, y ≤ 15) → ∀ p ∈ runs f l, p.1 ≤ p.2 ∧ nameI (p.1 : Nat) ≠ []
  | 0, _, _, p, hp => by simp [runs] at hp
  | _ + 1, [], _, p, hp => by simp [runs] at hp
  | f + 1, x :: t, h, p, hp => by
    rw [runs] at hp
    rcases List.mem_cons.1 hp with rfl | hp
    · exact ⟨by simp, name_some (h x (by simp))⟩
    · exact runs_ok f _ (fun y hy => h y (by simp [List.mem_of_mem_drop hy])) p hp
theorem doc_print (m : Int) : docFold [123] (runs 16 (allN m)) ++ [125] = printL m := by
  rw [doc_is _ (runs_ok 16 _ (all_bd m))]; rfl

/-- where the run that goes on at x ends, and what is behind it -/
theorem ext_rest (h : Nat → Bool) {x : Nat} (hx : x < 12) : ext x (rest h (x + 1) (16 - (x + 1))) = if h (x + 1) then 1 + ext (x + 1) (rest h (x + 1 + 1) (16 - (x + 1 + 1))) else 0 := by
  rw [rest_step h (show x + 1 < 16 by omega)]
  split
  · rw [ext, if_pos ⟨rfl, by omega⟩]
  · cases e : rest h (x + 1 + 1) (16 - (x + 1 + 1)) with
    | nil => rfl
    | cons y t =>
      have := rest_bd h (16 - (x + 1 + 1)) (x + 1 + 1) y (by rw [e]; simp)
      rw [ext, if_neg (by omega)]
theorem ext_beyond (h : Nat → Bool) {x : Nat} (hx : ¬ x < 12) : ext x (rest h (x + 1) (16 - (x + 1))) = 0 := by
  cases e : rest h (x + 1) (16 - (x + 1)) with
  | nil => rfl
  | cons y t =>
    have := rest_bd h (16 - (x + 1)) (x + 1) y (by rw [e]; simp)
    rw [ext, if_neg (by omega)]
theorem drop_rest (h : Nat → Bool) : ∀ (k x : Nat), k + x = 15 → (rest h (x + 1) (16 - (x + 1))).drop (ext x (rest h (x + 1) (16 - (x + 1)))) = rest h (x + ext x (rest h (x + 1) (16 - (x + 1))) + 1) (16 - (x + ext x (rest h (x + 1) (16 - (x + 1))) + 1))
  | 0, x, e => by obtain rfl : x = 15 := by omega
                  rfl
  | k + 1, x, e => by
    by_cases hx : x < 12
    · rw [ext_rest h hx]
      by_cases hb : h (x + 1)
      · rw [if_pos hb]
        have ih := drop_rest h k (x + 1) (by omega)
        generalize ext (x + 1) (rest h (x + 1 + 1) (16 - (x + 1 + 1))) = q at *
        rw [rest_step h (show x + 1 < 16 by omega), if_pos hb, Nat.add_comm 1 q, List.drop_succ_cons, ih, show x + 1 + q + 1 = x + (q + 1) + 1 by omega]
      · rw [if_neg hb]; rfl
    · rw [ext_beyond h hx]; rfl
end Rm
end Go.Proofs.Ytdnggaomdbdieaa
