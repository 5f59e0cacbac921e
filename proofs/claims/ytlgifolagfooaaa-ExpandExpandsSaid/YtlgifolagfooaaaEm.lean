/- Plain facts on numbers of twelve bits, without any program: what each tells, which may be told, the least that tells a word; those that speak of all 4096 numbers are computed. -/
import Derived.Test.YtlgifolagfooaaaBm
namespace Go.Proofs.Ytlgifolagfooaaa
namespace Em

/-- a byte b spread or turned, by the way y (the upper five bits of the number) -/
def tell (b y : Nat) : Nat :=
  if y / 2 = 0 then b
  else if y / 2 = 1 then (b * 65536) ||| b
  else if y / 2 = 2 then (b * 16777216) ||| (b * 256)
  else if y / 2 = 3 then (((b * 16777216) ||| (b * 65536)) ||| (b * 256)) ||| b
  else Bm.rorB (b % 128 + 128) y
/-- what the number i tells -/
def expN (i : Nat) : Nat := tell (i % 256) (i / 128)
/-- whether it may be told -/
def okN (i : Nat) : Bool := decide (i < 4096) && !(decide (i = 256) || decide (i = 512) || decide (i = 768))
/-- i may be told and tells x -/
def good (x i : Nat) : Bool := okN i && (expN i == x)
/-- by how much x is turned to have its byte lowest -/
def placeN (u : Nat) : Nat := if u / 2 = 0 ∨ u / 2 = 1 ∨ u / 2 = 3 then 0 else if u / 2 = 2 then 8 else 32 - u
/-- the one number with these upper five bits that may tell x -/
def candN (x u : Nat) : Nat := u * 128 + Bm.rorB x (placeN u) % 128
/-- the least that tells x -/
def findN (x : Nat) : Option Nat := (List.range 4096).find? (good x)

theorem find_some {x i : Nat} (h : good x i = true) (hl : ∀ j, j < i → good x j = false) : findN x = some i := by
  have hi : i < 4096 := by unfold good okN at h; simp at h; omega
  unfold findN
  rw [List.find?_eq_some_iff_append]
  refine ⟨h, List.range i, (List.range' (i + 1) (4096 - (i + 1))), ?_, fun a ha => ?_⟩
  · rw [List.range_eq_range', List.range_eq_range', show (4096 : Nat) = i + (1 + (4096 - (i + 1))) by omega]
    rw [← List.range'_append_1, ← List.range'_append_1]
    simp
    omega
  · rw [hl a (by simpa using ha)]; rfl

theorem find_none {x : Nat} (h : ∀ j, j < 4096 → good x j = false) : findN x = none := by
  unfold findN
  rw [List.find?_eq_none]
  intro a ha
  rw [h a (by simpa using ha)]; simp

/-- a check of all numbers below n, as a computation -/
def all (n : Nat) (p : Nat → Bool) : Bool := (List.range n).all p
theorem all_of {n : Nat} {p : Nat → Bool} (h : all n p = true) (i : Nat) (hi : i < n) : p i = true := by
  unfold all at h
  rw [List.all_eq_true] at h
  exact h i (by simpa using hi)

theorem cand_all : all 4096 (fun i => candN (expN i) (i / 128) == i) = true := by decide +kernel
theorem cand_of (i : Nat) (hi : i < 4096) : candN (expN i) (i / 128) = i := by
  have := all_of cand_all i hi
  simpa using this

theorem cand_div (x u : Nat) : candN x u / 128 = u := by unfold candN; omega

theorem or7_all : all 256 (fun b => (b ||| 128) == b % 128 + 128) = true := by decide +kernel
theorem or7 (b : Nat) (h : b < 256) : (b ||| 128) = b % 128 + 128 := by
  have := all_of or7_all b h
  simpa using this
end Em
end Go.Proofs.Ytlgifolagfooaaa
