/- Plain facts on halfwords as bytes and bytes as halfwords, without any program. -/
import Derived.Laws.BitsAllLaws
import Derived.Lib.UnsafeStr
import Derived.Laws.AppendOwn
namespace Go.Proofs.Ytmofnlekdmhaaaa
namespace Pm

def lowByte (z : Int) : UInt8 := UInt8.ofNat (z % 256).toNat
/-- each number's two lowest bytes, the lower one first -/
def packB : List Int → List UInt8
  | [] => []
  | z :: r => lowByte z :: lowByte (z / 256) :: packB r
/-- two bytes as one number -/
def pair (a b : UInt8) : Int := (a.toNat : Int) + 256 * (b.toNat : Int)
/-- two bytes are one number, the first one the lower; a last byte by itself is one -/
def unpackB : List UInt8 → List Int
  | [] => []
  | [a] => [(a.toNat : Int)]
  | a :: b :: r => pair a b :: unpackB r

theorem lowByte_toNat (z : Int) : ((lowByte z).toNat : Int) = z % 256 := by
  unfold lowByte
  rw [UInt8.toNat_ofNat']
  omega

theorem packB_snoc (l : List Int) (z : Int) : packB (l ++ [z]) = packB l ++ [lowByte z, lowByte (z / 256)] := by
  induction l with
  | nil => rfl
  | cons a r ih => simp [packB, ih]

theorem packB_length (l : List Int) : (packB l).length = 2 * l.length := by
  induction l with
  | nil => rfl
  | cons a r ih => simp [packB, ih]; omega

theorem unpack_pack (l : List Int) : unpackB (packB l) = l.map (· % 65536) := by
  induction l with
  | nil => rfl
  | cons a r ih =>
    simp only [packB, unpackB, pair, List.map_cons, ih, lowByte_toNat]
    congr 1
    omega

theorem unpackB_length : ∀ l : List UInt8, (unpackB l).length ≤ l.length
  | [] => by simp [unpackB]
  | [a] => by simp [unpackB]
  | a :: b :: r => by
    have := unpackB_length r
    simp [unpackB]; omega

/-- the numbers of an int slice as they lie in memory -/
def ints (l : List Int) : List Value := l.map (Value.int .i64)
theorem ints_length (l : List Int) : (ints l).length = l.length := by simp [ints]
theorem ints_snoc (l : List Int) (z : Int) : ints l ++ [.int .i64 z] = ints (l ++ [z]) := by simp [ints]

theorem take_snoc (l : List Int) (k : Nat) (h : k < l.length) : l.take (k + 1) = l.take k ++ [l.getD k 0] := by
  rw [List.take_succ_eq_append_getElem h]
  simp [List.getD, List.getElem?_eq_getElem h]

theorem byteCells_append (a b : List UInt8) : Lib.byteCells (a ++ b) = Lib.byteCells a ++ Lib.byteCells b := by simp [Lib.byteCells]
theorem byteCells_length (a : List UInt8) : (Lib.byteCells a).length = a.length := by simp [Lib.byteCells]
theorem byteCells_one (z : Int) : Lib.byteCells [lowByte z] = [.int .u8 (z % 256)] := by simp [Lib.byteCells, lowByte_toNat]

end Pm
end Go.Proofs.Ytmofnlekdmhaaaa
