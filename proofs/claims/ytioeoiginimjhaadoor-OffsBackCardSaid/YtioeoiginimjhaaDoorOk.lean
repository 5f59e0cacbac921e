/- Halfwords of an offset with other bits beside them: no bit of the offset's stands outside its kind's mask, and other bits there change nothing. No memory, no calls. -/
import Derived.Test.YtioeoiginimjhaaDoorOa
namespace Go.Proofs.YtioeoiginimjhaaDoor
open Go.ChangeShapes Go.WideShapes Go.ChangeAt Go.RowKit
namespace Om

theorem beside_n (a x m c d : Int) (M lo w : Nat) (em : (M : Int) = m) (hc : 2 ^ lo = c) (hd : 2 ^ w = d) (ha0 : 0 ≤ a) (ha1 : a < 16384) (hm : M < 16384) (hw : lo + w ≤ 32) (hmask : ((List.range w).all fun j => M.testBit (lo + j)) = true) :
    bits .or .i64 a (bits .andNot .i64 x m) % 4294967296 / c % d = a / c % d := by
  obtain ⟨A, rfl⟩ := Int.eq_ofNat_of_zero_le ha0
  subst em hc hd
  rw [beside A M lo w x (by omega) (by omega) hw (fun i h1 h2 => by
    have := List.all_eq_true.1 hmask (i - lo) (List.mem_range.2 (by omega))
    rwa [show lo + (i - lo) = i by omega] at this)]
  simp

theorem inside_n (a m : Int) (M : Nat) (em : (M : Int) = m) (ha0 : 0 ≤ a) (ha1 : a < 16384) (hm : M < 16384) (h : ∀ i, i < 14 → M.testBit i = false → a.toNat / 2 ^ i % 2 = 0) : bits .andNot .i64 a m = 0 := by
  obtain ⟨A, rfl⟩ := Int.eq_ofNat_of_zero_le ha0
  subst em
  exact inside A M (by omega) hm (by simpa using h)

/-- what OffsBack asks of a kind: both halfwords inside the masks, and the offset back out of them with other bits -/
structure Backs (k off n0 n1 m0 m1 : Int) : Prop where
  i0 : bits .andNot .i64 (pA k off) m0 = 0
  i1 : bits .andNot .i64 (pB k off) m1 = 0
  g : gA k (bits .or .i64 (pA k off) (bits .andNot .i64 n0 m0) % 4294967296) (bits .or .i64 (pB k off) (bits .andNot .i64 n1 m1) % 4294967296) = off

theorem inB (k off : Int) (hk : k = 3 ∨ k = 4) : bits .andNot .i64 (pB k off) 12287 = 0 := by
  have hp := p_bd k off
  have hz : pB k off / 4096 % 2 = 0 := by
    have hs : 0 ≤ sI off ∧ sI off ≤ 1 := by unfold sI; split <;> omega
    have hq : ∀ q1 q2 q3 : Int, 0 ≤ q1 → q1 ≤ 1 → 0 ≤ q2 → q2 ≤ 1 → 0 ≤ q3 → q3 < 2048 → (q1 * 8192 + q2 * 2048 + q3) / 4096 % 2 = 0 := by intros; omega
    rcases hk with rfl | rfl
    · rw [pB_3]; exact hq _ _ _ (by omega) (by omega) (by omega) (by omega) (by omega) (by omega)
    · rw [pB_4]; exact hq _ _ _ (by omega) (by omega) (by omega) (by omega) (by omega) (by omega)
  refine inside_n _ _ 12287 rfl hp.2.2.1 hp.2.2.2 (by decide) (fun i hi hm => ?_)
  generalize pB k off = B at *
  rcases (by omega : i = 0 ∨ i = 1 ∨ i = 2 ∨ i = 3 ∨ i = 4 ∨ i = 5 ∨ i = 6 ∨ i = 7 ∨ i = 8 ∨ i = 9 ∨ i = 10 ∨ i = 11 ∨ i = 12 ∨ i = 13) with rfl | rfl | rfl | rfl | rfl | rfl | rfl | rfl | rfl | rfl | rfl | rfl | rfl | rfl
  all_goals first | (exact absurd hm (by decide)) | omega

theorem inA (k off m : Int) (M : Nat) (em : (M : Int) = m) (hm : M < 16384) (h : ∀ i, i < 14 → M.testBit i = false → pA k off / ((2 ^ i : Nat) : Int) % 2 = 0) : bits .andNot .i64 (pA k off) m = 0 := by
  have hp := p_bd k off
  refine inside_n _ _ M em hp.1 (by omega) hm (fun i hi hb => ?_)
  have := h i hi hb
  obtain ⟨A, hA⟩ := Int.eq_ofNat_of_zero_le hp.1
  rw [hA] at this ⊢
  rw [Int.toNat_natCast]
  exact_mod_cast this

theorem zero_in (x : Int) (hx : x = 0) : bits .andNot .i64 x 0 = 0 := by subst hx; rfl

theorem backs_1 (off n0 n1 : Int) (h1 : -256 ≤ off) (h2 : off ≤ 254) (h3 : off % 2 = 0) : Backs 1 off n0 n1 255 0 := by
  have hp := p_bd 1 off
  refine ⟨inA 1 off 255 255 rfl (by decide) (fun i hi hm => ?_), zero_in _ rfl, ?_⟩
  · clear n0 n1
    rw [pA_1]
    rcases (by omega : i = 0 ∨ i = 1 ∨ i = 2 ∨ i = 3 ∨ i = 4 ∨ i = 5 ∨ i = 6 ∨ i = 7 ∨ i = 8 ∨ i = 9 ∨ i = 10 ∨ i = 11 ∨ i = 12 ∨ i = 13) with rfl | rfl | rfl | rfl | rfl | rfl | rfl | rfl | rfl | rfl | rfl | rfl | rfl | rfl
    all_goals first | (exact absurd hm (by decide)) | omega
  · exact back_1 off _ _ h1 h2 h3 (by have := beside_n (pA 1 off) n0 255 1 256 255 0 8 rfl (by decide) (by decide) hp.1 (by omega) (by decide) (by decide) (by decide); omega)

theorem backs_2 (off n0 n1 : Int) (h1 : -2048 ≤ off) (h2 : off ≤ 2046) (h3 : off % 2 = 0) : Backs 2 off n0 n1 2047 0 := by
  have hp := p_bd 2 off
  refine ⟨inA 2 off 2047 2047 rfl (by decide) (fun i hi hm => ?_), zero_in _ rfl, ?_⟩
  · clear n0 n1
    rw [pA_2]
    rcases (by omega : i = 0 ∨ i = 1 ∨ i = 2 ∨ i = 3 ∨ i = 4 ∨ i = 5 ∨ i = 6 ∨ i = 7 ∨ i = 8 ∨ i = 9 ∨ i = 10 ∨ i = 11 ∨ i = 12 ∨ i = 13) with rfl | rfl | rfl | rfl | rfl | rfl | rfl | rfl | rfl | rfl | rfl | rfl | rfl | rfl
    all_goals first | (exact absurd hm (by decide)) | omega
  · exact back_2 off _ _ h1 h2 h3 (by have := beside_n (pA 2 off) n0 2047 1 2048 2047 0 11 rfl (by decide) (by decide) hp.1 (by omega) (by decide) (by decide) (by decide); omega)

theorem backs_3 (off n0 n1 : Int) (h1 : -1048576 ≤ off) (h2 : off ≤ 1048574) (h3 : off % 2 = 0) : Backs 3 off n0 n1 1087 12287 := by
  have hp := p_bd 3 off
  refine ⟨inA 3 off 1087 1087 rfl (by decide) (fun i hi hm => ?_), inB 3 off (by omega), ?_⟩
  · clear n0 n1
    have hs : 0 ≤ sI off ∧ sI off ≤ 1 := by unfold sI; split <;> omega
    rw [pA_3]
    rcases (by omega : i = 0 ∨ i = 1 ∨ i = 2 ∨ i = 3 ∨ i = 4 ∨ i = 5 ∨ i = 6 ∨ i = 7 ∨ i = 8 ∨ i = 9 ∨ i = 10 ∨ i = 11 ∨ i = 12 ∨ i = 13) with rfl | rfl | rfl | rfl | rfl | rfl | rfl | rfl | rfl | rfl | rfl | rfl | rfl | rfl
    all_goals first | (exact absurd hm (by decide)) | omega
  · exact back_3 off _ _ h1 h2 h3 (beside_n (pA 3 off) n0 1087 1024 2 1087 10 1 rfl (by decide) (by decide) hp.1 (by omega) (by decide) (by decide) (by decide)) (by have := beside_n (pA 3 off) n0 1087 1 64 1087 0 6 rfl (by decide) (by decide) hp.1 (by omega) (by decide) (by decide) (by decide); omega) (beside_n (pB 3 off) n1 12287 2048 2 12287 11 1 rfl (by decide) (by decide) hp.2.2.1 hp.2.2.2 (by decide) (by decide) (by decide)) (beside_n (pB 3 off) n1 12287 8192 2 12287 13 1 rfl (by decide) (by decide) hp.2.2.1 hp.2.2.2 (by decide) (by decide) (by decide)) (by have := beside_n (pB 3 off) n1 12287 1 2048 12287 0 11 rfl (by decide) (by decide) hp.2.2.1 hp.2.2.2 (by decide) (by decide) (by decide); omega)

theorem backs_4 (off n0 n1 : Int) (h1 : -16777216 ≤ off) (h2 : off ≤ 16777214) (h3 : off % 2 = 0) : Backs 4 off n0 n1 2047 12287 := by
  have hp := p_bd 4 off
  refine ⟨inA 4 off 2047 2047 rfl (by decide) (fun i hi hm => ?_), inB 4 off (by omega), ?_⟩
  · clear n0 n1
    rcases (by omega : i = 0 ∨ i = 1 ∨ i = 2 ∨ i = 3 ∨ i = 4 ∨ i = 5 ∨ i = 6 ∨ i = 7 ∨ i = 8 ∨ i = 9 ∨ i = 10 ∨ i = 11 ∨ i = 12 ∨ i = 13) with rfl | rfl | rfl | rfl | rfl | rfl | rfl | rfl | rfl | rfl | rfl | rfl | rfl | rfl
    all_goals first | (exact absurd hm (by decide)) | omega
  · exact back_4 off _ _ h1 h2 h3 (by have := beside_n (pA 4 off) n0 2047 1 2048 2047 0 11 rfl (by decide) (by decide) hp.1 (by omega) (by decide) (by decide) (by decide); omega) (beside_n (pB 4 off) n1 12287 2048 2 12287 11 1 rfl (by decide) (by decide) hp.2.2.1 hp.2.2.2 (by decide) (by decide) (by decide)) (beside_n (pB 4 off) n1 12287 8192 2 12287 13 1 rfl (by decide) (by decide) hp.2.2.1 hp.2.2.2 (by decide) (by decide) (by decide)) (by have := beside_n (pB 4 off) n1 12287 1 2048 12287 0 11 rfl (by decide) (by decide) hp.2.2.1 hp.2.2.2 (by decide) (by decide) (by decide); omega)

theorem backs_5 (off n0 n1 : Int) (h1 : 0 ≤ off) (h2 : off ≤ 126) (h3 : off % 2 = 0) : Backs 5 off n0 n1 760 0 := by
  have hp := p_bd 5 off
  refine ⟨inA 5 off 760 760 rfl (by decide) (fun i hi hm => ?_), zero_in _ rfl, ?_⟩
  · clear n0 n1
    rw [pA_5]
    rcases (by omega : i = 0 ∨ i = 1 ∨ i = 2 ∨ i = 3 ∨ i = 4 ∨ i = 5 ∨ i = 6 ∨ i = 7 ∨ i = 8 ∨ i = 9 ∨ i = 10 ∨ i = 11 ∨ i = 12 ∨ i = 13) with rfl | rfl | rfl | rfl | rfl | rfl | rfl | rfl | rfl | rfl | rfl | rfl | rfl | rfl
    all_goals first | (exact absurd hm (by decide)) | omega
  · exact back_5 off _ _ h1 h2 h3 (beside_n (pA 5 off) n0 760 512 2 760 9 1 rfl (by decide) (by decide) hp.1 (by omega) (by decide) (by decide) (by decide)) (beside_n (pA 5 off) n0 760 8 32 760 3 5 rfl (by decide) (by decide) hp.1 (by omega) (by decide) (by decide) (by decide))

end Om
end Go.Proofs.YtioeoiginimjhaaDoor
