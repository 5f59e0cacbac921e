/- Contract of the program's Print. -/
import Derived.Test.YtdnggaomdbdieaaRows
import Derived.Test.YtdnggaomdbdieaaRp
import Derived.Test.YtdnggaomdbdieaaRs
namespace Go.Proofs.Ytdnggaomdbdieaa
open Go.ChangeShapes Go.WideShapes Go.ChangeAt Go.RowKit

theorem Try.info9 : (Try.prog.info? 9).map (fun i => (i.zero, i.size, i.bytes)) = some (some (.string ⟨#[]⟩), 1, 16) := by kernel_rfl

/-- texts as they lie in memory -/
def strs (l : List (List UInt8)) : List Value := l.map fun s => .string ⟨s.toArray⟩
theorem strs_snoc (l : List (List UInt8)) (s : List UInt8) : strs l ++ [.string ⟨s.toArray⟩] = strs (l ++ [s]) := by simp [strs]

theorem strs_map (l : List (List UInt8)) : (l.map fun s => (⟨s.toArray⟩ : ByteArray)).map (·.data.toList) = l := by
  rw [List.map_map]
  induction l with
  | nil => rfl
  | cons x t ih => rw [List.map_cons, ih]; rfl

theorem join_c (base : Nat) (v : Value) (acc : List (List UInt8)) (w : World) (h : w.ownsRow base 9 1 v acc.length (strs acc)) (hN : acc.length ≤ 16) (hlen : (Lib.join acc [44, 32]).length ≤ 160) :
    Calls Try.prog 28 #[v, .string ⟨#[44, 32]⟩] w fun e w' => e = .returned (.string ⟨(Lib.join acc [44, 32]).toArray⟩) ∧ Below w.heap.size w w' := by
  have hlt := h.lt
  rcases h.2 with ⟨rfl, h0⟩ | ⟨g, cap, cur, rfl, _, hh, hnc, _, hsz, ht⟩
  · have e : acc = [] := List.eq_nil_of_length_eq_zero h0
    subst e
    refine (join_none none 0 _ w).mono ?_
    rintro e w' ⟨rfl, rfl⟩
    exact ⟨rfl, Below.refl _ _⟩
  · have hj := join_some g 0 cap (acc.map fun s => (⟨s.toArray⟩ : ByteArray)) ⟨#[44, 32]⟩ w (fun j x hx => by
      rw [List.getElem?_map] at hx
      obtain ⟨s, hs, rfl⟩ := Option.map_eq_some_iff.1 hx
      have hjl : j < acc.length := (List.getElem?_eq_some_iff.1 hs).1
      have e1 : cur.toList[j]? = (strs acc)[j]? := by rw [← ht, List.getElem?_take_of_lt (by omega)]
      have e2 : (strs acc)[j]? = some (.string ⟨s.toArray⟩) := by simp [strs, hs]
      rw [Nat.zero_add]
      simp only [World.cell?, hh]
      rw [← e2, ← e1, Array.getElem?_toList]
      simp) (hlt g rfl).2 (by rw [List.length_map]; omega) (by rw [List.length_map]; omega) (by rw [strs_map]; show (Lib.join acc [44, 32]).length ≤ _; omega)
    rw [List.length_map, strs_map] at hj
    exact hj

theorem braces (J : List UInt8) : (⟨#[123]⟩ : ByteArray) ++ ⟨J.toArray⟩ ++ ⟨#[125]⟩ = ⟨(123 :: (J ++ [125])).toArray⟩ := by
  show (⟨[123].toArray⟩ : ByteArray) ++ ⟨J.toArray⟩ ++ ⟨[125].toArray⟩ = _
  rw [cat, cat]; rfl

set_option maxHeartbeats 2000000 in
theorem print_c (m : Int) (w : World) : Calls Try.prog 20 #[.int .i64 m] w fun e w' => e = .returned (.string ⟨(Rm.printL m).toArray⟩) ∧ Below w.heap.size w w' := by
  obtain ⟨i0, hi, hz0, hz1, hz2⟩ := info_parts Try.info9
  obtain ⟨V, eV⟩ : ∃ V, Rm.pieces 16 (Rm.allN m) = V := ⟨_, rfl⟩
  have hjl := Rm.join_all m
  have hpl := Rm.pieces_len 16 (Rm.allN m)
  have e0 : Rm.printL m = [123] ++ Lib.join V [44, 32] ++ [125] := by rw [← eV]; rfl
  have HI : RowKit.Hid ([] ++ Rm.pieces 16 (Rm.allN m) = V) := Lib.hid eV
  rw [e0]
  rw [eV] at hjl hpl
  clear eV e0
  have hal : (Rm.allN m).length ≤ 16 := Rm.count_bd m
  have hab := Rm.all_bd m
  have hall := all_c m
  unfold Rm.allI at hall
  generalize Rm.allN m = l0 at *
  go_enter Try.func20, Try.ntmps20
  go_wp2_with fail
  refine (hall _).mono ?_
  clear hall
  rintro e w1 ⟨A, c, rfl, hc, hI, hb1⟩
  rw [Rm.intsN_len] at hc ⊢
  go_wp2_with fail
  go_loopw [3, 4] (fun pv lv wr => ∃ (f : Nat) (l : List Nat) (acc : List (List UInt8)) (A : Option Addr) (c : Nat), lv = .slice A l.length c ∧ l.length ≤ c ∧ l.length ≤ f ∧ acc.length + f ≤ 16 ∧ (∀ y ∈ l, y ≤ 15) ∧ RowKit.Hid (acc ++ Rm.pieces f l = V) ∧ IntsAt wr w1.heap.size A (Rm.intsN l) ∧ wr.ownsRow w1.heap.size 9 1 pv acc.length (strs acc) ∧ Below w1.heap.size w1 wr) (fun _ lv _ => match lv with | .slice _ n _ => n | _ => 0)
  case atStart => exact ⟨16, l0, [], A, c, rfl, hc, hal, by simp, hab, HI, hI, World.ownsRow_nil _ _ _ _, Below.refl _ _⟩
  case round =>
    obtain ⟨f, l, acc, A, c, rfl, hc, hlf, hac, hab, HF, hI, hB, hbel⟩ := hrel
    have hsz := hbel.size
    cases l with
    | nil =>
      have hF := HF.out
      rw [Rm.pieces_nil, List.append_nil] at hF
      subst hF
      clear HF HI
      have hj := join_c w1.heap.size _ acc wr hB hpl hjl
      clear hB
      obtain ⟨J, eJ⟩ : ∃ J, Lib.join acc [44, 32] = J := ⟨_, rfl⟩
      rw [eJ] at hj hjl
      have EJ := Lib.hid eJ
      clear eJ
      have hj1 : (J.length : Int) ≤ 160 := by omega
      go_wp2_with fail
      refine hj.mono ?_
      clear hj
      rintro e w2 ⟨rfl, hb2⟩
      go_wp2_with fail
      go_ret
      refine ⟨?_, (hb1.trans (hbel.mono hb1.size)).trans (hb2.mono (Nat.le_trans hb1.size hsz))⟩
      have hbr := braces J
      rw [EJ.out]
      exact congrArg (fun z => Ending.returned (.string z)) hbr
    | cons x t =>
      obtain ⟨b, off, rfl, hb, hcells⟩ := row_at hI (by simp)
      have hx := hab x (by simp)
      simp only [List.length_cons] at hc hlf ⊢
      obtain ⟨f', rfl⟩ : ∃ f', f = f' + 1 := ⟨f - 1, by omega⟩
      have hF := HF.out
      rw [Rm.pieces_cons] at hF
      have hel := Rm.ext_le t x
      have heg := Rm.ext_get t x
      have hr := runLen_c b off c x t wr hx (by omega) hcells
      have hcz := hcells (Rm.ext x t) (by simp; omega)
      have hc0 : wr.cell? ⟨b, off, none⟩ = some (.int .i64 (x : Nat)) := hcells 0 (by simp)
      rw [heg] at hcz
      clear heg HF
      generalize Rm.ext x t = e at *
      have hp := fun W => part_c b off c e x W
      have hpn := Rm.piece_len (x, x + e)
      generalize Rm.piece (x, x + e) = pc at *
      have HS := Lib.hid hF
      clear hF
      go_wp2_with fail
      refine hr.mono ?_
      clear hr
      rintro e' w2 ⟨rfl, k2, rfl⟩
      go_wp2_with fail
      refine (hp (wr.drewN k2) (by show b < wr.heap.size; omega) (by omega) hc0 hcz).mono ?_
      clear hp
      rintro e' w3 ⟨rfl, hb3⟩
      have hb3' : Below wr.heap.size wr w3 := (below_drewN (Below.refl _ wr) k2).trans hb3
      have hB3 : w3.ownsRow w1.heap.size 9 1 u3 acc.length (strs acc) := hB.kept (row := none) ⟨hb3'.os, hb3'.tape, hb3'.output, hb3'.size, fun i hi _ => hb3'.block i hi⟩ (Classical.em _)
      have hsz3 := hb3'.size
      have hbel3 : Below w1.heap.size w1 w3 := hbel.trans (hb3'.mono hsz)
      go_wp2_with ((at_builtin; refine wpList_append_own _ rfl _ _ 33 rfl w1.heap.size 9 i0 (.string ⟨#[]⟩) 1 16 Try.underlying33 hi hz0 hz1 hz2 rfl (by omega) u3 acc.length (strs acc) rfl (hB3.alloc _) ⟨w3.heap.size, 0, none⟩ 1 1 [.string ⟨pc.toArray⟩] rfl rfl (World.news_of_block (cs := #[.string ⟨pc.toArray⟩]) (t := 9) (fr := (0, 0)) (heap_alloc_new w3 _)) (by simp [Value.oneCell']) (by unfold maxLen; omega) (by omega) (by simp; omega) ?_; intro v' w4 hown4 hgrow4 _))
      have hw4 : Below w1.heap.size wr w4 := ((hb3'.mono hsz).alloc (by omega) _).grown hgrow4 (by simp; omega) (fun j hj => (hB3.lt j hj).1)
      rw [strs_snoc] at hown4
      have hlen : t.length + 1 - (1 + e) = (t.drop e).length := by rw [List.length_drop]; omega
      have hrow : IntsAt w4 w1.heap.size (if c = 1 + e then some ⟨b, off, none⟩ else some ⟨b, off + (1 + e), none⟩) (Rm.intsN (t.drop e)) := by
        by_cases hq : c = 1 + e
        · exact .inl (by rw [List.drop_eq_nil_of_le (by omega)]; rfl)
        · rw [if_neg hq]
          refine .inr ⟨b, off + (1 + e), rfl, hb, fun j hj => ?_⟩
          rw [Rm.intsN_len, List.length_drop] at hj
          have hcj := (hw4.cell (p := ⟨b, off + (1 + e + j), none⟩) (by show b < _; omega)).trans (hcells (1 + e + j) (by simp; omega))
          rw [intsN_getD, show (t.drop e).getD j 0 = (x :: t).getD (1 + e + j) 0 by
            rw [show 1 + e + j = e + j + 1 by omega, List.getD_cons_succ, List.getD, List.getElem?_drop, List.getD], Nat.add_assoc off]
          exact hcj
      rw [hlen]
      refine ⟨⟨f', t.drop e, acc ++ [pc], _, _, rfl, by rw [List.length_drop]; omega, by rw [List.length_drop]; omega, by simp; omega, fun y hy => hab y (by simp [List.mem_of_mem_drop hy]), ?_, hrow, by simpa using hown4, hbel.trans hw4⟩, ?_⟩
      · have := HS.out
        exact Lib.hid (by simpa using this)
      · simp; omega
end Go.Proofs.Ytdnggaomdbdieaa
