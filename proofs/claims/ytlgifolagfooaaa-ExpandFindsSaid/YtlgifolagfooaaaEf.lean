/- Contracts of Find: the program's and the document's own answer are the least number that tells the word. -/
import Derived.Test.YtlgifolagfooaaaRows
import Derived.Test.YtlgifolagfooaaaEx
namespace Go.Proofs.Ytlgifolagfooaaa
open Go.ChangeShapes Go.WideShapes Go.ChangeAt Go.RowKit

/-- what is found, or 0 -/
def findI (x : Int) : Int := (((Em.findN x.toNat).getD 0 : Nat) : Int)
/-- whether anything is found -/
def findB (x : Int) : Bool := (Em.findN x.toNat).isSome

theorem find_is (x i : Int) (h0 : 0 ≤ i) (h : Em.good x.toNat i.toNat = true) (hl : ∀ j, j < i.toNat → Em.good x.toNat j = false) : findI x = i ∧ findB x = true := by
  unfold findI findB
  rw [Em.find_some h hl]
  exact ⟨by simp; omega, rfl⟩
theorem find_no (x : Int) (hl : ∀ j, j < 4096 → Em.good x.toNat j = false) : findI x = 0 ∧ findB x = false := by
  unfold findI findB
  rw [Em.find_none hl]
  exact ⟨rfl, rfl⟩

theorem i64_or_nat (a b : Nat) (ha : a < 9223372036854775808) (hb : b < 9223372036854775808) : bits .or .i64 (a : Int) (b : Int) = ((a ||| b : Nat) : Int) := by
  have hc : a ||| b < 2 ^ 63 := Nat.or_lt_two_pow (by omega) (by omega)
  have h : bits .or .i64 (a : Int) (b : Int) = IntKind.i64.wrap (((BitVec.ofInt 64 a).toNat ||| (BitVec.ofInt 64 b).toNat : Nat) : Int) := by
    rw [← BitVec.toNat_or]; rfl
  have ea : (BitVec.ofInt 64 (a : Int)).toNat = a := by rw [BitVec.toNat_ofInt]; omega
  have eb : (BitVec.ofInt 64 (b : Int)).toNat = b := by rw [BitVec.toNat_ofInt]; omega
  rw [h, ea, eb, IntKind.wrap_i64]
  omega

/-- the one number with these upper five bits that may tell x -/
def candI (x u : Int) : Int := ((Em.candN x.toNat u.toNat : Nat) : Int)

theorem place_mod (u : Int) (h0 : 0 ≤ u) (h1 : u < 32) : (placeI u % 32).toNat = Em.placeN u.toNat := by
  unfold placeI Em.placeN
  by_cases c : u / 2 = 0 ∨ u / 2 = 1 ∨ u / 2 = 3
  · rw [if_pos c, if_pos (by omega)]; rfl
  · rw [if_neg c]
    by_cases d : u / 2 = 2
    · rw [if_pos d, if_neg (by omega), if_pos (by omega)]; rfl
    · rw [if_neg d, if_neg (by omega), if_neg (by omega)]; omega

theorem low_or (u : Nat) (h : u < 128) (p : Nat) : p * 128 ||| u = p * 128 + u := by
  have := Nat.two_pow_add_eq_or_of_lt (i := 7) (b := u) (by omega) p
  rw [Nat.mul_comm]; exact this.symm

theorem cand_eq (x u : Int) (h0 : 0 ≤ u) (h1 : u < 32) : bits .or .i64 (u * 128) (getI (rorI x (placeI u)) 6 0) = candI x u := by
  unfold candI Em.candN getI rorI
  rw [if_pos (by omega), place_mod u h0 h1]
  obtain ⟨U, rfl⟩ := Int.eq_ofNat_of_zero_le h0
  rw [show ((U : Int) * 128) = ((U * 128 : Nat) : Int) by simp]
  have hl : Bm.getB (Bm.rorB x.toNat (Em.placeN U)) 6 0 = Bm.rorB x.toNat (Em.placeN U) % 128 := by unfold Bm.getB; simp
  simp only [Int.toNat_natCast]
  rw [show (6 : Int).toNat = 6 by rfl, show (0 : Int).toNat = 0 by rfl, hl, i64_or_nat _ _ (by omega) (by omega), low_or _ (by omega)]

theorem cand_bd (x u : Int) (h0 : 0 ≤ u) (h1 : u < 32) : 0 ≤ candI x u ∧ candI x u < 4096 ∧ (candI x u).toNat = Em.candN x.toNat u.toNat := by
  unfold candI Em.candN; omega

theorem getI_7 (x : Int) : 0 ≤ getI x 6 0 ∧ getI x 6 0 < 128 := by
  unfold getI Bm.getB
  rw [if_pos (by omega)]
  have : x.toNat / 2 ^ (0 : Int).toNat % 2 ^ ((6 : Int).toNat + 1 - (0 : Int).toNat) < 128 := Nat.mod_lt _ (by decide)
  omega

theorem exp_small (i : Int) (h0 : 0 ≤ i) (h1 : i < 4096) : expI i = ((Em.expN i.toNat : Nat) : Int) := by
  unfold expI; rw [show i % 4096 = i by omega]

theorem good_of (x i : Int) (hx0 : 0 ≤ x) (h0 : 0 ≤ i) (h1 : i < 4096) : Em.good x.toNat i.toNat = true ↔ (okB i = true ∧ expI i = x) := by
  rw [exp_small i h0 h1]
  unfold Em.good okB
  have e : (((Em.expN i.toNat : Nat) : Int) = x) ↔ Em.expN i.toNat = x.toNat := by omega
  rw [e]
  simp [h0]

/-- below the first that serves none serves -/
theorem none_below (X : Nat) (u j : Nat) (H : ∀ k, k < u → Em.good X (Em.candN X k) = false) (hj : j < Em.candN X u) (hj' : j < 4096) : Em.good X j = false := by
  cases hg : Em.good X j with
  | false => rfl
  | true =>
    have he : Em.expN j = X := by unfold Em.good at hg; simp at hg; exact hg.2
    have hc := Em.cand_of j hj'
    rw [he] at hc
    have hd := Em.cand_div X u
    by_cases hlt : j / 128 < u
    · have := H _ hlt
      rw [hc] at this
      rw [← this, hg]
    · have hu : j / 128 = u := by omega
      rw [hu] at hc
      omega

theorem none_at_all (X j : Nat) (H : ∀ k, k < 32 → Em.good X (Em.candN X k) = false) (hj' : j < 4096) : Em.good X j = false := by
  cases hg : Em.good X j with
  | false => rfl
  | true =>
    have he : Em.expN j = X := by unfold Em.good at hg; simp at hg; exact hg.2
    have hc := Em.cand_of j hj'
    rw [he] at hc
    have := H (j / 128) (by omega)
    rw [hc] at this
    rw [← this, hg]

theorem one_more (x u : Int) (hx0 : 0 ≤ x) (hu0 : 0 ≤ u) (hlt : u < 32) (H : ∀ k, k < u.toNat → Em.good x.toNat (Em.candN x.toNat k) = false) (h : ¬ (okB (candI x u) = true ∧ expI (candI x u) = x)) :
    ∀ k, k < (u + 1).toNat → Em.good x.toNat (Em.candN x.toNat k) = false := by
  intro k hk
  by_cases hk' : k < u.toNat
  · exact H k hk'
  · obtain ⟨hc0, hc1, hc2⟩ := cand_bd x u hu0 hlt
    rw [show k = u.toNat by omega, ← hc2]
    rw [← good_of x _ hx0 hc0 hc1] at h
    simpa using h

theorem found (x u : Int) (hx0 : 0 ≤ x) (hu0 : 0 ≤ u) (hlt : u < 32) (H : ∀ k, k < u.toNat → Em.good x.toNat (Em.candN x.toNat k) = false) (h : okB (candI x u) = true) (h' : expI (candI x u) = x) :
    findI x = candI x u ∧ findB x = true := by
  obtain ⟨hc0, hc1, hc2⟩ := cand_bd x u hu0 hlt
  refine find_is x _ hc0 ((good_of x _ hx0 hc0 hc1).2 ⟨h, h'⟩) fun j hj => ?_
  exact none_below _ u.toNat j H (by omega) (by omega)

theorem ret_found {a a' : Int} {b b' : Bool} (h : a' = a ∧ b' = b) : Ending.returned (.tuple #[.int .i64 a, .bool b]) = Ending.returned (.tuple #[.int .i64 a', .bool b']) := by rw [h.1, h.2]

theorem find_c (x : Int) (w : World) (hx0 : 0 ≤ x) (hx : x < 4294967296) :
    Calls Try.prog 13 #[.int .u32 x] w fun e w' => e = .returned (.tuple #[.int .i64 (findI x), .bool (findB x)]) ∧ ∃ n, w' = w.drewN n := by
  go_enter Try.func13, Try.ntmps13
  go_wp2
  go_loopw [6] (fun i wr => ∃ (u : Int) (n : Nat), 0 ≤ u ∧ u ≤ 32 ∧ i = .int .i64 u ∧ wr = w.drewN n ∧ RowKit.Hid (∀ k, k < u.toNat → Em.good x.toNat (Em.candN x.toNat k) = false)) (fun i _ => (32 - intOf i).toNat)
  case atStart => exact ⟨0, 0, by omega, by omega, rfl, rfl, Lib.hid (fun k hk => by simp at hk)⟩
  case round =>
    obtain ⟨u, n, hu0, hu1, rfl, rfl, H⟩ := hrel
    by_cases hlt : u < 32
    · have hce := cand_eq x u hu0 hlt
      have hr := rorv_bd x (placeI u) hx0 hx
      have hg := getI_7 (rorI x (placeI u))
      obtain ⟨hc0, hc1, hc2⟩ := cand_bd x u hu0 hlt
      have h1 := fun h => Lib.hid (one_more x u hx0 hu0 hlt H.out h)
      have h2 := fun a b => Lib.hid (found x u hx0 hu0 hlt H.out a b)
      go_wp2_with fail
      refine (place_c _ _ hu0 hlt).mono ?_
      rintro e w' ⟨rfl, n1, rfl⟩
      go_wp2_with fail
      refine (ror_c _ _ _ hx0 hx).mono ?_
      rintro e w' ⟨rfl, n2, rfl⟩
      go_wp2_with fail
      refine (get_c _ _ _ _ hr.1 hr.2).mono ?_
      rintro e w' ⟨rfl, n3, rfl⟩
      go_wp2_with fail
      refine (valid_c _ _).mono ?_
      rintro e w' ⟨rfl, n4, rfl⟩
      cases hv : okB (candI x u) with
      | false =>
        have H1 := h1 (by rw [hv]; simp)
        clear h1 h2 hv
        go_wp2
        go_roundw
        case rel => exact ⟨u + 1, _, by omega, by omega, rfl, rfl, H1⟩
        case measure => simp [intOf]; omega
      | true =>
        go_wp2_with fail
        refine (exp_c _ _ (by omega) (by omega)).mono ?_
        rintro e w' ⟨rfl, n5, rfl⟩
        by_cases he : expI (candI x u) = x
        · have H2 := h2 hv he
          have hE : (expI (candI x u) == x) = true := by simpa using he
          clear h1 h2 hv he
          go_wp2
          go_ret2
          exact ⟨ret_found H2.out, _, rfl⟩
        · have H1 := h1 (fun h => he h.2)
          have hE : (expI (candI x u) == x) = false := by simpa using he
          clear h1 h2 hv he
          go_wp2
          go_roundw
          case rel => exact ⟨u + 1, _, by omega, by omega, rfl, rfl, H1⟩
          case measure => simp [intOf]; omega
    · have hu : u = 32 := by omega
      subst hu
      go_wp2
      go_ret2
      exact ⟨ret_found (find_no x fun j hj => none_at_all _ j H.out hj), _, rfl⟩

theorem rfind_c (x : Int) (w : World) (hx0 : 0 ≤ x) (_hx : x < 4294967296) :
    Calls Try.prog 14 #[.int .u32 x] w fun e w' => e = .returned (.tuple #[.int .i64 (findI x), .bool (findB x)]) ∧ ∃ n, w' = w.drewN n := by
  go_enter Try.func14, Try.ntmps14
  go_wp2
  go_loopw [4] (fun i wr => ∃ (u : Int) (n : Nat), 0 ≤ u ∧ u ≤ 4096 ∧ i = .int .i64 u ∧ wr = w.drewN n ∧ RowKit.Hid (∀ k, k < u.toNat → Em.good x.toNat k = false)) (fun i _ => (4096 - intOf i).toNat)
  case atStart => exact ⟨0, 0, by omega, by omega, rfl, rfl, Lib.hid (fun k hk => by simp at hk)⟩
  case round =>
    obtain ⟨u, n, hu0, hu1, rfl, rfl, H⟩ := hrel
    by_cases hlt : u < 4096
    · have hg := good_of x u hx0 hu0 hlt
      have h1 : ¬ (okB u = true ∧ expI u = x) → RowKit.Hid (∀ k, k < (u + 1).toNat → Em.good x.toNat k = false) := by
        intro h
        refine Lib.hid fun k hk => ?_
        by_cases hk' : k < u.toNat
        · exact H.out k hk'
        · rw [← hg] at h
          rw [show k = u.toNat by omega]
          simpa using h
      have h2 : okB u = true → expI u = x → RowKit.Hid (findI x = u ∧ findB x = true) := fun a b => Lib.hid (find_is x u hu0 (hg.2 ⟨a, b⟩) H.out)
      clear hg
      go_wp2_with fail
      refine (rvalid_c _ _).mono ?_
      rintro e w' ⟨rfl, n4, rfl⟩
      cases hv : okB u with
      | false =>
        have H1 := h1 (by rw [hv]; simp)
        clear h1 h2 hv
        go_wp2
        go_roundw
        case rel => exact ⟨u + 1, _, by omega, by omega, rfl, rfl, H1⟩
        case measure => simp [intOf]; omega
      | true =>
        go_wp2_with fail
        refine (rexp_c _ _ (by omega) (by omega)).mono ?_
        rintro e w' ⟨rfl, n5, rfl⟩
        by_cases he : expI u = x
        · have H2 := h2 hv he
          have hE : (expI u == x) = true := by simpa using he
          clear h1 h2 hv he
          go_wp2
          go_ret2
          exact ⟨ret_found H2.out, _, rfl⟩
        · have H1 := h1 (fun h => he h.2)
          have hE : (expI u == x) = false := by simpa using he
          clear h1 h2 hv he
          go_wp2
          go_roundw
          case rel => exact ⟨u + 1, _, by omega, by omega, rfl, rfl, H1⟩
          case measure => simp [intOf]; omega
    · have hu : u = 4096 := by omega
      subst hu
      go_wp2
      go_ret2
      exact ⟨ret_found (find_no x fun j hj => H.out j (by simpa using hj)), _, rfl⟩

/-! what Find's answer is worth -/
theorem findB_iff (x : Int) (hx0 : 0 ≤ x) : findB x = true ↔ ∃ i : Int, 0 ≤ i ∧ i < 4096 ∧ okB i = true ∧ expI i = x := by
  constructor
  · intro h
    unfold findB Em.findN at h
    rw [List.find?_isSome] at h
    obtain ⟨i, hi, hg⟩ := h
    have hi' : i < 4096 := by simpa using hi
    exact ⟨i, by omega, by omega, (good_of x i hx0 (by omega) (by omega)).1 (by simpa using hg)⟩
  · rintro ⟨i, h0, h1, h2⟩
    unfold findB Em.findN
    rw [List.find?_isSome]
    exact ⟨i.toNat, by simp; omega, (good_of x i hx0 h0 h1).2 h2⟩

theorem find_least (x i : Int) (hx0 : 0 ≤ x) (h0 : 0 ≤ i) (h1 : i < 4096) (h2 : okB i = true) (h3 : expI i = x) :
    findB x = true ∧ 0 ≤ findI x ∧ findI x ≤ i ∧ findI x < 4096 ∧ okB (findI x) = true ∧ expI (findI x) = x := by
  have hb := (findB_iff x hx0).2 ⟨i, h0, h1, h2, h3⟩
  have hg := (good_of x i hx0 h0 h1).2 ⟨h2, h3⟩
  unfold findB at hb
  obtain ⟨m, hm⟩ := Option.isSome_iff_exists.1 hb
  have hI : findI x = (m : Int) := by unfold findI; rw [hm]; rfl
  have hB : findB x = true := by unfold findB; rw [hm]; rfl
  unfold Em.findN at hm
  obtain ⟨hgm, hmem, hno⟩ := List.find?_range_eq_some.1 hm
  have hm' : m < 4096 := by simpa using hmem
  obtain ⟨g1, g2⟩ := (good_of x m hx0 (by omega) (by omega)).1 (by simpa using hgm)
  have hle : m ≤ i.toNat := by
    cases Nat.lt_or_ge i.toNat m with
    | inr h => exact h
    | inl h =>
      have := hno _ h
      rw [hg] at this
      simp at this
  rw [hI]
  exact ⟨hB, by omega, by omega, by omega, g1, g2⟩
end Go.Proofs.Ytlgifolagfooaaa
