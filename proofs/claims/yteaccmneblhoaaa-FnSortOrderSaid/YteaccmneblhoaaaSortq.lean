/-
  PLAIN MATHEMATICS OF THE ORDER: what the laws FnSortOrder and FnLeastSorts say of a valid order.
-/
import Derived.Test.YteaccmneblhoaaaSortg
namespace Go.Proofs.Yteaccmneblhoaaa.sortq
open mem setm sets sortm sortp sorti sortf sortg

/-- an order, as a list of the sets above -/
structure Ord (U : List Nat) : Prop where
  refl : ∀ i, i < U.length → (U.getD i 0).testBit i = true
  trans : ∀ i k j, i < U.length → (U.getD i 0).testBit k = true → (U.getD k 0).testBit j = true → (U.getD i 0).testBit j = true
  anti : ∀ i k, i < U.length → (U.getD i 0).testBit k = true → (U.getD k 0).testBit i = true → i = k
  low : ∀ i j, i < U.length → (U.getD i 0).testBit j = true → j < U.length
theorem ord_of {P : List (List UInt8)} {Q : List (Int × Int)} (h : okS P Q = true) : Ord (ordU P Q) := by
  obtain ⟨h1, h2, h3, h4, h5⟩ := okS_parts h
  rw [ordU_yes h]
  have hl := clo_len P.length (prs Q)
  refine ⟨fun i hi => ?_, fun i k j hi hk hj => ?_, fun i k hi hk hki => ?_, fun i j hi hj => ?_⟩
  · rw [hl] at hi
    exact (clo_bit h3.inR hi i).2 ⟨hi, rea_refl _ _ _⟩
  · rw [hl] at hi
    obtain ⟨hkn, r1⟩ := (clo_bit h3.inR hi k).1 hk
    obtain ⟨hjn, r2⟩ := (clo_bit h3.inR hkn j).1 hj
    exact (clo_bit h3.inR hi j).2 ⟨hjn, rea_trans h3.inR hjn r1 r2⟩
  · rw [hl] at hi
    have hkn := ((clo_bit h3.inR hi k).1 hk).1
    by_cases e : i = k
    · exact e
    · exfalso
      rcases Nat.lt_or_gt_of_ne e with hlt | hlt
      · rw [circ_true hkn hlt hk hki] at h5; cases h5
      · rw [circ_true hi hlt hki hk] at h5; cases h5
  · rw [hl] at hi ⊢
    exact ((clo_bit h3.inR hi j).1 hj).1
theorem belowU_bit (U : List Nat) (x i : Nat) : (belowU U x).testBit i = (decide (i < U.length) && (U.getD i 0).testBit x) := by rw [belowU, gather_bit]; rfl
theorem leastU_bit (U : List Nat) (S i : Nat) : (leastU U S).testBit i = true ↔ i < U.length ∧ S.testBit i = true ∧ ∀ k, k < U.length → k ≠ i → S.testBit k = true → (U.getD k 0).testBit i = false := by
  rw [leastU, gather_bit, leastG]
  simp only [Bool.and_eq_true, decide_eq_true_eq, List.all_eq_true, leastF, Bool.or_eq_true, beq_iff_eq, Bool.not_eq_true', List.mem_range]
  constructor
  · rintro ⟨h1, h2, h3⟩
    refine ⟨h1, h2, fun k hk hne hS => ?_⟩
    rcases h3 k hk with (h | h) | h
    · exact absurd h hne
    · rw [hS] at h; cases h
    · exact h
  · rintro ⟨h1, h2, h3⟩
    refine ⟨h1, h2, fun k hk => ?_⟩
    by_cases hne : k = i
    · exact .inl (.inl hne)
    · cases hS : S.testBit k with
      | false => exact .inl (.inr rfl)
      | true => exact .inr (h3 k hk hne hS)
theorem mostU_bit (U : List Nat) (S i : Nat) : (mostU U S).testBit i = true ↔ i < U.length ∧ S.testBit i = true ∧ ∀ k, k < U.length → k ≠ i → S.testBit k = true → (U.getD i 0).testBit k = false := by
  rw [mostU, gather_bit, mostG]
  simp only [Bool.and_eq_true, decide_eq_true_eq, List.all_eq_true, mostF, Bool.or_eq_true, beq_iff_eq, Bool.not_eq_true', List.mem_range]
  constructor
  · rintro ⟨h1, h2, h3⟩
    refine ⟨h1, h2, fun k hk hne hS => ?_⟩
    rcases h3 k hk with (h | h) | h
    · exact absurd h hne
    · rw [hS] at h; cases h
    · exact h
  · rintro ⟨h1, h2, h3⟩
    refine ⟨h1, h2, fun k hk => ?_⟩
    by_cases hne : k = i
    · exact .inl (.inl hne)
    · cases hS : S.testBit k with
      | false => exact .inl (.inr rfl)
      | true => exact .inr (h3 k hk hne hS)
theorem least_ex {U : List Nat} (O : Ord U) {S : Nat} : ∀ (m x : Nat), x < U.length → S.testBit x = true → (List.range U.length).countP (fun i => S.testBit i && (U.getD i 0).testBit x) ≤ m → ∃ y, (leastU U S).testBit y = true ∧ y < U.length ∧ (U.getD y 0).testBit x = true := by
  intro m
  induction m with
  | zero =>
    intro x hx hS hc
    have : 0 < (List.range U.length).countP (fun i => S.testBit i && (U.getD i 0).testBit x) := List.countP_pos_iff.2 ⟨x, by simpa using hx, by rw [hS, O.refl x hx]; rfl⟩
    omega
  | succ m ih =>
    intro x hx hS hc
    by_cases hl : (leastU U S).testBit x = true
    · exact ⟨x, hl, hx, O.refl x hx⟩
    · have hex : ∃ k, k < U.length ∧ k ≠ x ∧ S.testBit k = true ∧ (U.getD k 0).testBit x = true := by
        apply Classical.byContradiction
        intro hno
        refine hl ((leastU_bit U S x).2 ⟨hx, hS, fun k hk hne hSk => ?_⟩)
        cases hb : (U.getD k 0).testBit x with
        | false => rfl
        | true => exact absurd ⟨k, hk, hne, hSk, hb⟩ hno
      obtain ⟨k, hk, hne, hSk, hkx⟩ := hex
      have hlt := countP_lt_of (p := fun i => i < U.length && (S.testBit i && (U.getD i 0).testBit k)) (q := fun i => i < U.length && (S.testBit i && (U.getD i 0).testBit x)) (a := x)
        (fun i hi => by
          simp only [Bool.and_eq_true, decide_eq_true_eq] at hi ⊢
          exact ⟨hi.1, hi.2.1, O.trans i k x hi.1 hi.2.2 hkx⟩)
        (by
          have : (U.getD x 0).testBit k = false := by
            cases hb : (U.getD x 0).testBit k with
            | false => rfl
            | true => exact absurd (O.anti k x hk hkx hb) hne
          simp only [this]; simp)
        (by simp only [hS, O.refl x hx, hx]; simp) (l := List.range U.length) (by simpa using hx)
      have e1 : ∀ z, (List.range U.length).countP (fun i => i < U.length && (S.testBit i && (U.getD i 0).testBit z)) = (List.range U.length).countP (fun i => S.testBit i && (U.getD i 0).testBit z) := fun z =>
        List.countP_congr (fun i hi => by simp only [List.mem_range] at hi; simp [hi])
      rw [e1, e1] at hlt
      obtain ⟨y, y1, y2, y3⟩ := ih k hk hSk (by omega)
      exact ⟨y, y1, y2, O.trans y k x y2 y3 hkx⟩
theorem most_ex {U : List Nat} (O : Ord U) {S : Nat} : ∀ (m x : Nat), x < U.length → S.testBit x = true → (List.range U.length).countP (fun i => S.testBit i && (U.getD x 0).testBit i) ≤ m → ∃ y, (mostU U S).testBit y = true ∧ (U.getD x 0).testBit y = true := by
  intro m
  induction m with
  | zero =>
    intro x hx hS hc
    have : 0 < (List.range U.length).countP (fun i => S.testBit i && (U.getD x 0).testBit i) := List.countP_pos_iff.2 ⟨x, by simpa using hx, by rw [hS, O.refl x hx]; rfl⟩
    omega
  | succ m ih =>
    intro x hx hS hc
    by_cases hl : (mostU U S).testBit x = true
    · exact ⟨x, hl, O.refl x hx⟩
    · have hex : ∃ k, k < U.length ∧ k ≠ x ∧ S.testBit k = true ∧ (U.getD x 0).testBit k = true := by
        apply Classical.byContradiction
        intro hno
        refine hl ((mostU_bit U S x).2 ⟨hx, hS, fun k hk hne hSk => ?_⟩)
        cases hb : (U.getD x 0).testBit k with
        | false => rfl
        | true => exact absurd ⟨k, hk, hne, hSk, hb⟩ hno
      obtain ⟨k, hk, hne, hSk, hkx⟩ := hex
      have hlt := countP_lt_of (p := fun i => S.testBit i && (U.getD k 0).testBit i) (q := fun i => S.testBit i && (U.getD x 0).testBit i) (a := x)
        (fun i hi => by
          simp only [Bool.and_eq_true] at hi ⊢
          exact ⟨hi.1, O.trans x k i hx hkx hi.2⟩)
        (by
          have : (U.getD k 0).testBit x = false := by
            cases hb : (U.getD k 0).testBit x with
            | false => rfl
            | true => exact absurd (O.anti k x hk hb hkx) hne
          simp only [this]; simp)
        (by simp only [hS, O.refl x hx]; rfl) (l := List.range U.length) (by simpa using hx)
      obtain ⟨y, y1, y2⟩ := ih k hk hSk (by omega)
      exact ⟨y, y1, O.trans x k y hx hkx y2⟩
theorem ne_zero_of_bit {a b y : Nat} (h1 : a.testBit y = true) (h2 : b.testBit y = true) : a &&& b ≠ 0 := by
  intro h
  have := Nat.testBit_and a b y
  rw [h, h1, h2] at this
  simp at this
theorem down_least {U : List Nat} (O : Ord U) {S x : Nat} (hx : x < U.length) (hS : S.testBit x = true) : belowU U x &&& leastU U S ≠ 0 := by
  obtain ⟨y, y1, y2, y3⟩ := least_ex O _ x hx hS (Nat.le_refl _)
  exact ne_zero_of_bit (y := y) (by rw [belowU_bit, y3]; simp [y2]) y1
theorem up_most {U : List Nat} (O : Ord U) {S x : Nat} (hx : x < U.length) (hS : S.testBit x = true) : U.getD x 0 &&& mostU U S ≠ 0 := by
  obtain ⟨y, y1, y2⟩ := most_ex O _ x hx hS (Nat.le_refl _)
  exact ne_zero_of_bit y2 y1
theorem down_one {U : List Nat} (O : Ord U) {S x : Nat} (h : (leastU U S).testBit x = true) : belowU U x &&& S = 2 ^ x := by
  obtain ⟨hx, hS, hk⟩ := (leastU_bit U S x).1 h
  apply Nat.eq_of_testBit_eq
  intro i
  rw [Nat.testBit_and, belowU_bit, Nat.testBit_two_pow]
  by_cases hi : x = i
  · subst hi; rw [O.refl x hx, hS]; simp [hx]
  · have e : decide (x = i) = false := by simpa using hi
    rw [e]
    by_cases hin : i < U.length
    · cases hSi : S.testBit i with
      | false => simp
      | true => rw [hk i hin (Ne.symm hi) hSi]; simp
    · simp [hin]
theorem up_one {U : List Nat} (O : Ord U) {S x : Nat} (h : (mostU U S).testBit x = true) : U.getD x 0 &&& S = 2 ^ x := by
  obtain ⟨hx, hS, hk⟩ := (mostU_bit U S x).1 h
  apply Nat.eq_of_testBit_eq
  intro i
  rw [Nat.testBit_and, Nat.testBit_two_pow]
  by_cases hi : x = i
  · subst hi; rw [O.refl x hx, hS]; simp
  · have e : decide (x = i) = false := by simpa using hi
    rw [e]
    cases hb : (U.getD x 0).testBit i with
    | false => rfl
    | true =>
      cases hSi : S.testBit i with
      | false => rfl
      | true => rw [hk i (O.low x i hx hb) (Ne.symm hi) hSi] at hb; cases hb
theorem least_sub (U : List Nat) (S : Nat) : sub (leastU U S) S = true := (sub_iff _ _).2 fun k hk => ((leastU_bit U S k).1 hk).2.1
theorem most_sub (U : List Nat) (S : Nat) : sub (mostU U S) S = true := (sub_iff _ _).2 fun k hk => ((mostU_bit U S k).1 hk).2.1

/-- sorts of one kind -/
theorem kin_same {n : Nat} {P : List (Nat × Nat)} (hP : InR n P) {i k : Nat} (hi : i < n) (hk : k < n) (h : rea P n k i = true) : (kin n P).getD i 0 = (kin n P).getD k 0 := by
  obtain ⟨a1, a2, a3⟩ := kin_spec hP hi
  obtain ⟨b1, b2, b3⟩ := kin_spec hP hk
  have hB := both_in hP
  have hki := rea_both hP hi h
  have hik := rea_symm hP hk hi hki
  exact Nat.le_antisymm (a3 _ (rea_trans hB b1 hik b2)) (b3 _ (rea_trans hB a1 hki a2))
theorem kind_same {P : List (List UInt8)} {Q : List (Int × Int)} (h : okS P Q = true) {i k : Nat} (hi : i < P.length) (hk : k < P.length) (hb : ((ordU P Q).getD k 0).testBit i = true) : kindI P Q (i : Int) = kindI P Q (k : Int) := by
  obtain ⟨h1, h2, h3, h4, h5, h6⟩ := ok_facts h
  rw [h5] at hb
  have hr := ((clo_bit h3.inR hk i).1 hb).2
  rw [kindI, kindI, if_pos (by rw [h6]; omega), if_pos (by rw [h6]; omega), Int.toNat_natCast, Int.toNat_natCast, kin_same h3.inR hi hk hr]
end Go.Proofs.Yteaccmneblhoaaa.sortq
