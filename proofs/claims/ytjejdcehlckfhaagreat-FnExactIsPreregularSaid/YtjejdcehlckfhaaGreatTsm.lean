/-
  PLAIN MATHEMATICS OF THE SORTS OF TERMS: what declarations give, closed upwards, over all ways to combine arguments two at a time.
-/
import Derived.Test.YtjejdcehlckfhaaGreatSorti
import Derived.Test.YtjejdcehlckfhaaGreatSigm
namespace Go.Proofs.YtjejdcehlckfhaaGreat.tsm
open mem setm sortm sortn sortp sorti sigm

/-! ### sums of sets -/
def orL {α : Type} (f : α → Nat) (L : List α) : Nat := L.foldl (fun s x => s ||| f x) 0
theorem orL_from {α : Type} (f : α → Nat) (j : Nat) : ∀ (L : List α) (s : Nat), (L.foldl (fun s x => s ||| f x) s).testBit j = (s.testBit j || L.any fun x => (f x).testBit j)
  | [], s => by simp
  | x :: L, s => by rw [List.foldl_cons, orL_from f j L, Nat.testBit_or, List.any_cons, Bool.or_assoc]
theorem orL_bit {α : Type} (f : α → Nat) (L : List α) (j : Nat) : (orL f L).testBit j = L.any fun x => (f x).testBit j := by
  rw [orL, orL_from, Nat.zero_testBit, Bool.false_or]
theorem orL_snoc {α : Type} (f : α → Nat) (L : List α) (x : α) : orL f (L ++ [x]) = orL f L ||| f x := by rw [orL, List.foldl_append]; rfl
theorem orL_lt {α : Type} (f : α → Nat) (L : List α) (n : Nat) (h : ∀ x ∈ L, f x < 2 ^ n) : orL f L < 2 ^ n :=
  Nat.lt_pow_two_of_testBit _ fun j hj => by
    rw [orL_bit, List.any_eq_false]
    intro x hx
    rw [Nat.testBit_lt_two_pow (Nat.lt_of_lt_of_le (h x hx) (Nat.pow_le_pow_right (by decide) hj))]
    simp
theorem orL_congr {α : Type} {f g : α → Nat} {L : List α} (h : ∀ x ∈ L, f x = g x) : orL f L = orL g L := by
  apply Nat.eq_of_testBit_eq
  intro j
  rw [orL_bit, orL_bit, Bool.eq_iff_iff, List.any_eq_true, List.any_eq_true]
  constructor
  · rintro ⟨x, hx, e⟩; exact ⟨x, hx, by rw [← h x hx]; exact e⟩
  · rintro ⟨x, hx, e⟩; exact ⟨x, hx, by rw [h x hx]; exact e⟩
theorem orL_mem {α : Type} {f : α → Nat} {L M : List α} (h : ∀ x, x ∈ L ↔ x ∈ M) : orL f L = orL f M := by
  apply Nat.eq_of_testBit_eq
  intro j
  rw [orL_bit, orL_bit, Bool.eq_iff_iff, List.any_eq_true, List.any_eq_true]
  exact ⟨fun ⟨x, hx, e⟩ => ⟨x, (h x).1 hx, e⟩, fun ⟨x, hx, e⟩ => ⟨x, (h x).2 hx, e⟩⟩
theorem orL_map {α β : Type} (f : β → Nat) (g : α → β) (L : List α) : orL f (L.map g) = orL (fun x => f (g x)) L := by
  apply Nat.eq_of_testBit_eq
  intro j
  rw [orL_bit, orL_bit, List.any_map]
  rfl

/-! ### closed upwards -/
def upC (U : List Nat) (S : Nat) : Nat := orL (fun k => U.getD k 0) (els S)
theorem upC_bit (U : List Nat) (S j : Nat) : (upC U S).testBit j = true ↔ ∃ k, k < 16 ∧ S.testBit k = true ∧ (U.getD k 0).testBit j = true := by
  rw [upC, orL_bit, List.any_eq_true]
  constructor
  · rintro ⟨k, hk, e⟩; exact ⟨k, (mem_els.1 hk).1, (mem_els.1 hk).2, e⟩
  · rintro ⟨k, h1, h2, e⟩; exact ⟨k, mem_els.2 ⟨h1, h2⟩, e⟩
theorem upC_lt {U : List Nat} (hU : Lim U) (S : Nat) : upC U S < 2 ^ U.length := orL_lt _ _ _ fun k _ => hU.2 k
theorem upC_or (U : List Nat) (S T : Nat) : upC U (S ||| T) = upC U S ||| upC U T := by
  apply Nat.eq_of_testBit_eq
  intro j
  rw [Bool.eq_iff_iff, Nat.testBit_or, Bool.or_eq_true, upC_bit, upC_bit, upC_bit]
  constructor
  · rintro ⟨k, h1, h2, e⟩
    rw [Nat.testBit_or, Bool.or_eq_true] at h2
    rcases h2 with h2 | h2
    · exact .inl ⟨k, h1, h2, e⟩
    · exact .inr ⟨k, h1, h2, e⟩
  · rintro (⟨k, h1, h2, e⟩ | ⟨k, h1, h2, e⟩)
    · exact ⟨k, h1, by rw [Nat.testBit_or, h2, Bool.true_or], e⟩
    · exact ⟨k, h1, by rw [Nat.testBit_or, h2, Bool.or_true], e⟩
theorem upC_zero (U : List Nat) : upC U 0 = 0 := by
  apply Nat.eq_of_testBit_eq
  intro j
  rw [Bool.eq_iff_iff, upC_bit]
  simp
theorem upC_orL {α : Type} (U : List Nat) (f : α → Nat) (L : List α) : upC U (orL f L) = orL (fun x => upC U (f x)) L := by
  apply Nat.eq_of_testBit_eq
  intro j
  rw [Bool.eq_iff_iff, upC_bit, orL_bit, List.any_eq_true]
  constructor
  · rintro ⟨k, h1, h2, e⟩
    rw [orL_bit, List.any_eq_true] at h2
    obtain ⟨x, hx, h2⟩ := h2
    exact ⟨x, hx, (upC_bit _ _ _).2 ⟨k, h1, h2, e⟩⟩
  · rintro ⟨x, hx, e⟩
    obtain ⟨k, h1, h2, e⟩ := (upC_bit _ _ _).1 e
    exact ⟨k, h1, by rw [orL_bit, List.any_eq_true]; exact ⟨x, hx, h2⟩, e⟩
/-- the model's way: all sorts in turn -/
def closeTo (U : List Nat) (S : Nat) : Nat → Nat
  | 0 => 0
  | k + 1 => if S.testBit k then closeTo U S k ||| U.getD k 0 else closeTo U S k
theorem closeTo_bit (U : List Nat) (S j : Nat) : ∀ k, (closeTo U S k).testBit j = true ↔ ∃ i, i < k ∧ S.testBit i = true ∧ (U.getD i 0).testBit j = true
  | 0 => by simp [closeTo]
  | k + 1 => by
    rw [closeTo]
    have ih := closeTo_bit U S j k
    by_cases hs : S.testBit k = true
    · rw [if_pos hs, Nat.testBit_or, Bool.or_eq_true, ih]
      constructor
      · rintro (⟨i, h1, h2⟩ | h)
        · exact ⟨i, by omega, h2⟩
        · exact ⟨k, by omega, hs, h⟩
      · rintro ⟨i, h1, h2, h3⟩
        by_cases e : i = k
        · subst e; exact .inr h3
        · exact .inl ⟨i, by omega, h2, h3⟩
    · rw [if_neg hs, ih]
      constructor
      · rintro ⟨i, h1, h2⟩; exact ⟨i, by omega, h2⟩
      · rintro ⟨i, h1, h2, h3⟩
        have : i ≠ k := fun e => hs (e ▸ h2)
        exact ⟨i, by omega, h2, h3⟩
theorem closeTo_hit {U : List Nat} {S k : Nat} (h : S.testBit k = true) : closeTo U S (k + 1) = closeTo U S k ||| U.getD k 0 := by rw [closeTo, if_pos h]
theorem closeTo_miss {U : List Nat} {S k : Nat} (h : S.testBit k = false) : closeTo U S (k + 1) = closeTo U S k := by rw [closeTo, if_neg (by simp [h])]
theorem closeTo_eq {U : List Nat} (hU : Lim U) (S : Nat) : closeTo U S U.length = upC U S := by
  apply Nat.eq_of_testBit_eq
  intro j
  rw [Bool.eq_iff_iff, closeTo_bit, upC_bit]
  constructor
  · rintro ⟨i, h1, h2⟩; exact ⟨i, by have := hU.1; omega, h2⟩
  · rintro ⟨i, h1, h2, h3⟩
    refine ⟨i, ?_, h2, h3⟩
    apply Nat.lt_of_not_le
    intro hge
    rw [List.getD, List.getElem?_eq_none hge] at h3
    simp at h3
theorem closeTo_lt {U : List Nat} (hU : Lim U) (S k : Nat) : closeTo U S k < 2 ^ U.length :=
  Nat.lt_pow_two_of_testBit _ fun j hj => by
    cases h : (closeTo U S k).testBit j with
    | false => rfl
    | true =>
      obtain ⟨i, _, _, h3⟩ := (closeTo_bit U S j k).1 h
      rw [Nat.testBit_lt_two_pow (Nat.lt_of_lt_of_le (hU.2 i) (Nat.pow_le_pow_right (by decide) hj))] at h3
      cases h3

/-! ### what the declarations give -/
/-- the first k arguments have the sorts at their places -/
def fitTo (A : List Nat) (d : List Int) (k : Nat) : Bool := (List.range k).all fun i => (A.getD i 0).testBit (d.getD i 0).toNat
def fitD (A : List Nat) (d : List Int) : Bool := fitTo A d d.length
theorem fitTo_succ (A : List Nat) (d : List Int) (k : Nat) : fitTo A d (k + 1) = (fitTo A d k && (A.getD k 0).testBit (d.getD k 0).toNat) := by
  rw [fitTo, List.range_succ, List.all_append]; simp [fitTo]
theorem fitTo_no {A : List Nat} {d : List Int} {k : Nat} (hk : k < d.length) (h : (A.getD k 0).testBit (d.getD k 0).toNat = false) : fitD A d = false := by
  rw [fitD, fitTo, List.all_eq_false]
  exact ⟨k, List.mem_range.2 hk, by simp only [h]; simp⟩
def givF (A : List Nat) (d : List Int × Int) : Nat := if fitD A d.1 then 2 ^ d.2.toNat else 0
def giveR (D : List (List Int × Int)) (A : List Nat) : Nat := orL (givF A) D
theorem giveR_snoc (D : List (List Int × Int)) (A : List Nat) (d : List Int × Int) : giveR (D ++ [d]) A = giveR D A ||| givF A d := orL_snoc _ _ _
theorem takeD (D : List (List Int × Int)) (k : Nat) (h : k < D.length) : D.take (k + 1) = D.take k ++ [D.getD k ([], 0)] := by
  rw [List.take_succ_eq_append_getElem h]; simp [List.getD, List.getElem?_eq_getElem h]
theorem give_hit {D : List (List Int × Int)} {A : List Nat} {k : Nat} (h : k < D.length) (hf : fitD A (D.getD k ([], 0)).1 = true) : giveR (D.take (k + 1)) A = giveR (D.take k) A ||| 2 ^ (D.getD k ([], 0)).2.toNat := by
  rw [takeD D k h, giveR_snoc, givF, if_pos hf]
theorem give_miss {D : List (List Int × Int)} {A : List Nat} {k : Nat} (h : k < D.length) (hf : fitD A (D.getD k ([], 0)).1 = false) : giveR (D.take (k + 1)) A = giveR (D.take k) A := by
  rw [takeD D k h, giveR_snoc, givF, if_neg (by rw [hf]; decide), Nat.or_zero]
/-- declarations over n sorts, each of m arguments -/
def DeclN (n m : Nat) (D : List (List Int × Int)) : Prop := ∀ d ∈ D, d.1.length = m ∧ inN n d.2 = true ∧ ∀ k, k < m → inN n (d.1.getD k 0) = true
theorem DeclN.take {n m : Nat} {D : List (List Int × Int)} (h : DeclN n m D) (k : Nat) : DeclN n m (D.take k) := fun d hd => h d (List.mem_of_mem_take hd)
theorem giveR_lt {n m : Nat} {D : List (List Int × Int)} (h : DeclN n m D) (A : List Nat) : giveR D A < 2 ^ n := orL_lt _ _ _ fun d hd => by
  obtain ⟨_, h2, _⟩ := h d hd
  simp only [inN, decide_eq_true_eq] at h2
  unfold givF
  split
  · exact Nat.pow_lt_pow_right (by decide) (by omega)
  · exact Nat.two_pow_pos n

/-! ### groups of arguments: a group is the set of their places -/
def leftsF (g : Nat) : Nat → Nat → List Nat
  | 0, _ => []
  | f + 1, l => if l = 0 then [] else l :: leftsF g f ((l - 1) &&& g)
/-- the parts of a group, in the order in which they are tried -/
def lefts (g : Nat) : List Nat := leftsF g g ((g - 1) &&& g)
/-- what is left of the parts from l on -/
def leftsFrom (g l : Nat) : List Nat := leftsF g l l
theorem leftsF_fuel (g : Nat) : ∀ (f l : Nat), l ≤ f → leftsF g f l = leftsF g l l
  | 0, l, h => by have : l = 0 := by omega
                  subst this; rfl
  | f + 1, l, h => by
    by_cases hl : l = 0
    · subst hl; simp [leftsF]
    · obtain ⟨k, rfl⟩ : ∃ k, l = k + 1 := ⟨l - 1, by omega⟩
      have hle : (k &&& g) ≤ k := Nat.and_le_left
      rw [leftsF, if_neg hl, leftsF, if_neg hl, Nat.add_sub_cancel, leftsF_fuel g f _ (by omega), leftsF_fuel g k _ hle]
theorem lefts_from (g : Nat) : lefts g = leftsFrom g ((g - 1) &&& g) := leftsF_fuel g g _ (Nat.le_trans Nat.and_le_right (Nat.le_refl g))
theorem leftsFrom_zero (g : Nat) : leftsFrom g 0 = [] := rfl
theorem leftsFrom_cons (g l : Nat) (h : l ≠ 0) : leftsFrom g l = l :: leftsFrom g ((l - 1) &&& g) := by
  obtain ⟨k, rfl⟩ : ∃ k, l = k + 1 := ⟨l - 1, by omega⟩
  rw [leftsFrom, leftsF, if_neg h, Nat.add_sub_cancel, leftsF_fuel g k _ Nat.and_le_left]
  rfl
theorem mem_leftsF {g x : Nat} : ∀ (f l : Nat), (g &&& l = l) → x ∈ leftsF g f l → 0 < x ∧ x ≤ l ∧ g &&& x = x
  | 0, l, _, h => by simp [leftsF] at h
  | f + 1, l, hl, h => by
    rw [leftsF] at h
    split at h
    · simp at h
    · rename_i h0
      rcases List.mem_cons.1 h with rfl | h
      · exact ⟨by omega, Nat.le_refl _, hl⟩
      · have hs : g &&& ((l - 1) &&& g) = (l - 1) &&& g := by
          rw [Nat.and_comm (l - 1) g, ← Nat.and_assoc, Nat.and_self]
        obtain ⟨p1, p2, p3⟩ := mem_leftsF f _ hs h
        have := @Nat.and_le_left (l - 1) g
        exact ⟨p1, by omega, p3⟩
theorem mem_lefts {g x : Nat} (h : x ∈ lefts g) : 0 < x ∧ x < g ∧ g &&& x = x := by
  have hs : g &&& ((g - 1) &&& g) = (g - 1) &&& g := by
    rw [Nat.and_comm (g - 1) g, ← Nat.and_assoc, Nat.and_self]
  obtain ⟨p1, p2, p3⟩ := mem_leftsF g _ hs h
  have := @Nat.and_le_left (g - 1) g
  exact ⟨p1, by omega, p3⟩
/-- every element of the first is less than the least one of the second -/
def befo (l r : Nat) : Bool := decide (l < r &&& (65536 - r))
/-- the part of a group that is left when l is taken -/
abbrev rest (g l : Nat) : Nat := g ^^^ l
theorem rest_sub {g l : Nat} (h : g &&& l = l) : rest g l = minus g l := by rw [minus, h]
theorem rest_and {g l : Nat} (h : g &&& l = l) : l &&& rest g l = 0 ∧ rest g l &&& g = rest g l ∧ l ||| rest g l = g := by
  have hb : ∀ j, l.testBit j = true → g.testBit j = true := fun j hj => by
    have e := congrArg (fun z => Nat.testBit z j) h
    simp only [Nat.testBit_and, hj, Bool.and_true] at e
    exact e
  refine ⟨Nat.eq_of_testBit_eq fun j => ?_, Nat.eq_of_testBit_eq fun j => ?_, Nat.eq_of_testBit_eq fun j => ?_⟩
  · rw [Nat.testBit_and, Nat.testBit_xor, Nat.zero_testBit]
    cases h1 : l.testBit j with
    | false => rfl
    | true => rw [hb j h1]; rfl
  · rw [Nat.testBit_and, Nat.testBit_xor]
    cases h1 : l.testBit j with
    | false => cases g.testBit j <;> rfl
    | true => rw [hb j h1]; rfl
  · rw [Nat.testBit_or, Nat.testBit_xor]
    cases h1 : l.testBit j with
    | false => cases g.testBit j <;> rfl
    | true => rw [hb j h1]; rfl
theorem rest_lt {g l : Nat} (h : g &&& l = l) (h0 : 0 < l) : rest g l < g := by
  obtain ⟨h1, h2, h3⟩ := rest_and h
  have h4 : rest g l ≤ g := by rw [← h2]; exact Nat.and_le_right
  apply Nat.lt_of_le_of_ne h4
  intro e
  rw [e, Nat.and_comm, h] at h1
  omega
theorem rest_pos {g l : Nat} (h : g &&& l = l) (h0 : l < g) : 0 < rest g l := by
  obtain ⟨_, _, h3⟩ := rest_and h
  apply Nat.pos_of_ne_zero
  intro e
  rw [e, Nat.or_zero] at h3
  omega
def leftsC (com : Bool) (g : Nat) : List Nat := (lefts g).filter fun l => com || befo l (rest g l)
theorem mem_leftsC {com : Bool} {g x : Nat} (h : x ∈ leftsC com g) : 0 < x ∧ x < g ∧ g &&& x = x := mem_lefts (List.mem_filter.1 h).1

section
variable (com : Bool) (U : List Nat) (D : List (List Int × Int)) (A : List Nat)
/-- the place of a group of one -/
def oneOf (g : Nat) : Option Nat := (List.range 16).find? fun i => g == 2 ^ i
def valV (t : List Nat) (g : Nat) : Nat :=
  match oneOf g with
  | some i => A.getD i 0
  | none => upC U (orL (fun l => giveR D [t.getD l 0, t.getD (rest g l) 0]) (leftsC com g))
def tabV : Nat → List Nat
  | 0 => []
  | k + 1 => tabV k ++ [valV com U D A (tabV k) k]
/-- the sorts of a group of arguments, by all ways to combine them -/
def V (g : Nat) : Nat := valV com U D A (tabV com U D A g) g
theorem tabV_len : ∀ k, (tabV com U D A k).length = k
  | 0 => rfl
  | k + 1 => by rw [tabV, List.length_append, tabV_len k]; rfl
theorem tabV_get : ∀ (k l : Nat), l < k → (tabV com U D A k).getD l 0 = V com U D A l
  | 0, l, h => absurd h (Nat.not_lt_zero _)
  | k + 1, l, h => by
    rw [tabV]
    by_cases e : l = k
    · subst e
      rw [List.getD, List.getElem?_append_right (by rw [tabV_len]; exact Nat.le_refl _), tabV_len, Nat.sub_self]
      rfl
    · have hl : l < k := by omega
      rw [List.getD, List.getElem?_append_left (by rw [tabV_len]; exact hl)]
      exact tabV_get k l hl
theorem V_one {i : Nat} (h : i < 16) : V com U D A (2 ^ i) = A.getD i 0 := by
  have e : oneOf (2 ^ i) = some i := by
    unfold oneOf
    rw [List.find?_range_eq_some]
    refine ⟨by simp, List.mem_range.2 h, fun j hj => ?_⟩
    have := Nat.pow_lt_pow_right (a := 2) (by decide) hj
    simp; omega
  rw [V, valV, e]
theorem V_more {g : Nat} (h : oneOf g = none) : V com U D A g = upC U (orL (fun l => giveR D [V com U D A l, V com U D A (rest g l)]) (leftsC com g)) := by
  rw [V, valV, h]
  show upC U _ = upC U _
  rw [orL_congr fun l hl => ?_]
  obtain ⟨h1, h2, h3⟩ := mem_leftsC hl
  rw [tabV_get com U D A g l h2, tabV_get com U D A g _ (rest_lt h3 h1)]
theorem V_lt (hU : Lim U) (hA : ∀ i, A.getD i 0 < 2 ^ U.length) (g : Nat) : V com U D A g < 2 ^ U.length := by
  unfold V valV
  split
  · exact hA _
  · exact upC_lt hU _
end
/-- a group of two or more -/
theorem oneOf_none {g : Nat} (_h : g < 65536) (h2 : 2 ≤ (els g).length) : oneOf g = none := by
  unfold oneOf
  rw [List.find?_eq_none]
  intro i hi e
  have e' : g = 2 ^ i := by simpa using e
  have hi' : i < 16 := List.mem_range.1 hi
  have h3 : ∀ i : Fin 16, (els (2 ^ i.val)).length = 1 := by decide +kernel
  have := h3 ⟨i, hi'⟩
  rw [e'] at h2
  simp only at this
  omega
/-! ### how many are in a group -/
def cnt (g : Nat) : Nat := (els g).length
theorem cnt_small : ∀ g : Fin 128, cnt g.val ≤ 7 ∧ (cnt g.val = 0 → g.val = 0) ∧ (cnt g.val = 1 → ∃ i : Fin 7, g.val = 2 ^ i.val) := by decide +kernel
theorem cnt_parts : ∀ g : Fin 128, ∀ l ∈ lefts g.val, cnt l < cnt g.val ∧ cnt (rest g.val l) < cnt g.val := by decide +kernel
theorem cnt_within : ∀ n : Fin 8, ∀ g : Fin 128, g.val < 2 ^ n.val → cnt g.val ≤ n.val := by decide +kernel
theorem cnt_pow {i : Nat} (h : i < 16) : cnt (2 ^ i) = 1 := by
  have : ∀ i : Fin 16, cnt (2 ^ i.val) = 1 := by decide +kernel
  exact this ⟨i, h⟩
theorem lefts_pow {i : Nat} (h : i < 16) : lefts (2 ^ i) = [] := by
  have : ∀ i : Fin 16, lefts (2 ^ i.val) = [] := by decide +kernel
  exact this ⟨i, h⟩
/-- what has been filled in: all groups below a size, and those of the size below a group -/
def Done (com : Bool) (U : List Nat) (D : List (List Int × Int)) (A : List Nat) (s g : Nat) (f : Nat → Nat) : Prop :=
  ∀ x, 0 < x → x < 2 ^ A.length → (cnt x < s ∨ cnt x = s ∧ x < g) → f x = V com U D A x
section
variable {com : Bool} {U : List Nat} {D : List (List Int × Int)} {A : List Nat}
theorem done_step {s g : Nat} {f : Nat → Nat} (h : Done com U D A s g f) (hn : cnt g ≠ s) : Done com U D A s (g + 1) f := by
  intro x h0 hx hc
  refine h x h0 hx ?_
  rcases hc with hc | ⟨hc, hg⟩
  · exact .inl hc
  · refine .inr ⟨hc, ?_⟩
    have : x ≠ g := fun e => hn (e ▸ hc)
    omega
theorem done_fill {s g : Nat} {f : Nat → Nat} (h : Done com U D A s g f) {v : Nat} (hv : v = V com U D A g) : Done com U D A s (g + 1) (fun x => if x = g then v else f x) := by
  intro x h0 hx hc
  by_cases e : x = g
  · subst e; simp only [if_pos]; exact hv
  · simp only [if_neg e]
    refine h x h0 hx ?_
    rcases hc with hc | ⟨hc, hg⟩
    · exact .inl hc
    · exact .inr ⟨hc, by omega⟩
theorem done_next {s g : Nat} {f : Nat → Nat} (h : Done com U D A s g f) (hg : 2 ^ A.length ≤ g) : Done com U D A (s + 1) 0 f := by
  intro x h0 hx hc
  refine h x h0 hx ?_
  rcases hc with hc | ⟨_, hc⟩
  · by_cases e : cnt x = s
    · exact .inr ⟨e, by omega⟩
    · exact .inl (by omega)
  · exact absurd hc (Nat.not_lt_zero _)
theorem pow_len7 (h7 : A.length ≤ 7) : 2 ^ A.length ≤ 128 := Nat.le_trans (Nat.pow_le_pow_right (by decide) h7) (by decide)
theorem done_first (h7 : A.length ≤ 7) {f : Nat → Nat} (h : ∀ i, i < A.length → f (2 ^ i) = A.getD i 0) : Done com U D A 2 0 f := by
  intro x h0 hx hc
  have hp := pow_len7 h7
  rcases hc with hc | ⟨_, hc⟩
  · obtain ⟨_, h1, h2⟩ := cnt_small ⟨x, by omega⟩
    simp only at h1 h2
    have hx1 : cnt x = 1 := by
      have : cnt x ≠ 0 := fun e => by have := h1 e; omega
      omega
    obtain ⟨i, hi⟩ := h2 hx1
    have hil : i.val < A.length := by
      rw [hi] at hx
      exact (Nat.pow_lt_pow_iff_right (by decide)).1 hx
    rw [hi, h _ hil, V_one]
    omega
  · exact absurd hc (Nat.not_lt_zero _)
/-- what the parts of a group give, once all smaller groups are filled in -/
theorem done_give (h7 : A.length ≤ 7) {s g : Nat} {f : Nat → Nat} (h : Done com U D A s g f) (hc : cnt g = s) (h2 : 2 ≤ s) (hg : g < 2 ^ A.length) :
    V com U D A g = upC U (orL (fun l => giveR D [f l, f (rest g l)]) (leftsC com g)) := by
  have hp := pow_len7 h7
  rw [V_more com U D A (oneOf_none (by omega) (by show 2 ≤ cnt g; omega))]
  congr 1
  refine (orL_congr fun l hl => ?_).symm
  obtain ⟨h3, h4, h5⟩ := mem_leftsC hl
  have h6 := cnt_parts ⟨g, by omega⟩ l (List.mem_filter.1 hl).1
  simp only at h6
  have h8 := rest_lt h5 h3
  have h9 := rest_pos h5 h4
  rw [h l h3 (by omega) (.inl (by omega)), h _ h9 (by omega) (.inl (by omega))]
theorem done_whole (h7 : A.length ≤ 7) (h1 : 1 ≤ A.length) {g : Nat} {f : Nat → Nat} (h : Done com U D A (A.length + 1) g f) : f (2 ^ A.length - 1) = V com U D A (2 ^ A.length - 1) := by
  have hp := pow_len7 h7
  have h3 : 2 ^ 1 ≤ 2 ^ A.length := Nat.pow_le_pow_right (by decide) h1
  refine h _ (by omega) (by omega) (.inl ?_)
  have := cnt_within ⟨A.length, by omega⟩ ⟨2 ^ A.length - 1, by omega⟩ (by show 2 ^ A.length - 1 < 2 ^ A.length; omega)
  simp only at this
  omega
end

/-! ### arguments in their order: a group is an interval -/
def iv (i j : Nat) : Nat := 2 ^ (j + 1) - 2 ^ i
theorem iv_lefts : ∀ i : Fin 7, ∀ j : Fin 7, i.val < j.val → leftsC false (iv i.val j.val) = ((List.range (j.val - i.val)).map fun k => iv i.val (i.val + k)).reverse ∧ oneOf (iv i.val j.val) = none ∧ (∀ k : Fin 7, i.val + k.val < j.val → rest (iv i.val j.val) (iv i.val (i.val + k.val)) = iv (i.val + k.val + 1) j.val) := by decide +kernel
theorem iv_one (i : Nat) : iv i i = 2 ^ i := by unfold iv; rw [Nat.pow_succ]; omega
theorem iv_whole (n : Nat) (h : 1 ≤ n) : iv 0 (n - 1) = 2 ^ n - 1 := by unfold iv; rw [show n - 1 + 1 = n by omega]
/-- what the first k of the ways to part an interval give -/
def chainTo (U : List Nat) (D : List (List Int × Int)) (A : List Nat) (i j k : Nat) : Nat := orL (fun k => upC U (giveR D [V false U D A (iv i (i + k)), V false U D A (iv (i + k + 1) j)])) (List.range k)
theorem chainTo_succ (U : List Nat) (D : List (List Int × Int)) (A : List Nat) (i j k : Nat) : chainTo U D A i j (k + 1) = chainTo U D A i j k ||| upC U (giveR D [V false U D A (iv i (i + k)), V false U D A (iv (i + k + 1) j)]) := by
  rw [chainTo, List.range_succ, orL_snoc]; rfl
theorem chainTo_all (U : List Nat) (D : List (List Int × Int)) (A : List Nat) {i j : Nat} (hij : i < j) (hj : j < 7) : chainTo U D A i j (j - i) = V false U D A (iv i j) := by
  obtain ⟨h1, h2, h3⟩ := iv_lefts ⟨i, by omega⟩ ⟨j, hj⟩ hij
  simp only at h1 h2 h3
  rw [V_more false U D A h2, h1, upC_orL, chainTo]
  refine Eq.trans ?_ (orL_mem (L := (List.range (j - i)).map fun k => iv i (i + k)) (fun x => by rw [List.mem_reverse]))
  rw [orL_map]
  refine orL_congr fun k hk => ?_
  have hk' := List.mem_range.1 hk
  rw [h3 ⟨k, by omega⟩ (by show i + k < j; omega)]

/-! ### the sorts of an application -/
/-- what an operator gives for the sorts of its arguments -/
def sortsA (U : List Nat) (D : List (List Int × Int)) (ass com : Bool) (A : List Nat) : Nat := if ass || com then V com U D A (2 ^ A.length - 1) else upC U (giveR D A)
theorem lefts_three : leftsC true 3 = [2, 1] ∧ oneOf 3 = none := by decide +kernel
theorem V_two (U : List Nat) (D : List (List Int × Int)) (a b : Nat) : V true U D [a, b] 3 = upC U (giveR D [a, b]) ||| upC U (giveR D [b, a]) := by
  obtain ⟨h1, h2⟩ := lefts_three
  rw [V_more true U D _ h2, h1, upC_orL]
  have e1 : V true U D [a, b] 1 = a := V_one true U D [a, b] (i := 0) (by decide)
  have e2 : V true U D [a, b] 2 = b := V_one true U D [a, b] (i := 1) (by decide)
  show (0 ||| upC U (giveR D [V true U D [a, b] 2, V true U D [a, b] (rest 3 2)])) ||| upC U (giveR D [V true U D [a, b] 1, V true U D [a, b] (rest 3 1)]) = _
  rw [show rest 3 2 = 1 from rfl, show rest 3 1 = 2 from rfl, e1, e2, Nat.zero_or, Nat.or_comm]
theorem V_pair (U : List Nat) (D : List (List Int × Int)) (a b : Nat) : V false U D [a, b] 3 = upC U (giveR D [a, b]) := by
  have h := chainTo_all U D [a, b] (i := 0) (j := 1) (by decide) (by decide)
  rw [show iv 0 1 = 3 from rfl] at h
  rw [← h, show (1 - 0 : Nat) = 0 + 1 from rfl, chainTo_succ]
  have e1 : V false U D [a, b] 1 = a := V_one false U D [a, b] (i := 0) (by decide)
  have e2 : V false U D [a, b] 2 = b := V_one false U D [a, b] (i := 1) (by decide)
  show 0 ||| upC U (giveR D [V false U D [a, b] 1, V false U D [a, b] 2]) = _
  rw [e1, e2, Nat.zero_or]
theorem sortsA_lt {U : List Nat} (hU : Lim U) (D : List (List Int × Int)) (ass com : Bool) {A : List Nat} (hA : ∀ i, A.getD i 0 < 2 ^ U.length) : sortsA U D ass com A < 2 ^ U.length := by
  unfold sortsA
  split
  · exact V_lt com U D A hU hA _
  · exact upC_lt hU _
end Go.Proofs.YtjejdcehlckfhaaGreat.tsm
